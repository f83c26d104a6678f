/-
 Contracts of the plain answer's Node and Enc.
-/
import Derived.Test.YtnecijeakeklaaaGreatDoorMp14
import Derived.Test.YtnecijeakeklaaaGreatDoorMp16
import Derived.Lib.SliceRun
import Derived.Test.YtnecijeakeklaaaGreatDoorMp13
open Go.Lib (hid)
set_option linter.unusedSimpArgs false
set_option linter.unusedVariables false
set_option maxHeartbeats 40000000
set_option maxRecDepth 100000
namespace Go.Proofs.YtnecijeakeklaaaGreatDoor
section
open Go.RowKit
namespace Tm
open Tr Ni Pk Ky No Rf Rl
theorem bs_upto {w:World} {a:Option Addr} {n c:Nat} {l:List UInt8} (h:IsBs w a n c l) (j:Nat) (hj:j≤n):IsBs w a j c (l.take j):=by
 have h1:=h.1;refine ⟨by omega,h.2.1,by rw [List.length_take,h.len]; omega,h.2.2.2.1,fun i hi=>?_⟩;obtain ⟨b,off,e,hlt,hc⟩:=h.at' i (by omega);refine ⟨b,off,e,hlt,?_⟩;rw [hc];simp [List.getD,hi]
theorem ndC_set (N:Nd) (a:Option Addr) (n c i:Nat) (s:ByteArray):(ndC N a n c).setIfInBounds (3+i) (.string s)=ndC ⟨N.kd,N.p,N.v,N.ks.set i s⟩ a n c:=by
 unfold ndC;rw [List.map_set,show 3+i=i+1+1+1 by omega];simp
theorem wpl_store_kidN {ops:Array Oper} {rest:List Oper} {o:Oper} {act:Act} {w:World} {Q:Exit→Act→World→Prop} {b i:Nat} {N:Nd} {a:Option Addr} {n c:Nat} (h:OwnN w b N a n c) (hl:N.ks.length=16) (hi:i<16) (s:ByteArray)
  (hgd:o.guard=none) (x y:Operand) (ho:o.op = .store 9 x y) (hx:act.eval x = .pointer (some ⟨b,3+i,none⟩)) (hy:act.eval y = .string s)
  (hQ:∀ w',OwnN w' b ⟨N.kd,N.p,N.v,N.ks.set i s⟩ a n c→Rg.Upd w b w'→wpList Tryz.prog ops Q rest (act.put o.dst undef) w'):wpList Tryz.prog ops Q (o::rest) act w :=
 wpList_plain hgd fun K hK=>by
  unfold Oper.wp execOp;simp only [ho,hx,hy,Sem.run_bind,Sem.run_pure,Result.andThen_ok,store_str_at h (o:=3+i) (by rw [ndC_size _ _ _ _ hl]; omega) s];refine hK _ _ (hQ _ ?_ (upd_setCell _ _ _ _));have:=own_setCell (o:=3+i) h (.string s);rwa [ndC_set] at this
def FineL (l:List Tr.In):Prop:=∀ x∈l,x.2.size≠0∧x.2.size≤65552
theorem FineL.rest {l:List Tr.In} (h:FineL l) (n:Nat):FineL (restL l n):=fun x hx=>by
 obtain ⟨y,hy,rfl⟩:=List.mem_map.1 hx;exact h y hy
theorem FineL.begin {l:List Tr.In} (h:FineL l) (c:Fin 16):FineL (beginL l c):=fun x hx=>h x (mem_begin.1 hx).1
theorem enc_few {L:Nat} {l:List Tr.In} (hL:L≤64) (ok:Ok L l) (f:FineL l):(encT (build L l)).size≤900000:=by
 by_cases hn:build L l = .nil
 ·rw [hn]; exact Nat.zero_le _
 ·have hs:=full_stub (build_full L l);have hm:=(may_tree _ L (good_build L l ok) hL (fine_build L l f) hn).1 hs;have e:encT (build L l)=encN (nodeT (build L l)):=by
   cases hb:build L l with
   | nil=>exact absurd hb hn
   | stub r=>rw [hb] at hs; exact absurd trivial hs
   | leaf p v=>rfl
   | ext q t=>rfl
   | br ks=>rfl
  rw [e,encN_size];exact put_few (nodeT_length _) hm
theorem enc_ref {L:Nat} {l:List Tr.In}:ofP (encT (build L l))=ref (build L l):=(ref_enc (full_stub (build_full L l))).symm
def EncC (L:Nat):Prop:=∀ (l:List Tr.In),Ok L l→FineL l→∀ (a:Option Addr) (n c:Nat) (w:World),IsIns w a n c l→n≤1000000 →
 Calls Tryz.prog 81 #[.slice a n c] w fun e w'=>e = .returned (.string (encT (build L l)))∧Below w.heap.size w w'
def NodeP (w:World) (N:Nd) (e:Ending) (w':World):Prop:=∃ a n c,e = .returned (.tuple #[.agg (ndC N a n c),.bool true])∧IsBs w' a n c N.p∧Below w.heap.size w w'
theorem boxN (w:World):∃ w1,w1=w.alloc (.cells (ndC nd0 none 0 0) 56)∧OwnN w1 w.heap.size nd0 none 0 0∧Below w.heap.size w w1∧w1.heap.size=w.heap.size+1:=⟨_,rfl,Rg.Own.new _ _ _,al1 _ _,by simp⟩
theorem node_none (a:Option Addr) (c:Nat) (w:World):Calls Tryz.prog 46 #[.slice a 0 c] w fun e w'=>e = .returned (.tuple #[.agg (ndC nd0 none 0 0),.bool false])∧Below w.heap.size w w':=by
 obtain ⟨w1,hw1,hO1,hb1,hs1⟩:=boxN w;have HO:=hid hO1;have HB:=hid hb1;clear hO1 hb1;subst hw1;go_enter Tryz.func46,Tryz.ntmps46;go_wp2_with (first
  | (refine Rg.run rfl _ _ (run_alloc_nd _ _ _ w.heap.size rfl rfl) ?_)
  | (refine Rg.run rfl _ _ (op_build built0 ?_) ?_; · exact ⟨_,rfl,rfl⟩)
  | (refine wpl_store_nd HO.out rfl nd0 none 0 0 rfl rfl _ _ rfl rfl rfl rfl ?_))
 exact bodyPost_ret (res_nd1 (p:=2) (u:=3) rfl _ rfl (own_rowN HO.out) rfl) rfl ⟨rfl,below_rowN HB.out (Nat.le_refl _) _⟩
theorem node_one (x:Tr.In) (a:Option Addr) (c:Nat) (w:World) (h:IsIns w a 1 c [x]):Calls Tryz.prog 46 #[.slice a 1 c] w (NodeP w ⟨1,x.1,x.2,zks⟩):=by
 obtain ⟨w1,hw1,hO1,hb1,hs1⟩:=boxN w;obtain ⟨b,off,hd,rfl,hblt,hin,hbs⟩:=h.at' 0 (by omega);have hcap:=h.1;have hmx:=h.2.1;unfold maxLen at hmx;obtain ⟨p,v⟩:=x;obtain ⟨hp0,hp1,hp2⟩:=hd;simp only [Nat.zero_mul,Nat.add_zero] at hin;have hc0:=hin.1;have hc1:=hin.2;have HBs:Hid (IsBs w hp0 hp1 hp2 p):=hid hbs;dsimp only at hc0 hc1;replace hc1:w.cell? ⟨b,off+1,none⟩=some (.string v):=hc1;have hn0:(0:Int)<(1:Nat):=by omega
 have hn0':0<1:=by omega
 have HO:=hid hO1;have HB:=hid hb1;have HW:Hid (_=_):=hid hw1;clear hO1 hb1 hw1 h hin hbs;go_enter Tryz.func46,Tryz.ntmps46;go_wp2_with (refine Rg.run rfl _ _ (run_alloc_nd _ _ _ w.heap.size rfl rfl) ?_)
 rw [← HW.out];clear HW;go_wp2_with fail
 refine wp_region_noPanic ?_;refine wp_region_held_drew (S:=fun w'=>Below w.heap.size w w') (by kernel_rfl) (below_drewN HB.out 1) (fun hld=>?_);refine Rg.tk (i:=0) rfl ?_;try simp only [Act.put,Rg.s]
 refine Rg.tk (i:=1) rfl ?_ (hy:=by intro wz hSw; have q0:=hn0; have q1:=hn0'; (try dsimp only at hSw); go_simp <;> with_reducible rfl);try simp only [Act.put,Rg.s]
 refine Rg.tk (i:=2) rfl ?_;try simp only [Act.put,Rg.s]
 refine Rg.tk (i:=3) rfl ?_ (hy:=by intro wz hSw; have hcc:=cell_on hSw hc0; (try dsimp only at hSw); go_simp <;> with_reducible rfl);try simp only [Act.put,Rg.s]
 refine Rg.tk (i:=4) rfl ?_;try simp only [Act.put,Rg.s]
 refine Rg.tk (i:=5) rfl ?_ (hy:=by intro wz hSw; have q0:=hn0; have q1:=hn0'; (try dsimp only at hSw); go_simp <;> with_reducible rfl);try simp only [Act.put,Rg.s]
 refine Rg.tk (i:=6) rfl ?_;try simp only [Act.put,Rg.s]
 refine Rg.tk (i:=7) rfl ?_ (hy:=by intro wz hSw; have hcc:=cell_on hSw hc1; (try dsimp only at hSw); go_simp <;> with_reducible rfl);try simp only [Act.put,Rg.s]
 refine Rg.tk (i:=8) rfl ?_ (hy:=by intro wz hSw; (refine op_build (_root_.Go.Proofs.YtnecijeakeklaaaGreatDoor.built_leaf hp0 hp1 hp2 p v) ?_; exact ⟨_,rfl,rfl⟩));try simp only [Act.put,Rg.s]
 refine Rg.rd (i:=9) rfl fun K hK=>?_;refine Rg.meetStore (by rfl) HO.out.drew 56 (ndC ⟨1,p,v,zks⟩ hp0 hp1 hp2) ⟨_,_,rfl,rfl,rfl⟩ (info_ndC _ _ _ _ rfl) (by rw [ndC_size _ _ _ _ rfl,ndC_size _ _ _ _ rfl]) (ndC_one _ _ _ _) ?_;intro w10 hO10 hu10;have HO10:=hid hO10;have HB10:Hid (Below w.heap.size w w10):=hid (hu10.below hld (Nat.le_refl _));clear hO10 hu10;refine hK.out _ _ ?_ (fun hld=>?_)
 ·exact HB10.out
 clear hK K;try simp only [Act.put,Rg.s]
 refine Rg.tk (i:=10) rfl ?_;try simp only [Act.put,Rg.s]
 refine wpAnyH_done (by kernel_rfl) ?_ _;refine NoPanic.normal ?_;go_wp2;exact bodyPost_ret (res_nd1 (p:=2) (u:=3) rfl _ rfl HO10.out rfl) rfl ⟨hp0,hp1,hp2,rfl,HBs.out.below HB10.out,HB10.out⟩
theorem wpl_store_ndL {ops:Array Oper} {rest:List Oper} {o:Oper} {act:Act} {w:World} {Q:Exit→Act→World→Prop} {b:Nat} {N:Nd} {a:Option Addr} {n c:Nat} (h:OwnN w b N a n c) (hl:N.ks.length=16) (M:Nd) (a':Option Addr) (n' c':Nat) (hm:M.ks.length=16)
  (hgd:o.guard=none) (x y:Operand) (ho:o.op = .store 56 x y) (hx:act.eval x = .pointer (some ⟨b,0,none⟩)) (hy:act.eval y = .agg (ndC M a' n' c')) (hd:o.dst=none)
  (hQ:∀ w',OwnN w' b M a' n' c'→Rg.Upd w b w'→wpList Tryz.prog ops Q rest act w'):wpList Tryz.prog ops Q (o::rest) act w :=
 wpl_store_nd h hl M a' n' c' hm hgd x y ho hx hy hd (hQ _ (own_rowN h) (Rg.Upd.set _ _ _))
theorem node_ext {L:Nat} (hL:L≤64) (x y:Tr.In) (r:List Tr.In) (ok:Ok L (x::y::r)) (f:FineL (x::y::r)) (h0:0<commonL (x::y::r)) (hE:EncC (L-commonL (x::y::r))) (a:Option Addr) (n c:Nat) (w:World) (h:IsIns w a n c (x::y::r)) (hn:n≤1000000) :
  Calls Tryz.prog 46 #[.slice a n c] w (NodeP w (nodeT (build L (x::y::r)))):=by
 obtain ⟨w1,hw1,hO1,hb1,hs1⟩:=boxN w;have hlen:=h.len;have hn2:2≤n:=by rw [← hlen]; simp
 obtain ⟨b,off,hd,rfl,hblt,hin,hbs⟩:=h.at' 0 (by omega);have hcl:=common_lt ok;have hall:∀ z∈x::y::r,z.1.length=L:=fun z hz=>(ok.1 z hz).1;have hNe:nodeT (build L (x::y::r))=⟨2,x.1.take (commonL (x::y::r)),eB,one16 (ref (build (L-commonL (x::y::r)) (restL (x::y::r) (commonL (x::y::r)))))⟩:=by
  rw [build,dif_pos ⟨h0,by omega⟩]; rfl
 have hok':=ok_rest ok (Nat.le_of_lt hcl) (fun z hz z' hz'=>by rw [all_begin hz,all_begin hz']);have hx1:((x::y::r).getD 0 ([],eB)).1=x.1:=rfl;have hxl:=hall x List.mem_cons_self;rw [hx1] at hbs;generalize x::y::r=l at *
 generalize x.1=p at *
 obtain ⟨p0,p1,p2⟩:=hd;simp only [Nat.zero_mul,Nat.add_zero] at hin;have hc0:=hin.1;dsimp only at hc0 hbs;have hpl:=hbs.len;have hcp:=hbs.1;obtain ⟨K,hK⟩:∃ K,commonL l=K:=⟨_,rfl⟩
 have HC:=hid (fun wz (hb:Below w.heap.size w wz)=>common_any l (some ⟨b,off,none⟩) n c (fun z hz=>by rw [hall z hz]; omega) (by omega) wz (h.below hb) hn);have HRs:=hid (fun wz (hb:Below w.heap.size w wz)=>rest_any l (some ⟨b,off,none⟩) n c K (fun z hz=>by rw [hall z hz]; omega) wz (h.below hb) hn);rw [hK] at HC hok' hE h0 hcl hNe;have HEn:=hid (hE (restL l K) hok' (f.rest K));have HOf:=hid (fun wz=>r7of_any (encT (build (L-K) (restL l K))) (enc_few (by omega) hok' (f.rest K)) wz);rw [enc_ref] at HOf
 have hrl:(restL l K).length=n:=by unfold restL; rw [List.length_map,hlen]
 have HRl:=hid hrl;obtain ⟨E,hE1⟩:∃ E,encT (build (L-K) (restL l K))=E:=⟨_,rfl⟩
 obtain ⟨R,hR1⟩:∃ R,ref (build (L-K) (restL l K))=R:=⟨_,rfl⟩
 rw [hE1] at HEn HOf;rw [hR1] at HOf hNe;have HBp:=hid (bs_upto hbs K (by omega));have HNe:=hid hNe;have hKc:K≤p2:=by omega
 have hK0:(0:Int)<K:=by omega
 have hcap:=h.1;have hmx:=h.2.1;unfold maxLen at hmx;have hn0:(0:Int)<n:=by omega
 have hnn:0<n:=by omega
 have e0:((n:Int)==0)=false:=by simp; omega
 have e1:((n:Int)==1)=false:=by simp; omega
 have d0:decide ((n:Int)=0)=false:=by simp; omega
 have d1:decide ((n:Int)=1)=false:=by simp; omega
 have HO:=hid hO1;have HB:=hid hb1;have HW:Hid (_=_):=hid hw1;clear hO1 hb1 hw1 h hin hbs hE1 hR1 hrl hlen hok' hE hall ok f hx1 hNe hK hpl;go_enter Tryz.func46,Tryz.ntmps46;go_wp2_with (refine Rg.run rfl _ _ (run_alloc_nd _ _ _ w.heap.size rfl rfl) ?_)
 rw [← HW.out];clear HW;refine (HC.out w1 HB.out).mono ?_;rintro e w3 ⟨rfl,hb3⟩;have HB3:=hid (bst HB.out hb3);have HO3:=hid (HO.out.below hb3);have k0:=cell_on (bst HB.out hb3) hc0;have hNew:=Rg.Own.new w3 (ndC nd0 none 0 0) 56;have HN:=hid hNew;have hs3:=hb3.size;clear hb3 HC HO hNew hc0;go_wp2_with (first
  | (refine Rg.run rfl _ _ (op_upto (a:=p0) (n:=p1) (c:=p2) (j:=K) under_u8 size_u8 hKc ⟨_,_,rfl,rfl,rfl⟩) ?_)
  | (refine Rg.run rfl _ _ (op_build (built_path 2 p0 K p2 (p.take K)) ?_) ?_; · exact ⟨_,rfl,rfl⟩)
  | (refine Rg.run rfl _ _ (run_alloc_nd _ _ _ w3.heap.size rfl rfl) ?_)
  | (refine wpl_store_ndL HN.out rfl ⟨2,p.take K,eB,zks⟩ p0 K p2 rfl rfl _ _ rfl rfl rfl rfl ?_; intro w4 hO4 hu4; have HO4:=hid hO4; have HB4:Hid (Below w3.heap.size w3 w4):=hid (hu4.below (al1 _ _) (Nat.le_refl _)); clear hO4 hu4))
 refine (HRs.out w4 (bst HB3.out HB4.out)).mono ?_;rintro e w5 ⟨a5,n5,c5,rfl,hI5,hb5⟩;have hn5:n5=n:=by rw [← hI5.len]; exact HRl.out
 subst hn5;have HI5:=hid hI5;have HB5:=hid hb5;clear hI5 hb5 HRs;go_wp2_with fail
 refine (HEn.out a5 n5 c5 w5 HI5.out hn).mono ?_;rintro e w6 ⟨rfl,hb6⟩;have HB6:=hid (bst HB5.out hb6);clear hb6 HB5 HI5;go_wp2_with fail
 refine (HOf.out w6).mono ?_;rintro e w7 ⟨rfl,hb7⟩;have HB7:=hid (bst HB6.out hb7);have HO7:=hid (HO4.out.below HB7.out);clear hb7 HB6;go_wp2_with (first
  | (refine wpl_store_kidN HO7.out rfl (i:=0) (by decide) R rfl _ _ rfl rfl rfl ?_; intro w8 hO8 hu8; have HO8:Hid (OwnN w8 w3.heap.size ⟨2,p.take K,eB,one16 R⟩ p0 K p2):=hid hO8; have HU8:=hid hu8; clear hO8 hu8)
  | (refine Rg.run rfl _ _ (op_load_nd HO8.out (one16_length R) ⟨_,rfl,rfl⟩) ?_)
  | (refine wpl_store_ndL (Rg.Own.upd (Rg.Own.below (Rg.Own.below HO3.out HB4.out) HB7.out) HU8.out (by omega)) rfl ⟨2,p.take K,eB,one16 R⟩ p0 K p2 (one16_length R) rfl _ _ rfl rfl rfl rfl ?_; intro w9 hO9 hu9; have HO9:=hid hO9; have HU9:=hid hu9; clear hO9 hu9))
 have HBe:Hid (Below w.heap.size w w9):=hid (HU9.out.below (HU8.out.below (bst (bst HB3.out HB4.out) HB7.out) (by have:=HB3.out.size; omega)) (Nat.le_refl _));exact bodyPost_ret (res_nd1 (p:=2) (u:=3) rfl _ rfl HO9.out (one16_length R)) rfl ⟨p0,K,p2,by rw [HNe.out]; rfl,by rw [HNe.out]; exact HBp.out.below HBe.out,HBe.out⟩
theorem node_br {L:Nat} (hL:L≤64) (x y:Tr.In) (r:List Tr.In) (ok:Ok L (x::y::r)) (f:FineL (x::y::r)) (h0:commonL (x::y::r)=0) (hE:EncC (L-1)) (a:Option Addr) (n c:Nat) (w:World) (h:IsIns w a n c (x::y::r)) (hn:n≤1000000) :
  Calls Tryz.prog 46 #[.slice a n c] w (NodeP w (nodeT (build L (x::y::r)))):=by
 obtain ⟨w1,hw1,hO1,hb1,hs1⟩:=boxN w;have hlen:=h.len;have hn2:2≤n:=by rw [← hlen]; simp
 have hL0:0<L:=by have:=common_lt ok; omega
 have hall:∀ z∈x::y::r,z.1.length=L:=fun z hz=>(ok.1 z hz).1;have hNe:nodeT (build L (x::y::r))=⟨3,[],eB,kids16 fun d=>ref (build (L-1) (restL (beginL (x::y::r) d) 1))⟩:=by
  rw [build,dif_neg (by omega),dif_pos hL0]; rfl
 generalize x::y::r=l at *
 have HC:=hid (fun wz (hb:Below w.heap.size w wz)=>common_any l a n c (fun z hz=>by rw [hall z hz]; omega) (by omega) wz (h.below hb) hn);rw [h0] at HC;have HBg:=hid (fun (d:Fin 16) wz (hb:Below w.heap.size w wz)=>begin_any l a n c d (fun z hz=>by rw [hall z hz]; omega) wz (h.below hb) hn);have HRs:=hid (fun (d:Fin 16) a' n' c' wz (hi:IsIns wz a' n' c' (beginL l d)) (h':n'≤1000000)=>rest_any (beginL l d) a' n' c' 1 (fun z hz=>by rw [hall z (mem_begin.1 hz).1]; omega) wz hi h')
 have HEn:=hid (fun (d:Fin 16)=>hE (restL (beginL l d) 1) (ok_begin ok hL0 d) ((f.begin d).rest 1));have HOf:=hid (fun (d:Fin 16) wz=>by have:=r7of_any (encT (build (L-1) (restL (beginL l d) 1))) (enc_few (by omega) (ok_begin ok hL0 d) ((f.begin d).rest 1)) wz; rw [enc_ref] at this; exact this);have HBl:Hid (∀ d:Fin 16,(beginL l d).length≤n):=hid (fun d=>by
  have:=begin_len l d n;rwa [List.take_of_length_le (by omega)] at this)
 have HRl:Hid (∀ d:Fin 16,(restL (beginL l d) 1).length=(beginL l d).length):=hid (fun d=>by unfold restL; rw [List.length_map]);obtain ⟨ks,hks⟩:∃ ks,(kids16 fun d=>ref (build (L-1) (restL (beginL l d) 1)))=ks:=⟨_,rfl⟩
 have hkl:ks.length=16:=by rw [← hks]; exact kids16_length _
 have hki:∀ j (hj:j<16),ref (build (L-1) (restL (beginL l ⟨j,hj⟩) 1))=ks.getD j eB:=fun j hj=>by
  rw [← hks]; exact (kids16_getD (fun d=>ref (build (L-1) (restL (beginL l d) 1))) ⟨j,hj⟩).symm
 rw [hks] at hNe;have HKl:=hid hkl;have HKi:=hid hki;have HNe:=hid hNe;have hcap:=h.1;have hmx:=h.2.1;unfold maxLen at hmx;have hn0:(0:Int)<n:=by omega
 have hnn:0<n:=by omega
 have e0:((n:Int)==0)=false:=by simp; omega
 have e1:((n:Int)==1)=false:=by simp; omega
 have d0:decide ((n:Int)=0)=false:=by simp; omega
 have d1:decide ((n:Int)=1)=false:=by simp; omega
 have HO:=hid hO1;have HB:=hid hb1;have HW:Hid (_=_):=hid hw1;clear hO1 hb1 hw1 h hlen hE hall ok f hNe hkl hki hks h0;go_enter Tryz.func46,Tryz.ntmps46;go_wp2_with (refine Rg.run rfl _ _ (run_alloc_nd _ _ _ w.heap.size rfl rfl) ?_)
 rw [← HW.out];clear HW;refine (HC.out w1 HB.out).mono ?_;rintro e w3 ⟨rfl,hb3⟩;have HB3:=hid hb3;have hNew:=Rg.Own.new w3 (ndC nd0 none 0 0) 56;have HN:=hid hNew;have hs3:=hb3.size;clear hb3 HC hNew;go_wp2_with (first
  | (refine Rg.run rfl _ _ (op_build (built_kd 3) ?_) ?_; · exact ⟨_,rfl,rfl⟩)
  | (refine Rg.run rfl _ _ (run_alloc_nd _ _ _ w3.heap.size rfl rfl) ?_)
  | (refine wpl_store_ndL HN.out rfl ⟨3,[],eB,zks⟩ none 0 0 rfl rfl _ _ rfl rfl rfl rfl ?_; intro w4 hO4 hu4; have HO4:=hid hO4; have HB4:Hid (Below w3.heap.size w3 w4):=hid (hu4.below (al1 _ _) (Nat.le_refl _)); clear hO4 hu4))
 have HB4':Hid (Below w1.heap.size w1 w4):=hid (bst HB3.out HB4.out);have HF4:Hid (OwnN w4 w3.heap.size ⟨3,[],eB,firstR ks 0⟩ none 0 0):=hid (by rw [firstR_none]; exact HO4.out);clear HB3 HB4 HO4 HN;obtain ⟨g,hg⟩:∃ g,w3.heap.size=g:=⟨_,rfl⟩
 rw [hg] at HF4 hs3 ⊢;clear hg;go_loopw [7] (fun i wr=>∃ j:Nat,j≤16∧i = .int .i64 j∧Hid (OwnN wr g ⟨3,[],eB,firstR ks j⟩ none 0 0)∧Hid (Below w1.heap.size w1 wr)) (fun i _=>16-(intOf i).toNat)
 case atStart=>exact ⟨0,Nat.zero_le _,rfl,HF4,HB4'⟩
 case round =>
  obtain ⟨j,hj,rfl,HFr,HBr⟩:=hrel;clear HF4 HB4';by_cases hlt:j<16
  ·have hji:(j:Int)<16:=by omega
   have HBw:Hid (Below w.heap.size w wr):=hid (bst HB.out HBr.out);have HS:=hid (firstR_set HKl.out hlt);have HFl:=hid (firstR_length HKl.out hj);go_wp2_with fail
   refine (HBg.out ⟨j,hlt⟩ wr HBw.out).mono ?_;rintro e w5 ⟨a5,n5,c5,rfl,hI5,hb5⟩;have hn5:n5≤1000000:=by rw [← hI5.len]; exact Nat.le_trans (HBl.out ⟨j,hlt⟩) hn
   have hl5:=hI5.len;have HI5:=hid hI5;have HB5:=hid hb5;clear hI5 hb5;go_wp2_with fail
   refine (HRs.out ⟨j,hlt⟩ a5 n5 c5 w5 HI5.out hn5).mono ?_;rintro e w6 ⟨a6,n6,c6,rfl,hI6,hb6⟩;have hn6:n6≤1000000:=by rw [← hI6.len,HRl.out,hl5]; exact hn5
   have HI6:=hid hI6;have HB6:=hid (bst HB5.out hb6);clear hI6 hb6 HI5 HB5;go_wp2_with fail
   refine (HEn.out ⟨j,hlt⟩ a6 n6 c6 w6 HI6.out hn6).mono ?_;rintro e w7 ⟨rfl,hb7⟩;have HB7:=hid (bst HB6.out hb7);have HOf7:=hid (HOf.out ⟨j,hlt⟩ w7);obtain ⟨E,hE⟩:∃ E,encT (build (L-1) (restL (beginL l ⟨j,hlt⟩) 1))=E:=⟨_,rfl⟩
   rw [HKi.out j hlt,hE] at HOf7;rw [hE];obtain ⟨R,hR⟩:∃ R,ks.getD j eB=R:=⟨_,rfl⟩
   rw [hR] at HOf7 HS;clear hb7 HB6 HI6 hE hR;go_wp2_with fail
   refine HOf7.out.mono ?_;rintro e w8 ⟨rfl,hb8⟩;have HB8:=hid (bst HB7.out hb8);have HF8:=hid (HFr.out.below HB8.out);clear hb8 HB7 HOf7;go_wp2_with (refine wpl_store_kidN HF8.out HFl.out (i:=j) hlt R rfl _ _ rfl rfl rfl ?_; intro w9 hO9 hu9; have HO9:=hid hO9; have HU9:=hid hu9; clear hO9 hu9)
   have hge:w1.heap.size≤g:=hs3;go_roundw
   case rel=>exact ⟨j+1,by omega,by go_num,hid (by rw [← HS.out]; exact HO9.out),hid (HU9.out.below (HBr.out.trans (HB8.out.mono HBr.out.size)) hge)⟩
   case measure=>simp [intOf]; omega
  ·obtain rfl:j=16:=by omega
   have HF':Hid (OwnN wr g ⟨3,[],eB,ks⟩ none 0 0):=hid (by have:=HFr.out; rwa [firstR_all HKl.out] at this);clear HFr;go_wp2_with (first
    | (refine Rg.run rfl _ _ (op_load_nd HF'.out HKl.out ⟨_,rfl,rfl⟩) ?_)
    | (refine wpl_store_ndL (Rg.Own.below HO.out HBr.out) rfl ⟨3,[],eB,ks⟩ none 0 0 HKl.out rfl _ _ rfl rfl rfl rfl ?_; intro w9 hO9 hu9; have HO9:=hid hO9; have HU9:=hid hu9; clear hO9 hu9))
   have HBe:Hid (Below w.heap.size w w9):=hid (HU9.out.below (bst HB.out HBr.out) (Nat.le_refl _));exact bodyPost_ret (res_nd1 (p:=2) (u:=3) rfl _ rfl HO9.out HKl.out) rfl ⟨none,0,0,by rw [HNe.out]; rfl,by rw [HNe.out]; exact IsBs.nil _,HBe.out⟩
theorem node_any {L:Nat} (hL:L≤64) (ih:∀ m,m<L→EncC m) {l:List Tr.In} (ok:Ok L l) (f:FineL l) (hne:l≠[]) (a:Option Addr) (n c:Nat) (w:World) (h:IsIns w a n c l) (hn:n≤1000000) :
  Calls Tryz.prog 46 #[.slice a n c] w (NodeP w (nodeT (build L l))):=by
 match l,hne with
 | [x],_ =>
  obtain rfl:n=1:=h.len.symm;have:=node_one x a c w h;rw [build];exact this
 | x::y::r,_ =>
  have hlt:=common_lt ok;by_cases h0:0<commonL (x::y::r)
  ·exact node_ext hL x y r ok f h0 (ih _ (by omega)) a n c w h hn
  ·exact node_br hL x y r ok f (by omega) (ih _ (by omega)) a n c w h hn
theorem enc_of {L:Nat} (hL:L≤64) (ih:∀ m,m<L→EncC m):EncC L:=fun l ok f a n c w h hn=>by
 by_cases hne:l=[]
 ·subst hne;obtain rfl:n=0:=h.len.symm;rw [build];have HC:=hid (node_none a c w);clear h;go_enter Tryz.func81,Tryz.ntmps81;go_wp2_with fail
  refine HC.out.mono ?_;rintro e w1 ⟨rfl,hb1⟩;have HB1:=hid hb1;have hNew:=Rg.Own.new w1 (ndC nd0 none 0 0) 56;have HN:=hid hNew;clear hb1 hNew;go_wp2_with (first
   | (refine Rg.run rfl _ _ (run_alloc_nd _ _ _ w1.heap.size rfl rfl) ?_)
   | (refine wpl_store_ndL HN.out rfl nd0 none 0 0 rfl rfl _ _ rfl rfl rfl rfl ?_; intro w4 hO4 hu4; have HB4:Hid (Below w1.heap.size w1 w4):=hid (hu4.below (al1 _ _) (Nat.le_refl _)); clear hO4 hu4))
  go_ret;exact ⟨rfl,bst HB1.out HB4.out⟩
 ·have hb:=build_ne ok hne;have hs:=full_stub (build_full L l);have hm:=(may_tree _ L (good_build L l ok) hL (fine_build L l f) hb).1 hs;have e:encT (build L l)=encN (nodeT (build L l)):=by
   cases hb':build L l with
   | nil=>exact absurd hb' hb
   | stub r=>rw [hb'] at hs; exact absurd trivial hs
   | leaf p v=>rfl
   | ext q t=>rfl
   | br ks=>rfl
  have HC:=hid (node_any hL ih ok f hne a n c w h hn);have hl:=nodeT_length (build L l);rw [e];generalize nodeT (build L l)=N at *
  have HM:=hid hm;have HL:=hid hl;clear h hm hl e hs hb;go_enter Tryz.func81,Tryz.ntmps81;go_wp2_with fail
  refine HC.out.mono ?_;rintro e w1 ⟨a1,n1,c1,rfl,hp1,hb1⟩;have HB1:=hid hb1;have hNew:=Rg.Own.new w1 (ndC nd0 none 0 0) 56;have HN:=hid hNew;have HP:=hid hp1;clear hb1 hNew hp1 HC;go_wp2_with (first
   | (refine Rg.run rfl _ _ (run_alloc_nd _ _ _ w1.heap.size rfl rfl) ?_)
   | (refine wpl_store_ndL HN.out rfl N a1 n1 c1 HL.out rfl _ _ rfl rfl rfl rfl ?_; intro w4 hO4 hu4; have HO4:=hid hO4; have HB4:Hid (Below w1.heap.size w1 w4):=hid (hu4.below (al1 _ _) (Nat.le_refl _)); clear hO4 hu4)
   | (refine Rg.run rfl _ _ (op_load_nd HO4.out HL.out ⟨_,rfl,rfl⟩) ?_))
  refine (rput_of N a1 n1 c1 HL.out w4 (HP.out.below HB4.out) HM.out).mono ?_;rintro e w5 ⟨rfl,hb5⟩;have HB5:=hid (bst (bst HB1.out HB4.out) hb5);clear hb5;go_wp2;go_ret;exact ⟨rfl,HB5.out⟩
theorem renc_any (L:Nat):L≤64→EncC L:=by
 induction L using Nat.strongRecOn with
 | ind L ih=>exact fun hL=>enc_of hL fun m hm=>ih m hm (by omega)
end Tm
end
section
open Go.RowKit
namespace Tm
open Tr Rf Rl Ni No Pk Sm
theorem memo_eB {t:T} (hs:¬ IsStub t):memo0 t=eB:=by
 cases t with
 | stub r=>exact absurd trivial hs
 | _=>rfl
theorem kind_part {t:T} (hs:¬ IsStub t) (hn:t ≠ .nil):kindT t=1∨kindT t=2∨kindT t=3:=by
 cases t with
 | stub r=>exact absurd trivial hs
 | nil=>exact absurd rfl hn
 | leaf q v=>exact Or.inl rfl
 | ext q s=>exact Or.inr (Or.inl rfl)
 | br ks=>exact Or.inr (Or.inr rfl)
theorem ref_walk (b:Nat) (k:Int) (hk:k=1∨k=2∨k=3) (r:ByteArray) (w:World) (hc:∀ wx,Below w.heap.size w wx→wx.cell? ⟨b,0,none⟩=some (.int .i64 k)) (P:World→Prop)
  (hDo:∀ w3,Below w.heap.size w w3→w3.cell? ⟨w.heap.size,0,none⟩=some (.pointer (some ⟨b,0,none⟩))→Calls Tryz.prog 53 #[.pointer (some ⟨b,4,none⟩),.func (.func 54) #[] #[.pointer (some ⟨w.heap.size,0,none⟩)]] w3 fun e w'=>e = .returned (.tuple #[])∧w'.cell? ⟨w.heap.size,0,none⟩=some (.pointer (some ⟨b,0,none⟩))∧w'.cell? ⟨b,7,none⟩=some (.string r)∧P w') :
  Calls Tryz.prog 27 #[.agg #[.pointer (some ⟨b,0,none⟩)]] w fun e w'=>e = .returned (.string r)∧P w':=by
 have hmf:∀ (fn:Fn) (first cap:Array Value) (w:World),(Instr.makeFunc fn first cap).run Tryz.prog w = .ok (.func fn first cap) w:=fun _ _ _ _=>rfl;have h0:=box_tree w (some ⟨b,0,none⟩);have hA:=al1 w (.cells #[.pointer (some ⟨b,0,none⟩)] 28);have HK:=hid (kind_cell b k _ (hc _ hA))
 have H3:Hid (∀ w3,Below (w.alloc (.cells #[.pointer (some ⟨b,0,none⟩)] 28)).heap.size (w.alloc (.cells #[.pointer (some ⟨b,0,none⟩)] 28)) w3→w3.cell? ⟨w.heap.size,0,none⟩=some (.pointer (some ⟨b,0,none⟩))∧Calls Tryz.prog 53 #[.pointer (some ⟨b,4,none⟩),.func (.func 54) #[] #[.pointer (some ⟨w.heap.size,0,none⟩)]] w3 fun e w'=>e = .returned (.tuple #[])∧w'.cell? ⟨w.heap.size,0,none⟩=some (.pointer (some ⟨b,0,none⟩))∧w'.cell? ⟨b,7,none⟩=some (.string r)∧P w'):=hid (fun w3 hb3 =>
  ⟨cell_on hb3 h0,hDo w3 (bst hA hb3) (cell_on hb3 h0)⟩)
 clear hc hDo hA;rcases hk with rfl | rfl | rfl;all_goals
  go_enter Tryz.func27,Tryz.ntmps27;go_wp2_with (refine Rg.run rfl _ _ (op_load_tree h0 ⟨_,rfl,rfl⟩) ?_)
  refine HK.out.mono ?_;rintro e w3 ⟨rfl,hb3⟩;obtain ⟨d0,HD⟩:=H3.out w3 hb3;replace HD:=hid HD;clear hb3 H3 HK h0;go_wp2_with fail
  refine HD.out.mono ?_;rintro e w4 ⟨rfl,e0,e7,hP⟩;have HP:=hid hP;clear hP HD d0;go_wp2;go_ret;exact ⟨rfl,HP.out⟩
theorem ref_nil:RefC .nil:=fun M w p hi ht hT=>by
 obtain rfl:p=none:=ht.nil_iff.2 rfl;have h0:=box_tree w none;have HE:=hid (empty_any none ((w.alloc (.cells #[.pointer none] 28)).alloc (.cells #[.pointer none] 28)));have hA:=al1 w (.cells #[.pointer none] 28)
 have HK:Hid (Calls Tryz.prog 52 #[.agg #[.pointer none]] (w.alloc (.cells #[.pointer none] 28)) fun e w'=>e = .returned (.int .i64 0)∧Below (w.alloc (.cells #[.pointer none] 28)).heap.size (w.alloc (.cells #[.pointer none] 28)) w'):=hid (kind_any M0 none .nil _ (Inv.zero _) rfl)
 have HF:Hid (∀ w3,Below (w.alloc (.cells #[.pointer none] 28)).heap.size (w.alloc (.cells #[.pointer none] 28)) w3→FrN M (sz .nil+1) w w3∧InvN M (sz .nil+1) w3):=hid (fun w3 hb3=>⟨FrN.below M _ (bst hA hb3),hi.below (bst hA hb3)⟩);clear hi hT hA HE;show Calls _ _ _ _ (fun e w'=>e = .returned (.string eB)∧_);go_enter Tryz.func27,Tryz.ntmps27;go_wp2_with (refine Rg.run rfl _ _ (op_load_tree h0 ⟨_,rfl,rfl⟩) ?_)
 refine HK.out.mono ?_;rintro e w3 ⟨rfl,hb3⟩;have HF3:=hid (HF.out w3 hb3);clear hb3 HF HK h0;go_wp2;go_ret;exact ⟨rfl,HF3.out⟩
theorem stub_memo {M:Mp} {w:World} {b:Nat} {r:ByteArray} (h:IsPart M w b (.stub r)):w.cell? ⟨b,0,none⟩=some (.int .i64 (-1))∧w.cell? ⟨b,7,none⟩=some (.string r):=by
 obtain ⟨a,n,c,ka,kn,kc,d,r',hb,_,_,hd⟩:=h;obtain ⟨⟨c0,_⟩,_,_,_,c7⟩:=part_cells hb;rcases hd with ⟨_,hr⟩ | ⟨_,hs,_⟩
 ·rw [hr] at c7;exact ⟨c0,c7⟩
 ·exact absurd trivial hs
theorem ref_stub (r:ByteArray):RefC (.stub r):=fun M w p hi ht hT=>by
 obtain ⟨b,rfl,hm⟩:=ht.at_ (fun e=>by cases e);have hpart:=(hi.part_ b _ hm).2.2.2 (by omega);obtain ⟨k0,k7⟩:=stub_memo hpart;have h0:=box_tree w (some ⟨b,0,none⟩);have hA:=al1 w (.cells #[.pointer (some ⟨b,0,none⟩)] 28);have HK:=hid (kind_cell b (-1) _ (cell_on hA k0))
 have HF:Hid (∀ w3,Below (w.alloc (.cells #[.pointer (some ⟨b,0,none⟩)] 28)).heap.size (w.alloc (.cells #[.pointer (some ⟨b,0,none⟩)] 28)) w3→w3.cell? ⟨w.heap.size,0,none⟩=some (.pointer (some ⟨b,0,none⟩))∧w3.cell? ⟨b,7,none⟩=some (.string r)∧FrN M (sz (.stub r)+1) w w3∧InvN M (sz (.stub r)+1) w3):=hid (fun w3 hb3=>⟨cell_on hb3 h0,cell_on hb3 (cell_on hA k7),FrN.below M _ (bst hA hb3),hi.below (bst hA hb3)⟩);clear hi hT hA hpart k0 k7 hm;show Calls _ _ _ _ (fun e w'=>e = .returned (.string r)∧_)
 go_enter Tryz.func27,Tryz.ntmps27;go_wp2_with (refine Rg.run rfl _ _ (op_load_tree h0 ⟨_,rfl,rfl⟩) ?_)
 refine HK.out.mono ?_;rintro e w3 ⟨rfl,hb3⟩;obtain ⟨d0,d7,hF3⟩:=HF.out w3 hb3;have HF3:=hid hF3;clear hb3 HF HK h0 hF3;go_wp2;go_ret;exact ⟨rfl,HF3.out⟩
theorem ref_part (t:T) (hs:¬ IsStub t) (hn:t ≠ .nil) {L:Nat} (g:Tr.Good t L) (hL:L≤64) (f:Fine t) (hR1:∀ q s,t = .ext q s→RefC s) (hR2:∀ ks,t = .br ks→∀ i,RefC (ks i)):RefC t:=fun M w p hi ht hT=>by
 obtain ⟨b,rfl,hm⟩:=ht.at_ hn;have hpw:=(hi.part_ b _ hm).2.2.2 (by omega);have hlb:=hi.lt_ b (hi.part_ b _ hm).2.1;obtain ⟨a,n,c,ka,kn,kc,d,r,hb,hBs,hKs,hd⟩:=hpw;have hOw:Rg.Own w b (partC t a n c ka kn kc d r) 106:=⟨hlb,hb⟩
 have hbody:Body M w b t a n c ka kn kc:=by
  obtain ⟨⟨c0,c1,c2,c3⟩,_⟩:=part_cells hb;exact ⟨c0,c1,c2,c3,hBs.1,hKs⟩
 refine ref_walk b (kindT t) (kind_part hs hn) (ref t) w (fun wx hbx=>(hbody.below hbx).c0) (fun w'=>FrN M (sz t+1) w w'∧InvN M (sz t+1) w') (fun w3 hb3 hbox=>?_);have hO3:=hOw.below hb3;have hi3:=hi.below hb3;rcases hd with ⟨rfl,hr⟩ | ⟨rfl,_,hr⟩
 ·-- not yet done
  rw [memo_eB hs] at hr;subst hr;have hT3:=hT.below hb3 hT.pos;have hu5:=upd_setCell w3 b 5 (.int .i32 1);have hOl:Rg.Own (w3.setCell ⟨b,5,none⟩ (.int .i32 1)) b (lockC t a n c ka kn kc eB) 106:=own_setCell (o:=5) hO3 (.int .i32 1);have hNl:=lock_nobp hOl;have hiN3:InvN M (sz t) w3:=hi3.mono (Nat.le_succ _);have hil:InvN M (sz t) (w3.setCell ⟨b,5,none⟩ (.int .i32 1)):=hiN3.lock hu5 hm (Nat.le_refl _) hNl;have h0b:(1:Nat)≠b:=fun e=>by
   have:=tab_none hi3 hT3;rw [e,hm] at this;cases this
  have hTl:Tab (w3.setCell ⟨b,5,none⟩ (.int .i32 1)):=fun i hi'=>by
   rw [← hT3 i hi'];exact World.cell?_of_block (w:=w3) (hu5.block 1 h0b)
  have hbxb:w.heap.size≠b:=by omega
  have hboxl:(w3.setCell ⟨b,5,none⟩ (.int .i32 1)).cell? ⟨w.heap.size,0,none⟩=some (.pointer (some ⟨b,0,none⟩)):=by
   rw [← hbox];exact World.cell?_of_block (w:=w3) (hu5.block w.heap.size hbxb)
  have hbodyl:Body M (w3.setCell ⟨b,5,none⟩ (.int .i32 1)) b t a n c ka kn kc:=(hbody.below hb3).upd (hi3.part_ b t hm).2.2.1 hu5 (fun j hj=>World.cell?_setCell_other _ ⟨b,5,none⟩ ⟨b,j,none⟩ _ (fun e=>by injection e with e1 e2 e3; omega));obtain ⟨h1,h2,h3,h4,h5,h6⟩:=tree_node g hL f hn hs;have hE:=enc_any M b t hm hs hn g hL f (w3.setCell ⟨b,5,none⟩ (.int .i32 1)).drew (hil.below (below_drewN (Below.refl _ _) 1)) (hbodyl.below (below_drewN (Below.refl _ _) 1)) hTl hR1 hR2;have hDo:=do_ref M b t hm h3 w.heap.size _ hboxl hbxb hil hTl hOl hE
  have hD:∀ wx,(callFunc 54 #[.pointer (some ⟨w.heap.size,0,none⟩)]).run Tryz.prog wx = .ok (.enter 54 #[.pointer (some ⟨w.heap.size,0,none⟩)]) wx:=by intro wx; kernel_rfl
  refine (On.do_first 54 _ hD b 4 w3 (fun w'=>∃ w1,FrN M (sz t) (w3.setCell ⟨b,5,none⟩ (.int .i32 1)) w1∧InvN M (sz t) w1∧Rg.Upd w1 b w'∧Rg.Own w' b (lockC t a n c ka kn kc (ofP (encT t))) 106) (own_cell (j:=4) hO3 rfl) (own_cell (j:=5) hO3 rfl) (own_free hO3) (hDo.mono ?_)).mono ?_
  ·rintro e w' ⟨rfl,w1,g1,g2,g3,g4⟩;exact ⟨rfl,⟨⟨own_cell (j:=4) g4 rfl,own_free g4⟩,own_cell (j:=5) g4 rfl,own_free g4⟩,w1,g1,g2,g3,g4⟩
  ·rintro e w' ⟨rfl,w2,⟨w1,g1,g2,g3,g4⟩,rfl⟩;rw [← ref_enc hs] at g4;have hu6:=upd_setCell w2.drew b 4 (.int .u32 1);have hu7:=upd_setCell (w2.drew.setCell ⟨b,4,none⟩ (.int .u32 1)) b 5 (.int .i32 0);have hO7:Rg.Own ((w2.drew.setCell ⟨b,4,none⟩ (.int .u32 1)).setCell ⟨b,4+1,none⟩ (.int .i32 0)) b (partC t a n c ka kn kc 1 (ref t)) 106:=own_setCell (o:=5) (own_setCell (o:=4) g4.drew (.int .u32 1)) (.int .i32 0);obtain ⟨w7,hw7⟩:∃ w7,(w2.drew.setCell ⟨b,4,none⟩ (.int .u32 1)).setCell ⟨b,4+1,none⟩ (.int .i32 0)=w7:=⟨_,rfl⟩
   rw [hw7] at hO7 ⊢;have hu17:Rg.Upd w1 b w7:=by
    rw [← hw7];exact ⟨g3.os,g3.tape,g3.output,by rw [hu7.size,hu6.size]; exact g3.size,fun k hk=>((hu7.block k hk).trans (hu6.block k hk)).trans (g3.block k hk)⟩
   have hchg:∀ k,k<w3.heap.size→k≠b→(M.at_ k=none∨∃ t',M.at_ k=some t'∧sz t≤sz t')→w7.heap[k]? = w3.heap[k]? := fun k hk hkb hc=>(hu17.block k hkb).trans ((g1.block k (by rw [hu5.size]; exact hk) hc).trans (hu5.block k hkb));have hs37:w3.heap.size≤w7.heap.size:=by rw [hu17.size]; exact Nat.le_trans (by rw [hu5.size]; exact Nat.le_refl _) g1.size
   have hnb:M.at_ w.heap.size=none:=hi.none_at (Nat.le_refl _);have hb7:w7.cell? ⟨w.heap.size,0,none⟩=some (.pointer (some ⟨b,0,none⟩)):=by
    rw [← hbox];exact World.cell?_of_block (w:=w3) (hchg _ (World.block_lt_of_cell? w3 _ hbox) hbxb (Or.inl hnb))
   have hfr:FrN M (sz t+1) w3 w7:=⟨hu17.os.trans (g1.os.trans hu5.os),hu17.tape.trans (g1.tape.trans hu5.tape),hu17.output.trans (g1.output.trans hu5.output),hs37,fun k hk hc=>by
    refine hchg k hk (fun e=>?_) (hc.imp id (fun ⟨t',e,hl⟩=>⟨t',e,by omega⟩));subst e;rcases hc with h | ⟨t',h,hl⟩
    ·rw [hm] at h; cases h
    ·rw [hm] at h;obtain rfl:=Option.some.inj h;omega⟩
   have hN7:NoBP w7 b:=part_nobp hO7.2;have hi7s:InvN M (sz t) w7:=g2.lock hu17 hm (Nat.le_refl _) hN7;have hbyte:∀ k j v,k<w3.heap.size→w3.cell? ⟨k,j,none⟩=some v→((∃ x,v = .int .u8 x)∨∃ p,v = .pointer p)→w7.heap[k]? = w3.heap[k]? := fun k j v hk hc hv=>by
    have hat:M.at_ k=none:=by
     rcases hv with ⟨x,rfl⟩ | ⟨p,rfl⟩
     ·exact hi3.no_byte hc
     ·exact hi3.no_ptr hc
    exact hchg k hk (fun e=>by rw [e,hm] at hat; cases hat) (Or.inl hat)
   refine ⟨rfl,hb7,own_cell (j:=7) hO7 rfl,(FrN.below M _ hb3).trans hfr,⟨fun k hk=>Nat.lt_of_lt_of_le (hi3.lt_ k hk) hs37,fun b' t' hm'=>?_⟩⟩;obtain ⟨q1,q2,q3,q4⟩:=hi7s.part_ b' t' hm';refine ⟨q1,q2,q3,fun hl=>?_⟩;by_cases hlt:sz t'<sz t
   ·exact q4 hlt
   ·have hp3:=(hi3.part_ b' t' hm').2.2.2 hl;by_cases e:b'=b
    ·subst e;obtain rfl:t=t':=by rw [hm] at hm'; exact Option.some.inj hm'
     refine ⟨a,n,c,ka,kn,kc,1,ref t,hO7.2,?_,?_,Or.inr ⟨rfl,hs,rfl⟩⟩
     ·have hb3':=hBs;refine ⟨⟨hBs.1.1,hBs.1.2.1,hBs.1.2.2.1,hBs.1.2.2.2.1,fun j hj=>?_⟩,hBs.2⟩;obtain ⟨b2,off,e2,hlt2,hc2⟩:=(hBs.1.below hb3).2.2.2.2 j hj;exact ⟨b2,off,e2,Nat.lt_of_lt_of_le hlt2 hs37,by rw [World.cell?_of_block (hbyte b2 _ _ hlt2 hc2 (Or.inl ⟨_,rfl⟩))]; exact hc2⟩
     ·refine ⟨hKs.1,hKs.2.1,hKs.2.2.1,hKs.2.2.2.1,fun j hj=>?_⟩;obtain ⟨b2,off,p2,e2,hlt2,hf2,hc2,ht2⟩:=(hbody.below hb3).hk.at' j hj;exact ⟨b2,off,p2,e2,Nat.lt_of_lt_of_le hlt2 hs37,hf2,by rw [World.cell?_of_block (hbyte b2 _ _ hlt2 hc2 (Or.inr ⟨_,rfl⟩))]; exact hc2,ht2⟩
    ·exact hp3.keep hs37 (hchg b' (hi3.lt_ b' q2) e (Or.inr ⟨t',hm',by omega⟩)) hbyte
 ·-- done already
  subst hr;refine (On.do_done ⟨b,4,none⟩ _ w3 (own_cell (j:=4) hO3 rfl)).mono ?_;rintro e w' ⟨rfl,rfl⟩;exact ⟨rfl,hbox,own_cell (j:=7) hO3 rfl,FrN.below M _ hb3,hi3⟩
theorem ref_any:∀ (t:T) (L:Nat),Tr.Good t L→L≤64→Fine t→RefC t
 | .nil,_,_,_,_=>ref_nil
 | .stub r,_,_,_,_=>ref_stub r
 | .leaf q v,L,g,hL,f=>ref_part _ (fun h=>h) (fun e=>by cases e) g hL f (fun _ _ e=>by cases e) (fun _ e=>by cases e)
 | .ext q s,L,g,hL,f=>ref_part _ (fun h=>h) (fun e=>by cases e) g hL f (fun q' s' e=>by
   injection e with _ e;subst e;exact ref_any s _ g.2.2.2.2 (by have:=g.2.2.1; omega) f) (fun _ e=>by cases e)
 | .br ks,L,g,hL,f=>ref_part _ (fun h=>h) (fun e=>by cases e) g hL f (fun _ _ e=>by cases e) (fun ks' e i=>by
   injection e with e;subst e;exact ref_any (ks i) _ (g.2.2 i) (by omega) (f i))
end Tm
end
section
open Go.RowKit
namespace Tm
open Tr Ni Pk Ky No Rf Rl Sm
theorem Inv.after {M:Mp} {n:Nat} {w w':World} (h:Inv M w) (f:FrN M n w w') (g:InvN M n w'):Inv M w' :=
 ⟨fun k hk=>Nat.lt_of_lt_of_le (h.lt_ k hk) f.size,fun b t hm=>by
  have:=((h.toN (sz t+1)).after f g).part_ b t hm;exact ⟨this.1,this.2.1,this.2.2.2 (Nat.lt_succ_self _)⟩⟩
theorem index_tree (ps:List (Option Addr)) (a:Option Addr) (n cap:Nat) (w:World) (h:Ptrs w a n cap ps) (hn:n≤1000000) :
  Calls Tryz.prog 85 #[.slice a n cap,.func (Fn.func 34) #[] #[]] w fun e w'=>∃ r:Int,e = .returned (.int .i64 r)∧Below w.heap.size w w' ∧
   ((r = -1∧∀ p∈ps,p.isNone=false)∨∃ i:Nat,r=i∧i<n∧ps.getD i none=none∧∀ p∈ps.take i,p.isNone=false):=by
 have hm:=h.2.1;have hnc:=h.1;have hl:=h.2.2.1;unfold maxLen at hm;have H:=hid h;have HL:=hid hl;clear h hl;go_enter Tryz.func85,Tryz.ntmps85;go_wp2;go_loopw [8] (fun i wr=>∃ j:Nat,j≤n∧i = .int .i64 j∧Hid (∀ p∈ps.take j,p.isNone=false)∧Hid (Below w.heap.size w wr)) (fun i _=>n-(intOf i).toNat)
 case atStart=>exact ⟨0,Nat.zero_le _,rfl,hid (fun p hp=>by simp at hp),hid (Below.refl _ _)⟩
 case round =>
  obtain ⟨j,hj,rfl,HJ,HB⟩:=hrel;by_cases hlt:j<n
  ·obtain ⟨b,off,rfl,hblt,hc⟩:=H.out.2.2.2.2 j hlt;have hji:(j:Int)<n:=by omega
   have hc':=(Below.cell (p:=⟨b,off+j,none⟩) HB.out hblt).trans hc;have HS:Hid (ps.take (j+1)=ps.take j++[ps.getD j none]):=hid (by
    have hj':j<ps.length:=by rw [HL.out]; exact hlt
    have e:ps.getD j none=ps[j]:=by simp [List.getD,hj']
    rw [e,List.take_succ_eq_append_getElem hj'])
   obtain ⟨p,hp⟩:∃ p,ps.getD j none=p:=⟨_,rfl⟩
   rw [hp] at hc' HS;have HE:=hid (empty_any p wr);have HP:=hid hp;clear hp hc;go_wp2_with (refine Rg.run rfl _ _ (op_load_tree hc' ⟨_,rfl,rfl⟩) ?_)
   refine HE.out.mono ?_;rintro e w5 ⟨rfl,hb5⟩;have HB5:=hid (bst HB.out hb5);clear hb5 HE HB hc';cases hf:p.isNone with
   | false =>
    have HJ':Hid (∀ q∈ps.take (j+1),q.isNone=false):=hid (fun q hq=>by
     rw [HS.out,List.mem_append,List.mem_singleton] at hq;rcases hq with hq | rfl
     ·exact HJ.out q hq
     ·exact hf)
    clear hf;go_wp2;go_roundw
    case rel=>exact ⟨j+1,by omega,by go_num,HJ',HB5⟩
    case measure=>simp [intOf]; omega
   | true =>
    have hpn:p=none:=by simpa using hf
    clear hf;go_wp2;go_ret;exact ⟨(j:Int),rfl,HB5.out,Or.inr ⟨j,rfl,hlt,by rw [HP.out]; exact hpn,HJ.out⟩⟩
  ·obtain rfl:j=n:=by omega
   have HF:Hid (∀ p∈ps,p.isNone=false):=hid (by have:=HJ.out; rwa [List.take_of_length_le (by rw [HL.out]; exact Nat.le_refl _)] at this);go_wp2;go_ret;exact ⟨-1,rfl,HB.out,Or.inl ⟨rfl,HF.out⟩⟩
end Tm
end
section
open Go.RowKit
namespace Tm
open Tr Ni Pk Ky No Rf Rl Sm
def keepP (ps:List (Option Addr)):List (Option Addr):=ps.filter fun p=>!p.isNone
theorem keep_snoc (l:List (Option Addr)) (p:Option Addr):keepP (l++[p])=keepP l++if p.isNone then [] else [p]:=by
 unfold keepP;rw [List.filter_append];cases p <;> rfl
theorem keep_all {l:List (Option Addr)} (h:∀ p∈l,p.isNone=false):keepP l=l:=List.filter_eq_self.2 fun p hp=>by rw [h p hp]; rfl
theorem upd_trans {w w1 w2:World} {b:Nat} (h:Rg.Upd w b w1) (g:Rg.Upd w1 b w2):Rg.Upd w b w2:=⟨g.os.trans h.os,g.tape.trans h.tape,g.output.trans h.output,g.size.trans h.size,fun k hk=>(g.block k hk).trans (h.block k hk)⟩
theorem upd_refl (w:World) (b:Nat):Rg.Upd w b w:=⟨rfl,rfl,rfl,rfl,fun _ _=>rfl⟩
theorem own_setCells {b:Nat} {t:TypeId}:∀ (vs:List Value) (o:Nat) (w:World) (cs:Array Value),Rg.Own w b cs t→∃ cs',Rg.Own (w.setCells b o vs) b cs' t∧cs'.size=cs.size∧∀ j,j<o→cs'[j]? = cs[j]?
 | [],_,_,cs,h=>⟨cs,h,rfl,fun _ _=>rfl⟩
 | v::r,o,w,cs,h=>by
  obtain ⟨cs',h1,h2,h3⟩:=own_setCells r (o+1) _ _ (own_setCell (o:=o) h v);refine ⟨cs',h1,by simpa using h2,fun j hj=>?_⟩;rw [h3 j (by omega),Array.getElem?_setIfInBounds_ne (by omega)]
theorem upd_setCells (b:Nat):∀ (vs:List Value) (o:Nat) (w:World),Rg.Upd w b (w.setCells b o vs)
 | [],_,w=>upd_refl w b
 | v::r,o,w=>upd_trans (upd_setCell w b o v) (upd_setCells b r (o+1) _)
theorem zero_tree (w:World):(zeroValue (Tryz.prog.elem 57)).run Tryz.prog w = .ok (.agg #[.pointer none]) w:=by kernel_rfl
theorem zero_cells (n:Nat):(Builtin.zeroCells #[Value.pointer none] n).toList=List.replicate n (Value.pointer none):=by
 simp [Builtin.zeroCells];apply List.ext_getElem
 ·simp
 ·intro i h1 h2;simp [Nat.mod_one]
theorem run_clear_from (ty:TypeId) {w:World} {g cap n i:Nat} {cur:Array Value} (hO:Rg.Own w g cur 28) (hs:cur.size=cap) (hi:i≤n) (hn:n≤cap) :
  ∃ w',(Builtin.clear_ #[57] ty #[.slice (fromA (some ⟨g,0,none⟩) cap i) (n-i) (cap-i)]).run Tryz.prog w = .ok (.tuple #[]) w'∧Rg.Upd w g w'∧∃ cur',Rg.Own w' g cur' 28∧cur'.size=cap∧∀ j,j<i→cur'[j]? = cur[j]? := by
 by_cases hz:n-i=0
 ·refine ⟨w,?_,upd_refl w g,cur,hO,hs,fun _ _=>rfl⟩;rw [hz];cases fromA (some ⟨g,0,none⟩) cap i <;> simp [Builtin.clear_,run_underlying under_trees]
 ·have hf:fromA (some ⟨g,0,none⟩) cap i=some ⟨g,i,none⟩:=by
   unfold fromA;rw [if_neg (by omega)];simp [Addr.add_mid]
  obtain ⟨cs',h1,h2,h3⟩:=own_setCells (List.replicate (n-i) (Value.pointer none)) i w cur hO;refine ⟨_,?_,upd_setCells g (List.replicate (n-i) (Value.pointer none)) i w,cs',h1,by rw [h2,hs],h3⟩;rw [hf];have hst:=run_storeCells_cells (P:=Tryz.prog) g i (List.replicate (n-i) (Value.pointer none)) 0 w (fun j hj=>by
   have hj':j<n-i:=by simpa using hj
   rw [Nat.add_zero,cell_of_row w g _ _ _ _ hO.2,Array.getElem?_eq_getElem (by omega)];rfl) (fun j hj=>own_free hO) (by intro v hv'; rw [List.eq_of_mem_replicate hv']; rfl)
  simp only [Nat.add_zero] at hst;obtain ⟨m,hm⟩:∃ m,n-i=m+1:=⟨n-i-1,by omega⟩
  rw [hm] at hst ⊢;simp [Builtin.clear_,run_underlying under_trees,zero_tree,zero_cells,Value.cells,hst]
theorem wpl_clear {ops:Array Oper} {rest:List Oper} {o:Oper} {a:Act} {w:World} {Q:Exit→Act→World→Prop} {g cap n i:Nat} {cur:Array Value} (hgd:o.guard=none)
  (ho:∃ s,o.op = .call { callee:=.builtin .clear,args:=#[s],argTypes:=#[57] }∧a.eval s = .slice (fromA (some ⟨g,0,none⟩) cap i) (n-i) (cap-i)) (hd:o.dst=none)
  (hO:Rg.Own w g cur 28) (hs:cur.size=cap) (hi:i≤n) (hn:n≤cap)
  (H:∀ w' cur',Rg.Own w' g cur' 28→cur'.size=cap→(∀ j,j<i→cur'[j]? = cur[j]?)→Rg.Upd w g w'→wpList Tryz.prog ops Q rest a w'):wpList Tryz.prog ops Q (o::rest) a w:=by
 obtain ⟨s,ho,hx⟩:=ho;refine wpList_plain hgd fun K hK=>?_;obtain ⟨w',hr,hu,cur',h1,h2,h3⟩:=run_clear_from o.type hO hs hi hn;unfold Oper.wp execOp;simp only [ho,resolve,invoke,builtin,Sem.run_bind,Sem.run_pure,Result.andThen_ok,List.map_toArray,List.map_cons,List.map_nil,hx,hr];refine hK _ _ ?_;rw [show a.put o.dst (.tuple #[])=a by rw [hd]; rfl];exact H w' cur' h1 h2 h3 hu
theorem RowK.cell {w:World} {g cap:Nat} {qs:List (Option Addr)} (h:RowK w g cap qs) {j:Nat} (hj:j<qs.length):w.cell? ⟨g,j,none⟩=some (.pointer (qs.getD j none)):=by
 obtain ⟨cur,hO,hs,hl,hm,hc⟩:=h;rw [cell_of_row w g _ _ _ _ hO.2];exact hc j hj
theorem RowK.cut {w w':World} {g cap k:Nat} {qs:List (Option Addr)} {cur:Array Value} (h:RowK w g cap qs) (hO:Rg.Own w g cur 28) (hk:k≤qs.length) {cur':Array Value} (hO':Rg.Own w' g cur' 28) (hs:cur'.size=cap) (he:∀ j,j<k→cur'[j]? = cur[j]?):RowK w' g cap (qs.take k):=by
 obtain ⟨cur0,hO0,hs0,hl,hm,hc⟩:=h;have e:cur0=cur:=by
  have:=hO0.2.symm.trans hO.2;injection this with this;injection this
 subst e;refine ⟨cur',hO',hs,by rw [List.length_take]; omega,hm,fun j hj=>?_⟩;have hjk:j<k:=by rw [List.length_take] at hj; omega
 have hjq:j<qs.length:=by omega
 rw [he j hjk,hc j hjq];simp [List.getD,hjk]
theorem RowK.own {w:World} {g cap:Nat} {qs:List (Option Addr)} (h:RowK w g cap qs):∃ cur,Rg.Own w g cur 28∧cur.size=cap∧qs.length≤cap∧cap≤maxLen:=by
 obtain ⟨cur0,hO0,hs0,hl,hm,hc⟩:=h;exact ⟨cur0,hO0,hs0,hl,hm⟩
theorem drop_getD {qs ps:List (Option Addr)} {j:Nat} (h:qs.drop j=ps.drop j):qs.getD j none=ps.getD j none∧qs.drop (j+1)=ps.drop (j+1):=by
 constructor
 ·have:=congrArg (fun l=>l[0]?) h;simp only [List.getElem?_drop,Nat.add_zero] at this;rw [List.getD_eq_getElem?_getD,List.getD_eq_getElem?_getD,this]
 ·have:=congrArg (fun l=>l.drop 1) h;simpa [List.drop_drop] using this
theorem take_set_snoc {qs:List (Option Addr)} {k:Nat} (hk:k<qs.length) (p:Option Addr):(qs.set k p).take (k+1)=qs.take k++[p]:=by
 rw [List.take_succ_eq_append_getElem (by simpa using hk),List.getElem_set_self,List.take_set_of_le (Nat.le_refl k)]
theorem take_optP {ps:List (Option Addr)} {j:Nat} (h:j<ps.length):ps.take (j+1)=ps.take j++[ps.getD j none]:=by
 have e:ps.getD j none=ps[j]:=by simp [List.getD,h]
 rw [e,List.take_succ_eq_append_getElem h]
def DelP (w:World) (g cap:Nat) (ps:List (Option Addr)) (e:Ending) (w':World):Prop:=e = .returned (.slice (some ⟨g,0,none⟩) (keepP ps).length cap)∧RowK w' g cap (keepP ps)∧Bo g w w'
theorem delete_some (ps:List (Option Addr)) (g cap:Nat) (w:World) (h:RowK w g cap ps) (hn:ps.length≤1000000) :
  Calls Tryz.prog 49 #[.slice (some ⟨g,0,none⟩) ps.length cap,.func (Fn.func 34) #[] #[]] w (DelP w g cap ps):=by
 obtain ⟨cur0,hO0,hs0,hlc,hm⟩:=h.own;unfold maxLen at hm;obtain ⟨n,hnl⟩:∃ n,ps.length=n:=⟨_,rfl⟩
 rw [hnl] at hn hlc;have HL:=hid hnl;have HX:=hid (index_tree ps (some ⟨g,0,none⟩) ps.length cap w h.ptrs (by omega));rw [hnl] at HX ⊢;have HR:=hid h;have hgl:=h.lt;clear h hO0 hs0 hnl;go_enter Tryz.func49,Tryz.ntmps49;go_wp2_with fail
 refine HX.out.mono ?_;rintro e w1 ⟨r,rfl,hb1,hr⟩;have HB1:Hid (Bo g w w1):=hid (Bo.of hb1);have HR1:=hid (HR.out.below hb1);clear hb1 HX HR;rcases hr with ⟨rfl,hall⟩ | ⟨i,rfl,hi,hnone,hall⟩
 ·have HK:=hid (keep_all hall);clear hall;go_wp2;go_ret;exact ⟨by rw [HK.out,HL.out]; rfl,(by rw [HK.out]; exact HR1.out),HB1.out⟩
 ·have hne:decide ((i:Int) = -1)=false:=decide_eq_false (by omega);have hne2:((i:Int) == -1)=false:=by simp
  have HK:Hid (ps.take i=keepP (ps.take (i+1))):=hid (by
   rw [take_optP (by rw [HL.out]; exact hi),hnone,keep_snoc,keep_all hall];exact (List.append_nil _).symm)
  clear hall hnone;go_wp2_with fail
  go_loopw [5,6] (fun vi vj wr=>∃ (k j:Nat) (qs:List (Option Addr)),vi = .int .i64 k∧vj = .int .i64 j∧k≤j∧j≤n∧qs.length=n∧Hid (RowK wr g cap qs)∧Hid (qs.take k=keepP (ps.take j))∧Hid (qs.drop j=ps.drop j)∧Hid (Bo g w wr)) (fun _ vj _=>n-(intOf vj).toNat)
  case atStart=>exact ⟨i,i+1,ps,rfl,by go_num,by omega,by omega,HL.out,HR1,HK,hid rfl,HB1⟩
  case round =>
   obtain ⟨k,j,qs,rfl,rfl,hkj,hj,hql,HRw,HTk,HDr,HB⟩:=hrel;clear HK HR1 HB1;have hgr:g<wr.heap.size:=HRw.out.lt;by_cases hlt:j<n
   ·have hji:(j:Int)<n:=by omega
    have hki:(k:Int)<n:=by omega
    have hdd:=drop_getD HDr.out;have hc:=HRw.out.cell (j:=j) (by omega);rw [hdd.1] at hc;have HD':=hid hdd.2;have HS:=hid (take_optP (ps:=ps) (j:=j) (by rw [HL.out]; exact hlt));obtain ⟨p,hp⟩:∃ p,ps.getD j none=p:=⟨_,rfl⟩
    rw [hp] at hc HS;have hNew:=Rg.Own.new wr #[.pointer none] 28;have HN:=hid hNew;clear hdd hp hNew;go_wp2_with (first
     | (refine Rg.run rfl _ _ (op_load_tree hc ⟨_,rfl,rfl⟩) ?_)
     | (refine Rg.run rfl _ _ (run_alloc_tree _ _ _ wr.heap.size rfl rfl) ?_)
     | (refine wpl_store_tree HN.out (by decide) p rfl _ _ rfl rfl rfl ?_; intro w5 hO5 hu5; have HO5:=hid hO5; have HB5:Hid (Below wr.heap.size wr w5):=hid (hu5.below (al1 _ _) (Nat.le_refl _)); clear hO5 hu5)
     | (refine Rg.run rfl _ _ (op_load_tree (own_cell (j:=0) HO5.out rfl) ⟨_,rfl,rfl⟩) ?_))
    refine (empty_any p w5).mono ?_;rintro e w6 ⟨rfl,hb6⟩;have HB6:Hid (Below wr.heap.size wr w6):=hid (bst HB5.out hb6);have HO6:=hid (HO5.out.below hb6);have HR6:=hid (HRw.out.below HB6.out);have HBo6:Hid (Bo g w w6):=hid (HB.out.then HB6.out);clear hb6 HB5 HO5 hc HN;cases hf:p.isNone with
    | true =>
     have HT':Hid (qs.take k=keepP (ps.take (j+1))):=hid (by rw [HS.out,keep_snoc,hf,HTk.out]; simp);clear hf;go_wp2_with fail
     go_roundw
     case rel=>exact ⟨k,j+1,qs,rfl,by go_num,by omega,by omega,hql,HR6,HT',HD',HBo6⟩
     case measure=>simp [intOf]; omega
    | false =>
     have HT':Hid ((qs.set k p).take (k+1)=keepP (ps.take (j+1))):=hid (by rw [HS.out,keep_snoc,hf,take_set_snoc (by omega),HTk.out]; simp);have HD2:Hid ((qs.set k p).drop (j+1)=ps.drop (j+1)):=hid (by rw [List.drop_set_of_lt (by omega)]; exact HD'.out);clear hf;go_wp2_with (first
      | (refine Rg.run rfl _ _ (op_load_tree (own_cell (j:=0) HO6.out rfl) ⟨_,rfl,rfl⟩) ?_)
      | (refine wpl_store_row HR6.out (i:=k) (by omega) p rfl _ _ rfl rfl rfl ?_; intro w7 hR7 hu7; have HR7:=hid hR7; have HBo7:Hid (Bo g w w7):=hid (HBo6.out.upd hu7); clear hR7 hu7))
     go_roundw
     case rel=>exact ⟨k+1,j+1,qs.set k p,by go_num,by go_num,by omega,by omega,by simpa using hql,HR7,HT',HD2,HBo7⟩
     case measure=>simp [intOf]; omega
   ·obtain rfl:j=n:=by omega
    have hT:=HTk.out;rw [List.take_of_length_le (l:=ps) (by rw [HL.out]; exact Nat.le_refl _)] at hT;have hkl:(keepP ps).length=k:=by rw [← hT,List.length_take]; omega
    have HE:=hid hT;have HKl:=hid hkl;obtain ⟨cur,hO,hs,_,_⟩:=HRw.out.own;have HO:=hid hO;have HRc:=hid (fun (w':World) (cur':Array Value) (h1:Rg.Own w' g cur' 28) (h2:cur'.size=cap) (h3:∀ j,j<k→cur'[j]? = cur[j]?)=>HRw.out.cut hO (by omega) h1 h2 h3);clear hT hkl hO HTk HDr HRw;go_wp2_with (first
     | (refine Rg.run rfl _ _ (op_from (a:=some ⟨g,0,none⟩) (n:=j) (c:=cap) (i:=k) under_trees size_tree hkj ⟨_,_,rfl,rfl,rfl⟩) ?_)
     | (refine Rg.run rfl _ _ (op_upto (a:=some ⟨g,0,none⟩) (n:=j) (c:=cap) (j:=k) under_trees size_tree (by omega) ⟨_,_,rfl,rfl,rfl⟩) ?_)
     | (refine wpl_clear (i:=k) (n:=j) rfl ⟨_,rfl,rfl⟩ rfl HO.out hs hkj hlc ?_; intro w8 cur8 hO8 hs8 he8 hu8; have HR8:=hid (HRc.out w8 cur8 hO8 hs8 he8); have HBo8:Hid (Bo g w w8):=hid (HB.out.upd hu8); clear hO8 hs8 he8 hu8))
    go_ret;exact ⟨by rw [HKl.out]; rfl,(by rw [← HE.out]; exact HR8.out),HBo8.out⟩
end Tm
end
section
open Go.RowKit
namespace Tm
open Tr Ni Pk Ky No Rf Rl Sm
def RowV (B:Nat) (w:World) (v:Value) (ps:List (Option Addr)):Prop:=(v = .slice none 0 0∧ps=[])∨∃ g cap,v = .slice (some ⟨g,0,none⟩) ps.length cap∧B≤g∧RowK w g cap ps
theorem RowV.ptrs {B:Nat} {w:World} {v:Value} {ps:List (Option Addr)} (h:RowV B w v ps):∃ a c,v = .slice a ps.length c∧Ptrs w a ps.length c ps∧∀ ad,a=some ad→B≤ad.block:=by
 rcases h with ⟨rfl,rfl⟩ | ⟨g,cap,rfl,hB,hR⟩
 ·exact ⟨none,0,rfl,⟨Nat.le_refl _,Nat.zero_le _,rfl,fun _=>rfl,fun _ h=>absurd h (Nat.not_lt_zero _)⟩,fun _ e=>by cases e⟩
 ·exact ⟨_,cap,rfl,hR.ptrs,fun ad e=>by cases e; exact hB⟩
theorem clone_any (a:Option Addr) (n cap:Nat) (ps:List (Option Addr)) (w:World) (h:Ptrs w a n cap ps) (hn:n≤1000000) :
  Calls Tryz.prog 50 #[.slice a n cap] w fun e w'=>∃ v,e = .returned v∧RowV w.heap.size w' v ps∧Below w.heap.size w w':=by
 cases a with
 | none =>
  have hc:cap=0:=h.2.2.2.1 rfl;have h1:=h.1;obtain rfl:n=0:=by omega
  subst hc;have hp:ps=[]:=List.eq_nil_of_length_eq_zero h.2.2.1;refine (clone_none w).mono ?_;rintro e w' ⟨rfl,rfl⟩;exact ⟨_,rfl,Or.inl ⟨rfl,hp⟩,Below.refl _ _⟩
 | some ad =>
  refine (clone_some ad n cap ps w h hn).mono ?_;rintro e w' ⟨g,c,rfl,hg,hR,hb⟩;exact ⟨_,rfl,Or.inr ⟨g,c,rfl,hg,hR⟩,hb⟩
theorem delete_none (w:World):Calls Tryz.prog 49 #[.slice none 0 0,.func (Fn.func 34) #[] #[]] w fun e w'=>e = .returned (.slice none 0 0)∧Below w.heap.size w w':=by
 have HX:=hid (index_tree [] none 0 0 w ⟨Nat.le_refl _,Nat.zero_le _,rfl,fun _=>rfl,fun _ h=>absurd h (Nat.not_lt_zero _)⟩ (by omega));go_enter Tryz.func49,Tryz.ntmps49;go_wp2_with fail
 refine HX.out.mono ?_;rintro e w1 ⟨r,rfl,hb1,hr⟩;rcases hr with ⟨rfl,_⟩ | ⟨i,rfl,hi,_⟩
 ·have HB1:=hid hb1;clear hb1;go_wp2;go_ret;exact ⟨rfl,HB1.out⟩
 ·omega
theorem delete_any {B:Nat} (ps:List (Option Addr)) (v:Value) (w:World) (h:RowV B w v ps) (hB:B≤w.heap.size) (hn:ps.length≤1000000) :
  Calls Tryz.prog 49 #[v,.func (Fn.func 34) #[] #[]] w fun e w'=>∃ v',e = .returned v'∧RowV B w' v' (keepP ps)∧Below B w w':=by
 rcases h with ⟨rfl,rfl⟩ | ⟨g,cap,rfl,hg,hR⟩
 ·refine (delete_none w).mono ?_;rintro e w' ⟨rfl,hb⟩;exact ⟨_,rfl,Or.inl ⟨rfl,rfl⟩,hb.mono hB⟩
 ·refine (delete_some ps g cap w hR hn).mono ?_;rintro e w' ⟨rfl,hR',hBo⟩;exact ⟨_,rfl,Or.inr ⟨g,cap,rfl,hg,hR'⟩,hBo.below (Below.refl _ _) hB hg⟩
theorem Ptrs.upd {w w':World} {g:Nat} {a:Option Addr} {n c:Nat} {ps:List (Option Addr)} (h:Ptrs w a n c ps) (hu:Rg.Upd w g w') (hne:∀ ad,a=some ad→ad.block≠g):Ptrs w' a n c ps:=by
 refine ⟨h.1,h.2.1,h.2.2.1,h.2.2.2.1,fun j hj=>?_⟩;obtain ⟨b,off,e,hlt,hc⟩:=h.2.2.2.2 j hj;exact ⟨b,off,e,by rw [hu.size]; exact hlt,by rw [World.cell?_of_block (hu.block b (hne _ e))]; exact hc⟩
theorem Are.nil (M:Mp):Are M [] []:=⟨rfl,fun _ h=>absurd h (Nat.not_lt_zero _)⟩
theorem are_cons {M:Mp} {p:Option Addr} {t:T} {ps:List (Option Addr)} {l:List T}:Are M (p::ps) (t::l)↔IsT M p t∧Are M ps l:=by
 constructor
 ·rintro ⟨h1,h2⟩;refine ⟨h2 0 (by simp),by simpa using h1,fun j hj=>?_⟩;have:=h2 (j+1) (by simpa using hj);simpa using this
 ·rintro ⟨h1,h2,h3⟩;refine ⟨by simp [h2],fun j hj=>?_⟩;cases j with
  | zero=>exact h1
  | succ j =>
   have:=h3 j (by simpa using hj);simpa using this
theorem Are.keep {M:Mp}:∀ {ps:List (Option Addr)} {l:List T},Are M ps l→Are M (keepP ps) (l.filter fun t=>!isNil t)
 | [],[],_=>Are.nil M
 | [],_::_,h=>absurd h.1 (by simp)
 | _::_,[],h=>absurd h.1 (by simp)
 | p::ps,t::l,h=>by
  obtain ⟨h1,h2⟩:=are_cons.1 h;have ih:=Are.keep h2;have hn:=h1.nil_iff;cases p with
  | none =>
   obtain rfl:t = .nil:=hn.1 rfl;exact ih
  | some ad =>
   have ht:isNil t=false:=by
    cases t with
    | nil=>exact absurd (hn.2 rfl) (by simp)
    | _=>rfl
   have e1:keepP (some ad::ps)=some ad::keepP ps:=rfl;rw [e1,List.filter_cons_of_pos (by rw [ht]; rfl)];exact are_cons.2 ⟨h1,ih⟩
theorem kids_parts {t:T} {L:Nat} (g:Tr.Good t L):(partsT t).filter (fun t=>!isNil t)=kidsT t:=by
 cases t with
 | nil=>rfl
 | leaf q v=>rfl
 | stub r=>rfl
 | ext q s =>
  have hs:isNil s=false:=by
   have:=g.2.2.2.1;cases s with
   | nil=>exact absurd rfl (isBr_ne this)
   | _=>rfl
  show List.filter _ [s]=[s]
  rw [List.filter_cons_of_pos (by rw [hs]; rfl)];rfl
 | br ks =>
  show List.filter _ ((List.finRange 16).map ks)=(kidsOf ks).map ks;rw [List.filter_map];rfl
def OpenR (M:Mp) (w:World) (t:T) (e:Ending) (w':World):Prop:=∃ a n c ka kc ps,e = .returned (.tuple #[.agg (ndC (nodeT t) a n c),.slice ka ps.length kc])∧RowV w.heap.size w' (.slice ka ps.length kc) ps∧BsF w.heap.size w' a n c (nodeT t).p∧Ptrs w' ka ps.length kc ps∧Are M ps (kidsT t) ∧
 (∀ ad,ka=some ad→w.heap.size≤ad.block)∧Fr M M w w'∧Inv M w'∧Tab w'
theorem RowV.late {B B':Nat} {w w':World} {v:Value} {ps:List (Option Addr)} {g:Nat} (h:RowV B w v ps) (hB:B'≤B) (hu:Rg.Upd w g w') (hg:g<B):RowV B' w' v ps:=by
 rcases h with h | ⟨k,cap,e,hk,hR⟩
 ·exact .inl h
 ·exact .inr ⟨k,cap,e,Nat.le_trans hB hk,hR.upd hu (by omega)⟩
theorem open_nil (M:Mp) (w:World) (hi:Inv M w) (hT:Tab w):Calls Tryz.prog 25 #[tv none] w (OpenR M w .nil):=by
 obtain ⟨w2,hw2,hO0,hO1,hb2,hs2⟩:=enterT w none;have HE:=hid (empty_any none w2);have HO:=hid hO0;have HO1:=hid hO1;have HB:=hid hb2;have HI:=hid hi;have HT:=hid hT;clear hO0 hO1 hb2 hi hT;subst hw2;have hgo:Calls Tryz.prog 25 #[.agg #[.pointer none]] w (OpenR M w .nil):=by
  go_enter Tryz.func25,Tryz.ntmps25;go_wp2_with (first
   | (refine Rg.run rfl _ _ (run_alloc_nd _ _ _ (w.heap.size+1) (by simp) rfl) ?_)
   | (refine Rg.run rfl _ _ (op_load_tree (own_cell (j:=0) HO.out rfl) ⟨_,rfl,rfl⟩) ?_))
  refine HE.out.mono ?_;rintro e w3 ⟨rfl,hb3⟩;have HB3:=hid (bst HB.out hb3);have HO3:=hid (HO1.out.below hb3);clear hb3 HE;go_wp2_with (first
   | (refine Rg.run rfl _ _ (op_build built0 ?_) ?_; · exact ⟨_,rfl,rfl⟩)
   | (refine wpl_store_nd HO3.out rfl nd0 none 0 0 rfl rfl _ _ rfl rfl rfl rfl ?_))
  have HBe:=hid (below_rowN HB3.out (show w.heap.size≤w.heap.size+1 by omega) (ndC nd0 none 0 0));exact bodyPost_ret (res_nd1 (p:=2) (u:=3) rfl _ rfl (own_rowN HO3.out) rfl) rfl ⟨none,0,0,none,0,[],rfl,.inl ⟨rfl,rfl⟩,BsF.nil _ _,⟨Nat.le_refl _,Nat.zero_le _,rfl,fun _=>rfl,fun _ h=>absurd h (Nat.not_lt_zero _)⟩,Are.nil M,fun _ e=>(by cases e),Fr.below M HBe.out,HI.out.below HBe.out,HT.out.below HBe.out HT.out.pos⟩
 exact hgo
theorem top_all (M:Mp) (b:Nat) (t:T) (hm:M.at_ b=some t) (hn:t ≠ .nil) {L:Nat} (g:Tr.Good t L) (hL:L≤64) (w:World) (hi:InvN M (sz t) w) {pa:Option Addr} {pn pc:Nat} {ka:Option Addr} {kn kc:Nat} (hB:Body M w b t pa pn pc ka kn kc) (hT:Tab w)
  (hR1:∀ q s,t = .ext q s→RefC s) (hR2:∀ ks,t = .br ks→∀ i,RefC (ks i)) :
  Calls Tryz.prog 48 #[.agg #[.pointer (some ⟨b,0,none⟩)]] w (TopPost M t w):=by
 by_cases hs:IsStub t
 ·obtain ⟨r,rfl⟩:∃ r,t = .stub r:=by
   cases t with
   | stub r=>exact ⟨r,rfl⟩
   | _=>exact hs.elim
  refine (top_none (some ⟨b,0,none⟩) (-1) (by decide) (by decide) (by decide) w (fun wx hbx=>kind_cell b (-1) wx (cell_on hbx hB.c0))).mono ?_;rintro e w' ⟨rfl,hb⟩;exact ⟨none,0,0,rfl,BsF.nil _ _,FrN.below M _ hb,hi.below hb⟩
 ·exact top_any M b t hm hs hn g hL w hi hB hT hR1 hR2
theorem open_all (M:Mp) (p:Option Addr) (t:T) (L:Nat) (g:Tr.Good t L) (hL:L≤64) (f:Fine t) (w:World) (hi:Inv M w) (ht:IsT M p t) (hT:Tab w) :
  Calls Tryz.prog 25 #[tv p] w (OpenR M w t):=by
 by_cases hne:t = .nil
 ·subst hne;have:p=none:=ht.nil_iff.2 rfl;subst this;exact open_nil M w hi hT
 obtain ⟨b,rfl,hm⟩:=ht.at_ hne;obtain ⟨pa,pn,pc,ka,kn,kc,hB⟩:=(hi.part hm).body;obtain ⟨w2,hw2,hO0,hO1,hb2,hs2⟩:=enterT w (some ⟨b,0,none⟩);have hlb:=hi.lt hm;have hB2:=hB.below hb2;have hi2:=hi.below hb2;have hT2:=hT.below hb2 hT.pos;have hkn:kn≤16:=by
  rw [← hB.hk.len];cases t with
  | br ks=>rw [show partsT (.br ks)=(List.finRange 16).map ks from rfl]; simp
  | ext q s=>show 1≤16; omega
  | _=>exact Nat.zero_le _
 have HE:Hid (∀ w3,Below w2.heap.size w2 w3→(w3.cell? ⟨w.heap.size,0,none⟩=some (.pointer (some ⟨b,0,none⟩))∧w3.cell? ⟨b,3,none⟩=some (.slice ka kn kc)) ∧
   Calls Tryz.prog 48 #[.agg #[.pointer (some ⟨b,0,none⟩)]] w3.drew (TopPost M t w3.drew) ∧
   ∀ w6 a6 n6 c6,BsF w3.heap.size w6 a6 n6 c6 (nodeT t).p→FrN M (sz t) w3.drew w6→InvN M (sz t) w6→(w6.cell? ⟨w.heap.size,0,none⟩=some (.pointer (some ⟨b,0,none⟩))∧w6.cell? ⟨b,3,none⟩=some (.slice ka kn kc)) ∧
   ∃ ps,(Calls Tryz.prog 50 #[.slice ka kn kc] w6 fun e w'=>∃ v,e = .returned v∧RowV w6.heap.size w' v ps∧Below w6.heap.size w6 w') ∧
   ∀ w7 v7,RowV w6.heap.size w7 v7 ps→Below w6.heap.size w6 w7→(w7.cell? ⟨w.heap.size,0,none⟩=some (.pointer (some ⟨b,0,none⟩))∧w7.cell? ⟨b,3,none⟩=some (.slice ka kn kc)) ∧
   (Calls Tryz.prog 49 #[v7,.func (Fn.func 34) #[] #[]] w7 fun e w'=>∃ v',e = .returned v'∧RowV w6.heap.size w' v' (keepP ps)∧Below w6.heap.size w7 w') ∧
   ∀ w8 v8,RowV w6.heap.size w8 v8 (keepP ps)→Below w6.heap.size w7 w8→(w8.cell? ⟨w.heap.size,0,none⟩=some (.pointer (some ⟨b,0,none⟩))∧w8.cell? ⟨b,3,none⟩=some (.slice ka kn kc))∧OwnN w8 (w.heap.size+1) nd0 none 0 0 ∧
   ∀ w9,Rg.Upd w8 (w.heap.size+1) w9→(w9.cell? ⟨w.heap.size,0,none⟩=some (.pointer (some ⟨b,0,none⟩))∧w9.cell? ⟨b,3,none⟩=some (.slice ka kn kc))∧OpenR M w t (.returned (.tuple #[.agg (ndC (nodeT t) a6 n6 c6),v8])) w9):=hid (fun w3 hb3=>by
  have hb3':Below w2.heap.size w2 w3.drew:=below_drewN hb3 1;have hi3:=hi2.below hb3';have hB3:=hB2.below hb3';have hO03:=hO0.below hb3';have hO13:=hO1.below hb3';have hT3:=hT2.below hb3' hT2.pos;have hg0:M.at_ w.heap.size=none:=hi.out (Nat.le_refl _);have hg1:M.at_ (w.heap.size+1)=none:=hi.out (by omega);have hs3:=hb3'.size;refine ⟨⟨own_cell (j:=0) hO03 rfl,hB3.c3⟩,top_all M b t hm hne g hL w3.drew (hi3.toN _) hB3 hT3 (fun q s e=>by
   subst e;exact ref_any s _ g.2.2.2.2 (by have:=g.2.2.1; omega) f) (fun ks e i=>by
   subst e;exact ref_any (ks i) _ (g.2.2 i) (by omega) (f i)),fun w6 a6 n6 c6 hp6 hf6 hi6=>?_⟩
  have hO06:=own_frN hO03 hf6 hg0;have hO16:=own_frN hO13 hf6 hg1;have hB6:=hB3.frN (hi3.toN (sz t)) hf6 hm (Nat.le_refl _);have hI6:=hi3.after hf6 hi6;have hT6:=tab_frN (hi3.toN (sz t)) hf6 hT3;obtain ⟨ps,hps,har⟩:=hB6.hk.ptrs;have hpl:ps.length=kn:=hps.2.2.1;have hs6:=hf6.size;refine ⟨⟨own_cell (j:=0) hO06 rfl,hB6.c3⟩,ps,clone_any ka kn kc ps w6 hps (by omega),fun w7 v7 hv7 hb7=>?_⟩;have hO07:=hO06.below hb7;have hc37:=cell_on hb7 hB6.c3;refine ⟨⟨own_cell (j:=0) hO07 rfl,hc37⟩,delete_any ps v7 w7 hv7 hb7.size (by omega),fun w8 v8 hv8 hb8=>?_⟩
  have hb68:Below w6.heap.size w6 w8:=hb7.trans hb8;have hO08:=hO06.below hb68;have hO18:=hO16.below hb68;have hc38:=cell_on hb68 hB6.c3;refine ⟨⟨own_cell (j:=0) hO08 rfl,hc38⟩,hO18,fun w9 hu9=>?_⟩;have hne1:w.heap.size≠w.heap.size+1:=by omega
  have hI8:=hI6.below hb68;have hnf:¬ M.ft (w.heap.size+1):=hi.free (by omega);have hrow:=hv8;obtain ⟨k8,kc8,rfl,hP8,hk8⟩:=hv8.ptrs;have hs8:=hb68.size;have h06:w.heap.size+1<w6.heap.size:=hO16.1;have hT8:=hT6.below hb68 hT6.pos;have hk9:∀ ad,k8=some ad→ad.block≠w.heap.size+1:=fun ad e=>by have:=hk8 ad e; omega
  refine ⟨⟨own_cell (j:=0) (hO08.upd hu9 hne1) rfl,by rw [World.cell?_of_block (hu9.block b (by omega))]; exact hc38⟩,a6,n6,c6,k8,kc8,keepP ps,rfl,hrow.late (by omega) hu9 (by omega),⟨isBs_upd (hp6.1.below hb68) (no_byte hO18 (nd_no _ _ _ _)) hu9,fun ad e=>Nat.le_trans (Nat.le_trans hb2.size hb3.size) (hp6.2 ad e)⟩,hP8.upd hu9 hk9,by rw [← kids_parts g]; exact har.keep,fun ad e=>by have:=hk8 ad e; omega,?_,hI8.upd hu9 hnf,fun i hi=>by rw [World.cell?_of_block (hu9.block 1 (by have:=hT.pos; omega))]; exact hT8 i hi⟩
  exact ((((Fr.below M hb2).trans hi (Fr.below M hb3')).trans hi hf6.fr).trans hi (Fr.below M hb68)).upd hu9 (by omega))
 have HL:=hid (nodeT_length t);obtain ⟨N,hN⟩:∃ N,nodeT t=N:=⟨_,rfl⟩
 rw [hN] at HL HE;have HN:=hid hN;have HO0:=hid hO0;have HEm:=hid (empty_any (some ⟨b,0,none⟩) w2);have HW:Hid (_=_):=hid hw2;clear hO0 hO1 hb2 hB hB2 hi2 hT2 hi hT hm hN g f hne ht hkn hw2;have hgo:Calls Tryz.prog 25 #[.agg #[.pointer (some ⟨b,0,none⟩)]] w (OpenR M w t):=by
  have HO0':=HO0;rw [HW.out] at HO0';go_enter Tryz.func25,Tryz.ntmps25;go_wp2_with (first
   | (refine Rg.run rfl _ _ (run_alloc_nd _ _ _ (w.heap.size+1) (by simp) rfl) ?_)
   | (refine Rg.run rfl _ _ (op_load_tree (own_cell (j:=0) HO0'.out rfl) ⟨_,rfl,rfl⟩) ?_))
  rw [← HW.out];refine HEm.out.mono ?_;rintro e w3 ⟨rfl,hb3⟩;obtain ⟨hS0,HTop,HF⟩:=HE.out w3 hb3;replace HTop:=hid HTop;replace HF:=hid HF;clear hb3 HE HW HO0 HO0' HEm;go_wp2_with fail
  refine wp_region_noPanic ?_;refine wp_region_held_drew (S:=fun w'=>w'.cell? ⟨w.heap.size,0,none⟩=some (.pointer (some ⟨b,0,none⟩))∧w'.cell? ⟨b,3,none⟩=some (.slice ka kn kc)) (by kernel_rfl) (hS0) (fun hld=>?_);refine Rg.tk (i:=0) rfl ?_ (hy:=by intro wz hSw; (refine op_load_tree hSw.1 ?_; exact ⟨_,rfl,rfl⟩));try simp only [Act.put,Rg.s]
  refine Rg.tk (i:=2) rfl ?_;try simp only [Act.put,Rg.s]
  refine Rg.tk (i:=3) rfl ?_ (hy:=by intro wz hSw; (obtain ⟨hcc,hcd⟩:=hSw; go_simp <;> with_reducible rfl));try simp only [Act.put,Rg.s]
  refine Rg.tk (i:=4) rfl ?_;try simp only [Act.put,Rg.s]
  refine Rg.tk (i:=5) rfl ?_;try simp only [Act.put,Rg.s]
  refine Rg.tk (i:=6) rfl ?_ (hy:=by intro wz hSw; (obtain ⟨hcc,hcd⟩:=hSw; go_simp <;> with_reducible rfl));try simp only [Act.put,Rg.s]
  refine Rg.rd (i:=1) rfl fun K hK=>?_;go_simp;go_at_call 48
  (with_reducible refine HTop.out.mono ?_)
  rintro e w6 ⟨a6,n6,c6,rfl,hp6,hf6,hi6⟩;rw [HN.out] at hp6 ⊢;obtain ⟨hS6,hH6⟩:=HF.out w6 a6 n6 c6 hp6 hf6 hi6;have H6:=hid hH6;clear hp6 hf6 hi6 hH6;refine hK.out _ _ ?_ (fun hld=>?_)
  ·exact hS6
  clear hK K;try simp only [Act.put,Rg.s]
  refine Rg.rd (i:=7) rfl fun K hK=>?_;go_simp;go_at_call 50
  obtain ⟨ps,hCl,hD7⟩:=H6.out;have HD7:=hid hD7
  (with_reducible refine hCl.mono ?_)
  rintro e w7 ⟨v7,rfl,hv7,hb7⟩;obtain ⟨hS7,hDel,hF7⟩:=HD7.out w7 v7 hv7 hb7;have H7:=hid hF7;have HDe:=hid hDel;clear hv7 hb7 hDel hF7 hD7 hCl;refine hK.out _ _ ?_ (fun hld=>?_)
  ·exact hS7
  clear hK K;try simp only [Act.put,Rg.s]
  refine Rg.rd (i:=8) rfl fun K hK=>?_;go_simp;go_at_call 49
  (with_reducible refine HDe.out.mono ?_)
  rintro e w8 ⟨v8,rfl,hv8,hb8⟩;obtain ⟨hS8,hO8,hF8⟩:=H7.out w8 v8 hv8 hb8;have H8:=hid hF8;have HO8:=hid hO8;clear hv8 hb8 hF8 hO8;refine hK.out _ _ ?_ (fun hld=>?_)
  ·exact hS8
  clear hK K;try simp only [Act.put,Rg.s]
  refine Rg.rd (i:=9) rfl fun K hK=>?_;refine Rg.meetStore (by rfl) HO8.out 56 (ndC N a6 n6 c6) ⟨_,_,rfl,rfl,rfl⟩ (info_ndC _ _ _ _ HL.out) (by rw [ndC_size _ _ _ _ zks_length,ndC_size _ _ _ _ HL.out]) (ndC_one _ _ _ _) ?_;intro w9 hO9 hu9;have HO9:=hid hO9;obtain ⟨hS9,hP9⟩:=H8.out w9 hu9;have H9:=hid hP9;clear hO9 hu9 hP9;refine hK.out _ _ ?_ (fun hld=>?_)
  ·exact hS9
  clear hK K;try simp only [Act.put,Rg.s]
  refine Rg.tk (i:=10) rfl ?_;try simp only [Act.put,Rg.s]
  refine wpAnyH_done (by kernel_rfl) ?_ _;refine NoPanic.normal ?_;go_wp2;exact bodyPost_ret (res_nd1 (p:=2) (u:=3) rfl _ rfl HO9.out HL.out) rfl H9.out
 exact hgo
end Tm
end
section
open Go.RowKit
namespace Tm
open Tr Ni Pk
theorem split_any (M:Mp) (b:Nat) (t:T) (hm:M.at_ b=some t) (k:Nat) (A:T) (hkl:k<(pathT t).length) (hk64:(pathT t).length≤1000) (hn:Nib (pathT t)) (w:World) (hi:Inv M w)
  (hcut:∀ wx M',Inv M' wx→M'.at_ b=some t→Calls Tryz.prog 151 #[.agg #[.pointer (some ⟨b,0,none⟩)],.int .i64 (k+1:Nat)] wx (GotT M' wx A))
  (wa:Option Addr) (wn wc:Nat) (way:Pa) (v:ByteArray) (hW:Bs M w wa wn wc way) (hkw:k<way.length) (hwn:Nib way) (hw64:way.length≤1000) (hne:(pathT t).getD k 0≠way.getD k 0) :
  Calls Tryz.prog 122 #[.agg #[.pointer (some ⟨b,0,none⟩)],.int .i64 k,.slice wa wn wc,.string v] w (GotT M w (wrap (way.take k) (two (nb ((pathT t).getD k 0)) (nb (way.getD k 0)) A (.leaf (way.drop (k+1)) v)))):=by
 obtain ⟨w2,hw2,hO0,hO1,hb2,hs2⟩:=enter2 w (some ⟨b,0,none⟩);have hi2:=hi.below hb2;have hS2:St M w M w2:=⟨Fr.below M hb2,hi2,hb2,hi⟩
 have hX2:Bx M w2 (w.heap.size+1) #[.pointer none] 28:=⟨hO1,hi.free (by omega),one_no _⟩
 obtain ⟨pa,pn,pc,c1,hP⟩:=hi2.path hm;have hpn:(pathT t).length=pn:=hP.1.len;have hwl:way.length=wn:=hW.1.len;rw [hpn] at hkl hk64;rw [hwl] at hkw hw64;obtain ⟨pb,po,rfl,_,cx⟩:=hP.1.at' k hkl;have hW2:=hW.fr hi (Fr.below M hb2);obtain ⟨wb,wo,rfl,_,cy⟩:=hW2.1.at' k hkw;have hx:((pathT t).getD k 0).toNat<16:=by
  have:=hn ((pathT t).getD k 0) (by rw [List.getD_eq_getElem?_getD,List.getElem?_eq_getElem (by omega)]; exact List.getElem_mem _);exact this
 have hy:(way.getD k 0).toNat<16:=by
  have:=hwn (way.getD k 0) (by rw [List.getD_eq_getElem?_getD,List.getElem?_eq_getElem (by omega)]; exact List.getElem_mem _);exact this
 have hnx:((nb ((pathT t).getD k 0)).val:Nat)=((pathT t).getD k 0).toNat:=Nat.mod_eq_of_lt hx;have hny:((nb (way.getD k 0)).val:Nat)=(way.getD k 0).toNat:=Nat.mod_eq_of_lt hy;have hnn:nb ((pathT t).getD k 0)≠nb (way.getD k 0):=fun e=>hne (nb_inj hx hy e);obtain ⟨X,hX⟩:∃ X,nb ((pathT t).getD k 0)=X:=⟨_,rfl⟩
 obtain ⟨Y,hY⟩:∃ Y,nb (way.getD k 0)=Y:=⟨_,rfl⟩
 rw [hX] at hnx hnn ⊢;rw [hY] at hny hnn ⊢;obtain ⟨x,hxe⟩:∃ x,((pathT t).getD k 0).toNat=x:=⟨_,rfl⟩
 obtain ⟨y,hye⟩:∃ y,(way.getD k 0).toNat=y:=⟨_,rfl⟩
 rw [hxe] at hx cx hnx;rw [hye] at hy cy hny;obtain ⟨w3,hw3⟩:∃ w3,w3=w2.alloc (.cells (rowT nils) 28):=⟨_,rfl⟩
 have hb3:Below w2.heap.size w2 w3:=by rw [hw3]; exact al1 _ _
 have hR3:Rx M w3 w2.heap.size nils:=⟨by rw [hw3]; exact Rg.Own.new _ _ _,hi2.free (Nat.le_refl _),by rw [nils_length]; simp [maxLen]⟩
 have hxi:(x:Int)<16:=by omega
 have hyi:(y:Int)<16:=by omega
 have hpcap:=hP.1.1;have hpm:=hP.1.2.1;have hwcap:=hW.1.1;have hwm:=hW.1.2.1;unfold maxLen at hpm hwm;have HAdd:Hid (IntKind.i64.wrap ((k:Int)+1)=((k+1:Nat):Int)):=hid (by simp only [IntKind.wrap_i64,wrap64]; omega);have HCut:Hid (∀ wx,Below w2.heap.size w2 wx→Calls Tryz.prog 151 #[.agg #[.pointer (some ⟨b,0,none⟩)],.int .i64 ((k:Int)+1)] wx (GotT M wx A)):=hid (fun wx hb=>hcut wx M (hi2.below hb) hm);obtain ⟨g,hg⟩:∃ g,w2.heap.size=g:=⟨_,rfl⟩
 rw [hg] at hR3;have HG4:Hid (∀ wx e w4,Below w3.heap.size w3 wx→Below w2.heap.size w2 wx→GotT M wx A e w4→∃ p4 M4,e = .returned (tv p4)∧Below w2.heap.size w2 w4∧Rx M4 w4 g nils ∧
   ∀ w5,Rx M4 w5 g (nils.set x p4)→Rg.Upd w4 g w5→Below w2.heap.size w2 w5∧Calls Tryz.prog 98 #[.slice (fromA (some ⟨wb,wo,none⟩) wc (k+1)) (wn-(k+1)) (wc-(k+1)),.string v] w5.drew (GotT M4 w5.drew (.leaf (way.drop (k+1)) v)) ∧
   ∀ e w6,GotT M4 w5.drew (.leaf (way.drop (k+1)) v) e w6→∃ p6 M6,e = .returned (tv p6)∧Below w2.heap.size w2 w6∧Rx M6 w6 g (nils.set x p4) ∧
   ∀ w7,Rx M6 w7 g ((nils.set x p4).set y p6)→Rg.Upd w6 g w7→∃ M7,Below w2.heap.size w2 w7∧Calls Tryz.prog 120 #[.slice (some ⟨g,0,none⟩) 16 16] w7.drew (GotT M7 w7.drew (two X Y A (.leaf (way.drop (k+1)) v))) ∧
   ∀ e w8,GotT M7 w7.drew (two X Y A (.leaf (way.drop (k+1)) v)) e w8→∃ p8 M8,e = .returned (tv p8)∧Below w2.heap.size w2 w8∧Calls Tryz.prog 123 #[.slice (some ⟨wb,wo,none⟩) k wc,.agg #[.pointer p8]] w8 (GotT M8 w8 (wrap (way.take k) (two X Y A (.leaf (way.drop (k+1)) v)))) ∧
   ∀ e w9,GotT M8 w8 (wrap (way.take k) (two X Y A (.leaf (way.drop (k+1)) v))) e w9→∃ p9,e = .returned (tv p9)∧Below w2.heap.size w2 w9∧Rg.Own w9 (w.heap.size+1) #[.pointer none] 28 ∧
   ∀ w10,Rg.Upd w9 (w.heap.size+1) w10→Below w.heap.size w w10∧GotT M w (wrap (way.take k) (two X Y A (.leaf (way.drop (k+1)) v))) (.returned (tv p9)) w10):=hid (by
  intro wx e w4 h3x h2x hG;have hsx:St M w M wx:=hS2.below h2x;obtain ⟨p4,M4,rfl,hT4,hS4,hf4,hb4⟩:=hsx.got hG;have hR4:=(hR3.below h3x).got hf4 hb4;have hX4:=(hX2.below h2x).got hf4 hb4;have hb24:=bst h2x hb4;refine ⟨p4,M4,rfl,hb24,hR4,fun w5 hR5 hu5=>?_⟩;have hlo:w.heap.size≤g:=by omega
  have hS5:St M w M4 w5:=hS4.upd hu5 hlo hR4.n;have hX5:=hX4.upd hu5 (by omega);have hb25:=hu5.below hb24 (by omega);have hW5:Bs M4 w5 (some ⟨wb,wo,none⟩) wn wc way:=hW.fr hi hS5.f;have hS5':=hS5.below (below_drewN (Below.refl _ _) 1);refine ⟨hb25,leaf_any M4 _ _ _ _ _ _ hS5'.i (hW.fr hi hS5'.f |>.from' (k+1) (by omega)),fun e w6 hG6=>?_⟩;obtain ⟨p6,M6,rfl,hT6,hS6,hf6,hb6⟩:=hS5'.got hG6;have hR6:=(hR5.below (below_drewN (Below.refl _ _) 1)).got hf6 hb6;have hX6:=(hX5.below (below_drewN (Below.refl _ _) 1)).got hf6 hb6
  have hb26:Below w2.heap.size w2 w6:=bst (hb25.drew) hb6;refine ⟨p6,M6,rfl,hb26,hR6,fun w7 hR7 hu7=>?_⟩;have hS7:St M w M6 w7:=hS6.upd hu7 hlo hR6.n;have hX7:=hX6.upd hu7 (by omega);have hb27:=hu7.below hb26 (by omega);have hS7':=(hS7.below (below_drewN (Below.refl _ _) 1)).plus (S:=fun k=>k=g) (fun k hk=>⟨Or.inl (by omega),by rw [hk]; exact hR7.o.1⟩);have hAre:Are M6 ((nils.set x p4).set y p6) (((List.replicate 16 T.nil).set x A).set y (.leaf (way.drop (k+1)) v)):=((are_nils M6).set x (hT4.mono hf6.mono)).set y hT6
  rw [← hnx,← hny,two_set X Y _ _ hnn] at hAre;have hK7:=(hR7.below (below_drewN (Below.refl _ _) 1)).ks (by rw [← hnx,← hny]; exact hAre);have hlen:((nils.set x p4).set y p6).length=16:=by simp [nils_length]
  rw [hlen] at hK7;have hX7':=(hX7.below (below_drewN (Below.refl w7.heap.size w7) 1)).plus (S:=fun k=>k=g) (by omega);refine ⟨_,hb27,branch_any _ _ _ _ _ _ hS7'.i hK7,fun e w8 hG8=>?_⟩;obtain ⟨p8,M8,rfl,hT8,hS8,hf8,hb8⟩:=hS7'.got hG8;have hX8:=hX7'.got hf8 hb8;have hb28:Below w2.heap.size w2 w8:=bst (hb27.drew) hb8;refine ⟨p8,M8,rfl,hb28,behind_any M8 _ _ _ _ _ _ w8 hS8.i ((hW.fr hi hS8.f).upto k (by omega)) hT8,fun e w9 hG9=>?_⟩;obtain ⟨p9,M9,rfl,hT9,hS9,hf9,hb9⟩:=hS8.got hG9;have hX9:=hX8.got hf9 hb9
  refine ⟨p9,rfl,bst hb28 hb9,hX9.o,fun w10 hu=>?_⟩;have hS10:=hS9.upd hu (by omega) hX9.n;exact ⟨hS10.b,p9,M9,rfl,hT9,hS10.f,hS10.i,hS10.b⟩)
 have h0:=own_cell (j:=0) hO0 rfl;have hkp:k<pn:=hkl;have hkc:k≤wc:=by omega
 have hk1w:k+1≤wn:=by omega
 have HB3:=hid hb3;obtain ⟨RR,hRR⟩:∃ RR,wrap (way.take k) (two X Y A (.leaf (way.drop (k+1)) v))=RR:=⟨_,rfl⟩
 rw [hRR] at HG4 ⊢;have hs2':w2.heap.size=w.heap.size+2:=hs2;have hO0':=hO0;clear hO0 hO1 hb2 hs2 hi hi2 hP hW hW2 hS2 hX2 hcut hm hn hwn hne hnx hny hnn hX hY hxe hye hR3 hb3 hRR hpn hwl;obtain rfl:g=w.heap.size+2:=by omega
 have HG4':=hid (fun e w4 (h:Below w2.heap.size w2 w3.drew)=>HG4.out w3.drew e w4 (below_drewN (Below.refl _ _) 1) h);have HW2:Hid (_=_):=hid hw2;have HW3:Hid (_=_):=hid hw3;have HO2:Hid (Rg.Own w2 w.heap.size #[.pointer (some ⟨b,0,none⟩)] 28):=hid hO0';clear HG4 hw2 hw3 hO0';go_enter Tryz.func122,Tryz.ntmps122;go_wp2_with (first
  | (refine Rg.run rfl _ _ (run_alloc_tree _ _ _ (w.heap.size+1) (by simp) rfl) ?_)
  | (refine Rg.run rfl _ _ (op_make16 (w.heap.size+2) (by simp) ⟨_,_,rfl,rfl,rfl⟩) ?_))
 rw [← HW2.out,← HW3.out];refine wp_region_noPanic ?_;refine wp_region_held_drew (S:=fun w'=>Below w2.heap.size w2 w') (by kernel_rfl) (HB3.out.drew) (fun hld=>?_);refine Rg.tk (i:=0) rfl ?_;try simp only [Act.put,Rg.s]
 refine Rg.tk (i:=1) rfl ?_;try simp only [Act.put,Rg.s]
 refine Rg.tk (i:=2) rfl ?_ (hy:=by intro wz hSw; have hcc:=cell_on hSw h0; (try dsimp only at hSw); go_simp <;> with_reducible rfl);try simp only [Act.put,Rg.s]
 refine Rg.tk (i:=3) rfl ?_;try simp only [Act.put,Rg.s]
 refine Rg.tk (i:=4) rfl ?_;try simp only [Act.put,Rg.s]
 refine Rg.tk (i:=5) rfl ?_ (hy:=by intro wz hSw; have hcc:=cell_on hSw c1; (try dsimp only at hSw); go_simp <;> with_reducible rfl);try simp only [Act.put,Rg.s]
 refine Rg.tk (i:=6) rfl ?_;try simp only [Act.put,Rg.s]
 refine Rg.tk (i:=7) rfl ?_;try simp only [Act.put,Rg.s]
 refine Rg.tk (i:=8) rfl ?_ (hy:=by intro wz hSw; have hcc:=cell_on hSw cx; (try dsimp only at hSw); go_simp <;> with_reducible rfl);try simp only [Act.put,Rg.s]
 refine Rg.tk (i:=9) rfl ?_ (hy:=by intro wz hSw; (refine op_load_tree (cell_on hSw h0) ?_; exact ⟨_,rfl,rfl⟩));try simp only [Act.put,Rg.s]
 refine Rg.tk (i:=10) rfl ?_;try simp only [Act.put,Rg.s]
 refine Rg.tk (i:=11) rfl ?_ (hy:=by intro wz hSw; (have q0:=HAdd.out; go_simp <;> with_reducible rfl));try simp only [Act.put,Rg.s]
 refine Rg.rd (i:=12) rfl fun K hK=>?_;go_simp;go_at_call 151
 (with_reducible refine (HCut.out _ hld).mono ?_)
 intro e w4 hG;obtain ⟨p4,M4,rfl,H4⟩:=HG4'.out e w4 hld hG;replace H4:=hid H4;clear hG;have hB4:=H4.out.1;refine hK.out _ _ ?_ (fun hld=>?_)
 ·exact hB4
 clear hK K;try simp only [Act.put,Rg.s]
 refine Rg.tk (i:=13) rfl ?_;try simp only [Act.put,Rg.s]
 refine Rg.rd (i:=14) rfl fun K hK=>?_;refine meet_store_rx (by rfl) H4.out.2.1 (i:=x) (by simpa [nils_length] using hx) p4 ⟨_,_,rfl,rfl,rfl⟩ ?_;intro w5 hR5 hu5;have H5:=hid (H4.out.2.2 w5 hR5 hu5);clear hR5 hu5;refine hK.out _ _ ?_ (fun hld=>?_)
 ·exact H5.out.1
 clear hK K;try simp only [Act.put,Rg.s]
 refine wpAnyH_done (by kernel_rfl) ?_ _;refine NoPanic.normal ?_;go_wp2_with fail
 refine wp_region_noPanic ?_;refine wp_region_held_drew (S:=fun w'=>Below w2.heap.size w2 w') (by kernel_rfl) (H5.out.1.drew) (fun hld=>?_);refine Rg.tk (i:=0) rfl ?_;try simp only [Act.put,Rg.s]
 refine Rg.tk (i:=1) rfl ?_;try simp only [Act.put,Rg.s]
 refine Rg.tk (i:=2) rfl ?_;try simp only [Act.put,Rg.s]
 refine Rg.tk (i:=3) rfl ?_;try simp only [Act.put,Rg.s]
 refine Rg.tk (i:=4) rfl ?_ (hy:=by intro wz hSw; have hcc:=cell_on hSw cy; (try dsimp only at hSw); go_simp <;> with_reducible rfl);try simp only [Act.put,Rg.s]
 refine Rg.tk (i:=5) rfl ?_;try simp only [Act.put,Rg.s]
 refine Rg.tk (i:=6) rfl ?_;try simp only [Act.put,Rg.s]
 refine Rg.tk (i:=7) rfl ?_ (hy:=by intro wz hSw; (have q0:=HAdd.out; go_simp <;> with_reducible rfl));try simp only [Act.put,Rg.s]
 refine Rg.tk (i:=8) rfl ?_ (hy:=by intro wz hSw; (refine op_from (a:=some ⟨wb,wo,none⟩) (n:=wn) (c:=wc) (i:=k+1) under_u8 size_u8 hk1w ?_; exact ⟨_,_,rfl,rfl,rfl⟩));try simp only [Act.put,Rg.s]
 refine Rg.tk (i:=9) rfl ?_;try simp only [Act.put,Rg.s]
 refine Rg.rd (i:=10) rfl fun K hK=>?_;go_simp;go_at_call 98
 (with_reducible refine (H5.out.2.1).mono ?_)
 intro e w6 hG;obtain ⟨p6,M6,rfl,H6⟩:=H5.out.2.2 e w6 hG;replace H6:=hid H6;clear hG;have hB6:=H6.out.1;refine hK.out _ _ ?_ (fun hld=>?_)
 ·exact hB6
 clear hK K;try simp only [Act.put,Rg.s]
 refine Rg.tk (i:=11) rfl ?_;try simp only [Act.put,Rg.s]
 refine Rg.rd (i:=12) rfl fun K hK=>?_;refine meet_store_rx (by rfl) H6.out.2.1 (i:=y) (by simpa [nils_length] using hy) p6 ⟨_,_,rfl,rfl,rfl⟩ ?_;intro w7 hR7 hu7;obtain ⟨M7,H7⟩:=H6.out.2.2 w7 hR7 hu7;replace H7:=hid H7;clear hR7 hu7;refine hK.out _ _ ?_ (fun hld=>?_)
 ·exact H7.out.1
 clear hK K;try simp only [Act.put,Rg.s]
 refine wpAnyH_done (by kernel_rfl) ?_ _;refine NoPanic.normal ?_;go_wp2_with fail
 refine wp_region_noPanic ?_;refine wp_region_held_drew (S:=fun _=>True) (by kernel_rfl) (trivial) (fun hld=>?_);refine Rg.tk (i:=0) rfl ?_;try simp only [Act.put,Rg.s]
 refine Rg.tk (i:=1) rfl ?_;try simp only [Act.put,Rg.s]
 refine Rg.tk (i:=2) rfl ?_ (hy:=by intro wz hSw; (refine op_upto (a:=some ⟨wb,wo,none⟩) (n:=wn) (c:=wc) (j:=k) under_u8 size_u8 hkc ?_; exact ⟨_,_,rfl,rfl,rfl⟩));try simp only [Act.put,Rg.s]
 refine Rg.tk (i:=3) rfl ?_;try simp only [Act.put,Rg.s]
 refine Rg.rd (i:=4) rfl fun K hK=>?_;go_simp;go_at_call 120
 (with_reducible refine (H7.out.2.1).mono ?_)
 intro e w8 hG;obtain ⟨p8,M8,rfl,H8⟩:=H7.out.2.2 e w8 hG;replace H8:=hid H8;clear hG;have hB8:=H8.out.1;refine hK.out _ _ ?_ (fun hld=>?_)
 ·trivial
 clear hK K;try simp only [Act.put,Rg.s]
 refine Rg.rd (i:=5) rfl fun K hK=>?_;go_simp;go_at_call 123
 (with_reducible refine (H8.out.2.1).mono ?_)
 intro e w9 hG;obtain ⟨p9,rfl,H9⟩:=H8.out.2.2 e w9 hG;replace H9:=hid H9;clear hG;have hB9:=H9.out.1;refine hK.out _ _ ?_ (fun hld=>?_)
 ·trivial
 clear hK K;try simp only [Act.put,Rg.s]
 refine Rg.rd (i:=6) rfl fun K hK=>?_;refine meet_store_tree (by rfl) H9.out.2.1 (off:=0) (by decide) p9 ⟨_,_,rfl,rfl,rfl⟩ ?_;intro w10 hO10 hu10;have HO10:=hid hO10;have H10:=hid (H9.out.2.2 w10 hu10);clear hO10 hu10;refine hK.out _ _ ?_ (fun hld=>?_)
 ·trivial
 clear hK K;try simp only [Act.put,Rg.s]
 refine wpAnyH_done (by kernel_rfl) ?_ _;refine NoPanic.normal ?_;go_wp2;exact bodyPost_ret (res_tree rfl _ rfl HO10.out) rfl H10.out.2
end Tm
end
end Go.Proofs.YtnecijeakeklaaaGreatDoor
