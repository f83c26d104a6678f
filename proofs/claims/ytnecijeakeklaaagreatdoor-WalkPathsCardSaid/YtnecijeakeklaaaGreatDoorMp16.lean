/-
 Contracts of node.stand, node.item, node.Put.
-/
import Derived.Test.YtnecijeakeklaaaGreatDoorMp12
import Derived.Test.YtnecijeakeklaaaGreatDoorMp4
import Derived.Test.YtnecijeakeklaaaGreatDoorMp15
import Derived.Deep.MidRow
import Derived.Test.YtnecijeakeklaaaGreatDoorMp6
import Derived.Test.YtnecijeakeklaaaGreatDoorMp14
open Go.Lib (hid)
set_option linter.unusedSimpArgs false
set_option linter.unusedVariables false
set_option maxHeartbeats 40000000
set_option maxRecDepth 100000
namespace Go.Proofs.YtnecijeakeklaaaGreatDoor
section
open Go.RowKit
namespace No
open Rl Ni
theorem run_alloc_it (ev:Operand→Value) (o:Oper) (w:World) (b:Nat) (hb:b=w.heap.size) (ho:o.op = .alloc 168) :
  (execOp ev o).run Tryz.prog w = .ok (.value (.pointer (some ⟨b,0,none⟩))) (w.alloc (.cells (itC it0 none 0 0) 168)):=by
 subst hb;unfold execOp;rw [ho];kernel_rfl
theorem stand_any (k:ByteArray) (hk:k.size≤9223372036854775807) (w:World):Calls Tryz.prog 145 #[.string k] w (GotIt w (refI k)):=by
 obtain ⟨w2,hw2⟩:∃ w2,w2=w.alloc (.cells (itC it0 none 0 0) 168):=⟨_,rfl⟩
 have hO:Rg.Own w2 w.heap.size (itC it0 none 0 0) 168:=by rw [hw2]; exact Rg.Own.new _ _ _
 have HB2:Hid (Below w.heap.size w w2):=hid (by rw [hw2]; exact al1 _ _);have HO:=hid hO;have HP:=hid (plain_any k w2);cases hp:plainB k with
 | true =>
  rw [refI_plain hp];rw [hp] at HP;have HT:=hid (text_any k w2);clear hO hp;subst hw2;go_enter Tryz.func145,Tryz.ntmps145;go_wp2_with (refine Rg.run rfl _ _ (run_alloc_it _ _ _ w.heap.size rfl rfl) ?_)
  refine HP.out.mono ?_;rintro e w3 ⟨rfl,rfl⟩;go_wp2_with fail
  refine HT.out.mono ?_;rintro e w4 ⟨rfl,hb4⟩;have HO4:=hid (HO.out.below hb4);have HB4:=hid (bst HB2.out hb4);clear hb4;go_wp2_with (refine wpl_store_it HO4.out (.mk false k []) none 0 0 rfl _ _ rfl rfl rfl rfl ?_)
  exact bodyPost_ret (res_item rfl _ rfl (lies_row (own_rowI HO4.out).2)) rfl ⟨none,0,0,rfl,ItsIn.nil _ _,below_row HB4.out (Nat.le_refl _) _⟩
 | false =>
  rw [hp] at HP;have HR:Hid (refI k=match wholeL k.data.toList with | .ok x=>x | .error _=>it0):=hid (by unfold refI; rw [hp]; rfl);have HW:=hid (whole_any k hk w2);have hcases:Hid (∀ e w',WholePost w2 (wholeL k.data.toList) e w'→∃ (c:Int) (a:Option Addr) (nn cap:Nat),e = .returned (.tuple #[itV (refI k) a nn cap,.int .i64 c])∧ItsIn w2.heap.size w' (refI k).xs a nn cap∧Below w2.heap.size w2 w'):=hid (by
   intro e w' h;rw [HR.out];cases hw:wholeL k.data.toList with
   | error c =>
    rw [hw] at h;obtain ⟨rfl,hb⟩:=h;exact ⟨c,none,0,0,rfl,ItsIn.nil _ _,hb⟩
   | ok x =>
    rw [hw] at h;obtain ⟨a,nn,cap,rfl,hI,hb⟩:=h;exact ⟨0,a,nn,cap,rfl,hI,hb⟩)
  obtain ⟨x,hx⟩:∃ x,refI k=x:=⟨_,rfl⟩
  rw [hx] at hcases ⊢;clear hO hp HR hx;subst hw2;go_enter Tryz.func145,Tryz.ntmps145;go_wp2_with (refine Rg.run rfl _ _ (run_alloc_it _ _ _ w.heap.size rfl rfl) ?_)
  refine HP.out.mono ?_;rintro e w3 ⟨rfl,rfl⟩;go_wp2_with fail
  refine HW.out.mono ?_;intro e w4 hpost;obtain ⟨c,a,nn,cap,rfl,hI,hb4⟩:=hcases.out e w4 hpost;have HO4:=hid (HO.out.below hb4);have HB4:=hid (bst HB2.out hb4);have HI4:=hid hI;have HN4:Hid (Rg.Own (w4.alloc (.cells (itC it0 none 0 0) 168)) w4.heap.size (itC it0 none 0 0) 168):=hid (Rg.Own.new _ _ _);have HN5:=hid (own_rowI (cs':=itC x a nn cap) HN4.out);have hB5:Below w4.heap.size w4 ((w4.alloc (.cells (itC it0 none 0 0) 168)).setRow w4.heap.size (itC x a nn cap)):=below_row (al1 _ _) (Nat.le_refl _) _
  have HO5:=hid (HO4.out.below hB5);have HB5:=hid (bst HB4.out hB5);have HI5:=hid (HI4.out.stays hB5);clear hpost hI hb4 hcases HP HW hB5;go_wp2_with (first
   | (refine Rg.run rfl _ _ (run_alloc_it _ _ _ w4.heap.size rfl rfl) ?_)
   | (refine wpl_store_it HN4.out x a nn cap rfl _ _ rfl rfl rfl rfl ?_)
   | (refine Rg.run rfl _ _ (op_load_it HN5.out ?_) ?_; · exact ⟨_,rfl,rfl⟩)
   | (refine wpl_store_it HO5.out x a nn cap rfl _ _ rfl rfl rfl rfl ?_))
  exact bodyPost_ret (res_item rfl _ rfl (lies_row (own_rowI HO5.out).2)) rfl ⟨a,nn,cap,rfl,ItsIn.weak (ItsIn_row HI5.out (by simp) _) (by simp),below_row HB5.out (Nat.le_refl _) _⟩
theorem pack_any (a:Option Addr) (n c:Nat) (l:List UInt8) (leaf:Bool) (hn:n≤64) (hr:rightB l=true) (w:World) (h:IsBs w a n c l) :
  Calls Tryz.prog 147 #[.slice a n c,.bool leaf] w fun e w'=>e = .returned (.tuple #[.string ⟨(packL l leaf).toArray⟩,.int .i64 0])∧Below w.heap.size w w':=by
 by_cases h2:n%2=0
 ·exact pack_even a n c l leaf hn h2 hr w h
 ·cases a with
  | none =>
   obtain ⟨rfl,_,_⟩:=h.capNone;exact absurd rfl h2
  | some ad =>
   obtain ⟨b,off,e,_,_⟩:=h.at' 0 (by omega);obtain rfl:=Option.some.inj e;exact pack_odd b off n c l leaf hn (by omega) hr w h
theorem meetPair {o:Oper} {a:Act} {w:World} {K:Act→World→Prop} {Q:Exit→Act→World→Prop} {ops:Array Oper} {x y:It} {A D:Option Addr} {An Ac Dn Dc:Nat} (hw:Region.wanted o (yielded ops a.tmps)=true)
  (ho:∃ p q,o.op = .buildSlice 166 2 #[(0,p),(1,q)]∧a.eval p = .agg #[.bool x.l,.string x.s,.slice A An Ac]∧a.eval q = .agg #[.bool y.l,.string y.s,.slice D Dn Dc])
  (h:∀ w' b,Rg.Own w' b #[.bool x.l,.string x.s,.slice A An Ac,.bool y.l,.string y.s,.slice D Dn Dc] 168→Below w.heap.size w w'→K (a.put o.dst (.slice (some ⟨b,0,none⟩) 2 2)) w'):if Region.wanted o (yielded ops a.tmps)=true then Oper.wp Tryz.prog o a w K Q else K (a.put o.dst undef) w:=by
 obtain ⟨p,q,ho,hp,hq⟩:=ho;obtain ⟨i0,hi,hz,hs,hby⟩:=info_parts info_it_all;refine Rg.want hw (wp_buildSlice 166 168 2 _ ho #[.bool x.l,.string x.s,.slice A An Ac,.bool y.l,.string y.s,.slice D Dn Dc] i0 _ Tryz.underlying166 hi hz (by rw [hs]; decide) (by rw [hs]; decide) ?_ (h _ _ (Rg.Own.new _ _ _) (al1 _ _)));simp only [List.map_toArray,List.map_cons,List.map_nil,hp,hq,hs];kernel_rfl
def SI (w:World) (o:Nat) (v:Value) (w':World):Prop:=w'.cell? ⟨w.heap.size,o,none⟩=some v∧(∃ cs:Array Value,cs.size=3∧Rg.Own w' (w.heap.size+1) cs 168)∧Below w.heap.size w w'
theorem SI.lt {w w1:World} {o:Nat} {v:Value} (h:SI w o v w1):w.heap.size+1<w1.heap.size:=by
 obtain ⟨_,⟨_,_,h⟩,_⟩:=h;exact h.1
theorem SI.keep {w w1 w2:World} {o:Nat} {v:Value} (h:SI w o v w1) (hb:Below w1.heap.size w1 w2):SI w o v w2:=by
 have hlt:=h.lt;obtain ⟨h0,⟨cs,hcs,h1⟩,h2⟩:=h;exact ⟨(Below.cell (p:=⟨w.heap.size,o,none⟩) hb (by show w.heap.size<w1.heap.size; omega)).trans h0,⟨cs,hcs,h1.below hb⟩,bst h2 hb⟩
theorem two_blocks (w:World) (N:Nd) (a:Option Addr) (n c:Nat):∃ w2,w2=(w.alloc (.cells (ndC N a n c) 56)).alloc (.cells (itC it0 none 0 0) 168)∧OwnN w2 w.heap.size N a n c∧Rg.Own w2 (w.heap.size+1) (itC it0 none 0 0) 168∧Below w.heap.size w w2∧w2.heap.size=w.heap.size+2:=by
 refine ⟨_,rfl,(Rg.Own.new _ _ _).below (al1 _ _),?_,al2 _ _ _,by simp⟩;have:=Rg.Own.new (w.alloc (.cells (ndC N a n c) 56)) (itC it0 none 0 0) 168;simpa using this
theorem size_one (w:World) (o:Obj):(w.alloc o).heap.size=w.heap.size+1:=by simp
theorem item_leaf (N:Nd) (a:Option Addr) (n c:Nat) (_hl:N.ks.length=16) (w:World) (hB:IsBs w a n c N.p) (hm:mayW refP N=true) (hkd:N.kd=1):Calls Tryz.prog 117 #[.agg (ndC N a n c)] w (GotIt w (itemP N)):=by
 obtain ⟨m1,m2,_⟩:=may_parts hm;have hn64:n≤64:=by rw [← hB.len]; exact m1
 obtain ⟨w2,hw2,hN,hO,hBe,hs2⟩:=two_blocks w N a n c;have HPk:=hid (pack_any a n c N.p (decide (N.kd=1)) hn64 m2 w2 (hB.below hBe));have HI:Hid (itemP N = .mk true ⟨#[]⟩ [.mk false ⟨(packL N.p (decide (N.kd=1))).toArray⟩ [],.mk false N.v []]):=hid (by unfold itemP itemsP pathI; rw [if_neg (by omega),if_pos hkd]);rw [HI.out];clear HI;obtain ⟨S,hS⟩:∃ S,(⟨(packL N.p (decide (N.kd=1))).toArray⟩:ByteArray)=S:=⟨_,rfl⟩
 rw [hS] at HPk ⊢;rw [hkd] at HPk;rw [show decide ((1:Int)=1)=true by decide] at HPk;obtain ⟨c0,c1,c2⟩:=nd_cells hN;rw [hkd] at c0;have HK0:=hid hkd;have HO:=hid hO;have HN:=hid hN;have HB:=hid hBe;clear hO hN hBe hB hm m1 m2 hS hkd;subst hw2;go_enter Tryz.func117,Tryz.ntmps117;go_wp2_with (refine Rg.run rfl _ _ (run_alloc_it _ _ _ (w.heap.size+1) (size_one _ _).symm rfl) ?_)
 refine HPk.out.mono ?_;rintro e w5 ⟨rfl,hb5⟩;have HO5:=hid (HO.out.below hb5);have HB5:=hid (bst HB.out hb5);have hN5:=HN.out.below hb5;obtain ⟨c0,c1,c2⟩:=nd_cells hN5;clear hb5 hN5 HPk;rw [HK0.out] at c0;go_wp2_with fail
 refine wp_region_noPanic ?_;refine wp_region_held_drew (S:=SI w 2 (.string N.v)) (by kernel_rfl) (⟨c2,⟨_,rfl,HO5.out.drew⟩,HB5.out.drew⟩) (fun hld=>?_);refine Rg.tk (i:=0) rfl ?_;try simp only [Act.put,Rg.s]
 refine Rg.tk (i:=2) rfl ?_;try simp only [Act.put,Rg.s]
 refine Rg.tk (i:=3) rfl ?_ (hy:=by intro wz hSw; (have q0:=hSw.1; go_simp <;> with_reducible rfl));try simp only [Act.put,Rg.s]
 refine Rg.rd (i:=1) rfl fun K hK=>?_;go_simp;go_at_call 148
 (with_reducible refine (text_any S _).mono ?_)
 rintro e wx0 ⟨rfl,hbx⟩;refine hK.out _ _ ?_ (fun hld=>?_)
 ·exact SI.keep hld hbx
 clear hK K hbx;try simp only [Act.put,Rg.s]
 refine Rg.rd (i:=4) rfl fun K hK=>?_;go_simp;go_at_call 148
 (with_reducible refine (text_any N.v _).mono ?_)
 rintro e wx1 ⟨rfl,hbx⟩;refine hK.out _ _ ?_ (fun hld=>?_)
 ·exact SI.keep hld hbx
 clear hK K hbx;try simp only [Act.put,Rg.s]
 refine Rg.rd (i:=5) rfl fun K hK=>?_;refine meetPair (x:=.mk false S []) (y:=.mk false N.v []) (by rfl) ⟨_,_,rfl,rfl,rfl⟩ ?_;rintro wx2 g5 h5 hbx;refine hK.out _ _ ?_ (fun hld=>?_)
 ·exact SI.keep hld hbx
 clear hK K hbx;try simp only [Act.put,Rg.s]
 refine Rg.rd (i:=6) rfl fun K hK=>?_;have HLs:=hid (list_any [.mk false S [],.mk false N.v []] _ _ _ _ (two_its h5 (its_nil _ (.mk false S []) rfl) (its_nil _ (.mk false N.v []) rfl)));go_simp;go_at_call 146
 (with_reducible refine HLs.out.mono ?_)
 rintro e wx3 ⟨la,ln,lc,rfl,hIl,hbx⟩;replace hIl:=ItsIn.weak (B':=w.heap.size+2) hIl (by have:=hld.lt; omega);refine hK.out _ _ ?_ (fun hld=>?_)
 ·exact SI.keep hld hbx
 clear hK K hbx HLs;try simp only [Act.put,Rg.s]
 refine Rg.rd (i:=7) rfl fun K hK=>?_;obtain ⟨cs,hcs,hOr⟩:=hld.2.1;refine Rg.meetStore (by rfl) hOr 168 (itC (.mk true ⟨#[]⟩ [.mk false S [],.mk false N.v []]) la ln lc) ⟨_,_,rfl,rfl,rfl⟩ (info_itC _ _ _ _) (by rw [hcs]; rfl) (itC_one _ _ _ _) ?_;rintro wz hn hu;have hBz:Below w.heap.size w wz:=hu.below hld.2.2 (by omega);have hIz:=ItsIn.kept hIl (by rw [hu.size]; exact Nat.le_refl _) (fun b o hB _=>World.cell?_of_block (hu.block b (by omega)));have hcz:=(World.cell?_of_block (a:=⟨w.heap.size,2,none⟩) (hu.block w.heap.size (by omega))).trans hld.1
 refine hK.out _ _ ?_ (fun hld=>?_)
 ·exact ⟨hcz,⟨_,rfl,hn⟩,hBz⟩
 clear hK K;try simp only [Act.put]
 refine wpAnyH_done (by kernel_rfl) ?_ _;refine NoPanic.normal ?_;go_wp2;exact bodyPost_ret (res_item rfl _ rfl (lies_row hn.2)) rfl ⟨la,ln,lc,rfl,ItsIn.weak hIz (by omega),hBz⟩
theorem item_ext (N:Nd) (a:Option Addr) (n c:Nat) (hl:N.ks.length=16) (w:World) (hB:IsBs w a n c N.p) (hm:mayW refP N=true) (hkd:N.kd=2) (hks:(N.ks.getD 0 eB).size≤100):Calls Tryz.prog 117 #[.agg (ndC N a n c)] w (GotIt w (itemP N)):=by
 obtain ⟨m1,m2,_⟩:=may_parts hm;have hn64:n≤64:=by rw [← hB.len]; exact m1
 obtain ⟨w2,hw2,hN,hO,hBe,hs2⟩:=two_blocks w N a n c;have HPk:=hid (pack_any a n c N.p (decide (N.kd=1)) hn64 m2 w2 (hB.below hBe));have HI:Hid (itemP N = .mk true ⟨#[]⟩ [.mk false ⟨(packL N.p (decide (N.kd=1))).toArray⟩ [],refI (N.ks.getD 0 eB)]):=hid (by unfold itemP itemsP pathI; rw [if_neg (by omega),if_neg (by omega)]);rw [HI.out];clear HI;obtain ⟨S,hS⟩:∃ S,(⟨(packL N.p (decide (N.kd=1))).toArray⟩:ByteArray)=S:=⟨_,rfl⟩
 rw [hS] at HPk ⊢;rw [hkd] at HPk;rw [show decide ((2:Int)=1)=false by decide] at HPk;obtain ⟨c0,c1,c2⟩:=nd_cells hN;rw [hkd] at c0;have HK0:=hid hkd;have HLL:=hid hl;have HSt:=hid (fun w=>stand_any (N.ks.getD 0 eB) (by omega) w);obtain ⟨X,hX⟩:∃ X,refI (N.ks.getD 0 eB)=X:=⟨_,rfl⟩
 rw [hX] at HSt ⊢;obtain ⟨k,hk⟩:∃ k,N.ks.getD 0 eB=k:=⟨_,rfl⟩
 rw [hk] at HSt;have Hk:=hid hk;clear hX hk hks;have HO:=hid hO;have HN:=hid hN;have HB:=hid hBe;clear hO hN hBe hB hm m1 m2 hS hkd;subst hw2;go_enter Tryz.func117,Tryz.ntmps117;go_wp2_with (refine Rg.run rfl _ _ (run_alloc_it _ _ _ (w.heap.size+1) (size_one _ _).symm rfl) ?_)
 refine HPk.out.mono ?_;rintro e w5 ⟨rfl,hb5⟩;have HO5:=hid (HO.out.below hb5);have HB5:=hid (bst HB.out hb5);have hN5:=HN.out.below hb5;obtain ⟨c0,c1,c2⟩:=nd_cells hN5;have ck:w5.cell? ⟨w.heap.size,3,none⟩=some (.string k):=by rw [← Hk.out]; exact nd_kid hN5 HLL.out 0 (by decide)
 clear hb5 hN5 HPk;rw [HK0.out] at c0;go_wp2_with fail
 refine wp_region_noPanic ?_;refine wp_region_held_drew (S:=SI w 3 (.string k)) (by kernel_rfl) (⟨ck,⟨_,rfl,HO5.out.drew⟩,HB5.out.drew⟩) (fun hld=>?_);refine Rg.tk (i:=0) rfl ?_;try simp only [Act.put,Rg.s]
 refine Rg.tk (i:=2) rfl ?_;try simp only [Act.put,Rg.s]
 refine Rg.tk (i:=3) rfl ?_;try simp only [Act.put,Rg.s]
 refine Rg.tk (i:=4) rfl ?_ (hy:=by intro wz hSw; (have q0:=hSw.1; go_simp <;> with_reducible rfl));try simp only [Act.put,Rg.s]
 refine Rg.rd (i:=1) rfl fun K hK=>?_;go_simp;go_at_call 148
 (with_reducible refine (text_any S _).mono ?_)
 rintro e wx0 ⟨rfl,hbx⟩;refine hK.out _ _ ?_ (fun hld=>?_)
 ·exact SI.keep hld hbx
 clear hK K hbx;try simp only [Act.put,Rg.s]
 refine Rg.rd (i:=5) rfl fun K hK=>?_;go_simp;go_at_call 145
 (with_reducible refine (HSt.out _).mono ?_)
 rintro e wx1 ⟨kA,kN,kC,rfl,hIk,hbx⟩;replace hIk:=ItsIn.weak (B':=0) hIk (Nat.zero_le _);refine hK.out _ _ ?_ (fun hld=>?_)
 ·exact SI.keep hld hbx
 clear hK K hbx;try simp only [Act.put,Rg.s]
 refine Rg.rd (i:=6) rfl fun K hK=>?_;refine meetPair (x:=.mk false S []) (y:=X) (by rfl) ⟨_,_,rfl,rfl,rfl⟩ ?_;rintro wx2 g5 h5 hbx;replace hIk:=ItsP.stays hIk hbx;refine hK.out _ _ ?_ (fun hld=>?_)
 ·exact SI.keep hld hbx
 clear hK K hbx;try simp only [Act.put,Rg.s]
 refine Rg.rd (i:=7) rfl fun K hK=>?_;have HLs:=hid (list_any [.mk false S [],X] _ _ _ _ (two_its h5 (its_nil _ (.mk false S []) rfl) hIk));go_simp;go_at_call 146
 (with_reducible refine HLs.out.mono ?_)
 rintro e wx3 ⟨la,ln,lc,rfl,hIl,hbx⟩;replace hIl:=ItsIn.weak (B':=w.heap.size+2) hIl (by have:=hld.lt; omega);refine hK.out _ _ ?_ (fun hld=>?_)
 ·exact SI.keep hld hbx
 clear hK K hbx HLs;try simp only [Act.put,Rg.s]
 refine Rg.rd (i:=8) rfl fun K hK=>?_;obtain ⟨cs,hcs,hOr⟩:=hld.2.1;refine Rg.meetStore (by rfl) hOr 168 (itC (.mk true ⟨#[]⟩ [.mk false S [],X]) la ln lc) ⟨_,_,rfl,rfl,rfl⟩ (info_itC _ _ _ _) (by rw [hcs]; rfl) (itC_one _ _ _ _) ?_;rintro wz hn hu;have hBz:Below w.heap.size w wz:=hu.below hld.2.2 (by omega);have hIz:=ItsIn.kept hIl (by rw [hu.size]; exact Nat.le_refl _) (fun b o hB _=>World.cell?_of_block (hu.block b (by omega)));have hcz:=(World.cell?_of_block (a:=⟨w.heap.size,3,none⟩) (hu.block w.heap.size (by omega))).trans hld.1
 refine hK.out _ _ ?_ (fun hld=>?_)
 ·exact ⟨hcz,⟨_,rfl,hn⟩,hBz⟩
 clear hK K;try simp only [Act.put]
 refine wpAnyH_done (by kernel_rfl) ?_ _;refine NoPanic.normal ?_;go_wp2;exact bodyPost_ret (res_item rfl _ rfl (lies_row hn.2)) rfl ⟨la,ln,lc,rfl,ItsIn.weak hIz (by omega),hBz⟩
def cellV (q:It × Option Addr × Nat × Nat) (k:Nat):Value:=if k=0 then .bool q.1.l else if k=1 then .string q.1.s else .slice q.2.1 q.2.2.1 q.2.2.2
def rowV (V:Nat→It × Option Addr × Nat × Nat) (i:Nat):Value:=cellV (V (i/3)) (i%3)
abbrev z4:It × Option Addr × Nat × Nat:=(it0,none,0,0)
def zits:Array Value:=((List.range 51).map (rowV fun _=>z4)).toArray
theorem run_alloc_its (ev:Operand→Value) (o:Oper) (w:World) (b:Nat) (hb:b=w.heap.size) (ho:o.op = .alloc 200) :
  (execOp ev o).run Tryz.prog w = .ok (.value (.pointer (some ⟨b,0,none⟩))) (w.alloc (.cells zits 200)):=by
 subst hb;unfold execOp;rw [ho];kernel_rfl
def RowQ (w:World) (g:Nat) (ks:List ByteArray) (j:Nat):Prop:=∃ V:Nat→It × Option Addr × Nat × Nat,w.rowIs g 200 51 (rowV V) ∧
 (∀ i,i<j→(V i).1=refI (ks.getD i eB)∧ItsIn (g+1) w (V i).1.xs (V i).2.1 (V i).2.2.1 (V i).2.2.2)∧∀ i,j≤i→V i=z4
theorem RowQ.start (w:World) (ks:List ByteArray):RowQ (w.alloc (.cells zits 200)) w.heap.size ks 0:=by
 refine ⟨fun _=>z4,?_,fun i hi=>absurd hi (Nat.not_lt_zero _),fun _ _=>rfl⟩;have hs:zits.size=51:=by simp [zits]
 rw [← hs];refine World.rowIs_alloc w zits _ _ (fun i hi=>?_);rw [hs] at hi;simp [zits,hi]
theorem RowQ.lt {w:World} {g j:Nat} {ks:List ByteArray} (h:RowQ w g ks j):g<w.heap.size:=by
 obtain ⟨V,hr,_⟩:=h;exact hr.lt
theorem RowQ.keep {w w':World} {g j:Nat} {ks:List ByteArray} (h:RowQ w g ks j) (hb:Below w.heap.size w w'):RowQ w' g ks j:=by
 obtain ⟨V,hr,h1,h2⟩:=h;exact ⟨V,hr.of_block (hb.block g hr.lt),fun i hi=>⟨(h1 i hi).1,ItsIn.kept (h1 i hi).2 hb.size (fun b o _ hlt=>hb.cell (p:=⟨b,o,none⟩) hlt)⟩,h2⟩
theorem upd_cell (w:World) (b o:Nat) (v:Value):Rg.Upd w b (w.setCell ⟨b,o,none⟩ v):=⟨rfl,rfl,rfl,by simp [World.setCell],fun k hk=>Below.heap_setCell _ _ _ _ hk⟩
theorem upd_trans {w w1 w2:World} {b:Nat} (h:Rg.Upd w b w1) (h2:Rg.Upd w1 b w2):Rg.Upd w b w2 :=
 ⟨h2.os.trans h.os,h2.tape.trans h.tape,h2.output.trans h.output,h2.size.trans h.size,fun k hk=>(h2.block k hk).trans (h.block k hk)⟩
theorem RowQ.step {w:World} {g j:Nat} {ks:List ByteArray} (h:RowQ w g ks j) (hj:j<16) {A:Option Addr} {N C:Nat} (hI:ItsIn (g+1) w (refI (ks.getD j eB)).xs A N C) :
  RowQ (w.setCells g (j*3) (itC (refI (ks.getD j eB)) A N C).toList) g ks (j+1)∧Rg.Upd w g (w.setCells g (j*3) (itC (refI (ks.getD j eB)) A N C).toList)∧w.there g (j*3) (itC (refI (ks.getD j eB)) A N C).size:=by
 obtain ⟨V,hr,h1,h2⟩:=h;have hu:Rg.Upd w g (w.setCells g (j*3) (itC (refI (ks.getD j eB)) A N C).toList):=upd_trans (upd_trans (upd_cell w g (j*3) _) (upd_cell _ g (j*3+1) _)) (upd_cell _ g (j*3+1+1) _);refine ⟨⟨fun i=>if i=j then (refI (ks.getD j eB),A,N,C) else V i,?_,fun i hi=>?_,fun i hi=>?_⟩,hu,fun i hi=>?_⟩
 ·have h3:(w.setCells g (j*3) (itC (refI (ks.getD j eB)) A N C).toList).rowIs g 200 51 _:=((hr.set (j*3) (.bool (refI (ks.getD j eB)).l)).set (j*3+1) (.string (refI (ks.getD j eB)).s)).set (j*3+1+1) (.slice A N C);refine h3.congr (fun i hi=>?_);unfold rowV;dsimp only;by_cases hij:i/3=j
  ·rw [if_pos hij];unfold cellV;by_cases e2:i=j*3+1+1
   ·rw [if_pos e2,if_neg (by omega),if_neg (by omega)]
   ·rw [if_neg e2];by_cases e1:i=j*3+1
    ·rw [if_pos e1,if_neg (by omega),if_pos (by omega)]
    ·rw [if_neg e1,if_pos (by omega),if_pos (by omega)]
  ·rw [if_neg hij,if_neg (by omega),if_neg (by omega),if_neg (by omega)]
 ·dsimp only;by_cases hij:i=j
  ·subst hij;rw [if_pos rfl];exact ⟨rfl,ItsIn.kept hI (by rw [hu.size]; exact Nat.le_refl _) (fun b o hB _=>World.cell?_of_block (hu.block b (by omega)))⟩
  ·rw [if_neg hij];obtain ⟨e1,e2⟩:=h1 i (by omega);exact ⟨e1,ItsIn.kept e2 (by rw [hu.size]; exact Nat.le_refl _) (fun b o hB _=>World.cell?_of_block (hu.block b (by omega)))⟩
 ·dsimp only;rw [if_neg (by omega)];exact h2 i (by omega)
 ·have h3:(itC (refI (ks.getD j eB)) A N C).size=3:=rfl;rw [h3] at hi;exact ⟨by rw [hr.cell (by omega)]; rfl,hr.frozen _⟩
theorem RowQ.done {w:World} {g:Nat} {ks:List ByteArray} (h:RowQ w g ks 16) (hl:ks.length=16):IsIts w (ks.map refI++[it0]) (some ⟨g,0,none⟩) 17 17:=by
 obtain ⟨V,hr,h1,h2⟩:=h;have hV:∀ (j:Nat) (x:It),(ks.map refI++[it0])[j]? = some x→j<17∧(V j).1=x∧IsIts w x.xs (V j).2.1 (V j).2.2.1 (V j).2.2.2:=by
  intro j x hx;by_cases hj:j<16
  ·rw [List.getElem?_append_left (by simp [hl]; omega),List.getElem?_map,List.getElem?_eq_getElem (by omega),Option.map_some] at hx;obtain ⟨e1,e2⟩:=h1 j hj;have e:ks.getD j eB=ks[j]:=by simp [List.getD,hl,hj]
   have hxe:(V j).1=x:=by rw [e1,e]; exact Option.some.inj hx
   rw [hxe] at e2;exact ⟨by omega,hxe,ItsIn.weak e2 (Nat.zero_le _)⟩
  ·rw [List.getElem?_append_right (by simp [hl]; omega)] at hx;have hj16:j=16:=by
    have:=(List.getElem?_eq_some_iff.1 hx).1;simp [hl] at this;omega
   subst hj16;simp [hl] at hx;subst hx;rw [h2 16 (Nat.le_refl _)];exact ⟨by omega,rfl,ItsIn.nil _ _⟩
 refine ItsP.mk (fun j=>(V j).2.1) (fun j=>(V j).2.2.1) (fun j=>(V j).2.2.2) (by simp [hl]) (Nat.le_refl _) (by unfold maxLen; omega) (by omega) (fun e=>by cases e) (fun j x hx=>?_) (fun j x hx=>(hV j x hx).2.2);obtain ⟨hj,hxe,_⟩:=hV j x hx;refine ⟨g,0,rfl,Nat.zero_le _,hr.lt,?_⟩;rw [Nat.zero_add];refine ⟨?_,?_,?_⟩
 ·rw [hr.cell (by omega)];unfold rowV cellV;rw [show j*3/3=j by omega,if_pos (by omega),hxe]
 ·rw [hr.cell (by omega)];unfold rowV cellV;rw [show (j*3+1)/3=j by omega,if_neg (by omega),if_pos (by omega),hxe]
 ·rw [hr.cell (by omega)];unfold rowV cellV;rw [show (j*3+2)/3=j by omega,if_neg (by omega),if_neg (by omega)]
theorem item_branch (N:Nd) (a:Option Addr) (n c:Nat) (hl:N.ks.length=16) (w:World) (hkd:N.kd=3) (hks:∀ k∈N.ks,k.size≤100):Calls Tryz.prog 117 #[.agg (ndC N a n c)] w (GotIt w (itemP N)):=by
 obtain ⟨w2,hw2,hN,hO,hBe,hs2⟩:=two_blocks w N a n c;have HI:Hid (itemP N = .mk true ⟨#[]⟩ (N.ks.map refI++[it0])):=hid (by unfold itemP itemsP; rw [if_pos hkd]);rw [HI.out];clear HI;have HR0:Hid (RowQ (w2.alloc (.cells zits 200)) (w.heap.size+2) N.ks 0):=hid (by rw [← hs2]; exact RowQ.start w2 N.ks);have HNL:Hid (OwnN (w2.alloc (.cells zits 200)) w.heap.size N a n c):=hid (hN.below (al1 _ _));have HO0:Hid (Rg.Own (w2.alloc (.cells zits 200)) (w.heap.size+1) (itC it0 none 0 0) 168):=hid (hO.below (al1 _ _))
 have HB0:Hid (Below w.heap.size w (w2.alloc (.cells zits 200))):=hid (bst hBe (al1 _ _));obtain ⟨c0,c1,c2⟩:=nd_cells hN;rw [hkd] at c0;have HL:=hid hl;have Hks:=hid hks;have Hs2:=hid hs2;clear hN hO hBe hks hkd hs2 hl;subst hw2;go_enter Tryz.func117,Tryz.ntmps117;go_wp2_with (first
  | (refine Rg.run rfl _ _ (run_alloc_it _ _ _ (w.heap.size+1) (size_one _ _).symm rfl) ?_)
  | (refine Rg.run rfl _ _ (run_alloc_its _ _ _ (w.heap.size+2) Hs2.out.symm rfl) ?_)
  | (refine Rg.run rfl _ _ (op_load_ks HNL.out HL.out ⟨_,rfl,rfl⟩) ?_))
 go_loopw [13] (fun i wr=>∃ j:Nat,j≤16∧i = .int .i64 j∧Hid (RowQ wr (w.heap.size+2) N.ks j)∧Hid (Rg.Own wr (w.heap.size+1) (itC it0 none 0 0) 168)∧Hid (Below w.heap.size w wr)) (fun i _=>16-(intOf i).toNat)
 case atStart=>exact ⟨0,Nat.zero_le _,rfl,HR0,HO0,HB0⟩
 case round =>
  obtain ⟨j,hj,rfl,HR,HO,HB⟩:=hrel;clear HR0 HO0 HB0 HNL;by_cases hlt:j<16
  ·have HSt:=hid (stand_any (N.ks.getD j eB) (by
    have:=Hks.out (N.ks.getD j eB) (by rw [List.getD_eq_getElem?_getD,List.getElem?_eq_getElem (by rw [HL.out]; exact hlt)]; exact List.getElem_mem _);omega) wr)
   go_wp2_with (refine Rg.run rfl (.string (N.ks.getD j eB)) _ (op_index_ks HL.out hlt ⟨_,_,rfl,rfl,rfl⟩) ?_)
   refine HSt.out.mono ?_;rintro e w5 ⟨A,M,C,rfl,hI,hb5⟩;have hlt5:=HR.out.lt;have hst:=(HR.out.keep hb5).step hlt (ItsIn.weak (B':=w.heap.size+2+1) hI (by omega));have HS:=hid hst;have HO5:=hid (HO.out.below hb5);have HB5:=hid (bst HB.out hb5);obtain ⟨x,hx⟩:∃ x,refI (N.ks.getD j eB)=x:=⟨_,rfl⟩
   rw [hx] at HS ⊢;clear hI hb5 hst HSt HO HB HR hx;go_wp2_with (refine wpList_store_mid rfl 168 _ _ rfl (w.heap.size+2) (j*3) (itC x A M C) rfl rfl HS.out.2.2 (info_itC _ _ _ _) (itC_one _ _ _ _) ?_)
   go_roundw
   case rel=>exact ⟨j+1,by omega,by go_num,hid HS.out.1,hid (HO5.out.upd HS.out.2.1 (by omega)),hid (HS.out.2.1.below HB5.out (by omega))⟩
   case measure=>simp [intOf]; omega
  ·obtain rfl:j=16:=by omega
   have HLs:=hid (list_any _ _ _ _ _ (HR.out.done HL.out));obtain ⟨xs,hxs⟩:∃ xs,N.ks.map refI++[it0]=xs:=⟨_,rfl⟩
   rw [hxs] at HLs;have HX:=hid hxs;clear hxs;go_wp2_with fail
   refine HLs.out.mono ?_;rintro e w6 ⟨la,ln,lc,rfl,hIl,hb6⟩;have HO6:=hid (HO.out.below hb6);have HB6:=hid (bst HB.out hb6);have hs6:=HO.out.1;have HI6:=hid hIl;clear hIl hb6 HLs;go_wp2_with (refine wpl_store_it HO6.out (.mk true ⟨#[]⟩ xs) la ln lc rfl _ _ rfl rfl rfl rfl ?_)
   exact bodyPost_ret (res_item rfl _ rfl (lies_row (own_rowI HO6.out).2)) rfl ⟨la,ln,lc,by rw [HX.out],by rw [HX.out]; exact ItsIn.weak (ItsIn_row HI6.out (by omega) _) (by omega),below_row HB6.out (by omega) _⟩
end No
end
section
open Go.RowKit
namespace No
open Rl Ni
theorem item_any (N:Nd) (a:Option Addr) (n c:Nat) (hl:N.ks.length=16) (w:World) (hB:IsBs w a n c N.p) (hm:mayW refP N=true) (hks:∀ k∈N.ks,k.size≤100):Calls Tryz.prog 117 #[.agg (ndC N a n c)] w (GotIt w (itemP N)):=by
 rcases may_kinds hl hm with ⟨k1,_⟩ | ⟨k1,_⟩ | ⟨k1,_⟩
 ·exact item_leaf N a n c hl w hB hm k1
 ·exact item_ext N a n c hl w hB hm k1 (hks _ (by rw [List.getD_eq_getElem?_getD,List.getElem?_eq_getElem (by omega)]; exact List.getElem_mem _))
 ·exact item_branch N a n c hl w k1 hks
def putV (N:Nd):Value:=.tuple #[.string (if mayW refP N then ⟨(putP N).toArray⟩ else eB),.int .i64 (if mayW refP N then 0 else 2)]
theorem nput_any (N:Nd) (a:Option Addr) (n c:Nat) (hl:N.ks.length=16) (w:World) (hB:IsBs w a n c N.p) (hv:N.v.size≤maxLen) (hks:∀ k∈N.ks,k.size≤100) :
  Calls Tryz.prog 91 #[.agg (ndC N a n c)] w fun e w'=>e = .returned (putV N)∧Below w.heap.size w w':=by
 obtain ⟨w2,hw2⟩:∃ w2,w2=w.alloc (.cells (ndC N a n c) 56):=⟨_,rfl⟩
 have hO:OwnN w2 w.heap.size N a n c:=by rw [hw2]; exact Rg.Own.new _ _ _
 have hBe:Below w.heap.size w w2:=by rw [hw2]; exact al1 _ _
 have HC:=hid (check_any N a n c hl w2 (hB.below hBe) hv (fun k hk=>ref_any k (by have:=hks k hk; omega)));have HIt:Hid (mayW refP N=true→∀ w',Below w.heap.size w w'→Calls Tryz.prog 117 #[.agg (ndC N a n c)] w' (GotIt w' (itemP N))):=hid (fun hm w' hb=>item_any N a n c hl w' (hB.below hb) hm hks);have HF:Hid (mayW refP N=true→Fits 0 (itemP N)∧(itemP N).size≤4096∧(itemP N).bytes.length≤1099511627776):=hid (fun hm=>by
  obtain ⟨f1,f2,f3,_⟩:=item_fits hl hm;exact ⟨f1,f3,by omega⟩)
 have HO:=hid hO;have HBe:=hid hBe;have HL:=hid hl;unfold putV;obtain ⟨M,hM⟩:∃ M,mayW refP N=M:=⟨_,rfl⟩
 rw [hM] at HC HIt HF ⊢;clear hO hBe hB hks hv hl hM;unfold putP;obtain ⟨X,hX⟩:∃ X,itemP N=X:=⟨_,rfl⟩
 rw [hX] at HIt HF ⊢;clear hX;subst hw2;cases M with
 | false =>
  go_enter Tryz.func91,Tryz.ntmps91;go_wp2_with (refine Rg.run rfl _ _ (op_load_nd HO.out HL.out ?_) ?_; · exact ⟨_,rfl,rfl⟩)
  refine HC.out.mono ?_;rintro e w3 ⟨rfl,hb3⟩;have HB3:=hid (bst HBe.out hb3);clear hb3;go_wp2;go_ret2
  exact ⟨rfl,HB3.out⟩
 | true =>
  go_enter Tryz.func91,Tryz.ntmps91;go_wp2_with (refine Rg.run rfl _ _ (op_load_nd HO.out HL.out ?_) ?_; · exact ⟨_,rfl,rfl⟩)
  refine HC.out.mono ?_;rintro e w3 ⟨rfl,hb3⟩;have HO3:=hid (HO.out.below hb3);have HB3:=hid (bst HBe.out hb3);have HI3:=hid (HIt.out (by first | rfl | trivial) w3 HB3.out);clear hb3 HC HIt;go_wp2_with (refine Rg.run rfl _ _ (op_load_nd HO3.out HL.out ?_) ?_; · exact ⟨_,rfl,rfl⟩)
  refine HI3.out.mono ?_;rintro e w4 ⟨la,ln,lc,rfl,hI,hb4⟩;have HB4:=hid (bst HB3.out hb4);have HP4:=hid (put_any X w4 (itV X la ln lc) ⟨la,ln,lc,rfl,ItsIn.weak hI (Nat.zero_le _)⟩ (HF.out (by first | rfl | trivial)).1 (HF.out (by first | rfl | trivial)).2.1 (HF.out (by first | rfl | trivial)).2.2);clear hI hb4 HI3;go_wp2_with fail
  refine HP4.out.mono ?_;rintro e w5 ⟨rfl,hb5⟩;have HB5:=hid (bst HB4.out hb5);clear hb5;go_wp2;go_ret2
  exact ⟨rfl,HB5.out⟩
theorem rtext_any (k:ByteArray) (hk:k.size≤4294967286) (w:World):Calls Tryz.prog 130 #[.string k] w fun e w'=>e = .returned (.string ⟨(It.mk false k []).bytes.toArray⟩)∧Below w.heap.size w w':=by
 have hT:=fun w=>rput_any (.mk false k []) 0 w (itV (.mk false k []) none 0 0) ⟨none,0,0,rfl,ItsIn.nil _ _⟩ (text_fits 0 (by omega) k) (by have:=text_len k (by omega); omega);unfold itV at hT;dsimp only [It.l,It.s] at hT;have HT:=hid hT;clear hT;obtain ⟨B,hB⟩:∃ B,(⟨(It.mk false k []).bytes.toArray⟩:ByteArray)=B:=⟨_,rfl⟩
 rw [hB] at HT ⊢;clear hB;go_enter Tryz.func130,Tryz.ntmps130;go_wp2_with fail
 refine (HT.out _).mono ?_;rintro e w3 ⟨rfl,hb3⟩;have HB:=hid hb3;clear hb3;go_wp2;go_ret;exact ⟨rfl,HB.out⟩
theorem refI_bytes {k:ByteArray} (h:refP k=true) (hp:plainB k=false):(⟨(refI k).bytes.toArray⟩:ByteArray)=k:=by
 obtain ⟨x,n,hw,e,hl,hr,h32,hb,hf,_⟩:=ref_list hp h;rw [e,hb]
theorem rref_any (k:ByteArray) (hk:k.size≤100) (h:refP k=true) (w:World):Calls Tryz.prog 132 #[.string k] w fun e w'=>e = .returned (.string ⟨(refI k).bytes.toArray⟩)∧Below w.heap.size w w':=by
 have HT:=hid (fun w=>rtext_any k (by omega) w);cases hp:plainB k with
 | true =>
  rw [refI_plain hp];obtain ⟨B,hB⟩:∃ B,(⟨(It.mk false k []).bytes.toArray⟩:ByteArray)=B:=⟨_,rfl⟩
  rw [hB] at HT ⊢;clear hB;rcases plain_size hp with h0 | h32
  ·obtain rfl:=size_zero h0;clear h hp h0 hk;go_enter Tryz.func132,Tryz.ntmps132;go_wp2_with fail
   refine (HT.out _).mono ?_;rintro e w3 ⟨rfl,hb3⟩;have HB:=hid hb3;clear hb3;go_wp2;go_ret;exact ⟨rfl,HB.out⟩
  ·have hne:=Ni.not_empty (s:=k) (by omega);have hd:((k.size:Int)==32)=true:=by simp; omega
   clear h hp hk;go_enter Tryz.func132,Tryz.ntmps132;go_wp2_with fail
   refine (HT.out _).mono ?_;rintro e w3 ⟨rfl,hb3⟩;have HB:=hid hb3;clear hb3;go_wp2;go_ret;exact ⟨rfl,HB.out⟩
 | false =>
  have hns:¬ (k.size=0∨k.size=32):=of_decide_eq_false hp;have hne:=Ni.not_empty (s:=k) (by omega);have hd:((k.size:Int)==32)=false:=by simp; omega
  rw [refI_bytes h hp];clear h hp hns hk;go_enter Tryz.func132,Tryz.ntmps132;go_wp2;go_ret;exact ⟨rfl,Below.refl _ _⟩
def flatA (xs:List It):ByteArray:=⟨((xs.map It.bytes).flatten).toArray⟩
theorem flatA_app (xs ys:List It):flatA (xs++ys)=flatA xs++flatA ys:=by
 unfold flatA;rw [ba_app,List.map_append,List.flatten_append]
theorem flatA_one (x:It):flatA [x]=⟨x.bytes.toArray⟩:=by
 unfold flatA;rw [List.map_cons,List.map_nil,List.flatten_cons,List.flatten_nil,List.append_nil]
theorem flatA_size (xs:List It):(flatA xs).size=((xs.map It.bytes).flatten).length:=ba_size _
theorem putP_flat {N:Nd} (hl:N.ks.length=16) (h:mayW refP N=true):(⟨(putP N).toArray⟩:ByteArray)=headS (flatA (itemsP N)).size true++flatA (itemsP N)∧(flatA (itemsP N)).size≤1200000:=by
 have h2:=flat_le (itemsP N) 65561 (fun y hy=>(items_good hl h y hy).2);have hfew:=items_few hl;have hm:(itemsP N).length*65561≤17*65561:=Nat.mul_le_mul_right _ hfew;refine ⟨?_,by rw [flatA_size]; omega⟩;unfold putP itemP;rw [bytes_list _ (by omega),flatA_size];unfold headS flatA;rw [ba_app]
theorem rput_leaf (N:Nd) (a:Option Addr) (n c:Nat) (hl:N.ks.length=16) (w:World) (hB:IsBs w a n c N.p) (hm:mayW refP N=true) (hkd:N.kd=1) :
  Calls Tryz.prog 106 #[.agg (ndC N a n c)] w fun e w'=>e = .returned (.string ⟨(putP N).toArray⟩)∧Below w.heap.size w w':=by
 obtain ⟨m1,m2,_⟩:=may_parts hm;obtain ⟨f1,f2⟩:=putP_flat hl hm;have hn64:n≤64:=by rw [← hB.len]; exact m1
 obtain ⟨w2,hw2⟩:∃ w2,w2=w.alloc (.cells (ndC N a n c) 56):=⟨_,rfl⟩
 have hO:OwnN w2 w.heap.size N a n c:=by rw [hw2]; exact Rg.Own.new _ _ _
 have hBe:Below w.heap.size w w2:=by rw [hw2]; exact al1 _ _
 have HPk:=hid (fun w' hb=>rpack_any a n c N.p true m2 hn64 w' (hB.below hb));have HI:Hid (flatA (itemsP N)=⟨(It.mk false ⟨(packL N.p true).toArray⟩ []).bytes.toArray⟩++⟨(It.mk false N.v []).bytes.toArray⟩):=hid (by
  unfold itemsP pathI;rw [if_neg (by omega),if_pos hkd];rw [show ∀ x y:It,[x,y]=[x]++[y] from fun _ _=>rfl,flatA_app,flatA_one,flatA_one,hkd];rfl)
 obtain ⟨P,hP⟩:∃ P,(⟨(packL N.p true).toArray⟩:ByteArray)=P:=⟨_,rfl⟩
 have hps:P.size≤100:=by rw [← hP,packL_size,hB.len]; omega
 rw [hP] at HPk HI;have HT1:=hid (fun w=>rtext_any P (by omega) w);have hv2:N.v.size≤65552:=by
  rcases may_kinds hl hm with ⟨_,_,v,_⟩ | ⟨k2,_⟩ | ⟨k3,_⟩
  ·exact v
  ·omega
  ·omega
 have HT2:=hid (fun w=>rtext_any N.v (by omega) w);rw [HI.out] at f1 f2;obtain ⟨T1,hT1⟩:∃ T1,(⟨(It.mk false P []).bytes.toArray⟩:ByteArray)=T1:=⟨_,rfl⟩
 obtain ⟨T2,hT2⟩:∃ T2,(⟨(It.mk false N.v []).bytes.toArray⟩:ByteArray)=T2:=⟨_,rfl⟩
 rw [hT1] at f1 f2 HT1;rw [hT2] at f1 f2 HT2;have hts:T1.size+T2.size≤1200000:=by rw [ByteArray.size_append] at f2; exact f2
 have HSZ:Hid (¬ 9223372036854775807<T1.size+T2.size):=hid (by omega);obtain ⟨X,hX⟩:∃ X,T1++T2=X:=⟨_,rfl⟩
 have HX:=hid hX;rw [hX] at f1 f2;have HF:=hid f1;clear hT1 hT2 hP hX HI f1 hn64;have HL:=hid hl;have HK:=hid hkd;have HBw:=hid hBe;have HO:=hid hO;obtain ⟨c0,c1,c2⟩:=nd_cells hO;rw [hkd] at c0;clear hm hl m1 m2 hB hO hBe hkd;subst hw2;go_enter Tryz.func106,Tryz.ntmps106;go_wp2_with fail
 refine wp_region_noPanic ?_;refine wp_region_held_drew (S:=fun w'=>OwnN w' w.heap.size N a n c∧Below w.heap.size w w') (by kernel_rfl) (⟨HO.out.drew,HBw.out.drew⟩) (fun hld=>?_);refine Rg.tk (i:=0) rfl ?_;try simp only [Act.put,Rg.s]
 refine Rg.tk (i:=1) rfl ?_ (hy:=by intro wz hSw; (have q0:=(nd_cells hSw.1).2.1; go_simp <;> with_reducible rfl));try simp only [Act.put,Rg.s]
 refine Rg.tk (i:=4) rfl ?_;try simp only [Act.put,Rg.s]
 refine Rg.tk (i:=5) rfl ?_ (hy:=by intro wz hSw; (have q0:=(nd_cells hSw.1).2.2; go_simp <;> with_reducible rfl));try simp only [Act.put,Rg.s]
 refine Rg.rd (i:=2) rfl fun K hK=>?_;go_simp;go_at_call 131
 (with_reducible refine (HPk.out _ hld.2).mono ?_)
 rintro e wx0 ⟨rfl,hbx⟩;refine hK.out _ _ ?_ (fun hld=>?_)
 ·exact ⟨hld.1.below hbx,bst hld.2 hbx⟩
 clear hK K hbx;try simp only [Act.put,Rg.s]
 refine Rg.rd (i:=3) rfl fun K hK=>?_;go_simp;go_at_call 130
 (with_reducible refine (HT1.out _).mono ?_)
 rintro e wx1 ⟨rfl,hbx⟩;refine hK.out _ _ ?_ (fun hld=>?_)
 ·exact ⟨hld.1.below hbx,bst hld.2 hbx⟩
 clear hK K hbx;try simp only [Act.put,Rg.s]
 refine Rg.rd (i:=6) rfl fun K hK=>?_;go_simp;go_at_call 130
 (with_reducible refine (HT2.out _).mono ?_)
 rintro e wx2 ⟨rfl,hbx⟩;refine hK.out _ _ ?_ (fun hld=>?_)
 ·exact ⟨hld.1.below hbx,bst hld.2 hbx⟩
 clear hK K hbx;try simp only [Act.put,Rg.s]
 refine Rg.tk (i:=7) rfl ?_ (hy:=by intro wz hSw; (have q0:=HSZ.out; go_simp <;> with_reducible rfl));try simp only [Act.put,Rg.s]
 refine Rg.tk (i:=8) rfl ?_;try simp only [Act.put,Rg.s]
 refine wpAnyH_done (by kernel_rfl) ?_ _;refine NoPanic.normal ?_;rw [HX.out];obtain ⟨c0,c1,c2⟩:=nd_cells hld.1;rw [HK.out] at c0;have HB8:=hid hld.2;clear hld;have hsz9:(headS X.size true).size≤9:=by unfold headS; rw [ba_size]; exact headL_le _ _ (by omega)
 have HHd:=hid (rhead_any X.size (by omega) true);go_wp2_with fail
 refine (HHd.out _).mono ?_;rintro e w9 ⟨rfl,hb9⟩;have HB9:=hid (bst HB8.out hb9);clear hb9;go_wp2;go_ret;exact ⟨by rw [HF.out]; rfl,HB9.out⟩
theorem rput_ext (N:Nd) (a:Option Addr) (n c:Nat) (hl:N.ks.length=16) (w:World) (hB:IsBs w a n c N.p) (hm:mayW refP N=true) (hkd:N.kd=2) :
  Calls Tryz.prog 106 #[.agg (ndC N a n c)] w fun e w'=>e = .returned (.string ⟨(putP N).toArray⟩)∧Below w.heap.size w w':=by
 obtain ⟨m1,m2,_⟩:=may_parts hm;obtain ⟨f1,f2⟩:=putP_flat hl hm;have hn64:n≤64:=by rw [← hB.len]; exact m1
 obtain ⟨w2,hw2⟩:∃ w2,w2=w.alloc (.cells (ndC N a n c) 56):=⟨_,rfl⟩
 have hO:OwnN w2 w.heap.size N a n c:=by rw [hw2]; exact Rg.Own.new _ _ _
 have hBe:Below w.heap.size w w2:=by rw [hw2]; exact al1 _ _
 have HPk:=hid (fun w' hb=>rpack_any a n c N.p false m2 hn64 w' (hB.below hb));have HI:Hid (flatA (itemsP N)=⟨(It.mk false ⟨(packL N.p false).toArray⟩ []).bytes.toArray⟩++⟨(refI (N.ks.getD 0 eB)).bytes.toArray⟩):=hid (by
  unfold itemsP pathI;rw [if_neg (by omega),if_neg (by omega)];rw [show ∀ x y:It,[x,y]=[x]++[y] from fun _ _=>rfl,flatA_app,flatA_one,flatA_one,hkd];rfl)
 obtain ⟨P,hP⟩:∃ P,(⟨(packL N.p false).toArray⟩:ByteArray)=P:=⟨_,rfl⟩
 have hps:P.size≤100:=by rw [← hP,packL_size,hB.len]; omega
 rw [hP] at HPk HI;have HT1:=hid (fun w=>rtext_any P (by omega) w);have hr:refP (N.ks.getD 0 eB)=true:=by
  rcases may_kinds hl hm with ⟨k1,_⟩ | ⟨_,_,_,_,_,r⟩ | ⟨k3,_⟩
  ·omega
  ·exact r
  ·omega
 obtain ⟨k,hk⟩:∃ k,N.ks.getD 0 eB=k:=⟨_,rfl⟩
 rw [hk] at hr HI;have HCk:Hid (∀ wz,OwnN wz w.heap.size N a n c→wz.cell? ⟨w.heap.size,3,none⟩=some (.string k)):=hid (fun wz h=>by rw [← hk]; exact nd_kid h hl 0 (by decide));have hks:k.size≤100:=by
  cases hp:plainB k with
  | true=>have:=plain_size hp; omega
  | false=>obtain ⟨_,_,_,_,_,_,h,_⟩:=ref_list hp hr; omega
 have HT2:=hid (fun w=>rref_any k hks hr w);clear hk hr hks;rw [HI.out] at f1 f2;obtain ⟨T1,hT1⟩:∃ T1,(⟨(It.mk false P []).bytes.toArray⟩:ByteArray)=T1:=⟨_,rfl⟩
 obtain ⟨T2,hT2⟩:∃ T2,(⟨(refI k).bytes.toArray⟩:ByteArray)=T2:=⟨_,rfl⟩
 rw [hT1] at f1 f2 HT1;rw [hT2] at f1 f2 HT2;have hts:T1.size+T2.size≤1200000:=by rw [ByteArray.size_append] at f2; exact f2
 have HSZ:Hid (¬ 9223372036854775807<T1.size+T2.size):=hid (by omega);obtain ⟨X,hX⟩:∃ X,T1++T2=X:=⟨_,rfl⟩
 have HX:=hid hX;rw [hX] at f1 f2;have HF:=hid f1;clear hT1 hT2 hP hX HI f1 hn64;have HL:=hid hl;have HK:=hid hkd;have HBw:=hid hBe;have HO:=hid hO;obtain ⟨c0,c1,c2⟩:=nd_cells hO;rw [hkd] at c0;clear hm hl m1 m2 hB hO hBe hkd;subst hw2;go_enter Tryz.func106,Tryz.ntmps106;go_wp2_with fail
 refine wp_region_noPanic ?_;refine wp_region_held_drew (S:=fun w'=>OwnN w' w.heap.size N a n c∧Below w.heap.size w w') (by kernel_rfl) (⟨HO.out.drew,HBw.out.drew⟩) (fun hld=>?_);refine Rg.tk (i:=0) rfl ?_;try simp only [Act.put,Rg.s]
 refine Rg.tk (i:=1) rfl ?_ (hy:=by intro wz hSw; (have q0:=(nd_cells hSw.1).2.1; go_simp <;> with_reducible rfl));try simp only [Act.put,Rg.s]
 refine Rg.tk (i:=4) rfl ?_;try simp only [Act.put,Rg.s]
 refine Rg.tk (i:=5) rfl ?_;try simp only [Act.put,Rg.s]
 refine Rg.tk (i:=6) rfl ?_ (hy:=by intro wz hSw; (have q0:=HCk.out wz hSw.1; go_simp <;> with_reducible rfl));try simp only [Act.put,Rg.s]
 refine Rg.rd (i:=2) rfl fun K hK=>?_;go_simp;go_at_call 131
 (with_reducible refine (HPk.out _ hld.2).mono ?_)
 rintro e wx0 ⟨rfl,hbx⟩;refine hK.out _ _ ?_ (fun hld=>?_)
 ·exact ⟨hld.1.below hbx,bst hld.2 hbx⟩
 clear hK K hbx;try simp only [Act.put,Rg.s]
 refine Rg.rd (i:=3) rfl fun K hK=>?_;go_simp;go_at_call 130
 (with_reducible refine (HT1.out _).mono ?_)
 rintro e wx1 ⟨rfl,hbx⟩;refine hK.out _ _ ?_ (fun hld=>?_)
 ·exact ⟨hld.1.below hbx,bst hld.2 hbx⟩
 clear hK K hbx;try simp only [Act.put,Rg.s]
 refine Rg.rd (i:=7) rfl fun K hK=>?_;go_simp;go_at_call 132
 (with_reducible refine (HT2.out _).mono ?_)
 rintro e wx2 ⟨rfl,hbx⟩;refine hK.out _ _ ?_ (fun hld=>?_)
 ·exact ⟨hld.1.below hbx,bst hld.2 hbx⟩
 clear hK K hbx;try simp only [Act.put,Rg.s]
 refine Rg.tk (i:=8) rfl ?_ (hy:=by intro wz hSw; (have q0:=HSZ.out; go_simp <;> with_reducible rfl));try simp only [Act.put,Rg.s]
 refine Rg.tk (i:=9) rfl ?_;try simp only [Act.put,Rg.s]
 refine wpAnyH_done (by kernel_rfl) ?_ _;refine NoPanic.normal ?_;rw [HX.out];obtain ⟨c0,c1,c2⟩:=nd_cells hld.1;rw [HK.out] at c0;have HB8:=hid hld.2;clear hld;have hsz9:(headS X.size true).size≤9:=by unfold headS; rw [ba_size]; exact headL_le _ _ (by omega)
 have HHd:=hid (rhead_any X.size (by omega) true);go_wp2_with fail
 refine (HHd.out _).mono ?_;rintro e w9 ⟨rfl,hb9⟩;have HB9:=hid (bst HB8.out hb9);clear hb9;go_wp2;go_ret;exact ⟨by rw [HF.out]; rfl,HB9.out⟩
end No
end
section
open Go.RowKit
namespace Tm
open Tr Rf Rl Ni No Pk Sm
theorem put_few {N:Nd} (hl:N.ks.length=16) (h:mayW refP N=true):(putP N).length≤900000:=by
 have key:∀ m,(∀ y∈itemsP N,y.bytes.length≤m)→(itemsP N).length*m≤200000→(putP N).length≤900000:=by
  intro m h1 h2;have h3:=flat_le (itemsP N) m h1;unfold putP itemP;rw [bytes_list _ (by omega),List.length_append];have:=headL_le ((itemsP N).map It.bytes).flatten.length true (by omega);omega
 have hg:=items_good hl h;rcases may_kinds hl h with ⟨k1,_⟩ | ⟨k1,_⟩ | ⟨k1,_,_,_,hr⟩
 ·exact key 65561 (fun y hy=>(hg y hy).2) (by unfold itemsP; rw [if_neg (by omega),if_pos k1]; simp)
 ·exact key 65561 (fun y hy=>(hg y hy).2) (by unfold itemsP; rw [if_neg (by omega),if_neg (by omega)]; simp)
 ·refine key 41 (fun y hy=>?_) (by have:=items_few hl; omega);unfold itemsP at hy;rw [if_pos k1] at hy;rcases List.mem_append.1 hy with hy | hy
  ·obtain ⟨k,hk,rfl⟩:=List.mem_map.1 hy;exact (refI_fits (hr k hk)).2
  ·obtain rfl:=List.mem_singleton.1 hy;have h:=(refI_fits (k:=eB) (by unfold refP; rw [eB_plain]; rfl)).2;rw [refI_plain eB_plain] at h;exact h
theorem ref_few {k:ByteArray} (h:refP k=true):k.size≤32:=by
 unfold refP at h;rw [Bool.or_eq_true,Bool.and_eq_true] at h;rcases h with h | h
 ·have:k.size=0∨k.size=32:=of_decide_eq_true h;omega
 ·have:=of_decide_eq_true h.1;omega
theorem enc_core (p:Option Addr) (N:Nd) (hl:N.ks.length=16) (hv:N.v.size≤maxLen) (hks:∀ k∈N.ks,k.size≤100) (w:World) (Q:World→Prop)
  (htop:∀ wx,Below w.heap.size w wx→Calls Tryz.prog 48 #[.agg #[.pointer p]] wx fun e w'=>∃ a n c,e = .returned (.agg (ndC N a n c))∧IsBs w' a n c N.p∧Q w') :
  Calls Tryz.prog 56 #[.agg #[.pointer p]] w fun e w'=>e = .returned (.string (if mayW refP N then ⟨(putP N).toArray⟩ else eB))∧∃ w1,Q w1∧Below w1.heap.size w1 w':=by
 have h0:=box_tree w p;have HT:=hid (htop _ (al1 w (.cells #[.pointer p] 28)));have HL:=hid hl;have HV:=hid hv;have HK:=hid hks;obtain ⟨s,hs⟩:∃ s,(if mayW refP N then (⟨(putP N).toArray⟩:ByteArray) else eB)=s:=⟨_,rfl⟩
 obtain ⟨x,hx⟩:∃ x:Int,(if mayW refP N then (0:Int) else 2)=x:=⟨_,rfl⟩
 rw [hs];have HS:=hid hs;have HX:=hid hx;clear htop hl hv hks hs hx;go_enter Tryz.func56,Tryz.ntmps56;go_wp2_with (refine Rg.run rfl _ _ (op_load_tree h0 ⟨_,rfl,rfl⟩) ?_)
 refine HT.out.mono ?_;rintro e w1 ⟨a,n,c,rfl,hB,hQ⟩;have HP:=hid (nput_any N a n c HL.out w1 hB HV.out HK.out);have HQ:=hid hQ;unfold putV at HP;rw [HS.out,HX.out] at HP;clear hB hQ HT h0;go_wp2_with fail
 refine HP.out.mono ?_;rintro e w2 ⟨rfl,hb2⟩;have HB:=hid hb2;clear hb2 HP;go_wp2;go_ret;exact ⟨rfl,w1,HQ.out,HB.out⟩
theorem tree_node {t:T} {L:Nat} (g:Tr.Good t L) (hL:L≤64) (f:Fine t) (hn:t ≠ .nil) (hs:¬ IsStub t):mayW refP (nodeT t)=true∧encT t=⟨(putP (nodeT t)).toArray⟩∧(encT t).size≤900000∧(nodeT t).v.size≤maxLen∧(nodeT t).p.length≤64∧∀ k∈(nodeT t).ks,k.size≤100:=by
 have hm:=(may_tree t L g hL f hn).1 hs;have he:encT t=⟨(putP (nodeT t)).toArray⟩:=by
  cases t with
  | nil=>exact absurd rfl hn
  | stub r=>exact absurd trivial hs
  | leaf p v=>rfl
  | ext q s=>rfl
  | br ks=>rfl
 refine ⟨hm,he,?_,?_,?_,?_⟩
 ·rw [he];have:=put_few (nodeT_length t) hm;show (putP (nodeT t)).toArray.size≤_;simpa using this
 ·cases t with
  | leaf p v=>exact Nat.le_trans f.2 (by unfold maxLen; omega)
  | _=>exact Nat.zero_le _
 ·unfold mayW at hm;rw [Bool.and_eq_true,Bool.and_eq_true] at hm;exact of_decide_eq_true hm.1.1
 ·intro k hk;have hz:∀ x,x=eB→x.size≤100:=fun x e=>by rw [e]; exact Nat.zero_le _
  cases t with
  | nil=>exact hz k (List.eq_of_mem_replicate (show k∈List.replicate 16 eB from hk))
  | stub r=>exact absurd trivial hs
  | leaf p v=>exact hz k (List.eq_of_mem_replicate (show k∈List.replicate 16 eB from hk))
  | ext q s =>
   rcases List.mem_cons.1 (show k∈ref s::List.replicate 15 eB from hk) with rfl | h
   ·obtain ⟨_,_,g3,g4,g5⟩:=g;have:=ref_few (may_tree s _ g5 (by omega) f (isBr_ne g4)).2.1;omega
   ·exact hz k (List.eq_of_mem_replicate h)
  | br ks =>
   obtain ⟨i,_,rfl⟩:=List.mem_map.1 (show k∈(List.finRange 16).map fun i=>ref (ks i) from hk);by_cases e:ks i = .nil
   ·rw [e]; exact Nat.zero_le _
   ·have:=ref_few (may_tree (ks i) _ (g.2.2 i) (by omega) (f i) e).2.1;show (ref (ks i)).size≤100;omega
theorem path_len {t:T} {L:Nat} (g:Tr.Good t L):(pathT t).length≤L:=by
 cases t with
 | leaf p v=>exact Nat.le_of_eq g.1
 | ext q s=>exact g.2.2.1
 | nil=>exact Nat.zero_le _
 | br ks=>exact Nat.zero_le _
 | stub r=>exact Nat.zero_le _
theorem top_any (M:Mp) (b:Nat) (t:T) (hm:M.at_ b=some t) (hs:¬ IsStub t) (hn:t ≠ .nil) {L:Nat} (g:Tr.Good t L) (hL:L≤64) (w:World) (hi:InvN M (sz t) w) {pa:Option Addr} {pn pc:Nat} {ka:Option Addr} {kn kc:Nat} (hB:Body M w b t pa pn pc ka kn kc) (hT:Tab w)
  (hR1:∀ q s,t = .ext q s→RefC s) (hR2:∀ ks,t = .br ks→∀ i,RefC (ks i)) :
  Calls Tryz.prog 48 #[.agg #[.pointer (some ⟨b,0,none⟩)]] w (TopPost M t w):=by
 have hp:=path_len g;cases t with
 | nil=>exact absurd rfl hn
 | stub r=>exact absurd trivial hs
 | leaf q v=>exact top_leaf M b q v hm w hi pa pn pc ka kn kc hB (by have:q.length≤L:=hp; omega)
 | ext q s=>exact top_ext M b q s hm w hi pa pn pc ka kn kc hB (by have:q.length≤L:=hp; omega) hT (hR1 q s rfl)
 | br ks=>exact top_br M b ks hm w hi pa pn pc ka kn kc hB hT (hR2 ks rfl)
theorem enc_any (M:Mp) (b:Nat) (t:T) (hm:M.at_ b=some t) (hs:¬ IsStub t) (hn:t ≠ .nil) {L:Nat} (g:Tr.Good t L) (hL:L≤64) (f:Fine t) (w:World) (hi:InvN M (sz t) w) {pa:Option Addr} {pn pc:Nat} {ka:Option Addr} {kn kc:Nat} (hB:Body M w b t pa pn pc ka kn kc) (hT:Tab w)
  (hR1:∀ q s,t = .ext q s→RefC s) (hR2:∀ ks,t = .br ks→∀ i,RefC (ks i)) :
  Calls Tryz.prog 56 #[.agg #[.pointer (some ⟨b,0,none⟩)]] w fun e w'=>e = .returned (.string (encT t))∧FrN M (sz t) w w'∧InvN M (sz t) w':=by
 obtain ⟨h1,h2,h3,h4,h5,h6⟩:=tree_node g hL f hn hs;refine (enc_core (some ⟨b,0,none⟩) (nodeT t) (nodeT_length t) h4 h6 w (fun w'=>FrN M (sz t) w w'∧InvN M (sz t) w') (fun wx hbx=>?_)).mono ?_
 ·refine (top_any M b t hm hs hn g hL wx (hi.below hbx) (hB.below hbx) (hT.below hbx hT.pos) hR1 hR2).mono ?_;rintro e w' ⟨a,n,c,rfl,hx,hf,hi'⟩;exact ⟨a,n,c,rfl,hx.1,(FrN.below M _ hbx).trans hf,hi'⟩
 ·rintro e w' ⟨rfl,w1,⟨hf,hi1⟩,hb⟩;exact ⟨by rw [if_pos h1,h2],hf.trans (FrN.below M _ hb),hi1.below hb⟩
def lockC (t:T) (a:Option Addr) (n c:Nat) (ka:Option Addr) (kn kc:Nat) (r:ByteArray):Array Value :=
 #[.int .i64 (kindT t),.slice a n c,.string (valT t),.slice ka kn kc,.int .u32 0,.int .i32 1,.int .u32 0,.string r]
theorem lock_no {t:T} {a:Option Addr} {n c:Nat} {ka:Option Addr} {kn kc:Nat} {r:ByteArray} {j:Nat} {v:Value} (h:(lockC t a n c ka kn kc r)[j]? = some v):(∀ x,v ≠ .int .u8 x)∧∀ p,v ≠ .pointer p:=by
 unfold lockC at h
 match j,h with
 | 0,h | 1,h | 2,h | 3,h | 4,h | 5,h | 6,h | 7,h =>
  simp at h;subst h;exact ⟨fun x e=>(by cases e),fun p e=>(by cases e)⟩
 | j+8,h=>simp at h
theorem lock_nobp {w:World} {b:Nat} {t:T} {a:Option Addr} {n c:Nat} {ka:Option Addr} {kn kc:Nat} {r:ByteArray} (h:Rg.Own w b (lockC t a n c ka kn kc r) 106):NoBP w b:=by
 refine ⟨fun j v hc=>lock_no (cell_heap h.2 hc),?_⟩;rw [World.cell?,h.2];rfl
theorem meet_store_at {o:Oper} {a:Act} {w:World} {K:Act→World→Prop} {Q:Exit→Act→World→Prop} {ops:Array Oper} (hw:Region.wanted o (yielded ops a.tmps)=true) {b off:Nat} {cs:Array Value} {t:TypeId} (hg:Rg.Own w b cs t) (hof:off<cs.size) (s:ByteArray)
  (ho:∃ x y,o.op = .store 9 x y∧a.eval x = .pointer (some ⟨b,off,none⟩)∧a.eval y = .string s)
  (h:∀ w',Rg.Own w' b (cs.setIfInBounds off (.string s)) t→Rg.Upd w b w'→K (a.put o.dst undef) w'):if Region.wanted o (yielded ops a.tmps)=true then Oper.wp Tryz.prog o a w K Q else K (a.put o.dst undef) w:=by
 obtain ⟨x,y,ho,hx,hy⟩:=ho;refine Rg.want hw ?_;unfold Oper.wp execOp;simp only [ho,hx,hy,Sem.run_bind,Sem.run_pure,Result.andThen_ok,store_str_at hg hof s];exact h _ (own_setCell hg _) (upd_setCell _ _ _ _)
theorem InvN.lock {M:Mp} {n:Nat} {w w':World} {b:Nat} {t:T} (h:InvN M n w) (hu:Rg.Upd w b w') (hm:M.at_ b=some t) (hnt:n≤sz t) (hN:NoBP w' b):InvN M n w':=by
 refine ⟨fun k hk=>by rw [hu.size]; exact h.lt_ k hk,fun b' t' hm'=>?_⟩;obtain ⟨h1,h2,h3,h4⟩:=h.part_ b' t' hm';have hNb:=(h.part_ b t hm).2.2.1;by_cases e:b'=b
 ·subst e;obtain rfl:t=t':=by rw [hm] at hm'; exact Option.some.inj hm'
  exact ⟨h1,h2,hN,fun hl=>absurd hl (by omega)⟩
 ·refine ⟨h1,h2,h3.keep (hu.block b' e),fun hl=>(h4 hl).keep (by rw [hu.size]; exact Nat.le_refl _) (hu.block b' e) (fun k j v hk hc hv=>hu.block k (fun ek=>?_))⟩;subst ek;rcases hv with ⟨x,rfl⟩ | ⟨p,rfl⟩
  ·exact (hNb.1 _ _ hc).1 x rfl
  ·exact (hNb.1 _ _ hc).2 p rfl
theorem Body.upd {M:Mp} {w w':World} {b:Nat} {t:T} {a:Option Addr} {n c:Nat} {ka:Option Addr} {kn kc:Nat} (h:Body M w b t a n c ka kn kc) (hN:NoBP w b) (hu:Rg.Upd w b w') (hc:∀ j,j<4→w'.cell? ⟨b,j,none⟩=w.cell? ⟨b,j,none⟩):Body M w' b t a n c ka kn kc:=by
 refine ⟨(hc 0 (by omega)).trans h.c0,(hc 1 (by omega)).trans h.c1,(hc 2 (by omega)).trans h.c2,(hc 3 (by omega)).trans h.c3,⟨h.hb.1,h.hb.2.1,h.hb.2.2.1,h.hb.2.2.2.1,fun j hj=>?_⟩,h.hk.1,h.hk.2.1,h.hk.2.2.1,h.hk.2.2.2.1,fun j hj=>?_⟩
 ·obtain ⟨b',off,e,hlt,hcb⟩:=h.hb.2.2.2.2 j hj;refine ⟨b',off,e,by rw [hu.size]; exact hlt,?_⟩;rw [World.cell?_of_block (hu.block b' (fun ek=>by subst ek; exact (hN.1 _ _ hcb).1 _ rfl))];exact hcb
 ·obtain ⟨b',off,p,e,hlt,hf,hcb,ht⟩:=h.hk.at' j hj;refine ⟨b',off,p,e,by rw [hu.size]; exact hlt,hf,?_,ht⟩;rw [World.cell?_of_block (hu.block b' (fun ek=>by subst ek; exact (hN.1 _ _ hcb).2 _ rfl))];exact hcb
theorem do_ref (M:Mp) (b:Nat) (t:T) (hm:M.at_ b=some t) (hsz:(encT t).size≤900000) (bx:Nat) (w:World) (hbx:w.cell? ⟨bx,0,none⟩=some (.pointer (some ⟨b,0,none⟩))) (hne:bx≠b) (hi:InvN M (sz t) w) (hT:Tab w)
  {a:Option Addr} {n c:Nat} {ka:Option Addr} {kn kc:Nat} (hO:Rg.Own w b (lockC t a n c ka kn kc eB) 106)
  (hE:Calls Tryz.prog 56 #[.agg #[.pointer (some ⟨b,0,none⟩)]] w.drew fun e w'=>e = .returned (.string (encT t))∧FrN M (sz t) w.drew w'∧InvN M (sz t) w') :
  Calls Tryz.prog 54 #[.pointer (some ⟨bx,0,none⟩)] w fun e w'=>e = .returned (.tuple #[])∧∃ w1,FrN M (sz t) w w1∧InvN M (sz t) w1∧Rg.Upd w1 b w'∧Rg.Own w' b (lockC t a n c ka kn kc (ofP (encT t))) 106:=by
 have HEn:=hid hE;have HSz:=hid hsz;have hnb:M.at_ b=none∨∃ t',M.at_ b=some t'∧sz t≤sz t':=Or.inr ⟨t,hm,Nat.le_refl _⟩;have HF:Hid (∀ w5,FrN M (sz t) w.drew w5→InvN M (sz t) w5→w5.cell? ⟨bx,0,none⟩=some (.pointer (some ⟨b,0,none⟩))∧Tab w5∧Rg.Own w5 b (lockC t a n c ka kn kc eB) 106 ∧
   ∀ w6,Below w5.heap.size w5 w6→w6.cell? ⟨bx,0,none⟩=some (.pointer (some ⟨b,0,none⟩))∧Rg.Own w6 b (lockC t a n c ka kn kc eB) 106 ∧
   ∀ w10,Rg.Own w10 b ((lockC t a n c ka kn kc eB).setIfInBounds 7 (.string (ofP (encT t)))) 106→Rg.Upd w6 b w10→w10.cell? ⟨bx,0,none⟩=some (.pointer (some ⟨b,0,none⟩))∧∃ w1,FrN M (sz t) w w1∧InvN M (sz t) w1∧Rg.Upd w1 b w10∧Rg.Own w10 b (lockC t a n c ka kn kc (ofP (encT t))) 106):=hid (fun w5 hf5 hi5=>by
  have hiD:InvN M (sz t) w.drew:=hi.below (below_drewN (Below.refl _ _) 1);have hTD:Tab w.drew:=hT;have h5:=hf5.cell (b:=bx) (o:=0) hbx (Or.inl (hiD.no_ptr (j:=0) hbx));have hO5:Rg.Own w5 b (lockC t a n c ka kn kc eB) 106:=⟨Nat.lt_of_lt_of_le hO.1 hf5.size,(hf5.block b hO.1 hnb).trans hO.2⟩
  refine ⟨h5,tab_frN hiD hf5 hTD,hO5,fun w6 hb6=>⟨cell_on hb6 h5,hO5.below hb6,fun w10 hO10 hu=>⟨?_,w6,(((FrN.below M _ (below_drewN (Below.refl _ _) 1)).trans hf5).trans (FrN.below M _ hb6)),hi5.below hb6,hu,hO10⟩⟩⟩;rw [← cell_on hb6 h5];exact World.cell?_of_block (w:=w6) (hu.block bx hne))
 clear hE hsz hi hT hO hm hnb hne;go_enter Tryz.func54,Tryz.ntmps54;go_wp2_with fail
 refine wp_region_noPanic ?_;refine wp_region_held_drew (S:=fun w'=>w'.cell? ⟨bx,0,none⟩=some (.pointer (some ⟨b,0,none⟩))) (by kernel_rfl) (hbx) (fun hld=>?_);refine Rg.tk (i:=0) rfl ?_;try simp only [Act.put,Rg.s]
 refine Rg.tk (i:=1) rfl ?_ (hy:=by intro wz hSw; have hcc:=hSw; (try dsimp only at hSw); go_simp <;> with_reducible rfl);try simp only [Act.put,Rg.s]
 refine Rg.tk (i:=2) rfl ?_ (hy:=by intro wz hSw; (refine op_load_tree hSw ?_; exact ⟨_,rfl,rfl⟩));try simp only [Act.put,Rg.s]
 refine Rg.rd (i:=3) rfl fun K hK=>?_;go_simp;go_at_call 56
 (with_reducible refine HEn.out.mono ?_)
 rintro e w5 ⟨rfl,hf5,hi5⟩;obtain ⟨hS5,hT5,hO5,H5'⟩:=HF.out w5 hf5 hi5;have H5:=hid H5';have HO5:=hid hO5;have HT5:=hid hT5;clear hf5 hi5 H5' hO5 hT5;refine hK.out _ _ ?_ (fun hld=>?_)
 ·exact hS5
 clear hK K;try simp only [Act.put,Rg.s]
 refine Rg.rd (i:=4) rfl fun K hK=>?_;go_simp;go_at_call 55
 (with_reducible refine (fof_any _ HSz.out w5 HT5.out).mono ?_)
 rintro e w6 ⟨rfl,hb6⟩;obtain ⟨hS6,hO6,H6'⟩:=H5.out w6 hb6;have H6:=hid H6';have HO6:=hid hO6;clear hb6 H6' hO6;refine hK.out _ _ ?_ (fun hld=>?_)
 ·exact hS6
 clear hK K;try simp only [Act.put,Rg.s]
 refine Rg.tk (i:=5) rfl ?_;try simp only [Act.put,Rg.s]
 refine Rg.tk (i:=6) rfl ?_;try simp only [Act.put,Rg.s]
 refine Rg.rd (i:=7) rfl fun K hK=>?_;refine meet_store_at (by rfl) HO6.out (off:=7) (show 7<8 by omega) (ofP (encT t)) ⟨_,_,rfl,rfl,rfl⟩ ?_;intro w10 hO10 hu10;obtain ⟨hS10,H10'⟩:=H6.out w10 hO10 hu10;have H10:=hid H10';clear hO10 H10';refine hK.out _ _ ?_ (fun hld=>?_)
 ·exact hS10
 clear hK K;try simp only [Act.put,Rg.s]
 refine wpAnyH_done (by kernel_rfl) ?_ _;refine NoPanic.normal ?_;go_wp2;go_end0;exact ⟨rfl,H10.out⟩
end Tm
end
section
open Go.RowKit
namespace Rf
open Rl Ni No Sh Sm
def sumS (s:ByteArray):ByteArray:=⟨(sumB s).toArray⟩
theorem rsum_of (s:ByteArray) (hs:s.size≤900000) (w:World) :
  Calls Tryz.prog 105 #[.string s] w fun e w'=>e = .returned (.string (sumS s))∧Below w.heap.size w w':=by
 have h:=rof_any s.data.toList (by simpa using hs) w;have e:(⟨s.data.toList.toArray⟩:ByteArray)=s:=by apply ByteArray.ext; simp
 rw [e] at h;exact h
theorem r7of_any (s:ByteArray) (hs:s.size≤900000) (w:World) :
  Calls Tryz.prog 80 #[.string s] w fun e w'=>e = .returned (.string (ofP s))∧Below w.heap.size w w':=by
 by_cases h:s.size<32
 ·have HF:Hid (ofP s=s):=hid (by unfold ofP; rw [if_pos h]);have hd:decide ((32:Int)≤(s.size:Int))=false:=by simp; omega
  rw [HF.out];clear HF;go_enter Tryz.func80,Tryz.ntmps80;go_wp2;go_ret;exact ⟨rfl,Below.refl _ _⟩
 ·have HF:Hid (ofP s=sumS s):=hid (by unfold ofP; rw [if_neg h]; rfl);have hd:decide ((32:Int)≤(s.size:Int))=true:=by simp; omega
  have HOf:=hid (rsum_of s hs w);rw [HF.out];obtain ⟨K,hK⟩:∃ K,sumS s=K:=⟨_,rfl⟩
  rw [hK] at HOf;rw [hK];clear HF hK;go_enter Tryz.func80,Tryz.ntmps80;go_wp2_with fail
  refine HOf.out.mono ?_;rintro e w1 ⟨rfl,hb1⟩;go_wp2;go_ret;exact ⟨rfl,hb1⟩
end Rf
end
section
open Go.RowKit
namespace No
open Rl Ni
theorem first_step (ks:List ByteArray) (j:Nat) (hj:j<ks.length):flatA ((ks.take (j+1)).map refI)=flatA ((ks.take j).map refI)++⟨(refI (ks.getD j eB)).bytes.toArray⟩:=by
 have e:ks.getD j eB=ks[j]:=by simp [List.getD,hj]
 rw [List.take_succ_eq_append_getElem hj,List.map_append,flatA_app,List.map_cons,List.map_nil,flatA_one,e]
theorem first_few (ks:List ByteArray) (hr:∀ k∈ks,refP k=true) (j:Nat) (hj:j≤16):(flatA ((ks.take j).map refI)).size≤656:=by
 rw [flatA_size];have:=flat_le ((ks.take j).map refI) 41 (fun y hy=>by
  obtain ⟨k,hk,rfl⟩:=List.mem_map.1 hy;exact (refI_fits (hr k (List.mem_of_mem_take hk))).2)
 have h2:((ks.take j).map refI).length*41≤16*41:=Nat.mul_le_mul_right _ (by rw [List.length_map,List.length_take]; omega);omega
theorem nil_bytes:(⟨(It.mk false ⟨#[]⟩ []).bytes.toArray⟩:ByteArray)=⟨#[128]⟩:=by
 rw [bytes_text ⟨#[]⟩ (by decide)];rfl
theorem rput_branch (N:Nd) (a:Option Addr) (n c:Nat) (hl:N.ks.length=16) (w:World) (hB:IsBs w a n c N.p) (hm:mayW refP N=true) (hkd:N.kd=3) :
  Calls Tryz.prog 106 #[.agg (ndC N a n c)] w fun e w'=>e = .returned (.string ⟨(putP N).toArray⟩)∧Below w.heap.size w w':=by
 obtain ⟨m1,m2,_⟩:=may_parts hm;obtain ⟨f1,f2⟩:=putP_flat hl hm;have hn64:n≤64:=by rw [← hB.len]; exact m1
 obtain ⟨w2,hw2⟩:∃ w2,w2=w.alloc (.cells (ndC N a n c) 56):=⟨_,rfl⟩
 have hO:OwnN w2 w.heap.size N a n c:=by rw [hw2]; exact Rg.Own.new _ _ _
 have hBe:Below w.heap.size w w2:=by rw [hw2]; exact al1 _ _
 have HPk:=hid (fun w' hb=>rpack_any a n c N.p true m2 hn64 w' (hB.below hb));have hr:∀ k∈N.ks,refP k=true:=by
  rcases may_kinds hl hm with ⟨k1,_⟩ | ⟨k2,_⟩ | ⟨_,_,_,_,r⟩
  ·omega
  ·omega
  ·exact r
 have HI:Hid (flatA (itemsP N)=flatA ((N.ks.take 16).map refI)++⟨#[128]⟩):=hid (by
  unfold itemsP;rw [if_pos hkd,flatA_app,flatA_one,List.take_of_length_le (by omega)];show _++(⟨(It.mk false ⟨#[]⟩ []).bytes.toArray⟩:ByteArray)=_;rw [nil_bytes])
 have HRf:Hid (∀ j,j<16→∀ w,Calls Tryz.prog 132 #[.string (N.ks.getD j eB)] w fun e w'=>e = .returned (.string ⟨(refI (N.ks.getD j eB)).bytes.toArray⟩)∧Below w.heap.size w w'):=hid (fun j hj w=>by
  have hmem:N.ks.getD j eB∈N.ks:=by rw [List.getD_eq_getElem?_getD,List.getElem?_eq_getElem (by omega)]; exact List.getElem_mem _
  refine rref_any _ ?_ (hr _ hmem) w;cases hp:plainB (N.ks.getD j eB) with
  | true=>have:=plain_size hp; omega
  | false=>obtain ⟨_,_,_,_,_,_,h,_⟩:=ref_list hp (hr _ hmem); omega)
 have HFs:Hid (∀ j,j<16→flatA ((N.ks.take (j+1)).map refI)=flatA ((N.ks.take j).map refI)++⟨(refI (N.ks.getD j eB)).bytes.toArray⟩):=hid (fun j hj=>first_step N.ks j (by omega));have HFw:Hid (∀ j,j≤16→(flatA ((N.ks.take j).map refI)).size≤656):=hid (fun j hj=>first_few N.ks hr j hj);have HFF:Hid (_∧_):=hid ⟨f1,f2⟩;clear hr f1 f2;have HL:=hid hl;have HK:=hid hkd;have HBw:=hid hBe;have HO:=hid hO;obtain ⟨c0,c1,c2⟩:=nd_cells hO;rw [hkd] at c0;clear hm hl m1 m2 hB hO hBe hkd;subst hw2
 go_enter Tryz.func106,Tryz.ntmps106;go_wp2_with fail
 go_loopw [3,4] (fun s i wr=>∃ (j:Nat) (T:ByteArray),j≤16∧i = .int .i64 j∧s = .string T∧T.size≤656∧Hid (flatA ((N.ks.take j).map refI)=T)∧Hid (OwnN wr w.heap.size N a n c)∧Hid (Below w.heap.size w wr)) (fun _ i _=>16-(intOf i).toNat)
 case atStart=>exact ⟨0,⟨#[]⟩,Nat.zero_le _,rfl,rfl,by decide,hid rfl,HO,HBw⟩
 case round =>
  obtain ⟨j,T,hj,rfl,rfl,hT,HT,HN,HB⟩:=hrel;clear HO HBw c0 c1 c2;by_cases hlt:j<16
  ·have HR:=hid (fun w=>HRf.out j hlt w);have HS:=hid (HFs.out j hlt);have HW:=HFw.out (j+1) (by omega);have hc:=nd_kid HN.out HL.out j hlt;have HS2:Hid (flatA ((N.ks.take (j+1)).map refI)=T++⟨(refI (N.ks.getD j eB)).bytes.toArray⟩):=hid (by rw [HS.out,HT.out]);rw [HS2.out] at HW;obtain ⟨k,hk⟩:∃ k,N.ks.getD j eB=k:=⟨_,rfl⟩
   rw [hk] at hc HR HW HS2;obtain ⟨U,hU⟩:∃ U,(⟨(refI k).bytes.toArray⟩:ByteArray)=U:=⟨_,rfl⟩
   rw [hU] at HR HW HS2;have hsz:T.size+U.size≤656:=by rw [ByteArray.size_append] at HW; exact HW
   clear hk hU HS HT HRf HFs HFw;go_wp2_with fail
   refine (HR.out _).mono ?_;rintro e w5 ⟨rfl,hb5⟩;have HN5:=hid (HN.out.below hb5);have HB5:=hid (bst HB.out hb5);clear hb5 HN HB hc;go_wp2;go_roundw
   case rel=>exact ⟨j+1,T++U,by omega,by go_num,rfl,HW,HS2,HN5,HB5⟩
   case measure=>simp [intOf]; omega
  ·obtain rfl:j=16:=by omega
   obtain ⟨f1,f2⟩:=HFF.out;rw [HI.out,HT.out] at f1 f2;obtain ⟨X,hX⟩:∃ X,T++⟨#[128]⟩=X:=⟨_,rfl⟩
   rw [hX] at f1 f2;have HF:=hid f1;have hsz:T.size+(⟨#[128]⟩:ByteArray).size≤1200000:=by rw [← ByteArray.size_append,hX]; exact f2
   have hone:(⟨#[128]⟩:ByteArray).size=1:=rfl;rw [hone] at hsz;have HXe:=hid hX;have hsz9:(headS X.size true).size≤9:=by unfold headS; rw [ba_size]; exact headL_le _ _ (by omega)
   have hXs:(X.size:Int)=(T.size:Int)+1:=by rw [← hX,ByteArray.size_append,hone]; rfl
   have hHd:=rhead_any X.size (by omega) true;rw [hXs] at hHd;have HHd:=hid hHd;clear hHd hXs;have h12:=f2;rw [← hX] at h12;obtain ⟨c0,c1,c2⟩:=nd_cells HN.out;rw [HK.out] at c0;clear f1 hX HFF HI HRf HFs HFw;go_wp2_with fail
   rw [HXe.out]
   with_reducible refine (HHd.out _).mono ?_
   rintro e w9 ⟨rfl,hb9⟩;have HB9:=hid (bst HB.out hb9);clear hb9;go_wp2;go_ret;exact ⟨by rw [HF.out]; rfl,HB9.out⟩
theorem rput_of (N:Nd) (a:Option Addr) (n c:Nat) (hl:N.ks.length=16) (w:World) (hB:IsBs w a n c N.p) (hm:mayW refP N=true) :
  Calls Tryz.prog 106 #[.agg (ndC N a n c)] w fun e w'=>e = .returned (.string ⟨(putP N).toArray⟩)∧Below w.heap.size w w':=by
 rcases may_kinds hl hm with ⟨k1,_⟩ | ⟨k1,_⟩ | ⟨k1,_⟩
 ·exact rput_leaf N a n c hl w hB hm k1
 ·exact rput_ext N a n c hl w hB hm k1
 ·exact rput_branch N a n c hl w hB hm k1
end No
end
end Go.Proofs.YtnecijeakeklaaaGreatDoor
