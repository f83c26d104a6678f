/-
 Contracts of node.readBranch, node.read.
-/
import Derived.Test.YtnecijeakeklaaaGreatDoorMp10
open Go.Lib (hid)
set_option linter.unusedSimpArgs false
set_option linter.unusedVariables false
set_option maxHeartbeats 40000000
set_option maxRecDepth 100000
namespace Go.Proofs.YtnecijeakeklaaaGreatDoor
section
open Go.RowKit
namespace No
open Rl Ni
theorem allK_snoc (l:List It) (x:It):allK (l++[x])=match allK l with
  | none=>none
  | some ks=>match kidP x with
   | none=>none
   | some k=>some (ks++[k]):=by
 induction l with
 | nil =>
  simp only [List.nil_append,allK];cases kidP x <;> rfl
 | cons y ys ih =>
  simp only [List.cons_append,allK,ih];cases kidP y <;> cases allK ys <;> cases kidP x <;> rfl
theorem allK_app_none {l r:List It} (h:allK l=none):allK (l++r)=none:=by
 induction l with
 | nil=>cases h
 | cons y ys ih =>
  simp only [List.cons_append,allK] at h ⊢;cases hy:kidP y with
  | none=>rfl
  | some k =>
   rw [hy] at h;dsimp only at h ⊢;cases hys:allK ys with
   | none=>rw [ih hys]
   | some ks=>rw [hys] at h; cases h
theorem allK_step {xs:List It} {j:Nat} {x:It} {ks:List ByteArray} (hx:xs[j]? = some x) (h:allK (xs.take j)=some ks) {k:ByteArray} (hk:kidP x=some k):allK (xs.take (j+1))=some (ks++[k]):=by
 rw [List.take_add_one,hx,Option.toList_some,allK_snoc,h,hk]
theorem allK_stop {xs:List It} {j m:Nat} {x:It} (hx:xs[j]? = some x) (hj:j<m) (hk:kidP x=none):allK (xs.take m)=none:=by
 have:xs.take m=xs.take (j+1)++(xs.drop (j+1)).take (m-(j+1)):=by rw [← List.take_add,show j+1+(m-(j+1))=m by omega]
 rw [this];refine allK_app_none ?_;rw [List.take_add_one,hx,Option.toList_some,allK_snoc,hk];cases allK (xs.take j) <;> rfl
theorem kidC_set (ks:List ByteArray) (j:Nat) (hj:j<16) (hl:ks.length=j) (k:ByteArray):(kidC (ks++List.replicate (16-j) eB)).setIfInBounds j (.string k)=kidC (ks++[k]++List.replicate (16-(j+1)) eB):=by
 unfold kidC;rw [show 16-j=(16-(j+1))+1 by omega,List.replicate_succ];simp [hl]
theorem kids_cell {w:World} {b:Nat} {ks:List ByteArray} (h:OwnK w b ks) (j:Nat) (hj:j<ks.length):w.cell? ⟨b,j,none⟩=some (.string (ks.getD j eB)):=by
 rw [cell_of_row w b _ _ _ _ h.2];unfold kidC;simp [List.getD,hj]
theorem readBranch_any (xs:List It) (a:Option Addr) (n cap:Nat) (w:World) (h:IsIts w xs a n cap) (h17:xs.length=17) (hG:∀ x∈xs,Good x) :
  Calls Tryz.prog 182 #[.slice a n cap] w (ReadPost w (readP xs)):=by
 have hR:readP xs=readBranchP xs:=by unfold readP; rw [if_neg (by omega),if_pos h17]
 rw [hR];have hm:=h.max;have hnc:=h.le;have hl:=h.len;unfold maxLen at hm;have hn17:n=17:=by omega
 have HX:Hid (∀ j,j<17→∃ x,xs[j]? = some x∧Fits 0 x∧x.size≤4096∧x.bytes.length≤4294967296):=hid (fun j hj=>by
  have hx:xs[j]? = some (xs[j]'(by omega)):=List.getElem?_eq_getElem (by omega);obtain ⟨g1,g2,g3,_⟩:=hG _ (List.mem_of_getElem? hx);exact ⟨_,hx,g1,g2,g3⟩)
 obtain ⟨w2,hw2⟩:∃ w2,w2=w.alloc (.cells (ndC nd0 none 0 0) 56):=⟨_,rfl⟩
 have hO:OwnN w2 w.heap.size nd0 none 0 0:=by rw [hw2]; exact Rg.Own.new _ _ _
 have hB2:Below w.heap.size w w2:=by rw [hw2]; exact al1 _ _
 have hs2:w2.heap.size=w.heap.size+1:=by rw [hw2]; simp
 have HO:=hid hO;have HB2:=hid hB2;have HI:=hid h;have HR:=hid (rfl:readBranchP xs=readBranchP xs);obtain ⟨y,b,off,A,N,C,hy,ha,hblt,hL,hI⟩:=h.at' 16 (by omega);have HL16:=hid hL;have HY:=hid hy;have H17:=hid h17;clear h hO hB2 hG hR hl hL hI hy h17;subst hw2;subst hn17;subst ha;go_enter Tryz.func182,Tryz.ntmps182;go_wp2_with (refine Rg.run rfl _ _ (run_alloc_nd _ _ _ w.heap.size rfl rfl) ?_)
 refine (ntell_any _ _ _ _).mono ?_;rintro e w3 ⟨rfl,hw3⟩;have hb3:Below (w.alloc (.cells (ndC nd0 none 0 0) 56)).heap.size (w.alloc (.cells (ndC nd0 none 0 0) 56)) w3:=by rw [hw3]; exact al1 _ _
 have hs3:w3.heap.size=w.heap.size+2:=by rw [hw3]; simp
 have hc3:w3.cell? ⟨w.heap.size+1,0,none⟩=some (.slice (some ⟨b,off,none⟩) 17 cap):=by
  rw [hw3,← hs2,World.cell?_alloc_mark]; rfl
 have hO4:=(HO.out.below hb3).below (al1 w3 (.cells (kidC zks) 54));have hK4:=Rg.Own.new w3 (kidC zks) 54;rw [hs3] at hK4;have hB4:=(bst HB2.out hb3).trans ((al1 w3 (.cells (kidC zks) 54)).mono (by omega));have hc4:(w3.alloc (.cells (kidC zks) 54)).cell? ⟨w.heap.size+1,0,none⟩=some (.slice (some ⟨b,off,none⟩) 17 cap):=by
  rw [(al1 w3 _).cell (p:=⟨w.heap.size+1,0,none⟩) (by show w.heap.size+1<_; omega)]; exact hc3
 have HO4:=hid hO4;have HK4:=hid hK4;have HB4:=hid hB4;have HC4:=hid hc4;have hcv:(w.alloc (.cells (ndC nd0 none 0 0) 56)).heap.size=w.heap.size+1:=hs2;simp only [hcv];clear hb3 hO4 hK4 hB4 hc4 hc3 hw3 HO HB2 hs2 hcv;go_wp2_with (refine Rg.run rfl _ _ (run_alloc_ks _ _ _ (w.heap.size+2) hs3.symm rfl) ?_)
 have hq:Hid (allK (xs.take 0)=some []):=hid rfl;go_loopw [12] (fun i wr=>∃ (j:Nat) (ks:List ByteArray),j≤16∧i = .int .i64 j∧ks.length=j∧Hid (allK (xs.take j)=some ks)∧Hid (OwnK wr (w.heap.size+2) (ks++List.replicate (16-j) eB))∧Hid (OwnN wr w.heap.size nd0 none 0 0)∧Hid (wr.cell? ⟨w.heap.size+1,0,none⟩=some (.slice (some ⟨b,off,none⟩) 17 cap))∧Hid (Below w.heap.size w wr)) (fun i _=>16-(intOf i).toNat)
 case atStart=>exact ⟨0,[],Nat.zero_le _,rfl,rfl,hq,hid HK4.out,hid HO4.out,hid HC4.out,hid HB4.out⟩
 case round =>
  obtain ⟨j,ks,hj,rfl,hkj,HA,HK,HN,HC,HB⟩:=hrel;clear hq HO4 HK4 HB4 HC4 hs3;by_cases hlt:j<16
  ·obtain ⟨x,hx,hf1,hf2,hf3⟩:=HX.out j (by omega);have HT:=hid (ntell1_any (w.heap.size+1) j xs (some ⟨b,off,none⟩) 17 cap x wr HC.out (HI.out.stays HB.out) hx hf1 hf2 hf3);have Hx:=hid hx;clear hx hf1 hf2 hf3;go_wp2_with fail
   refine HT.out.mono ?_;rintro e w5 ⟨s5,b5,rfl,hk5,hb5⟩;have HN5:=hid (HN.out.below hb5);have hK5:=HK.out.below hb5;have HB5:=hid (bst HB.out hb5);have HC5:=hid ((Below.cell (p:=⟨w.heap.size+1,0,none⟩) hb5 (World.block_lt_of_cell? wr _ HC.out)).trans HC.out);have hl5:(ks++List.replicate (16-j) eB).length=16:=by simp; omega
   have c5:=kids_cell hK5 j (by omega);have f5:w5.frozen? ⟨w.heap.size+2,j,none⟩=false:=own_free' hK5;have HK5:=hid hK5;have Hk5:=hid hk5;clear hk5 hb5 hK5 HT HN HK HB HC;cases b5 with
   | true =>
    have HKP:Hid (kidP x=some s5):=hid (by rcases Hk5.out with ⟨_,h⟩ | ⟨h,_⟩; exact h; cases h);go_wp2;go_roundw
    case rel =>
     refine ⟨j+1,ks++[s5],by omega,by go_num,by simp [hkj],hid (allK_step Hx.out HA.out HKP.out),hid ?_,hid (own_cell_other HN5.out _ (by omega)),hid ?_,hid ?_⟩
     ·have h:=own_cell (o:=j) HK5.out (.string s5);rw [kidC_set ks j hlt hkj s5] at h;exact h
     ·rw [World.cell?_setCell_far _ _ _ _ (by show w.heap.size+2≠w.heap.size+1; omega)]; exact HC5.out
     ·exact HB5.out.setCell (by show w.heap.size≤w.heap.size+2; omega) _
    case measure=>simp [intOf]; omega
   | false =>
    have HKP:Hid (kidP x=none):=hid (by rcases Hk5.out with ⟨h,_⟩ | ⟨_,h⟩; cases h; exact h);go_wp2_with (first
     | (refine Rg.run rfl _ _ (op_build built0 ?_) ?_; · exact ⟨_,rfl,rfl⟩)
     | (refine wpl_store_nd HN5.out rfl nd0 none 0 0 rfl rfl _ _ rfl rfl rfl rfl ?_))
    refine bodyPost_ret (res_nd1 rfl _ rfl (own_rowN HN5.out) rfl) rfl ⟨nd0,none,0,0,false,rfl,.inr ⟨rfl,?_⟩,BsF.nil _ _,rfl,below_rowN HB5.out (Nat.le_refl _) _⟩;unfold readBranchP;rw [allK_stop Hx.out hlt HKP.out]
  ·obtain rfl:j=16:=by omega
   have HB16:Hid (readBranchP xs=if y.l=false∧y.s.size=0 then some ⟨3,[],eB,ks⟩ else none):=hid (by
    unfold readBranchP;rw [HA.out];have:xs.getD 16 it0=y:=Option.some.inj ((getD_at (xs:=xs) (i:=16) (by rw [H17.out]; omega)).symm.trans HY.out);rw [this])
   have HK16:Hid (OwnK wr (w.heap.size+2) ks):=hid (by have:=HK.out; simpa using this);have hkl:ks.length=16:=hkj;have q0:wr.cell? ⟨b,off+48,none⟩=some (.bool y.l):=(Below.cell (p:=⟨b,_,none⟩) HB.out hblt).trans HL16.out.1;have q1:wr.cell? ⟨b,off+48+1,none⟩=some (.string y.s):=(Below.cell (p:=⟨b,_,none⟩) HB.out hblt).trans HL16.out.2.1;have q2:wr.cell? ⟨b,off+48+2,none⟩=some (.slice A N C):=(Below.cell (p:=⟨b,_,none⟩) HB.out hblt).trans HL16.out.2.2;clear HA HK HC HX HL16 HY H17 HI HR;cases hyl:y.l with
   | true =>
    have HF:Hid (readBranchP xs=none):=hid (by rw [HB16.out,hyl]; rfl);clear HB16;rw [hyl] at q0;obtain ⟨wl,hwl⟩:∃ wl,wl=wr.alloc (.cells #[.bool true,.string y.s,.slice A N C] 168):=⟨_,rfl⟩
    have hbl:Below wr.heap.size wr wl:=by rw [hwl]; exact al1 _ _
    have hcl:wr.heap.size<wl.heap.size:=by rw [hwl]; simp
    have e0:wl.cell? ⟨wr.heap.size,0,none⟩=some (.bool true):=by rw [hwl,World.cell?_alloc_mark]; rfl
    have e1:wl.cell? ⟨wr.heap.size,1,none⟩=some (.string y.s):=by rw [hwl,World.cell?_alloc_mark]; rfl
    have HKl:=hid (HK16.out.below hbl);have HNl:=hid (HN.out.below hbl);have HBl:=hid (bst HB.out hbl);clear hbl;go_wp2_with fail
    rw [← hwl];clear hwl;obtain ⟨g,hg⟩:∃ g,wr.heap.size=g:=⟨_,rfl⟩
    have hge:w.heap.size+2<g:=by rw [← hg]; exact HK16.out.1
    rw [hg] at e0 e1 hcl ⊢;clear hg;have hON:=HNl.out.drew;have hw0:w.heap.size<wl.drew.heap.size:=HNl.out.1;refine wp_region_noPanic ?_;refine wp_region_held_drew (S:=fun w'=>Rg.Own w' (w.heap.size+2) (kidC ks) 54∧w'.cell? ⟨g,0,none⟩=some (.bool true)∧w'.cell? ⟨g,1,none⟩=some (.string y.s)∧Below w.heap.size w w') (by kernel_rfl) (⟨HKl.out.drew,e0,e1,HBl.out.drew⟩) (fun hld=>?_);refine Rg.tk (i:=0) rfl ?_ (hy:=by intro wz hSw; (refine op_load_kc hSw.1 hkl ?_; exact ⟨_,rfl,rfl⟩));try simp only [Act.put,Rg.s]
    refine Rg.tk (i:=2) rfl ?_;try simp only [Act.put,Rg.s]
    refine Rg.tk (i:=3) rfl ?_ (hy:=by intro wz hSw; (have q0:=hSw.2.1; go_simp <;> with_reducible rfl));try simp only [Act.put,Rg.s]
    refine Rg.tk (i:=4) rfl ?_;try simp only [Act.put,Rg.s]
    refine Rg.rd (i:=1) rfl fun K hK=>?_;go_simp;go_at_call 84
    (with_reducible refine (branch_any ks hkl _).mono ?_)
    rintro e wv0 ⟨a5,n5,c5,rfl,hx5,hl5,hbx⟩;have hHN:=hON.below hbx;have hg0:g<wl.drew.heap.size:=World.block_lt_of_cell? _ _ hld.2.1;refine hK.out _ _ ?_ (fun hld=>?_)
    ·exact ⟨hld.1.below hbx,(Below.cell (p:=⟨g,0,none⟩) hbx hg0).trans hld.2.1,(Below.cell (p:=⟨g,1,none⟩) hbx hg0).trans hld.2.2.1,bst hld.2.2.2 hbx⟩
    clear hK K hbx hON;try simp only [Act.put,Rg.s]
    refine Rg.tk (i:=5) rfl ?_;try simp only [Act.put,Rg.s]
    refine Rg.takeL (i:=6) (v:=undef) rfl (by kernel_rfl) (by kernel_rfl) (by kernel_rfl) (fun _ _ _ h=>h) (Or.inr ⟨by rfl,rfl⟩) (by assumption) ?_;try simp only [Act.put,Rg.s]
    refine Rg.takeL (i:=7) (v:=undef) rfl (by kernel_rfl) (by kernel_rfl) (by kernel_rfl) (fun _ _ _ h=>h) (Or.inr ⟨by rfl,rfl⟩) (by assumption) ?_;try simp only [Act.put,Rg.s]
    refine Rg.takeL (i:=8) (v:=undef) rfl (by kernel_rfl) (by kernel_rfl) (by kernel_rfl) (fun _ _ _ h=>h) (Or.inr ⟨by rfl,rfl⟩) (by assumption) ?_;try simp only [Act.put,Rg.s]
    refine Rg.tk (i:=9) rfl ?_;try simp only [Act.put,Rg.s]
    refine Rg.rd (i:=10) rfl fun K hK=>?_;refine Rg.meetStore (by rfl) hHN 56 (ndC ⟨3,[],eB,ks⟩ a5 n5 c5) ⟨_,_,rfl,rfl,rfl⟩ (info_ndC _ _ _ _ hkl) (by rw [ndC_size _ _ _ _ rfl,ndC_size _ _ _ _ hkl]) (ndC_one _ _ _ _) ?_;rintro wz hn hu;have hx6:BsF w.heap.size wz a5 n5 c5 []:=(hx5.upd hu (by omega)).weak (by omega);refine hK.out _ _ ?_ (fun hld=>?_)
    ·exact ⟨hld.1.upd hu (by omega),(World.cell?_of_block (hu.block g (by omega))).trans hld.2.1,(World.cell?_of_block (hu.block g (by omega))).trans hld.2.2.1,hu.below hld.2.2.2 (Nat.le_refl _)⟩
    clear hK K hHN hx5;try simp only [Act.put]
    refine Rg.tk (i:=11) rfl ?_;try simp only [Act.put,Rg.s]
    refine wpAnyH_done (by kernel_rfl) ?_ _;refine NoPanic.normal ?_;go_wp2;exact bodyPost_ret (res_nd1 rfl _ rfl hn hkl) rfl ⟨⟨3,[],eB,ks⟩,a5,n5,c5,false,rfl,.inr ⟨rfl,HF.out⟩,hx6,hkl,hld.2.2.2⟩
   | false =>
    rw [hyl] at q0;by_cases hys:y.s.size=0
    ·have hye:=size_zero hys;have HF:Hid (readBranchP xs=some ⟨3,[],eB,ks⟩):=hid (by rw [HB16.out,if_pos ⟨hyl,hys⟩]);clear HB16;rw [hye] at q1;obtain ⟨wl,hwl⟩:∃ wl,wl=wr.alloc (.cells #[.bool false,.string ⟨#[]⟩,.slice A N C] 168):=⟨_,rfl⟩
     have hbl:Below wr.heap.size wr wl:=by rw [hwl]; exact al1 _ _
     have hcl:wr.heap.size<wl.heap.size:=by rw [hwl]; simp
     have e0:wl.cell? ⟨wr.heap.size,0,none⟩=some (.bool false):=by rw [hwl,World.cell?_alloc_mark]; rfl
     have e1:wl.cell? ⟨wr.heap.size,1,none⟩=some (.string ⟨#[]⟩):=by rw [hwl,World.cell?_alloc_mark]; rfl
     have HKl:=hid (HK16.out.below hbl);have HNl:=hid (HN.out.below hbl);have HBl:=hid (bst HB.out hbl);clear hbl;go_wp2_with fail
     rw [← hwl];clear hwl;obtain ⟨g,hg⟩:∃ g,wr.heap.size=g:=⟨_,rfl⟩
     have hge:w.heap.size+2<g:=by rw [← hg]; exact HK16.out.1
     rw [hg] at e0 e1 hcl ⊢;clear hg;have hON:=HNl.out.drew;have hw0:w.heap.size<wl.drew.heap.size:=HNl.out.1;refine wp_region_noPanic ?_;refine wp_region_held_drew (S:=fun w'=>Rg.Own w' (w.heap.size+2) (kidC ks) 54∧w'.cell? ⟨g,0,none⟩=some (.bool false)∧w'.cell? ⟨g,1,none⟩=some (.string ⟨#[]⟩)∧Below w.heap.size w w') (by kernel_rfl) (⟨HKl.out.drew,e0,e1,HBl.out.drew⟩) (fun hld=>?_);refine Rg.tk (i:=0) rfl ?_ (hy:=by intro wz hSw; (refine op_load_kc hSw.1 hkl ?_; exact ⟨_,rfl,rfl⟩));try simp only [Act.put,Rg.s]
     refine Rg.tk (i:=2) rfl ?_;try simp only [Act.put,Rg.s]
     refine Rg.tk (i:=3) rfl ?_ (hy:=by intro wz hSw; (have q0:=hSw.2.1; go_simp <;> with_reducible rfl));try simp only [Act.put,Rg.s]
     refine Rg.tk (i:=4) rfl ?_;try simp only [Act.put,Rg.s]
     refine Rg.rd (i:=1) rfl fun K hK=>?_;go_simp;go_at_call 84
     (with_reducible refine (branch_any ks hkl _).mono ?_)
     rintro e wv0 ⟨a5,n5,c5,rfl,hx5,hl5,hbx⟩;have hHN:=hON.below hbx;have hg0:g<wl.drew.heap.size:=World.block_lt_of_cell? _ _ hld.2.1;refine hK.out _ _ ?_ (fun hld=>?_)
     ·exact ⟨hld.1.below hbx,(Below.cell (p:=⟨g,0,none⟩) hbx hg0).trans hld.2.1,(Below.cell (p:=⟨g,1,none⟩) hbx hg0).trans hld.2.2.1,bst hld.2.2.2 hbx⟩
     clear hK K hbx hON;try simp only [Act.put,Rg.s]
     refine Rg.tk (i:=5) rfl ?_;try simp only [Act.put,Rg.s]
     refine Rg.tk (i:=6) rfl ?_;try simp only [Act.put,Rg.s]
     refine Rg.tk (i:=7) rfl ?_ (hy:=by intro wz hSw; (have q0:=hSw.2.2.1; go_simp <;> with_reducible rfl));try simp only [Act.put,Rg.s]
     refine Rg.tk (i:=8) rfl ?_;try simp only [Act.put,Rg.s]
     refine Rg.tk (i:=9) rfl ?_;try simp only [Act.put,Rg.s]
     refine Rg.rd (i:=10) rfl fun K hK=>?_;refine Rg.meetStore (by rfl) hHN 56 (ndC ⟨3,[],eB,ks⟩ a5 n5 c5) ⟨_,_,rfl,rfl,rfl⟩ (info_ndC _ _ _ _ hkl) (by rw [ndC_size _ _ _ _ rfl,ndC_size _ _ _ _ hkl]) (ndC_one _ _ _ _) ?_;rintro wz hn hu;have hx6:BsF w.heap.size wz a5 n5 c5 []:=(hx5.upd hu (by omega)).weak (by omega);refine hK.out _ _ ?_ (fun hld=>?_)
     ·exact ⟨hld.1.upd hu (by omega),(World.cell?_of_block (hu.block g (by omega))).trans hld.2.1,(World.cell?_of_block (hu.block g (by omega))).trans hld.2.2.1,hu.below hld.2.2.2 (Nat.le_refl _)⟩
     clear hK K hHN hx5;try simp only [Act.put]
     refine Rg.tk (i:=11) rfl ?_;try simp only [Act.put,Rg.s]
     refine wpAnyH_done (by kernel_rfl) ?_ _;refine NoPanic.normal ?_;go_wp2;exact bodyPost_ret (res_nd1 rfl _ rfl hn hkl) rfl ⟨⟨3,[],eB,ks⟩,a5,n5,c5,true,rfl,.inl ⟨rfl,HF.out⟩,hx6,hkl,hld.2.2.2⟩
    ·have hne:=Ni.not_empty (s:=y.s) (by omega);obtain ⟨T,hT⟩:∃ T,y.s=T:=⟨_,rfl⟩
     have HF:Hid (readBranchP xs=none):=hid (by rw [HB16.out,if_neg (fun e=>hys e.2)]);clear HB16;rw [hT] at q1 hne hys;obtain ⟨wl,hwl⟩:∃ wl,wl=wr.alloc (.cells #[.bool false,.string T,.slice A N C] 168):=⟨_,rfl⟩
     have hbl:Below wr.heap.size wr wl:=by rw [hwl]; exact al1 _ _
     have hcl:wr.heap.size<wl.heap.size:=by rw [hwl]; simp
     have e0:wl.cell? ⟨wr.heap.size,0,none⟩=some (.bool false):=by rw [hwl,World.cell?_alloc_mark]; rfl
     have e1:wl.cell? ⟨wr.heap.size,1,none⟩=some (.string T):=by rw [hwl,World.cell?_alloc_mark]; rfl
     have HKl:=hid (HK16.out.below hbl);have HNl:=hid (HN.out.below hbl);have HBl:=hid (bst HB.out hbl);clear hbl;go_wp2_with fail
     rw [← hwl];clear hwl;obtain ⟨g,hg⟩:∃ g,wr.heap.size=g:=⟨_,rfl⟩
     have hge:w.heap.size+2<g:=by rw [← hg]; exact HK16.out.1
     rw [hg] at e0 e1 hcl ⊢;clear hg;have hON:=HNl.out.drew;have hw0:w.heap.size<wl.drew.heap.size:=HNl.out.1;refine wp_region_noPanic ?_;refine wp_region_held_drew (S:=fun w'=>Rg.Own w' (w.heap.size+2) (kidC ks) 54∧w'.cell? ⟨g,0,none⟩=some (.bool false)∧w'.cell? ⟨g,1,none⟩=some (.string T)∧Below w.heap.size w w') (by kernel_rfl) (⟨HKl.out.drew,e0,e1,HBl.out.drew⟩) (fun hld=>?_);refine Rg.tk (i:=0) rfl ?_ (hy:=by intro wz hSw; (refine op_load_kc hSw.1 hkl ?_; exact ⟨_,rfl,rfl⟩));try simp only [Act.put,Rg.s]
     refine Rg.tk (i:=2) rfl ?_;try simp only [Act.put,Rg.s]
     refine Rg.tk (i:=3) rfl ?_ (hy:=by intro wz hSw; (have q0:=hSw.2.1; go_simp <;> with_reducible rfl));try simp only [Act.put,Rg.s]
     refine Rg.tk (i:=4) rfl ?_;try simp only [Act.put,Rg.s]
     refine Rg.rd (i:=1) rfl fun K hK=>?_;go_simp;go_at_call 84
     (with_reducible refine (branch_any ks hkl _).mono ?_)
     rintro e wv0 ⟨a5,n5,c5,rfl,hx5,hl5,hbx⟩;have hHN:=hON.below hbx;have hg0:g<wl.drew.heap.size:=World.block_lt_of_cell? _ _ hld.2.1;refine hK.out _ _ ?_ (fun hld=>?_)
     ·exact ⟨hld.1.below hbx,(Below.cell (p:=⟨g,0,none⟩) hbx hg0).trans hld.2.1,(Below.cell (p:=⟨g,1,none⟩) hbx hg0).trans hld.2.2.1,bst hld.2.2.2 hbx⟩
     clear hK K hbx hON;try simp only [Act.put,Rg.s]
     refine Rg.tk (i:=5) rfl ?_;try simp only [Act.put,Rg.s]
     refine Rg.tk (i:=6) rfl ?_;try simp only [Act.put,Rg.s]
     refine Rg.tk (i:=7) rfl ?_ (hy:=by intro wz hSw; (have q0:=hSw.2.2.1; go_simp <;> with_reducible rfl));try simp only [Act.put,Rg.s]
     refine Rg.tk (i:=8) rfl ?_;try simp only [Act.put,Rg.s]
     refine Rg.tk (i:=9) rfl ?_;try simp only [Act.put,Rg.s]
     refine Rg.rd (i:=10) rfl fun K hK=>?_;refine Rg.meetStore (by rfl) hHN 56 (ndC ⟨3,[],eB,ks⟩ a5 n5 c5) ⟨_,_,rfl,rfl,rfl⟩ (info_ndC _ _ _ _ hkl) (by rw [ndC_size _ _ _ _ rfl,ndC_size _ _ _ _ hkl]) (ndC_one _ _ _ _) ?_;rintro wz hn hu;have hx6:BsF w.heap.size wz a5 n5 c5 []:=(hx5.upd hu (by omega)).weak (by omega);refine hK.out _ _ ?_ (fun hld=>?_)
     ·exact ⟨hld.1.upd hu (by omega),(World.cell?_of_block (hu.block g (by omega))).trans hld.2.1,(World.cell?_of_block (hu.block g (by omega))).trans hld.2.2.1,hu.below hld.2.2.2 (Nat.le_refl _)⟩
     clear hK K hHN hx5;try simp only [Act.put]
     refine Rg.tk (i:=11) rfl ?_;try simp only [Act.put,Rg.s]
     refine wpAnyH_done (by kernel_rfl) ?_ _;refine NoPanic.normal ?_;go_wp2;exact bodyPost_ret (res_nd1 rfl _ rfl hn hkl) rfl ⟨⟨3,[],eB,ks⟩,a5,n5,c5,false,rfl,.inr ⟨rfl,HF.out⟩,hx6,hkl,hld.2.2.2⟩
theorem read_none (xs:List It) (a:Option Addr) (n cap:Nat) (w:World) (h:IsIts w xs a n cap) (h2:xs.length≠2) (h17:xs.length≠17) :
  Calls Tryz.prog 160 #[.slice a n cap] w (ReadPost w (readP xs)):=by
 have hR:readP xs=none:=by unfold readP; rw [if_neg h2,if_neg h17]
 rw [hR];have hm:=h.max;have hnc:=h.le;have hl:=h.len;unfold maxLen at hm;have d2:decide ((n:Int)=2)=false:=by simp; omega
 have d17:decide ((n:Int)=17)=false:=by simp; omega
 have d2':((n:Int)==2)=false:=by simp; omega
 have d17':((n:Int)==17)=false:=by simp; omega
 obtain ⟨w2,hw2⟩:∃ w2,w2=w.alloc (.cells (ndC nd0 none 0 0) 56):=⟨_,rfl⟩
 have hO:OwnN w2 w.heap.size nd0 none 0 0:=by rw [hw2]; exact Rg.Own.new _ _ _
 have HB2:Hid (Below w.heap.size w w2):=hid (by rw [hw2]; exact al1 _ _);have HO:=hid hO;clear h hO hR h2 h17 hl;subst hw2;go_enter Tryz.func160,Tryz.ntmps160;go_wp2_with (first
  | (refine Rg.run rfl _ _ (run_alloc_nd _ _ _ w.heap.size rfl rfl) ?_)
  | (refine Rg.run rfl _ _ (op_build built0 ?_) ?_; · exact ⟨_,rfl,rfl⟩)
  | (refine wpl_store_nd HO.out rfl nd0 none 0 0 rfl rfl _ _ rfl rfl rfl rfl ?_))
 exact bodyPost_ret (res_nd1 rfl _ rfl (own_rowN HO.out) rfl) rfl ⟨nd0,none,0,0,false,rfl,.inr ⟨rfl,rfl⟩,BsF.nil _ _,rfl,below_rowN HB2.out (Nat.le_refl _) _⟩
theorem read_any (xs:List It) (a:Option Addr) (n cap:Nat) (w:World) (h:IsIts w xs a n cap) (hG:∀ x∈xs,Good x) :
  Calls Tryz.prog 160 #[.slice a n cap] w (ReadPost w (readP xs)):=by
 by_cases h2:xs.length=2
 ·have hP:∀ w,IsIts w xs a n cap→Calls Tryz.prog 181 #[.slice a n cap] w (ReadPost w (readP xs)):=fun w h=>by
   by_cases hbad:(xs.getD 0 it0).s.size=0∨Bad (xs.getD 0 it0).s
   ·exact readPath_bad xs a n cap w h h2 hG hbad
   ·exact readPath_ok xs a n cap w h h2 hG hbad
  have hl:=h.len;obtain rfl:n=2:=by omega
  obtain ⟨w2,hw2⟩:∃ w2,w2=w.alloc (.cells (ndC nd0 none 0 0) 56):=⟨_,rfl⟩
  have hO:OwnN w2 w.heap.size nd0 none 0 0:=by rw [hw2]; exact Rg.Own.new _ _ _
  have hB2:Below w.heap.size w w2:=by rw [hw2]; exact al1 _ _
  have HB2:=hid hB2;have HP:=hid (hP w2 (h.stays hB2));have HO:=hid hO;obtain ⟨R,hR⟩:∃ R,readP xs=R:=⟨_,rfl⟩
  rw [hR] at HP ⊢;clear h hO hB2 hP hR hG hl h2;subst hw2;go_enter Tryz.func160,Tryz.ntmps160;go_wp2_with (refine Rg.run rfl _ _ (run_alloc_nd _ _ _ w.heap.size rfl rfl) ?_)
  refine HP.out.mono ?_;rintro e w3 ⟨N,a3,n3,c3,b3,rfl,hr3,hx3,hl3,hb3⟩;have HO3:=hid (HO.out.below hb3);have HB3:=hid (bst HB2.out hb3);have HX3:=hid hx3;have HL3:=hid hl3;have HR3:=hid hr3;clear hb3 hx3 hl3 hr3 HP;go_wp2_with (refine wpl_store_nd HO3.out rfl N a3 n3 c3 HL3.out rfl _ _ rfl rfl rfl rfl ?_)
  exact bodyPost_ret (res_nd1 rfl _ rfl (own_rowN HO3.out) HL3.out) rfl ⟨N,a3,n3,c3,b3,rfl,HR3.out,(HX3.out.row (by simp) _).weak (by simp),HL3.out,below_rowN HB3.out (Nat.le_refl _) _⟩
 ·by_cases h17:xs.length=17
  ·have hP:∀ w,IsIts w xs a n cap→Calls Tryz.prog 182 #[.slice a n cap] w (ReadPost w (readP xs)):=fun w h=>readBranch_any xs a n cap w h h17 hG;have hl:=h.len;obtain rfl:n=17:=by omega
   obtain ⟨w2,hw2⟩:∃ w2,w2=w.alloc (.cells (ndC nd0 none 0 0) 56):=⟨_,rfl⟩
   have hO:OwnN w2 w.heap.size nd0 none 0 0:=by rw [hw2]; exact Rg.Own.new _ _ _
   have hB2:Below w.heap.size w w2:=by rw [hw2]; exact al1 _ _
   have HB2:=hid hB2;have HP:=hid (hP w2 (h.stays hB2));have HO:=hid hO;obtain ⟨R,hR⟩:∃ R,readP xs=R:=⟨_,rfl⟩
   rw [hR] at HP ⊢;clear h hO hB2 hP hR hG hl h2 h17;subst hw2;go_enter Tryz.func160,Tryz.ntmps160;go_wp2_with (refine Rg.run rfl _ _ (run_alloc_nd _ _ _ w.heap.size rfl rfl) ?_)
   refine HP.out.mono ?_;rintro e w3 ⟨N,a3,n3,c3,b3,rfl,hr3,hx3,hl3,hb3⟩;have HO3:=hid (HO.out.below hb3);have HB3:=hid (bst HB2.out hb3);have HX3:=hid hx3;have HL3:=hid hl3;have HR3:=hid hr3;clear hb3 hx3 hl3 hr3 HP;go_wp2_with (refine wpl_store_nd HO3.out rfl N a3 n3 c3 HL3.out rfl _ _ rfl rfl rfl rfl ?_)
   exact bodyPost_ret (res_nd1 rfl _ rfl (own_rowN HO3.out) HL3.out) rfl ⟨N,a3,n3,c3,b3,rfl,HR3.out,(HX3.out.row (by simp) _).weak (by simp),HL3.out,below_rowN HB3.out (Nat.le_refl _) _⟩
  ·exact read_none xs a n cap w h h2 h17
end No
end
end Go.Proofs.YtnecijeakeklaaaGreatDoor
