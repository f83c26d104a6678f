/-
 The contract of withAlong: a leaf, or an extension, that has a value at the end of a way.
-/
import Derived.Test.YtnecijeakeklaaaGreatDoorMp17
import Derived.Test.YtnecijeakeklaaaGreatDoorMp13
import Derived.Test.YtnecijeakeklaaaGreatDoorMp1
import Derived.Defers
import Derived.Recover
import Derived.Laws.Pointers
import Derived.Test.YtnecijeakeklaaaGreatDoorMp6
import Derived.BigQuiet
import Derived.Laws.StructEq
import Derived.ChangeKeysEq
open Go.Lib (hid)
set_option linter.unusedSimpArgs false
set_option linter.unusedVariables false
set_option maxHeartbeats 40000000
set_option maxRecDepth 100000
namespace Go.Proofs.YtnecijeakeklaaaGreatDoor
section
open Go.RowKit
namespace Tm
open Tr Ni Pk
theorem parted {q p:Pa} (hl:q.length≤p.length) (h:¬ q<+:p):cp q p<q.length∧q.getD (cp q p) 0≠p.getD (cp q p) 0:=by
 refine ⟨cp_not h,?_⟩;have h2:¬ p<+:q:=fun g=>h (by rw [g.eq_of_length (Nat.le_antisymm g.length_le hl)]; exact List.prefix_rfl);obtain ⟨s,a,b,q',p',e1,e2,hab,hc⟩:=cp_parts q p h h2;rw [hc,e1,e2];have hg:∀ (x:UInt8) (r:Pa),(s++x::r).getD s.length 0=x:=fun x r=>by simp [List.getD]
 rw [hg,hg];exact hab
structure Ahead (M:Mp) (w w2:World) (b:Nat) (t:T) (pa:Option Addr) (pn pc:Nat):Prop where
 b2:Below w.heap.size w w2
 i2:Inv M w2
 x2:Bx M w2 (w.heap.size+1) #[.pointer none] 28
 c0:w2.cell? ⟨w.heap.size,0,none⟩=some (.pointer (some ⟨b,0,none⟩))
 c1:w2.cell? ⟨b,1,none⟩=some (.slice pa pn pc)
 p:Bs M w2 pa pn pc (pathT t)
theorem ahead (M:Mp) (b:Nat) (t:T) (hm:M.at_ b=some t) (w:World) (hi:Inv M w):∃ w2 pa pn pc,w2=(w.alloc (.cells #[.pointer (some ⟨b,0,none⟩)] 28)).alloc (.cells #[.pointer none] 28)∧Ahead M w w2 b t pa pn pc∧w2.heap.size=w.heap.size+2:=by
 obtain ⟨w2,hw2,hO0,hO1,hb2,hs2⟩:=enter2 w (some ⟨b,0,none⟩);have hi2:=hi.below hb2;obtain ⟨pa,pn,pc,c1,hP⟩:=hi2.path hm;exact ⟨w2,pa,pn,pc,hw2,⟨hb2,hi2,⟨hO1,hi.free (by omega),one_no _⟩,own_cell (j:=0) hO0 rfl,c1,hP⟩,hs2⟩
theorem along_split (M:Mp) (b:Nat) (t:T) (hm:M.at_ b=some (t)) (w:World) (hi:Inv M w) (wa:Option Addr) (wn wc:Nat) (way:Pa) (v:ByteArray) (hW:Bs M w wa wn wc way) (hw64:way.length≤64) (hle:(pathT (t)).length≤way.length) (h:¬ pathT t<+:way) (hn:Nib (pathT t)) (hwn:Nib way) (A:T)
  (hcut:∀ wx M',Inv M' wx→M'.at_ b=some t→Calls Tryz.prog 151 #[.agg #[.pointer (some ⟨b,0,none⟩)],.int .i64 (cp (pathT t) way+1:Nat)] wx (GotT M' wx A)) :
  Calls Tryz.prog 97 #[.agg #[.pointer (some ⟨b,0,none⟩)],.slice wa wn wc,.string v] w (GotT M w (wrap (way.take (cp (pathT t) way)) (two (nb ((pathT t).getD (cp (pathT t) way) 0)) (nb (way.getD (cp (pathT t) way) 0)) A (.leaf (way.drop (cp (pathT t) way+1)) v)))):=by
 obtain ⟨w2,pa,pn,pc,hw2,hA,hs2⟩:=ahead M b _ hm w hi;have hpn:=hA.p.1.len;have hwl:way.length=wn:=hW.1.len;have hpcap:=hA.p.1.1;have hpm:=hA.p.1.2.1;have hwcap:=hW.1.1;have hwm:=hW.1.2.1;unfold maxLen at hpm hwm;obtain ⟨hk1,hk2⟩:=parted hle h;have HAl:=hid (along_any pa wa pn wn pc wc (pathT t) way (by omega) (by omega) (by omega) w2 hA.p.1 (isBs_fr hi hW.1 (Fr.below M hA.b2)))
 obtain ⟨R,hR⟩:∃ R,(wrap (way.take (cp (pathT t) way)) (two (nb ((pathT t).getD (cp (pathT t) way) 0)) (nb (way.getD (cp (pathT t) way) 0)) A (.leaf (way.drop (cp (pathT t) way+1)) v)))=R:=⟨_,rfl⟩
 rw [hR];have HS:Hid (∀ w3,Below w2.heap.size w2 w3→w3.cell? ⟨w.heap.size,0,none⟩=some (.pointer (some ⟨b,0,none⟩))∧Calls Tryz.prog 122 #[.agg #[.pointer (some ⟨b,0,none⟩)],.int .i64 (cp (pathT t) way:Nat),.slice wa wn wc,.string v] w3 (GotT M w3 R) ∧
   ∀ e w9,GotT M w3 R e w9→∃ p,e = .returned (tv p)∧Rg.Own w9 (w.heap.size+1) #[.pointer none] 28∧∀ w10,Rg.Upd w9 (w.heap.size+1) w10→GotT M w R (.returned (tv p)) w10):=hid (fun w3 hb3 =>
  ⟨cell_on hb3 hA.c0,by rw [← hR]; exact split_any M b t hm (cp (pathT t) way) A hk1 (by omega) hn w3 (hA.i2.below hb3) hcut wa wn wc way v (hW.fr hi (Fr.below M (bst hA.b2 hb3))) (by omega) hwn (by omega) hk2,
   fun e w9 hG=>finish hi (Fr.below M (bst hA.b2 hb3)) (bst hA.b2 hb3) hG (hA.x2.o.below hb3) (one_no _) (by omega) hA.x2.n⟩)
 have hlt:decide (((cp (pathT t) way:Nat):Int)<(pn:Int))=true:=by simp; omega
 obtain ⟨k,hk⟩:∃ k,cp (pathT t) way=k:=⟨_,rfl⟩
 rw [hk] at HAl HS hlt;have hlt2:(k:Int)<(pn:Int):=by have:=of_decide_eq_true hlt; exact this
 have hlt3:k<pn:=by omega
 have h0:=hA.c0;have c1:=hA.c1;clear hR hk hA hW hi hm hle h hn hwn hcut hk1 hk2 hpn hwl;subst hw2;go_enter Tryz.func97,Tryz.ntmps97;go_wp2_with (refine Rg.run rfl _ _ (run_alloc_tree _ _ _ (w.heap.size+1) (by simp) rfl) ?_)
 refine HAl.out.mono ?_;rintro e w3 ⟨rfl,hb3⟩;obtain ⟨d0,HC,HF⟩:=HS.out w3 hb3;replace HC:=hid HC;replace HF:=hid HF;clear hb3 HS HAl h0 c1;go_wp2_with (refine Rg.run rfl _ _ (op_load_tree d0 ⟨_,rfl,rfl⟩) ?_)
 refine HC.out.mono ?_;intro e w9 hG;obtain ⟨p9,rfl,hO9,hE⟩:=HF.out e w9 hG;have HO9:=hid hO9;have HE:=hid hE;clear hG hO9 hE;go_wp2_with (refine wpl_store_tree HO9.out (by decide) p9 rfl _ _ rfl rfl rfl ?_; intro w10 hO10 hu10; have HO10:=hid hO10; have HU10:=hid hu10; clear hO10 hu10)
 exact bodyPost_ret (res_tree rfl _ rfl HO10.out) rfl (HE.out w10 HU10.out)
theorem along_leaf (M:Mp) (b:Nat) (u:ByteArray) (q:Pa) (hm:M.at_ b=some (.leaf q u)) (w:World) (hi:Inv M w) (wa:Option Addr) (wn wc:Nat) (way:Pa) (v:ByteArray) (hW:Bs M w wa wn wc way) (hw64:way.length≤64) (hle:(pathT (.leaf q u)).length≤way.length) (h:q=way) :
  Calls Tryz.prog 97 #[.agg #[.pointer (some ⟨b,0,none⟩)],.slice wa wn wc,.string v] w (GotT M w (.leaf q v)):=by
 obtain ⟨w2,pa,pn,pc,hw2,hA,hs2⟩:=ahead M b _ hm w hi;have hpn:=hA.p.1.len;have hwl:way.length=wn:=hW.1.len;have hpcap:=hA.p.1.1;have hpm:=hA.p.1.2.1;have hwcap:=hW.1.1;have hwm:=hW.1.2.1;unfold maxLen at hpm hwm;have hpn':q.length=pn:=hpn;subst h;obtain rfl:pn=wn:=by omega
 have HAl:=hid (along_any pa wa pn pn pc wc q q (by omega) (by omega) (by omega) w2 hA.p.1 (isBs_fr hi hW.1 (Fr.below M hA.b2)));rw [cp_pre (List.prefix_rfl),hpn'] at HAl;have HS:Hid (∀ w3,Below w2.heap.size w2 w3→w3.cell? ⟨w.heap.size,0,none⟩=some (.pointer (some ⟨b,0,none⟩))∧Calls Tryz.prog 52 #[.agg #[.pointer (some ⟨b,0,none⟩)]] w3 (fun e w'=>e = .returned (.int .i64 1)∧Below w3.heap.size w3 w') ∧
   ∀ w4,Below w3.heap.size w3 w4→Calls Tryz.prog 98 #[.slice pa pn pc,.string v] w4 (GotT M w4 (.leaf q v)) ∧
   ∀ e w9,GotT M w4 (.leaf q v) e w9→∃ p,e = .returned (tv p)∧Rg.Own w9 (w.heap.size+1) #[.pointer none] 28∧∀ w10,Rg.Upd w9 (w.heap.size+1) w10→GotT M w (.leaf q v) (.returned (tv p)) w10):=hid (fun w3 hb3 =>
  ⟨cell_on hb3 hA.c0,kind_any M _ _ w3 (hA.i2.below hb3) (isT_at (hA.i2.below hb3) hm),fun w4 hb4=>⟨leaf_any M _ _ _ _ _ w4 (hA.i2.below (bst hb3 hb4)) (hA.p.fr hA.i2 (Fr.below M (bst hb3 hb4))),
   fun e w9 hG=>finish hi (Fr.below M (bst hA.b2 (bst hb3 hb4))) (bst hA.b2 (bst hb3 hb4)) hG (hA.x2.o.below (bst hb3 hb4)) (one_no _) (by omega) hA.x2.n⟩⟩)
 have hlt:decide ((pn:Int)<(pn:Int))=false:=by simp
 have h0:=hA.c0;have c1:=hA.c1;clear hA hW hi hm hle hpn hpn' hwl;subst hw2;go_enter Tryz.func97,Tryz.ntmps97;go_wp2_with (refine Rg.run rfl _ _ (run_alloc_tree _ _ _ (w.heap.size+1) (by simp) rfl) ?_)
 refine HAl.out.mono ?_;rintro e w3 ⟨rfl,hb3⟩;obtain ⟨d0,HK,H4⟩:=HS.out w3 hb3;replace HK:=hid HK;replace H4:=hid H4;clear hb3 HS HAl h0 c1;go_wp2_with (refine Rg.run rfl _ _ (op_load_tree d0 ⟨_,rfl,rfl⟩) ?_)
 refine HK.out.mono ?_;rintro e w4 ⟨rfl,hb4⟩;obtain ⟨HC,HF⟩:=H4.out w4 hb4;replace HC:=hid HC;replace HF:=hid HF;clear hb4 H4 HK;go_wp2_with fail
 refine HC.out.mono ?_;intro e w9 hG;obtain ⟨p9,rfl,hO9,hE⟩:=HF.out e w9 hG;have HO9:=hid hO9;have HE:=hid hE;clear hG hO9 hE;go_wp2_with (refine wpl_store_tree HO9.out (by decide) p9 rfl _ _ rfl rfl rfl ?_; intro w10 hO10 hu10; have HO10:=hid hO10; have HU10:=hid hu10; clear hO10 hu10)
 exact bodyPost_ret (res_tree rfl _ rfl HO10.out) rfl (HE.out w10 HU10.out)
theorem along_ext (M:Mp) (b:Nat) (q:Pa) (s:T) (hm:M.at_ b=some (.ext q s)) (w:World) (hi:Inv M w) (wa:Option Addr) (wn wc:Nat) (way:Pa) (v:ByteArray) (hW:Bs M w wa wn wc way) (hw64:way.length≤64) (hle:(pathT (.ext q s)).length≤way.length) (h:q<+:way) (hq:q≠[]) (hg:Tr.get s (way.drop q.length)≠none)
  (hS:∀ M' w' p a n c,Inv M' w'→IsT M' p s→Bs M' w' a n c (way.drop q.length)→Calls Tryz.prog 65 #[.agg #[.pointer p],.slice a n c,.string v] w' (GotT M' w' (put s (way.drop q.length) v))) :
  Calls Tryz.prog 97 #[.agg #[.pointer (some ⟨b,0,none⟩)],.slice wa wn wc,.string v] w (GotT M w (.ext q (put s (way.drop q.length) v))):=by
 obtain ⟨w2,pa,pn,pc,hw2,hA,hs2⟩:=ahead M b _ hm w hi;have hpn:=hA.p.1.len;have hwl:way.length=wn:=hW.1.len;have hpcap:=hA.p.1.1;have hpm:=hA.p.1.2.1;have hwcap:=hW.1.1;have hwm:=hW.1.2.1;unfold maxLen at hpm hwm;have hpn':q.length=pn:=hpn;have HAl:=hid (along_any pa wa pn wn pc wc q way (by omega) (by omega) (by omega) w2 hA.p.1 (isBs_fr hi hW.1 (Fr.below M hA.b2)));rw [cp_pre h,hpn'] at HAl;have hpw:pn≤wn:=by rw [← hpn',← hwl]; exact hle
 rw [hpn'] at hS ⊢;obtain ⟨ka,kn,kc,c3,hK⟩:=hA.i2.kids hm;obtain ⟨kb,ko,p0,rfl,hklt,hkf,hk0,hT0⟩:=hK.at' 0 (by rw [← hK.len]; exact Nat.one_pos);have hkn:kn=1:=hK.len.symm;have hkc:=hK.1;have hkm:=hK.2.1;unfold maxLen at hkm;rw [Nat.add_zero] at hk0;have hT0':IsT M p0 s:=hT0;have hbl:=hi.lt hm;have hkbl:=hi.lt_ kb hkf
 have HS:Hid (∀ w3,Below w2.heap.size w2 w3→w3.cell? ⟨w.heap.size,0,none⟩=some (.pointer (some ⟨b,0,none⟩))∧Calls Tryz.prog 52 #[.agg #[.pointer (some ⟨b,0,none⟩)]] w3 (fun e w'=>e = .returned (.int .i64 2)∧Below w3.heap.size w3 w') ∧
   ∀ w4,Below w3.heap.size w3 w4→(w4.cell? ⟨w.heap.size,0,none⟩=some (.pointer (some ⟨b,0,none⟩))∧w4.cell? ⟨b,3,none⟩=some (.slice (some ⟨kb,ko,none⟩) kn kc)∧w4.cell? ⟨kb,ko,none⟩=some (.pointer p0)) ∧
   (∀ wx,Below w4.heap.size w4 wx→Calls Tryz.prog 65 #[.agg #[.pointer p0],.slice (fromA wa wc pn) (wn-pn) (wc-pn),.string v] wx (GotT M wx (put s (way.drop pn) v)))∧∀ wx,Below w4.heap.size w4 wx→∀ e w5,GotT M wx (put s (way.drop pn) v) e w5→∃ p5 M5,e = .returned (tv p5)∧Below w4.heap.size w4 w5∧Calls Tryz.prog 123 #[.slice pa pn pc,.agg #[.pointer p5]] w5 (GotT M5 w5 (.ext q (put s (way.drop pn) v))) ∧
    ∀ e w9,GotT M5 w5 (.ext q (put s (way.drop pn) v)) e w9→∃ p9,e = .returned (tv p9)∧Below w4.heap.size w4 w9∧Rg.Own w9 (w.heap.size+1) #[.pointer none] 28∧∀ w10,Rg.Upd w9 (w.heap.size+1) w10→True∧GotT M w (.ext q (put s (way.drop pn) v)) (.returned (tv p9)) w10):=hid (fun w3 hb3 =>
  ⟨cell_on hb3 hA.c0,kind_any M _ _ w3 (hA.i2.below hb3) (isT_at (hA.i2.below hb3) hm),fun w4 hb4=>⟨⟨cell_on hb4 (cell_on hb3 hA.c0),cell_on hb4 (cell_on hb3 c3),cell_on hb4 (cell_on hb3 hk0)⟩,fun wx hbx=>by
   have hB:=bst hA.b2 (bst (bst hb3 hb4) hbx);refine hS M wx p0 _ _ _ (hi.below hB) hT0' ?_;have:=(hW.fr hi (Fr.below M hB)).from' pn hpw;exact this,fun wx hbx e w5 hG=>by
   have hB:=bst (bst hb3 hb4) hbx;have hs2x:St M w M wx:=⟨Fr.below M (bst hA.b2 hB),hi.below (bst hA.b2 hB),bst hA.b2 hB,hi⟩
   obtain ⟨p5,M5,rfl,hT5,hS5,hf5,hb5⟩:=hs2x.got hG;have hX5:=(hA.x2.below hB).got hf5 hb5;have hwr:wrap q (put s (way.drop pn) v) = .ext q (put s (way.drop pn) v):=if_neg hq;have hbe:=behind_any M5 pa pn pc q p5 (put s (way.drop pn) v) w5 hS5.i ((hA.p.fr hA.i2 (Fr.below M hB)).fr (hA.i2.below hB) hf5) hT5;rw [hwr] at hbe;refine ⟨p5,M5,rfl,bst hbx hb5,hbe,fun e w9 hG9=>?_⟩;obtain ⟨p9,M9,rfl,hT9,hS9,hf9,hb9⟩:=hS5.got hG9;have hX9:=hX5.got hf9 hb9;refine ⟨p9,rfl,bst (bst hbx hb5) hb9,hX9.o,fun w10 hu=>?_⟩;have hS10:=hS9.upd hu (by omega) hX9.n
   exact ⟨trivial,p9,M9,rfl,hT9,hS10.f,hS10.i,hS10.b⟩⟩⟩)
 have hlt:decide ((pn:Int)<(pn:Int))=false:=by simp
 have h0:=hA.c0;have c1:=hA.c1;clear hA hW hi hm hle hpn hpn' hwl hK hT0 hT0' c3 hk0 hS;subst hw2;go_enter Tryz.func97,Tryz.ntmps97;go_wp2_with (refine Rg.run rfl _ _ (run_alloc_tree _ _ _ (w.heap.size+1) (by simp) rfl) ?_)
 refine HAl.out.mono ?_;rintro e w3 ⟨rfl,hb3⟩;obtain ⟨d0',HK,H4⟩:=HS.out w3 hb3;replace HK:=hid HK;replace H4:=hid H4;clear hb3 HS HAl h0 c1;go_wp2_with (refine Rg.run rfl _ _ (op_load_tree d0' ⟨_,rfl,rfl⟩) ?_)
 refine HK.out.mono ?_;rintro e w4 ⟨rfl,hb4⟩;obtain ⟨⟨d0,d3,dk⟩,HC,HF⟩:=H4.out w4 hb4;replace HC:=hid HC;replace HF:=hid HF;clear hb4 H4 HK d0';go_wp2_with fail
 refine wp_region_noPanic ?_;refine wp_region_held_drew (S:=fun w'=>Bo (w.heap.size+1) w4 w') (by kernel_rfl) (Bo.of (below_drewN (Below.refl _ _) 1)) (fun hld=>?_);refine Rg.tk (i:=0) rfl ?_;try simp only [Act.put,Rg.s]
 refine Rg.tk (i:=1) rfl ?_;try simp only [Act.put,Rg.s]
 refine Rg.tk (i:=2) rfl ?_ (hy:=by intro wz hSw; have hcc:=cell_bo hSw (by omega) d0; (try dsimp only at hSw); go_simp <;> with_reducible rfl);try simp only [Act.put,Rg.s]
 refine Rg.tk (i:=3) rfl ?_;try simp only [Act.put,Rg.s]
 refine Rg.tk (i:=4) rfl ?_;try simp only [Act.put,Rg.s]
 refine Rg.tk (i:=5) rfl ?_ (hy:=by intro wz hSw; have hcc:=cell_bo hSw (by omega) d3; (try dsimp only at hSw); go_simp <;> with_reducible rfl);try simp only [Act.put,Rg.s]
 refine Rg.tk (i:=6) rfl ?_;try simp only [Act.put,Rg.s]
 refine Rg.tk (i:=7) rfl ?_ (hy:=by intro wz hSw; (refine op_load_tree (cell_bo hSw (by omega) dk) ?_; exact ⟨_,rfl,rfl⟩));try simp only [Act.put,Rg.s]
 refine Rg.tk (i:=8) rfl ?_;try simp only [Act.put,Rg.s]
 refine Rg.tk (i:=9) rfl ?_;try simp only [Act.put,Rg.s]
 refine Rg.tk (i:=10) rfl ?_ (hy:=by intro wz hSw; (refine op_from (a:=wa) (n:=wn) (c:=wc) (i:=pn) under_u8 size_u8 hpw ?_; exact ⟨_,_,rfl,rfl,rfl⟩));try simp only [Act.put,Rg.s]
 refine Rg.tk (i:=11) rfl ?_;try simp only [Act.put,Rg.s]
 refine Rg.rd (i:=12) rfl fun K hK=>?_;go_simp;go_at_call 65
 (with_reducible refine (HC.out w4.drew (below_drewN (Below.refl _ _) 1)).mono ?_)
 intro e w5 hG;obtain ⟨p5,M5,rfl,hB5,H5⟩:=HF.out w4.drew (below_drewN (Below.refl _ _) 1) e w5 hG;replace H5:=hid H5;clear hG;refine hK.out _ _ ?_ (fun hld=>?_)
 ·exact Bo.of hB5
 clear hK K;try simp only [Act.put,Rg.s]
 refine Rg.rd (i:=13) rfl fun K hK=>?_;go_simp;go_at_call 123
 (with_reducible refine (H5.out.1).mono ?_)
 intro e w9 hG;obtain ⟨p9,rfl,hB9,H9⟩:=H5.out.2 e w9 hG;replace H9:=hid H9;clear hG;refine hK.out _ _ ?_ (fun hld=>?_)
 ·exact Bo.of hB9
 clear hK K;try simp only [Act.put,Rg.s]
 refine Rg.rd (i:=14) rfl fun K hK=>?_;refine meet_store_tree (by rfl) H9.out.1 (off:=0) (by decide) p9 ⟨_,_,rfl,rfl,rfl⟩ ?_;intro w10 hO10 hu10;have HO10:=hid hO10;have H10:=hid (H9.out.2 w10 hu10);clear hO10;refine hK.out _ _ ?_ (fun hld=>?_)
 ·exact (Bo.of hB9).upd hu10
 clear hK K;try simp only [Act.put,Rg.s]
 refine wpAnyH_done (by kernel_rfl) ?_ _;refine NoPanic.normal ?_;go_wp2;exact bodyPost_ret (res_tree rfl _ rfl HO10.out) rfl H10.out.2
theorem along_stub (M:Mp) (b:Nat) (q:Pa) (s:T) (hm:M.at_ b=some (.ext q s)) (w:World) (hi:Inv M w) (wa:Option Addr) (wn wc:Nat) (way:Pa) (v:ByteArray) (hW:Bs M w wa wn wc way) (hw64:way.length≤64) (hle:(pathT (.ext q s)).length≤way.length) (h:q<+:way)
  (hS:∀ M' w' p a n c,Inv M' w'→IsT M' p s→Bs M' w' a n c (way.drop q.length)→Calls Tryz.prog 65 #[.agg #[.pointer p],.slice a n c,.string v] w' fun e w''=>e = .panicked [errP 8]∧Below w'.heap.size w' w'') :
  Calls Tryz.prog 97 #[.agg #[.pointer (some ⟨b,0,none⟩)],.slice wa wn wc,.string v] w (fun e w'=>e = .panicked [errP 8]∧Below w.heap.size w w'):=by
 obtain ⟨w2,pa,pn,pc,hw2,hA,hs2⟩:=ahead M b _ hm w hi;have hpn:=hA.p.1.len;have hwl:way.length=wn:=hW.1.len;have hpcap:=hA.p.1.1;have hpm:=hA.p.1.2.1;have hwcap:=hW.1.1;have hwm:=hW.1.2.1;unfold maxLen at hpm hwm;have hpn':q.length=pn:=hpn;have HAl:=hid (along_any pa wa pn wn pc wc q way (by omega) (by omega) (by omega) w2 hA.p.1 (isBs_fr hi hW.1 (Fr.below M hA.b2)));rw [cp_pre h,hpn'] at HAl;have hpw:pn≤wn:=by rw [← hpn',← hwl]; exact hle
 rw [hpn'] at hS ;obtain ⟨ka,kn,kc,c3,hK⟩:=hA.i2.kids hm;obtain ⟨kb,ko,p0,rfl,hklt,hkf,hk0,hT0⟩:=hK.at' 0 (by rw [← hK.len]; exact Nat.one_pos);have hkn:kn=1:=hK.len.symm;have hkc:=hK.1;have hkm:=hK.2.1;unfold maxLen at hkm;rw [Nat.add_zero] at hk0;have hT0':IsT M p0 s:=hT0;have hbl:=hi.lt hm;have hkbl:=hi.lt_ kb hkf
 have HS:Hid (∀ w3,Below w2.heap.size w2 w3→w3.cell? ⟨w.heap.size,0,none⟩=some (.pointer (some ⟨b,0,none⟩))∧Calls Tryz.prog 52 #[.agg #[.pointer (some ⟨b,0,none⟩)]] w3 (fun e w'=>e = .returned (.int .i64 2)∧Below w3.heap.size w3 w') ∧
   ∀ w4,Below w3.heap.size w3 w4→(w4.cell? ⟨w.heap.size,0,none⟩=some (.pointer (some ⟨b,0,none⟩))∧w4.cell? ⟨b,3,none⟩=some (.slice (some ⟨kb,ko,none⟩) kn kc)∧w4.cell? ⟨kb,ko,none⟩=some (.pointer p0)) ∧
   (∀ wx,Below w4.heap.size w4 wx→Calls Tryz.prog 65 #[.agg #[.pointer p0],.slice (fromA wa wc pn) (wn-pn) (wc-pn),.string v] wx (fun e w''=>e = .panicked [errP 8]∧Below wx.heap.size wx w''))∧∀ wx,Below w4.heap.size w4 wx→Below w.heap.size w wx):=hid (fun w3 hb3 =>
  ⟨cell_on hb3 hA.c0,kind_any M _ _ w3 (hA.i2.below hb3) (isT_at (hA.i2.below hb3) hm),fun w4 hb4=>⟨⟨cell_on hb4 (cell_on hb3 hA.c0),cell_on hb4 (cell_on hb3 c3),cell_on hb4 (cell_on hb3 hk0)⟩,fun wx hbx=>by
   have hB:=bst hA.b2 (bst (bst hb3 hb4) hbx);refine hS M wx p0 _ _ _ (hi.below hB) hT0' ?_;have:=(hW.fr hi (Fr.below M hB)).from' pn hpw;exact this,fun wx hbx=>bst hA.b2 (bst (bst hb3 hb4) hbx)⟩⟩)
 have hlt:decide ((pn:Int)<(pn:Int))=false:=by simp
 have h0:=hA.c0;have c1:=hA.c1;clear hA hW hi hm hle hpn hpn' hwl hK hT0 hT0' c3 hk0 hS;subst hw2;go_enter Tryz.func97,Tryz.ntmps97;go_wp2_with (refine Rg.run rfl _ _ (run_alloc_tree _ _ _ (w.heap.size+1) (by simp) rfl) ?_)
 refine HAl.out.mono ?_;rintro e w3 ⟨rfl,hb3⟩;obtain ⟨d0',HK,H4⟩:=HS.out w3 hb3;replace HK:=hid HK;replace H4:=hid H4;clear hb3 HS HAl h0 c1;go_wp2_with (refine Rg.run rfl _ _ (op_load_tree d0' ⟨_,rfl,rfl⟩) ?_)
 refine HK.out.mono ?_;rintro e w4 ⟨rfl,hb4⟩;obtain ⟨⟨d0,d3,dk⟩,HC,HF⟩:=H4.out w4 hb4;replace HC:=hid HC;replace HF:=hid HF;clear hb4 H4 HK d0';go_wp2_with fail
 refine wp_region_held_drew (S:=fun w'=>Bo (w.heap.size+1) w4 w') (by kernel_rfl) (Bo.of (below_drewN (Below.refl _ _) 1)) (fun hld=>?_);refine Rg.tk (i:=0) rfl ?_;try simp only [Act.put,Rg.s]
 refine Rg.tk (i:=1) rfl ?_;try simp only [Act.put,Rg.s]
 refine Rg.tk (i:=2) rfl ?_ (hy:=by intro wz hSw; have hcc:=cell_bo hSw (by omega) d0; (try dsimp only at hSw); go_simp <;> with_reducible rfl);try simp only [Act.put,Rg.s]
 refine Rg.tk (i:=3) rfl ?_;try simp only [Act.put,Rg.s]
 refine Rg.tk (i:=4) rfl ?_;try simp only [Act.put,Rg.s]
 refine Rg.tk (i:=5) rfl ?_ (hy:=by intro wz hSw; have hcc:=cell_bo hSw (by omega) d3; (try dsimp only at hSw); go_simp <;> with_reducible rfl);try simp only [Act.put,Rg.s]
 refine Rg.tk (i:=6) rfl ?_;try simp only [Act.put,Rg.s]
 refine Rg.tk (i:=7) rfl ?_ (hy:=by intro wz hSw; (refine op_load_tree (cell_bo hSw (by omega) dk) ?_; exact ⟨_,rfl,rfl⟩));try simp only [Act.put,Rg.s]
 refine Rg.tk (i:=8) rfl ?_;try simp only [Act.put,Rg.s]
 refine Rg.tk (i:=9) rfl ?_;try simp only [Act.put,Rg.s]
 refine Rg.tk (i:=10) rfl ?_ (hy:=by intro wz hSw; (refine op_from (a:=wa) (n:=wn) (c:=wc) (i:=pn) under_u8 size_u8 hpw ?_; exact ⟨_,_,rfl,rfl,rfl⟩));try simp only [Act.put,Rg.s]
 refine Rg.tk (i:=11) rfl ?_;try simp only [Act.put,Rg.s]
 refine Rg.rd (i:=12) rfl fun K hK=>?_;go_simp;go_at_call 65
 (with_reducible refine (HC.out w4.drew (below_drewN (Below.refl _ _) 1)).mono ?_)
 rintro e w5 ⟨rfl,hb5⟩;simp +zetaDelta [bodyPost,Exit.then];exact bst (HF.out w4.drew (below_drewN (Below.refl _ _) 1)) hb5
end Tm
end
section
open Go.RowKit
namespace Tm
open Tr Ni Pk
theorem with_br (ks:Fin 16→T) (M:Mp) (b:Nat) (hm:M.at_ b=some (.br ks)) (w:World) (hi:Inv M w) (wa:Option Addr) (wn wc:Nat) (c0:UInt8) (r:Pa) (v:ByteArray) (hW:Bs M w wa wn wc (c0::r)) (hc0:c0.toNat<16) (hlen:(c0::r).length≤64)
  (ih:∀ M' w' p a n c,Inv M' w'→IsT M' p (ks (nb c0))→Bs M' w' a n c r→Calls Tryz.prog 65 #[.agg #[.pointer p],.slice a n c,.string v] w' (GotT M' w' (put (ks (nb c0)) r v))) :
  Calls Tryz.prog 65 #[.agg #[.pointer (some ⟨b,0,none⟩)],.slice wa wn wc,.string v] w (GotT M w (.br fun j=>if j=nb c0 then put (ks (nb c0)) r v else ks j)):=by
  obtain ⟨w2,hw2,hO0,hO1,hb2,hs2⟩:=enter2 w (some ⟨b,0,none⟩);have hi2:=hi.below hb2;have hX2:Bx M w2 (w.heap.size+1) #[.pointer none] 28:=⟨hO1,hi.free (by omega),one_no _⟩
  have hwl:(c0::r).length=wn:=hW.1.len;have hwl':r.length+1=wn:=by rw [← hwl]; rfl
  have h0:=own_cell (j:=0) hO0 rfl;have HK:=hid (kind_any M _ _ w2 hi2 (isT_at hi2 hm));obtain ⟨ka,kn,kc,c3,hKs⟩:=hi2.kids hm;have hkn:kn=16:=by rw [← hKs.len]; exact parts_br_len ks
  subst hkn;have hnx:((nb c0).val:Nat)=c0.toNat:=Nat.mod_eq_of_lt hc0;obtain ⟨kb,ko,p0,rfl,hklt,hkf,hk0,hT0⟩:=hKs.at' c0.toNat hc0;have hT0':IsT M p0 (ks (nb c0)):=by
   rw [← hnx,parts_br_at] at hT0;exact hT0
  have hbl:=hi.lt hm;have hkbl:=hi.lt_ kb hkf;have hkc:=hKs.1;have hkm:=hKs.2.1;unfold maxLen at hkm;have hx16:c0.toNat<16:=hc0;have hxi:((c0.toNat:Nat):Int)<16:=by omega
  have HT:Hid (∀ w3,Below w2.heap.size w2 w3→w3.cell? ⟨w.heap.size,0,none⟩=some (.pointer (some ⟨b,0,none⟩))∧Calls Tryz.prog 95 #[.slice wa wn wc] w3 (fun e w'=>e = .returned (.tuple #[.int .u8 c0.toNat,.slice (fromA wa wc 1) (wn-1) (wc-1)])∧Below w3.heap.size w3 w') ∧
    ∀ w4,Below w3.heap.size w3 w4→(w4.cell? ⟨w.heap.size,0,none⟩=some (.pointer (some ⟨b,0,none⟩))∧w4.cell? ⟨b,3,none⟩=some (.slice (some ⟨kb,ko,none⟩) 16 kc)∧w4.cell? ⟨kb,ko+c0.toNat,none⟩=some (.pointer p0)) ∧
    (∀ wx,Below w4.heap.size w4 wx→Calls Tryz.prog 65 #[.agg #[.pointer p0],.slice (fromA wa wc 1) (wn-1) (wc-1),.string v] wx (GotT M wx (put (ks (nb c0)) r v)))∧∀ wx,Below w4.heap.size w4 wx→∀ e w5,GotT M wx (put (ks (nb c0)) r v) e w5→∃ p5 M5,e = .returned (tv p5)∧Below w4.heap.size w4 w5∧Calls Tryz.prog 96 #[.agg #[.pointer (some ⟨b,0,none⟩)],.int .u8 c0.toNat,.agg #[.pointer p5]] w5 (GotT M5 w5 (.br fun j=>if j=nb c0 then put (ks (nb c0)) r v else ks j)) ∧
     ∀ e w9,GotT M5 w5 (.br fun j=>if j=nb c0 then put (ks (nb c0)) r v else ks j) e w9→∃ p9,e = .returned (tv p9)∧Below w4.heap.size w4 w9∧Rg.Own w9 (w.heap.size+1) #[.pointer none] 28∧∀ w10,Rg.Upd w9 (w.heap.size+1) w10→GotT M w (.br fun j=>if j=nb c0 then put (ks (nb c0)) r v else ks j) (.returned (tv p9)) w10):=hid (fun w3 hb3 =>
   ⟨cell_on hb3 h0,turn_any wa wn wc (c0::r) (by omega) w3 (isBs_fr hi hW.1 (Fr.below M (bst hb2 hb3))),fun w4 hb4=>⟨⟨cell_on hb4 (cell_on hb3 h0),cell_on hb4 (cell_on hb3 c3),cell_on hb4 (cell_on hb3 hk0)⟩,fun wx hbx=>by
    have hB:=bst hb2 (bst (bst hb3 hb4) hbx);refine ih M wx p0 _ _ _ (hi.below hB) hT0' ?_;exact (hW.fr hi (Fr.below M hB)).from' 1 (by omega),fun wx hbx e w5 hG=>by
    have hB:=bst (bst hb3 hb4) hbx;have hs2x:St M w M wx:=⟨Fr.below M (bst hb2 hB),hi.below (bst hb2 hB),bst hb2 hB,hi⟩
    obtain ⟨p5,M5,rfl,hT5,hS5,hf5,hb5⟩:=hs2x.got hG;have hX5:=(hX2.below hB).got hf5 hb5;have hbe:=turned_any M5 b ks (hf5.mono b _ hm) (nb c0) p5 _ hT5 w5 hS5.i;rw [hnx] at hbe;refine ⟨p5,M5,rfl,bst hbx hb5,hbe,fun e w9 hG9=>?_⟩;obtain ⟨p9,M9,rfl,hT9,hS9,hf9,hb9⟩:=hS5.got hG9;have hX9:=hX5.got hf9 hb9;refine ⟨p9,rfl,bst (bst hbx hb5) hb9,hX9.o,fun w10 hu=>?_⟩;have hS10:=hS9.upd hu (by omega) hX9.n;exact ⟨p9,M9,rfl,hT9,hS10.f,hS10.i,hS10.b⟩⟩⟩)
  have H0:=hid hO0;clear hO0 hO1 hb2 hi hi2 hm hW hX2 hwl hKs hT0 hT0' c3 hk0 ih h0;subst hw2;clear hs2;go_enter Tryz.func65,Tryz.ntmps65;go_wp2_with (first | (refine Rg.run rfl _ _ (run_alloc_tree _ _ _ (w.heap.size+1) (by simp) rfl) ?_) | (refine Rg.run rfl _ _ (op_load_tree (own_cell (j:=0) H0.out rfl) ⟨_,rfl,rfl⟩) ?_))
  refine HK.out.mono ?_;rintro e w3 ⟨rfl,hb3⟩;obtain ⟨d0',HC3,H4⟩:=HT.out w3 hb3;replace HC3:=hid HC3;replace H4:=hid H4;clear hb3 HT HK H0 d0';unfold kindT;go_wp2_with fail
  refine HC3.out.mono ?_;rintro e w4 ⟨rfl,hb4⟩;obtain ⟨⟨d0,d3,dk⟩,HC,HF⟩:=H4.out w4 hb4;replace HC:=hid HC;replace HF:=hid HF;clear hb4 H4 HC3;go_wp2_with fail
  refine wp_region_noPanic ?_;refine wp_region_held_drew (S:=fun w'=>Bo (w.heap.size+1) w4 w') (by kernel_rfl) (Bo.of (below_drewN (Below.refl _ _) 1)) (fun hld=>?_);refine Rg.tk (i:=0) rfl ?_ (hy:=by intro wz hSw; (refine op_load_tree (cell_bo hSw (by omega) d0) ?_; exact ⟨_,rfl,rfl⟩));try simp only [Act.put,Rg.s]
  refine Rg.tk (i:=1) rfl ?_;try simp only [Act.put,Rg.s]
  refine Rg.tk (i:=2) rfl ?_;try simp only [Act.put,Rg.s]
  refine Rg.tk (i:=3) rfl ?_ (hy:=by intro wz hSw; have hcc:=cell_bo hSw (by omega) d0; (try dsimp only at hSw); go_simp <;> with_reducible rfl);try simp only [Act.put,Rg.s]
  refine Rg.tk (i:=4) rfl ?_;try simp only [Act.put,Rg.s]
  refine Rg.tk (i:=5) rfl ?_;try simp only [Act.put,Rg.s]
  refine Rg.tk (i:=6) rfl ?_ (hy:=by intro wz hSw; have hcc:=cell_bo hSw (by omega) d3; (try dsimp only at hSw); go_simp <;> with_reducible rfl);try simp only [Act.put,Rg.s]
  refine Rg.tk (i:=7) rfl ?_;try simp only [Act.put,Rg.s]
  refine Rg.tk (i:=8) rfl ?_ (hy:=by intro wz hSw; (have q0:=hxi; have q1:=hx16; go_simp <;> with_reducible rfl));try simp only [Act.put,Rg.s]
  refine Rg.tk (i:=9) rfl ?_ (hy:=by intro wz hSw; (refine op_load_tree (cell_bo hSw (by omega) dk) ?_; exact ⟨_,rfl,rfl⟩));try simp only [Act.put,Rg.s]
  refine Rg.tk (i:=10) rfl ?_;try simp only [Act.put,Rg.s]
  refine Rg.tk (i:=11) rfl ?_;try simp only [Act.put,Rg.s]
  refine Rg.rd (i:=12) rfl fun K hK=>?_;go_simp;go_at_call 65
  (with_reducible refine (HC.out w4.drew (below_drewN (Below.refl _ _) 1)).mono ?_)
  intro e w5 hG;obtain ⟨p5,M5,rfl,hB5,H5⟩:=HF.out w4.drew (below_drewN (Below.refl _ _) 1) e w5 hG;replace H5:=hid H5;clear hG;refine hK.out _ _ ?_ (fun hld=>?_)
  ·exact Bo.of hB5
  clear hK K;try simp only [Act.put,Rg.s]
  refine Rg.rd (i:=13) rfl fun K hK=>?_;go_simp;go_at_call 96
  (with_reducible refine (H5.out.1).mono ?_)
  intro e w9 hG;obtain ⟨p9,rfl,hB9,H9⟩:=H5.out.2 e w9 hG;replace H9:=hid H9;clear hG;refine hK.out _ _ ?_ (fun hld=>?_)
  ·exact Bo.of hB9
  clear hK K;try simp only [Act.put,Rg.s]
  refine Rg.rd (i:=14) rfl fun K hK=>?_;refine meet_store_tree (by rfl) H9.out.1 (off:=0) (by decide) p9 ⟨_,_,rfl,rfl,rfl⟩ ?_;intro w10 hO10 hu10;have HO10:=hid hO10;have H10:=hid (H9.out.2 w10 hu10);clear hO10;refine hK.out _ _ ?_ (fun hld=>?_)
  ·exact (Bo.of hB9).upd hu10
  clear hK K;try simp only [Act.put,Rg.s]
  refine wpAnyH_done (by kernel_rfl) ?_ _;refine NoPanic.normal ?_;go_wp2;exact bodyPost_ret (res_tree rfl _ rfl HO10.out) rfl H10.out
theorem with_br_stub (ks:Fin 16→T) (M:Mp) (b:Nat) (hm:M.at_ b=some (.br ks)) (w:World) (hi:Inv M w) (wa:Option Addr) (wn wc:Nat) (c0:UInt8) (r:Pa) (v:ByteArray) (hW:Bs M w wa wn wc (c0::r)) (hc0:c0.toNat<16) (hlen:(c0::r).length≤64)
  (ih:∀ M' w' p a n c,Inv M' w'→IsT M' p (ks (nb c0))→Bs M' w' a n c r→Calls Tryz.prog 65 #[.agg #[.pointer p],.slice a n c,.string v] w' (fun e w''=>e = .panicked [errP 8]∧Below w'.heap.size w' w'')) :
  Calls Tryz.prog 65 #[.agg #[.pointer (some ⟨b,0,none⟩)],.slice wa wn wc,.string v] w (fun e w''=>e = .panicked [errP 8]∧Below w.heap.size w w''):=by
  obtain ⟨w2,hw2,hO0,hO1,hb2,hs2⟩:=enter2 w (some ⟨b,0,none⟩);have hi2:=hi.below hb2;have hX2:Bx M w2 (w.heap.size+1) #[.pointer none] 28:=⟨hO1,hi.free (by omega),one_no _⟩
  have hwl:(c0::r).length=wn:=hW.1.len;have hwl':r.length+1=wn:=by rw [← hwl]; rfl
  have h0:=own_cell (j:=0) hO0 rfl;have HK:=hid (kind_any M _ _ w2 hi2 (isT_at hi2 hm));obtain ⟨ka,kn,kc,c3,hKs⟩:=hi2.kids hm;have hkn:kn=16:=by rw [← hKs.len]; exact parts_br_len ks
  subst hkn;have hnx:((nb c0).val:Nat)=c0.toNat:=Nat.mod_eq_of_lt hc0;obtain ⟨kb,ko,p0,rfl,hklt,hkf,hk0,hT0⟩:=hKs.at' c0.toNat hc0;have hT0':IsT M p0 (ks (nb c0)):=by
   rw [← hnx,parts_br_at] at hT0;exact hT0
  have hbl:=hi.lt hm;have hkbl:=hi.lt_ kb hkf;have hkc:=hKs.1;have hkm:=hKs.2.1;unfold maxLen at hkm;have hx16:c0.toNat<16:=hc0;have hxi:((c0.toNat:Nat):Int)<16:=by omega
  have HT:Hid (∀ w3,Below w2.heap.size w2 w3→w3.cell? ⟨w.heap.size,0,none⟩=some (.pointer (some ⟨b,0,none⟩))∧Calls Tryz.prog 95 #[.slice wa wn wc] w3 (fun e w'=>e = .returned (.tuple #[.int .u8 c0.toNat,.slice (fromA wa wc 1) (wn-1) (wc-1)])∧Below w3.heap.size w3 w') ∧
    ∀ w4,Below w3.heap.size w3 w4→(w4.cell? ⟨w.heap.size,0,none⟩=some (.pointer (some ⟨b,0,none⟩))∧w4.cell? ⟨b,3,none⟩=some (.slice (some ⟨kb,ko,none⟩) 16 kc)∧w4.cell? ⟨kb,ko+c0.toNat,none⟩=some (.pointer p0)) ∧
    (∀ wx,Below w4.heap.size w4 wx→Calls Tryz.prog 65 #[.agg #[.pointer p0],.slice (fromA wa wc 1) (wn-1) (wc-1),.string v] wx (fun e w''=>e = .panicked [errP 8]∧Below wx.heap.size wx w''))∧∀ wx,Below w4.heap.size w4 wx→Below w.heap.size w wx):=hid (fun w3 hb3 =>
   ⟨cell_on hb3 h0,turn_any wa wn wc (c0::r) (by omega) w3 (isBs_fr hi hW.1 (Fr.below M (bst hb2 hb3))),fun w4 hb4=>⟨⟨cell_on hb4 (cell_on hb3 h0),cell_on hb4 (cell_on hb3 c3),cell_on hb4 (cell_on hb3 hk0)⟩,fun wx hbx=>by
    have hB:=bst hb2 (bst (bst hb3 hb4) hbx);refine ih M wx p0 _ _ _ (hi.below hB) hT0' ?_;exact (hW.fr hi (Fr.below M hB)).from' 1 (by omega),fun wx hbx=>bst hb2 (bst (bst hb3 hb4) hbx)⟩⟩)
  have H0:=hid hO0;clear hO0 hO1 hb2 hi hi2 hm hW hX2 hwl hKs hT0 hT0' c3 hk0 ih h0;subst hw2;clear hs2;go_enter Tryz.func65,Tryz.ntmps65;go_wp2_with (first | (refine Rg.run rfl _ _ (run_alloc_tree _ _ _ (w.heap.size+1) (by simp) rfl) ?_) | (refine Rg.run rfl _ _ (op_load_tree (own_cell (j:=0) H0.out rfl) ⟨_,rfl,rfl⟩) ?_))
  refine HK.out.mono ?_;rintro e w3 ⟨rfl,hb3⟩;obtain ⟨d0',HC3,H4⟩:=HT.out w3 hb3;replace HC3:=hid HC3;replace H4:=hid H4;clear hb3 HT HK H0 d0';unfold kindT;go_wp2_with fail
  refine HC3.out.mono ?_;rintro e w4 ⟨rfl,hb4⟩;obtain ⟨⟨d0,d3,dk⟩,HC,HF⟩:=H4.out w4 hb4;replace HC:=hid HC;replace HF:=hid HF;clear hb4 H4 HC3;go_wp2_with fail
  refine wp_region_held_drew (S:=fun w'=>Bo (w.heap.size+1) w4 w') (by kernel_rfl) (Bo.of (below_drewN (Below.refl _ _) 1)) (fun hld=>?_);refine Rg.tk (i:=0) rfl ?_ (hy:=by intro wz hSw; (refine op_load_tree (cell_bo hSw (by omega) d0) ?_; exact ⟨_,rfl,rfl⟩));try simp only [Act.put,Rg.s]
  refine Rg.tk (i:=1) rfl ?_;try simp only [Act.put,Rg.s]
  refine Rg.tk (i:=2) rfl ?_;try simp only [Act.put,Rg.s]
  refine Rg.tk (i:=3) rfl ?_ (hy:=by intro wz hSw; have hcc:=cell_bo hSw (by omega) d0; (try dsimp only at hSw); go_simp <;> with_reducible rfl);try simp only [Act.put,Rg.s]
  refine Rg.tk (i:=4) rfl ?_;try simp only [Act.put,Rg.s]
  refine Rg.tk (i:=5) rfl ?_;try simp only [Act.put,Rg.s]
  refine Rg.tk (i:=6) rfl ?_ (hy:=by intro wz hSw; have hcc:=cell_bo hSw (by omega) d3; (try dsimp only at hSw); go_simp <;> with_reducible rfl);try simp only [Act.put,Rg.s]
  refine Rg.tk (i:=7) rfl ?_;try simp only [Act.put,Rg.s]
  refine Rg.tk (i:=8) rfl ?_ (hy:=by intro wz hSw; (have q0:=hxi; have q1:=hx16; go_simp <;> with_reducible rfl));try simp only [Act.put,Rg.s]
  refine Rg.tk (i:=9) rfl ?_ (hy:=by intro wz hSw; (refine op_load_tree (cell_bo hSw (by omega) dk) ?_; exact ⟨_,rfl,rfl⟩));try simp only [Act.put,Rg.s]
  refine Rg.tk (i:=10) rfl ?_;try simp only [Act.put,Rg.s]
  refine Rg.tk (i:=11) rfl ?_;try simp only [Act.put,Rg.s]
  refine Rg.rd (i:=12) rfl fun K hK=>?_;go_simp;go_at_call 65
  (with_reducible refine (HC.out w4.drew (below_drewN (Below.refl _ _) 1)).mono ?_)
  rintro e w5 ⟨rfl,hb5⟩;simp +zetaDelta [bodyPost,Exit.then];exact bst (HF.out w4.drew (below_drewN (Below.refl _ _) 1)) hb5
theorem with_nil (M:Mp) (a:Option Addr) (n c:Nat) (way:Pa) (v:ByteArray) (w:World) (hi:Inv M w) (hW:Bs M w a n c way):Calls Tryz.prog 65 #[.agg #[.pointer none],.slice a n c,.string v] w (GotT M w (.leaf way v)):=by
 obtain ⟨w2,hw2,hO0,hO1,hb2,hs2⟩:=enter2 w none;have hi2:=hi.below hb2;have HK:=hid (kind_any M none .nil w2 hi2 rfl);have HT:Hid (∀ w3,Below w2.heap.size w2 w3→Calls Tryz.prog 98 #[.slice a n c,.string v] w3 (GotT M w3 (.leaf way v))∧∀ e w9,GotT M w3 (.leaf way v) e w9→∃ p,e = .returned (tv p)∧Rg.Own w9 (w.heap.size+1) #[.pointer none] 28∧∀ w10,Rg.Upd w9 (w.heap.size+1) w10→GotT M w (.leaf way v) (.returned (tv p)) w10):=hid (fun w3 hb3 =>
  ⟨leaf_any M _ _ _ _ _ w3 (hi2.below hb3) (hW.fr hi (Fr.below M (bst hb2 hb3))),fun e w9 hG=>finish hi (Fr.below M (bst hb2 hb3)) (bst hb2 hb3) hG (hO1.below hb3) (one_no _) (by omega) (hi.free (by omega))⟩)
 have H0:=hid hO0;clear hO0 hO1 hb2 hs2 hi hi2 hW;subst hw2;go_enter Tryz.func65,Tryz.ntmps65;go_wp2_with (first | (refine Rg.run rfl _ _ (run_alloc_tree _ _ _ (w.heap.size+1) (by simp) rfl) ?_) | (refine Rg.run rfl _ _ (op_load_tree (own_cell (j:=0) H0.out rfl) ⟨_,rfl,rfl⟩) ?_))
 refine HK.out.mono ?_;rintro e w3 ⟨rfl,hb3⟩;obtain ⟨HC,HF⟩:=HT.out w3 hb3;replace HC:=hid HC;replace HF:=hid HF;clear hb3 HT HK H0;unfold kindT;go_wp2_with fail
 refine HC.out.mono ?_;intro e w9 hG;obtain ⟨p9,rfl,hO9,hE⟩:=HF.out e w9 hG;have HO9:=hid hO9;have HE:=hid hE;clear hG hO9 hE;go_wp2_with (refine wpl_store_tree HO9.out (by decide) p9 rfl _ _ rfl rfl rfl ?_; intro w10 hO10 hu10; have HO10:=hid hO10; have HU10:=hid hu10; clear hO10 hu10)
 exact bodyPost_ret (res_tree rfl _ rfl HO10.out) rfl (HE.out w10 HU10.out)
theorem with_stub (M:Mp) (b:Nat) (r:ByteArray) (hm:M.at_ b=some (.stub r)) (a:Option Addr) (n c:Nat) (v:ByteArray) (w:World) (hi:Inv M w):Calls Tryz.prog 65 #[.agg #[.pointer (some ⟨b,0,none⟩)],.slice a n c,.string v] w (fun e w'=>e = .panicked [errP 8]∧Below w.heap.size w w'):=by
 obtain ⟨w2,hw2,hO0,hO1,hb2,hs2⟩:=enter2 w (some ⟨b,0,none⟩);have hi2:=hi.below hb2;have HK:=hid (kind_any M _ _ w2 hi2 (isT_at hi2 hm));have H0:=hid hO0;have HB:Hid (∀ w3,Below w2.heap.size w2 w3→Below w.heap.size w w3):=hid (fun w3 hb3=>bst hb2 hb3);clear hO0 hO1 hb2 hs2 hi hi2 hm;subst hw2;go_enter Tryz.func65,Tryz.ntmps65;go_wp2_with (first | (refine Rg.run rfl _ _ (run_alloc_tree _ _ _ (w.heap.size+1) (by simp) rfl) ?_) | (refine Rg.run rfl _ _ (op_load_tree (own_cell (j:=0) H0.out rfl) ⟨_,rfl,rfl⟩) ?_))
 refine HK.out.mono ?_;rintro e w3 ⟨rfl,hb3⟩;have HB3:=hid (HB.out w3 hb3);clear hb3 HB HK H0;unfold kindT;go_wp2;simp +zetaDelta [bodyPost,Exit.then,errP];exact HB3.out
theorem with_along (M:Mp) (b:Nat) (t:T) (hm:M.at_ b=some t) (hk:kindT t=1∨kindT t=2) (a:Option Addr) (n c:Nat) (v:ByteArray) (R:T) (w:World) (hi:Inv M w)
  (hal:∀ w3,Below w.heap.size w w3→Calls Tryz.prog 97 #[.agg #[.pointer (some ⟨b,0,none⟩)],.slice a n c,.string v] w3 (GotT M w3 R)) :
  Calls Tryz.prog 65 #[.agg #[.pointer (some ⟨b,0,none⟩)],.slice a n c,.string v] w (GotT M w R):=by
 obtain ⟨w2,hw2,hO0,hO1,hb2,hs2⟩:=enter2 w (some ⟨b,0,none⟩);have hi2:=hi.below hb2;have HK:=hid (kind_any M _ _ w2 hi2 (isT_at hi2 hm));have h0:=own_cell (j:=0) hO0 rfl
 have HT:Hid (∀ w3,Below w2.heap.size w2 w3→w3.cell? ⟨w.heap.size,0,none⟩=some (.pointer (some ⟨b,0,none⟩))∧Calls Tryz.prog 97 #[.agg #[.pointer (some ⟨b,0,none⟩)],.slice a n c,.string v] w3 (GotT M w3 R)∧∀ e w9,GotT M w3 R e w9→∃ p,e = .returned (tv p)∧Rg.Own w9 (w.heap.size+1) #[.pointer none] 28∧∀ w10,Rg.Upd w9 (w.heap.size+1) w10→GotT M w R (.returned (tv p)) w10):=hid (fun w3 hb3 =>
  ⟨cell_on hb3 h0,hal w3 (bst hb2 hb3),fun e w9 hG=>finish hi (Fr.below M (bst hb2 hb3)) (bst hb2 hb3) hG (hO1.below hb3) (one_no _) (by omega) (hi.free (by omega))⟩)
 have H0:=hid hO0;obtain ⟨k,hkk⟩:∃ k,kindT t=k:=⟨_,rfl⟩
 rw [hkk] at HK hk;clear hO0 hO1 hb2 hs2 hi hi2 hal hm hkk h0;subst hw2;rcases hk with rfl | rfl;all_goals
  go_enter Tryz.func65,Tryz.ntmps65;go_wp2_with (first | (refine Rg.run rfl _ _ (run_alloc_tree _ _ _ (w.heap.size+1) (by simp) rfl) ?_) | (refine Rg.run rfl _ _ (op_load_tree (own_cell (j:=0) H0.out rfl) ⟨_,rfl,rfl⟩) ?_))
  refine HK.out.mono ?_;rintro e w3 ⟨rfl,hb3⟩;obtain ⟨d0,HC,HF⟩:=HT.out w3 hb3;replace HC:=hid HC;replace HF:=hid HF;clear hb3 HT HK H0;go_wp2_with (refine Rg.run rfl _ _ (op_load_tree d0 ⟨_,rfl,rfl⟩) ?_)
  refine HC.out.mono ?_;intro e w9 hG;obtain ⟨p9,rfl,hO9,hE⟩:=HF.out e w9 hG;have HO9:=hid hO9;have HE:=hid hE;clear hG hO9 hE;go_wp2_with (refine wpl_store_tree HO9.out (by decide) p9 rfl _ _ rfl rfl rfl ?_; intro w10 hO10 hu10; have HO10:=hid hO10; have HU10:=hid hu10; clear hO10 hu10)
  exact bodyPost_ret (res_tree rfl _ rfl HO10.out) rfl (HE.out w10 HU10.out)
theorem with_along_stub (M:Mp) (b:Nat) (t:T) (hm:M.at_ b=some t) (hk:kindT t=2) (a:Option Addr) (n c:Nat) (v:ByteArray) (w:World) (hi:Inv M w)
  (hal:∀ w3,Below w.heap.size w w3→Calls Tryz.prog 97 #[.agg #[.pointer (some ⟨b,0,none⟩)],.slice a n c,.string v] w3 (fun e w'=>e = .panicked [errP 8]∧Below w3.heap.size w3 w')) :
  Calls Tryz.prog 65 #[.agg #[.pointer (some ⟨b,0,none⟩)],.slice a n c,.string v] w (fun e w'=>e = .panicked [errP 8]∧Below w.heap.size w w'):=by
 obtain ⟨w2,hw2,hO0,hO1,hb2,hs2⟩:=enter2 w (some ⟨b,0,none⟩);have hi2:=hi.below hb2;have HK:=hid (kind_any M _ _ w2 hi2 (isT_at hi2 hm));rw [hk] at HK;have h0:=own_cell (j:=0) hO0 rfl;have HT:Hid (∀ w3,Below w2.heap.size w2 w3→w3.cell? ⟨w.heap.size,0,none⟩=some (.pointer (some ⟨b,0,none⟩))∧Calls Tryz.prog 97 #[.agg #[.pointer (some ⟨b,0,none⟩)],.slice a n c,.string v] w3 (fun e w'=>e = .panicked [errP 8]∧Below w3.heap.size w3 w')∧Below w.heap.size w w3):=hid (fun w3 hb3 =>
  ⟨cell_on hb3 h0,hal w3 (bst hb2 hb3),bst hb2 hb3⟩)
 have H0:=hid hO0;clear hO0 hO1 hb2 hs2 hi hi2 hal hm hk h0;subst hw2;go_enter Tryz.func65,Tryz.ntmps65;go_wp2_with (first | (refine Rg.run rfl _ _ (run_alloc_tree _ _ _ (w.heap.size+1) (by simp) rfl) ?_) | (refine Rg.run rfl _ _ (op_load_tree (own_cell (j:=0) H0.out rfl) ⟨_,rfl,rfl⟩) ?_))
 refine HK.out.mono ?_;rintro e w3 ⟨rfl,hb3⟩;obtain ⟨d0,HC,HB⟩:=HT.out w3 hb3;replace HC:=hid HC;replace HB:=hid HB;clear hb3 HT HK H0;go_wp2_with (refine Rg.run rfl _ _ (op_load_tree d0 ⟨_,rfl,rfl⟩) ?_)
 refine HC.out.mono ?_;rintro e w9 ⟨rfl,hb9⟩;have HB9:=hid (bst HB.out hb9);clear hb9 HB;go_wp2;simp +zetaDelta [bodyPost,Exit.then];exact HB9.out
theorem fork_as (q way:Pa) (f:Pa→T) (v:ByteArray):fork q f way v=wrap (way.take (cp q way)) (two (nb (q.getD (cp q way) 0)) (nb (way.getD (cp q way) 0)) (f (q.drop (cp q way+1))) (.leaf (way.drop (cp q way+1)) v)):=by
 unfold fork;rw [cp_take _ _ _ (Nat.le_refl _)]
def WithC (t:T):Prop:=∀ (M:Mp) (w:World) (p:Option Addr) (a:Option Addr) (n c:Nat) (way:Pa) (v:ByteArray),Inv M w→IsT M p t→Bs M w a n c way→Tr.Good t way.length→Nib way→way.length≤64 →
 (Tr.get t way=none→Calls Tryz.prog 65 #[.agg #[.pointer p],.slice a n c,.string v] w fun e w'=>e = .panicked [errP 8]∧Below w.heap.size w w') ∧
 (Tr.get t way≠none→Calls Tryz.prog 65 #[.agg #[.pointer p],.slice a n c,.string v] w (GotT M w (put t way v)))
theorem with_any (t:T):WithC t:=by
 induction t with
 | nil =>
  intro M w p a n c way v hi ht hW hg hn hl;refine ⟨fun h=>(by cases h),fun _=>?_⟩;obtain rfl:p=none:=ht.nil_iff.2 rfl;exact with_nil M a n c way v w hi hW
 | stub r =>
  intro M w p a n c way v hi ht hW hg hn hl;refine ⟨fun _=>?_,fun h=>absurd rfl h⟩;obtain ⟨b,rfl,hm⟩:=ht.at_ (fun e=>by cases e);exact with_stub M b r hm a n c v w hi
 | leaf q u =>
  intro M w p a n c way v hi ht hW hg hn hl;refine ⟨fun h=>(by cases h),fun _=>?_⟩;obtain ⟨b,rfl,hm⟩:=ht.at_ (fun e=>by cases e);refine with_along M b _ hm (Or.inl rfl) a n c v _ w hi (fun w3 hb3=>?_);have hi3:=hi.below hb3;have hW3:=hW.fr hi (Fr.below M hb3);by_cases e:q=way
  ·have:put (.leaf q u) way v = .leaf q v:=by
    unfold put;rw [if_pos e,e]
   rw [this];exact along_leaf M b u q hm w3 hi3 a n c way v hW3 hl (Nat.le_of_eq hg.1) e
  ·have:put (.leaf q u) way v=fork q (fun r=>.leaf r u) way v:=by
    unfold put;rw [if_neg e]
   rw [this,fork_as];have hpre:¬ q<+:way:=fun h=>e (h.eq_of_length hg.1);exact along_split M b _ hm w3 hi3 a n c way v hW3 hl (Nat.le_of_eq hg.1) hpre hg.2 hn _ (fun wx M' hix hmx=>cut_leaf M' b q u hmx _ (Nat.succ_le_of_lt (cp_not hpre)) wx hix)
 | ext q s ih =>
  intro M w p a n c way v hi ht hW hg hn hl;obtain ⟨b,rfl,hm⟩:=ht.at_ (fun e=>by cases e);obtain ⟨g1,g2,g3,g4,g5⟩:=hg;by_cases e:q<+:way
  ·have hgs:Tr.Good s (way.drop q.length).length:=by rw [List.length_drop]; exact g5
   have hget:Tr.get (.ext q s) way=Tr.get s (way.drop q.length):=by
    show (if q<+:way then Tr.get s (way.drop q.length) else some none)=_;rw [if_pos e]
   rw [hget];have hld:(way.drop q.length).length≤64:=by rw [List.length_drop]; omega
   refine ⟨fun h=>?_,fun h=>?_⟩
   ·refine with_along_stub M b _ hm rfl a n c v w hi (fun w3 hb3=>?_);exact along_stub M b q s hm w3 (hi.below hb3) a n c way v (hW.fr hi (Fr.below M hb3)) hl g3 e (fun M' w' p' a' n' c' hi' ht' hW'=>(ih M' w' p' a' n' c' _ v hi' ht' hW' hgs (hn.drop _) hld).1 h)
   ·have hput:put (.ext q s) way v = .ext q (put s (way.drop q.length) v):=by
     show (if q<+:way then _ else _)=_;rw [if_pos e]
    rw [hput];refine with_along M b _ hm (Or.inr rfl) a n c v _ w hi (fun w3 hb3=>?_);exact along_ext M b q s hm w3 (hi.below hb3) a n c way v (hW.fr hi (Fr.below M hb3)) hl g3 e g1 h (fun M' w' p' a' n' c' hi' ht' hW'=>(ih M' w' p' a' n' c' _ v hi' ht' hW' hgs (hn.drop _) hld).2 h)
  ·have hget:Tr.get (.ext q s) way=some none:=by
    show (if q<+:way then Tr.get s (way.drop q.length) else some none)=_;rw [if_neg e]
   rw [hget];refine ⟨fun h=>(by cases h),fun _=>?_⟩;have hput:put (.ext q s) way v=fork q (fun r=>wrap r s) way v:=by
    show (if q<+:way then _ else _)=_;rw [if_neg e]
   rw [hput,fork_as];refine with_along M b _ hm (Or.inr rfl) a n c v _ w hi (fun w3 hb3=>?_);exact along_split M b _ hm w3 (hi.below hb3) a n c way v (hW.fr hi (Fr.below M hb3)) hl g3 e g2 hn _ (fun wx M' hix hmx=>cut_ext M' b q s hmx _ (Nat.succ_le_of_lt (cp_not e)) wx hix)
 | br ks ih =>
  intro M w p a n c way v hi ht hW hg hn hl;obtain ⟨b,rfl,hm⟩:=ht.at_ (fun e=>by cases e);cases way with
  | nil=>exact absurd hg.1 (Nat.lt_irrefl 0)
  | cons c0 r =>
   have hl':r.length≤64:=by simp at hl; omega
   have hgi:Tr.Good (ks (nb c0)) r.length:=hg.2.2 (nb c0);refine ⟨fun h=>?_,fun h=>?_⟩
   ·exact with_br_stub ks M b hm w hi a n c c0 r v hW hn.head hl (fun M' w' p' a' n' c' hi' ht' hW'=>(ih (nb c0) M' w' p' a' n' c' r v hi' ht' hW' hgi hn.tail hl').1 h)
   ·have hput:put (.br ks) (c0::r) v = .br fun j=>if j=nb c0 then put (ks (nb c0)) r v else ks j:=by
     show T.br _=T.br _;congr 1;funext j;by_cases e:j=nb c0
     ·subst e; rfl
     ·rw [if_neg e,if_neg e]
    rw [hput];exact with_br ks M b hm w hi a n c c0 r v hW hn.head hl (fun M' w' p' a' n' c' hi' ht' hW'=>(ih (nb c0) M' w' p' a' n' c' r v hi' ht' hW' hgi hn.tail hl').2 h)
end Tm
end
section
open Go.RowKit
namespace Tm
open Tr Ni Pk
end Tm
end
section
open Go.RowKit
namespace Tm
open Tr Ni Pk
end Tm
end
section
open Go.RowKit
namespace Tk
open Pk
theorem catch_panicking (p:Addr) (x c:Int) (older:List PanicEntry) (w:World) (hc:w.cell? p=some (.int .i64 x)) (hz:w.frozen? p=false) :
  CallsD Tryz.prog 94 #[.pointer (some p)] (.panicking (errP c::older)) w fun e u' w' =>
   e = .returned (.tuple #[])∧u' = .panicking ({ errP c with recovered:=true }::older)∧w'=w.setCell p (.int .i64 c):=by
 refine callsD_of_wpS Tryz.func94 rfl fun c₀ cs hu=>?_;apply wpS_seq;apply wpS_region;simp [wpOpsS,go_sem,recoverD,hu,errP,Tryz.ntmps94,Exit.thenS];apply wpS_seq;apply wpS_region;simp [wpOpsS,go_sem,Exit.thenS];refine wpS_cond (t:=true) (by simp [Act.eval,Array.replicate]) ?_;simp only [if_true];apply wpS_region;have hta:(Instr.typeAssert (.iface 62 (.int .i64 c)) 20 62 false).run Tryz.prog w = .ok (.int .i64 c) w:=by kernel_rfl
 simp [wpOpsS,go_sem,hta,hc,hz,bodyPostS,results,Tryz.results94]
theorem catch_idle (p:Addr) (w:World) :
  CallsD Tryz.prog 94 #[.pointer (some p)] .returning w fun e u' w'=>e = .returned (.tuple #[])∧u' = .returning∧w'=w:=by
 refine callsD_of_wpS Tryz.func94 rfl fun c₀ cs hu=>?_;apply wpS_seq;apply wpS_region;simp [wpOpsS,go_sem,recoverD,hu,Tryz.ntmps94,Exit.thenS];apply wpS_seq;apply wpS_region;simp [wpOpsS,go_sem,Exit.thenS];refine wpS_cond (t:=false) (by simp [Act.eval,Array.replicate]) ?_;simp only [Bool.false_eq_true,if_false];refine wpS_of_wp (wp_skip ?_);cases c₀
 simp_all [bodyPostS,results,Tryz.results94]
theorem caught_ok (D:FuncId) (caps:Array Value) (hD:∀ w,(callFunc D caps).run Tryz.prog w = .ok (.enter D caps) w) (w:World) (R:World→Prop)
  (h:Calls Tryz.prog D caps (w.alloc (.cells #[.int .i64 0] 62)) fun e w'=>e = .returned (.tuple #[])∧(w'.cell? ⟨w.heap.size,0,none⟩=some (.int .i64 0)∧w'.frozen? ⟨w.heap.size,0,none⟩=false)∧R w') :
  Calls Tryz.prog 63 #[.func (.func D) #[] caps] w fun e w'=>e = .returned (.int .i64 0)∧∃ w1,R w1∧w'=w1.setCell ⟨w.heap.size,0,none⟩ (.int .i64 0):=by
 have hmf:∀ (fn:Fn) (first cap:Array Value) (w:World),(Instr.makeFunc fn first cap).run Tryz.prog w = .ok (.func fn first cap) w:=fun _ _ _ _=>rfl;have H:=hid h;clear h;go_enter_defers Tryz.func63,Tryz.ntmps63
 go_wp2_with fail
 refine H.out.mono ?_;rintro e w1 ⟨rfl,⟨hc,hz⟩,hR⟩;have HR:=hid hR;clear hR H;go_wp2;refine leaves_cons (f:=94) (args:=#[.pointer (some ⟨w.heap.size,0,none⟩)]) (by simp) (by simp [go_sem]) ?_;refine (catch_idle ⟨w.heap.size,0,none⟩ _).mono ?_;rintro e u' w'' ⟨rfl,rfl,rfl⟩;simp [Leaves,settle,results,Tryz.results63,go_sem,hc];exact ⟨w1,HR.out,rfl⟩
theorem caught_err (D:FuncId) (caps:Array Value) (hD:∀ w,(callFunc D caps).run Tryz.prog w = .ok (.enter D caps) w) (w:World) (c:Int) (R:World→Prop)
  (h:Calls Tryz.prog D caps (w.alloc (.cells #[.int .i64 0] 62)) fun e w'=>e = .panicked [errP c]∧(w'.cell? ⟨w.heap.size,0,none⟩=some (.int .i64 0)∧w'.frozen? ⟨w.heap.size,0,none⟩=false)∧R w') :
  Calls Tryz.prog 63 #[.func (.func D) #[] caps] w fun e w'=>e = .returned (.int .i64 c)∧∃ w1,R w1∧w'=w1.setCell ⟨w.heap.size,0,none⟩ (.int .i64 c):=by
 have hmf:∀ (fn:Fn) (first cap:Array Value) (w:World),(Instr.makeFunc fn first cap).run Tryz.prog w = .ok (.func fn first cap) w:=fun _ _ _ _=>rfl;have H:=hid h;clear h;go_enter_defers Tryz.func63,Tryz.ntmps63
 go_wp2_with fail
 refine H.out.mono ?_;rintro e w1 ⟨rfl,⟨hc,hz⟩,hR⟩;have HR:=hid hR;clear hR H;go_wp2;refine leaves_cons (f:=94) (args:=#[.pointer (some ⟨w.heap.size,0,none⟩)]) (by simp) (by simp [go_sem]) ?_;refine (catch_panicking ⟨w.heap.size,0,none⟩ 0 c [] _ hc hz).mono ?_;rintro e u' w'' ⟨rfl,rfl,rfl⟩;simp [Leaves,settle,results,Tryz.results63,go_sem,hc];exact ⟨w1,HR.out,rfl⟩
end Tk
end
section
open Go.RowKit
namespace Tm
open Tr Ni Pk
theorem put1_ok (p:Option Addr) (k:List UInt8) (hk:k.length=32) (bt bk br:Nat) (bs:Nat) (v:ByteArray) (w:World) (hOt:Rg.Own w bt #[.pointer p] 28) (hOk:Rg.Own w bk (Ky.kc k) 24) (h1:bt≠br) (h2:bk≠br)
  (hOr:Rg.Own w br #[.pointer none] 28) (M:Mp) (hi:Inv M w) (R:T) (hC:∀ w5,Below w.heap.size w w5→∀ a5 n5 c5,IsBs w5 a5 n5 c5 (Ky.pathK k)→Calls Tryz.prog 65 #[.agg #[.pointer p],.slice a5 n5 c5,.string v] w5 (GotT (plus M (inS a5 n5)) w5 R)) (hOs:Rg.Own w bs #[.string v] 9) (h3:bs≠br) :
  Calls Tryz.prog 64 #[.pointer (some ⟨bt,0,none⟩),.pointer (some ⟨bk,0,none⟩),.pointer (some ⟨bs,0,none⟩),.pointer (some ⟨br,0,none⟩)] w (fun e w'=>e = .returned (.tuple #[])∧∃ p' M' w6,IsT M' p' R∧St M w M' w6∧Rg.Upd w6 br w'∧Rg.Own w' br #[.pointer p'] 28):=by
 have HPa:=hid (fun wx=>Ky.path_any k hk wx);have HOt:=hid hOt;have HOk:=hid hOk;have HF:Hid (∀ w5,Below w.heap.size w w5→∀ a5 n5 c5,IsBs w5 a5 n5 c5 (Ky.pathK k)→∀ e w6,GotT (plus M (inS a5 n5)) w5 R e w6→∃ p6,e = .returned (tv p6)∧Below w.heap.size w w6∧Rg.Own w6 br #[.pointer none] 28∧∀ w10,Rg.Own w10 br #[.pointer p6] 28→Rg.Upd w6 br w10→∃ p' M' w6,IsT M' p' R∧St M w M' w6∧Rg.Upd w6 br w10∧Rg.Own w10 br #[.pointer p'] 28):=hid (fun w5 hb5 a5 n5 c5 hx e w6 hG=>by
  have hs:St M w (plus M (inS a5 n5)) w5:=((St.refl hi).below hb5).bytes hx;obtain ⟨p6,M6,he,hT,hS,_,hb6⟩:=hs.got hG;exact ⟨p6,he,hS.b,hOr.below hS.b,fun w10 hO hu=>⟨p6,M6,w6,hT,hS,hu,hO⟩⟩)
 have HC:=hid hC;have HOs:=hid hOs;clear hOs;clear hOr hC hi;clear hOt hOk;go_enter Tryz.func64,Tryz.ntmps64;go_wp2_with fail
 refine wp_region_noPanic ?_;refine wp_region_held_drew (S:=fun w'=>Bo br w w') (by kernel_rfl) (Bo.of (below_drewN (Below.refl _ _) 1)) (fun hld=>?_);refine Rg.tk (i:=0) rfl ?_ (hy:=by intro wz hSw; (refine op_load_tree (own_cell (j:=0) (own_bo hSw HOt.out (by omega)) rfl) ?_; exact ⟨_,rfl,rfl⟩));try simp only [Act.put,Rg.s]
 refine Rg.tk (i:=1) rfl ?_ (hy:=by intro wz hSw; (refine op_load_key hk (own_bo hSw HOk.out (by omega)).2 ?_; exact ⟨_,rfl,rfl⟩));try simp only [Act.put,Rg.s]
 refine Rg.tk (i:=3) rfl ?_ (hy:=by intro wz hSw; (refine op_load_str (own_cell (j:=0) (own_bo hSw HOs.out (by omega)) rfl) ?_; exact ⟨_,rfl,rfl⟩));try simp only [Act.put,Rg.s]
 refine Rg.rd (i:=2) rfl fun K hK=>?_;go_simp;go_at_call 43
 (with_reducible refine (HPa.out w.drew).mono ?_)
 rintro e w5 ⟨a5,n5,c5,rfl,hx5,hb5⟩;have HB5:Hid (Below w.heap.size w w5):=hid (bst (below_drewN (Below.refl _ _) 1) hb5);have HX5:=hid hx5;clear hb5 hx5;refine hK.out _ _ ?_ (fun hld=>?_)
 ·exact Bo.of HB5.out
 clear hK K;try simp only [Act.put,Rg.s]
 refine Rg.rd (i:=4) rfl fun K hK=>?_;go_simp;go_at_call 65
 (with_reducible refine (HC.out w5 HB5.out a5 n5 c5 HX5.out).mono ?_)
 intro e w6 hG;obtain ⟨p6,rfl,hB6,H6⟩:=HF.out w5 HB5.out a5 n5 c5 HX5.out e w6 hG;replace H6:=hid H6;clear hG;refine hK.out _ _ ?_ (fun hld=>?_)
 ·exact Bo.of hB6
 clear hK K;try simp only [Act.put,Rg.s]
 refine Rg.rd (i:=5) rfl fun K hK=>?_;refine meet_store_tree (by rfl) H6.out.1 (off:=0) (by decide) p6 ⟨_,_,rfl,rfl,rfl⟩ ?_;intro w10 hO10 hu10;have H10:=hid (H6.out.2 w10 hO10 hu10);clear hO10;refine hK.out _ _ ?_ (fun hld=>?_)
 ·exact (Bo.of hB6).upd hu10
 clear hK K;try simp only [Act.put,Rg.s]
 refine wpAnyH_done (by kernel_rfl) ?_ _;refine NoPanic.normal ?_;go_wp2;go_end0;exact ⟨rfl,H10.out⟩
theorem put1_err (p:Option Addr) (k:List UInt8) (hk:k.length=32) (bt bk br:Nat) (bs:Nat) (v:ByteArray) (c:Int) (w:World) (hOt:Rg.Own w bt #[.pointer p] 28) (hOk:Rg.Own w bk (Ky.kc k) 24) (h1:bt≠br) (h2:bk≠br)
  (hOs:Rg.Own w bs #[.string v] 9) (h3:bs≠br) (hC:∀ w5,Below w.heap.size w w5→∀ a5 n5 c5,IsBs w5 a5 n5 c5 (Ky.pathK k)→Calls Tryz.prog 65 #[.agg #[.pointer p],.slice a5 n5 c5,.string v] w5 (fun e w'=>e = .panicked [errP c]∧Below w5.heap.size w5 w')) :
  Calls Tryz.prog 64 #[.pointer (some ⟨bt,0,none⟩),.pointer (some ⟨bk,0,none⟩),.pointer (some ⟨bs,0,none⟩),.pointer (some ⟨br,0,none⟩)] w (fun e w'=>e = .panicked [errP c]∧Below w.heap.size w w'):=by
 have HPa:=hid (fun wx=>Ky.path_any k hk wx);have HOt:=hid hOt;have HOk:=hid hOk;have HC:=hid hC;have HOs:=hid hOs;clear hC hOs;clear hOt hOk;go_enter Tryz.func64,Tryz.ntmps64;go_wp2_with fail
 refine wp_region_held_drew (S:=fun w'=>Bo br w w') (by kernel_rfl) (Bo.of (below_drewN (Below.refl _ _) 1)) (fun hld=>?_);refine Rg.tk (i:=0) rfl ?_ (hy:=by intro wz hSw; (refine op_load_tree (own_cell (j:=0) (own_bo hSw HOt.out (by omega)) rfl) ?_; exact ⟨_,rfl,rfl⟩));try simp only [Act.put,Rg.s]
 refine Rg.tk (i:=1) rfl ?_ (hy:=by intro wz hSw; (refine op_load_key hk (own_bo hSw HOk.out (by omega)).2 ?_; exact ⟨_,rfl,rfl⟩));try simp only [Act.put,Rg.s]
 refine Rg.tk (i:=3) rfl ?_ (hy:=by intro wz hSw; (refine op_load_str (own_cell (j:=0) (own_bo hSw HOs.out (by omega)) rfl) ?_; exact ⟨_,rfl,rfl⟩));try simp only [Act.put,Rg.s]
 refine Rg.rd (i:=2) rfl fun K hK=>?_;go_simp;go_at_call 43
 (with_reducible refine (HPa.out w.drew).mono ?_)
 rintro e w5 ⟨a5,n5,c5,rfl,hx5,hb5⟩;have HB5:Hid (Below w.heap.size w w5):=hid (bst (below_drewN (Below.refl _ _) 1) hb5);have HX5:=hid hx5;clear hb5 hx5;refine hK.out _ _ ?_ (fun hld=>?_)
 ·exact Bo.of HB5.out
 clear hK K;try simp only [Act.put,Rg.s]
 refine Rg.rd (i:=4) rfl fun K hK=>?_;go_simp;go_at_call 65
 (with_reducible refine (HC.out w5 HB5.out a5 n5 c5 HX5.out).mono ?_)
 rintro e w6 ⟨rfl,hb6⟩;simp +zetaDelta [bodyPost,Exit.then];exact bst HB5.out hb6
end Tm
end
section
open Go.RowKit
namespace Tm
open Tr Ni Pk Ky
theorem enterG (w:World) (p:Option Addr) (C:Array Value) (cs:Array Value) (T:TypeId):∃ w4,w4=((w.alloc (.cells #[.pointer p] 28)).alloc (.cells C 24)).alloc (.cells cs T)∧Rg.Own w4 w.heap.size #[.pointer p] 28∧Rg.Own w4 (w.heap.size+1) C 24∧Rg.Own w4 (w.heap.size+2) cs T∧Below w.heap.size w w4∧w4.heap.size=w.heap.size+3:=by
 have h2:=Rg.Own.new (w.alloc (.cells #[.pointer p] 28)) C 24;have h3:=Rg.Own.new ((w.alloc (.cells #[.pointer p] 28)).alloc (.cells C 24)) cs T;rw [show (w.alloc (.cells #[.pointer p] 28)).heap.size=w.heap.size+1 by simp] at h2;rw [show ((w.alloc (.cells #[.pointer p] 28)).alloc (.cells C 24)).heap.size=w.heap.size+2 by simp] at h3;exact ⟨_,rfl,((Rg.Own.new _ _ _).below (al1 _ _)).below (al1 _ _),h2.below (al1 _ _),h3,(al2 _ _ _).alloc (by simp; omega) _,by simp⟩
theorem one_int (x:Int):∀ (j:Nat) (y:Int),(#[Value.int .i64 x]:Array Value)[j]? ≠ some (Value.int .u8 y):=fun j y h=>by
 match j,h with
 | 0,h=>simp at h
 | j+1,h=>simp at h
theorem own_one' {w:World} {b:Nat} {v:Value} {t:TypeId} (h:Rg.Own w b #[v] t):w.cell? ⟨b,0,none⟩=some v∧w.frozen? ⟨b,0,none⟩=false:=⟨own_cell (j:=0) h rfl,own_free h⟩
end Tm
end
section
open Go.RowKit
namespace Tm
open Tr Ni Pk Ky
def GotTE (M:Mp) (w:World) (t:T) (c:Int) (e:Ending) (w':World):Prop:=∃ p M',e = .returned (.tuple #[tv p,.int .i64 c])∧IsT M' p t∧Fr M M' w w'∧Inv M' w'∧Below w.heap.size w w'
def InBox (M:Mp) (w:World) (br:Nat) (t:T) (w':World):Prop:=∃ p M',Rg.Own w' br #[.pointer p] 28∧IsT M' p t∧Fr M M' w w'∧Inv M' w'∧Below w.heap.size w w' ∧ ¬ M'.ft br
theorem InBox.end_ {M:Mp} {w w5 w6:World} {br:Nat} {t:T} {c:Int} (h:InBox M w br t w5) (hg:w.heap.size≤br):∃ p,Rg.Own w5 br #[.pointer p] 28∧∀ w6,Rg.Upd w5 br w6→GotTE M w t c (.returned (.tuple #[tv p,.int .i64 c])) w6:=by
 obtain ⟨p,M',hO,hT,f,i,b,hn⟩:=h;exact ⟨p,hO,fun w6 hu=>⟨p,M',rfl,hT,f.upd hu hg,i.upd hu hn,hu.below b hg⟩⟩
theorem in_box {M M':Mp} {w wc w6 w1:World} {br be:Nat} {p:Option Addr} {t:T} {T':TypeId} {cs:Array Value} {te:TypeId} (hi:Inv M w) (hbc:Below w.heap.size w wc) (hT:IsT M' p t) (hS:St M wc M' w6) (hu:Rg.Upd w6 br w1) (hO:Rg.Own w1 br #[.pointer p] T')
  (hOr:Rg.Own wc br #[.pointer none] 28) (hOe:Rg.Own wc be cs te) (hne:∀ (j:Nat) (x:Int),cs[j]? ≠ some (Value.int .u8 x)) (hgr:w.heap.size≤br) (hge:w.heap.size≤be) (hre:br≠be) (hTT:T'=28) (x:Value):InBox M w br t (w1.setCell ⟨be,0,none⟩ x):=by
 subst hTT;have hu2:=upd_setCell w1 be 0 x;have nr:¬ M'.ft br:=hS.f.box (hi.free hgr) hOr.1 (no_byte hOr (one_no _));have ne:¬ M'.ft be:=hS.f.box (hi.free hge) hOe.1 (no_byte hOe hne);have hf:=(((Fr.below M hbc).trans hi hS.f).upd hu hgr).upd hu2 hge;exact ⟨p,M',hO.upd hu2 hre,hT,hf,(hS.i.upd hu nr).upd hu2 ne,hu2.below (hu.below (bst hbc hS.b) hgr) hge,nr⟩
theorem put_core (M:Mp) (p:Option Addr) (k:List UInt8) (v:ByteArray) (hv0:v.size≠0) (hv1:v.size≤65552) (R:T) (c:Int) (w w4:World) (hw4:w4=(((w.alloc (.cells #[.pointer p] 28)).alloc (.cells (kc k) 24)).alloc (.cells #[.string v] 9)).alloc (.cells #[.pointer none] 28))
  (h:Calls Tryz.prog 63 #[.func (.func 64) #[] #[.pointer (some ⟨w.heap.size,0,none⟩),.pointer (some ⟨w.heap.size+1,0,none⟩),.pointer (some ⟨w.heap.size+2,0,none⟩),.pointer (some ⟨w.heap.size+3,0,none⟩)]] w4 fun e w'=>e = .returned (.int .i64 c)∧InBox M w (w.heap.size+3) R w') :
  Calls Tryz.prog 30 #[.agg #[.pointer p],.agg (kc k),.string v] w (GotTE M w R c):=by
 have hmf:∀ (fn:Fn) (first cap:Array Value) (w:World),(Instr.makeFunc fn first cap).run Tryz.prog w = .ok (.func fn first cap) w:=fun _ _ _ _=>rfl;have hne:=Ni.not_empty (s:=v) (by omega);have hd:decide ((65552:Int)<(v.size:Int))=false:=by simp; omega
 obtain ⟨C,hC⟩:∃ C,kc k=C:=⟨_,rfl⟩
 have HH:=hid h;have HW:=hid hw4;rw [hC] at HW ⊢;clear h hw4 hC;go_enter Tryz.func30,Tryz.ntmps30;go_wp2_with (first
  | (refine Rg.run rfl _ _ (run_alloc_tree _ _ _ (w.heap.size+3) (by simp) rfl) ?_)
  | (refine Rg.run rfl _ _ (op_load_str (s:=v) (by simp) ⟨_,rfl,rfl⟩) ?_)
  | (refine Rg.runW (by rfl) _ _ (op_load_str (s:=v) (by simp) ⟨_,rfl,rfl⟩) ?_))
 rw [← HW.out];refine HH.out.mono ?_;rintro e w5 ⟨rfl,hB⟩;obtain ⟨p5,hO5,hE5⟩:=hB.end_ (w6:=w5) (c:=c) (by omega);have HO5:=hid hO5;have HE5:=hid hE5;clear hB hO5 hE5 HH HW hmf;go_wp2_with (first
  | (refine Rg.run rfl _ _ (op_load_tree (own_cell (j:=0) HO5.out rfl) ⟨_,rfl,rfl⟩) ?_)
  | (refine wpl_store_tree HO5.out (by simp) p5 rfl _ _ rfl rfl rfl ?_; intro w6 hO6 hu6; have HO6:=hid hO6; have HU6:=hid hu6; clear hO6 hu6))
 exact bodyPost_ret (res_tree1 (q:=6) (u:=7) rfl _ rfl HO6.out) rfl (HE5.out w6 HU6.out)
theorem put_any (M:Mp) (p:Option Addr) (t:T) (k:List UInt8) (hk:k.length=32) (v:ByteArray) (hv0:v.size≠0) (hv1:v.size≤65552) (w:World) (hi:Inv M w) (ht:IsT M p t) (hg:Tr.Good t 64) :
  (Tr.get t (path k)=none→Calls Tryz.prog 30 #[.agg #[.pointer p],.agg (kc k),.string v] w (GotTE M w .nil 8)) ∧
  (Tr.get t (path k)≠none→Calls Tryz.prog 30 #[.agg #[.pointer p],.agg (kc k),.string v] w (GotTE M w (put t (path k) v) 0)):=by
 obtain ⟨w3,hw3,hO0,hO1,hO2,hb3,hs3⟩:=enterG w p (kc k) #[.string v] 9;obtain ⟨w4,hw4⟩:∃ w4,w4=w3.alloc (.cells #[.pointer none] 28):=⟨_,rfl⟩
 have hb34:Below w3.heap.size w3 w4:=by rw [hw4]; exact al1 _ _
 have hOr:Rg.Own w4 (w.heap.size+3) #[.pointer none] 28:=by rw [hw4,← hs3]; exact Rg.Own.new _ _ _
 have hs4:w4.heap.size=w.heap.size+4:=by rw [hw4]; simp [hs3]
 have hb4:=bst hb3 hb34;replace hO0:=hO0.below hb34;replace hO1:=hO1.below hb34;replace hO2:=hO2.below hb34;have hw4':=hw4;rw [hw3] at hw4';have hE:Rg.Own (w4.alloc (.cells #[.int .i64 0] 62)) w4.heap.size #[.int .i64 0] 62:=Rg.Own.new _ _ _;have hA:=al1 w4 (.cells #[.int .i64 0] 62);obtain ⟨wc,hwc⟩:∃ wc,w4.alloc (.cells #[.int .i64 0] 62)=wc:=⟨_,rfl⟩
 rw [hwc] at hE hA;have hbc:=bst hb4 hA;have hic:=hi.below hbc;have hpl:(path k).length=64:=by rw [Tr.path_length,hk]
 have hD:∀ wx,(callFunc 64 #[.pointer (some ⟨w.heap.size,0,none⟩),.pointer (some ⟨w.heap.size+1,0,none⟩),.pointer (some ⟨w.heap.size+2,0,none⟩),.pointer (some ⟨w.heap.size+3,0,none⟩)]).run Tryz.prog wx = .ok (.enter 64 #[.pointer (some ⟨w.heap.size,0,none⟩),.pointer (some ⟨w.heap.size+1,0,none⟩),.pointer (some ⟨w.heap.size+2,0,none⟩),.pointer (some ⟨w.heap.size+3,0,none⟩)]) wx:=by intro wx; kernel_rfl
 refine ⟨fun hget=>?_,fun hget=>?_⟩
 ·refine put_core M p k v hv0 hv1 .nil 8 w w4 hw4' ((Tk.caught_err 64 _ hD w4 8 (fun w'=>Below wc.heap.size wc w') (by
   rw [hwc];refine (put1_err p k hk _ _ (w.heap.size+3) _ v 8 wc (hO0.below hA) (hO1.below hA) (by omega) (by omega) (hO2.below hA) (by omega) (fun w5 hb5 a5 n5 c5 hx=>?_)).mono ?_
   ·exact (with_any t (plus M (inS a5 n5)) w5 p a5 n5 c5 (path k) v ((hic.below hb5).plus (fun k hk=>(inS_byte hx hk).2)) (isT_plus ht) (Bs.in_ hx) (by rw [hpl]; exact hg) (path_nib k) (by omega)).1 hget
   rintro e w' ⟨rfl,hb⟩;exact ⟨rfl,own_one' (hE.below hb),hb⟩)).mono ?_)
  rintro e w' ⟨rfl,w1,hb,rfl⟩;have hu2:=upd_setCell w1 w4.heap.size 0 (.int .i64 8);have hbw:=hu2.below (bst hbc hb) (by omega);exact ⟨rfl,none,M,((hOr.below hA).below hb).upd hu2 (by omega),rfl,Fr.below M hbw,hi.below hbw,hbw,hi.free (by omega)⟩
 ·refine put_core M p k v hv0 hv1 (put t (path k) v) 0 w w4 hw4' ((Tk.caught_ok 64 _ hD w4 (fun w'=>∃ p' M' w6,IsT M' p' (put t (path k) v)∧St M wc M' w6∧Rg.Upd w6 (w.heap.size+3) w'∧Rg.Own w' (w.heap.size+3) #[.pointer p'] 28) (by
   rw [hwc];refine (put1_ok p k hk _ _ (w.heap.size+3) _ v wc (hO0.below hA) (hO1.below hA) (by omega) (by omega) (hOr.below hA) M hic (put t (path k) v) (fun w5 hb5 a5 n5 c5 hx=>?_) (hO2.below hA) (by omega)).mono ?_
   ·exact (with_any t (plus M (inS a5 n5)) w5 p a5 n5 c5 (path k) v ((hic.below hb5).plus (fun k hk=>(inS_byte hx hk).2)) (isT_plus ht) (Bs.in_ hx) (by rw [hpl]; exact hg) (path_nib k) (by omega)).2 hget
   rintro e w' ⟨rfl,p',M',w6,h1,h2,h3,h4⟩;exact ⟨rfl,own_one' ((hE.below h2.b).upd h3 (by omega)),p',M',w6,h1,h2,h3,h4⟩)).mono ?_)
  rintro e w' ⟨rfl,w1,⟨p',M',w6,h1,h2,h3,h4⟩,rfl⟩;exact ⟨rfl,in_box hi hbc h1 h2 h3 h4 (hOr.below hA) hE (one_int _) (by omega) (by omega) (by omega) rfl _⟩
end Tm
end
section
open Go.RowKit
namespace Tm
open Tr Ni Pk Ky
theorem Bx.fr {M M':Mp} {w w':World} {g:Nat} {cs:Array Value} {t:TypeId} (h:Bx M w g cs t) (f:Fr M M' w w') (b:Below w.heap.size w w'):Bx M' w' g cs t:=h.got f b
theorem St.te {M M1:Mp} {w w1 w2:World} {t:T} {c:Int} {e:Ending} (s:St M w M1 w1) (h:GotTE M1 w1 t c e w2):∃ p M2,e = .returned (.tuple #[tv p,.int .i64 c])∧IsT M2 p t∧St M w M2 w2∧Fr M1 M2 w1 w2∧Below w1.heap.size w1 w2:=by
 obtain ⟨p,M2,he,ht,f,i,b⟩:=h;exact ⟨p,M2,he,ht,⟨s.f.trans s.i0 f,i,bst s.b b,s.i0⟩,f,b⟩
def OkPs (l:List Tr.Pair):Prop:=(∀ x∈l,x.1.length=32)∧∀ x∈l,x.2.size≠0∧x.2.size≤65552
theorem OkPs.has {l:List Tr.Pair} (h:OkPs l):Has (putAll .nil l) (lastL l):=has_all l.length l rfl h.1 h.2
theorem OkPs.take {l:List Tr.Pair} (h:OkPs l) (j:Nat):OkPs (l.take j):=⟨fun x hx=>h.1 x (List.mem_of_mem_take hx),fun x hx=>h.2 x (List.mem_of_mem_take hx)⟩
theorem has_get {t:T} {m:Tr.Key→Option ByteArray} (h:Has t m) {k:Tr.Key} (hk:k.length=32):Tr.get t (path k)≠none:=by
 rw [h.get k hk];intro e;cases e
theorem of_any (M:Mp) (a:Option Addr) (n c:Nat) (l:List Tr.Pair) (hok:OkPs l) (w:World) (hi:Inv M w) (h:IsPs w a n c l) (hn:n≤1000000) :
  Calls Tryz.prog 7 #[.slice a n c] w (GotT M w (putAll .nil l)):=by
 obtain ⟨w2,hw2,hO0,hO1,hb2,hs2⟩:=enter2 w none;have hS2:St M w M w2:=(St.refl hi).below hb2;have hX0:Bx M w2 w.heap.size #[.pointer none] 28:=⟨hO0,hi.free (by omega),one_no _⟩
 have hX1:Bx M w2 (w.heap.size+1) #[.pointer none] 28:=⟨hO1,hi.free (by omega),one_no _⟩
 have hl:=h.len;have hcap:=h.1;have hmx:=h.2.1;unfold maxLen at hmx;have H:=hid h;have HOk:=hid hok;have HL:=hid hl;have HS2:=hid hS2;have HX0:=hid hX0;have HX1:=hid hX1;have HW2:Hid (_=_):=hid hw2;clear hO0 hO1 hb2 hs2 hw2 hS2 hX0 hX1 h hok hl hi;go_enter Tryz.func7,Tryz.ntmps7;go_wp2_with (first | (refine Rg.run rfl _ _ (run_alloc_tree _ _ _ w.heap.size rfl rfl) ?_) | (refine Rg.run rfl _ _ (run_alloc_tree _ _ _ (w.heap.size+1) (by simp) rfl) ?_))
 rw [← HW2.out];clear HW2;go_loopw [10] (fun i wr=>∃ (j:Nat) (p:Option Addr) (Mr:Mp),j≤n∧i = .int .i64 j∧Hid (St M w Mr wr)∧Hid (Bx Mr wr w.heap.size #[.pointer none] 28)∧Hid (Bx Mr wr (w.heap.size+1) #[.pointer p] 28)∧Hid (IsT Mr p (putAll .nil (l.take j)))) (fun i _=>n-(intOf i).toNat)
 case atStart=>exact ⟨0,none,M,Nat.zero_le _,rfl,HS2,HX0,HX1,hid rfl⟩
 case round =>
  obtain ⟨j,p,Mr,hj,rfl,HS,HA,HB,HT⟩:=hrel;clear HS2 HX0 HX1;by_cases hlt:j<n
  ·obtain ⟨b,off,rfl,hblt,hpa,hk⟩:=H.out.at' j hlt;have HE:Hid (l.getD j ([],eB)∈l∧l.take (j+1)=l.take j++[l.getD j ([],eB)]):=hid (by
    have hjl:j<l.length:=by rw [HL.out]; exact hlt
    have e:l.getD j ([],eB)=l[j]:=by simp [List.getD,hjl]
    rw [e];exact ⟨List.getElem_mem _,List.take_succ_eq_append_getElem hjl⟩)
   obtain ⟨x,hx⟩:∃ x,l.getD j ([],eB)=x:=⟨_,rfl⟩
   rw [hx] at hpa hk HE;have hpr:=hpa.below HS.out.b;have hx2:=HOk.out.2 x HE.out.1;have hh:=(HOk.out.take j).has;have hszr:=HS.out.b.size;have HPt:=hid (fun w5 (h5:Inv Mr w5)=>(put_any Mr p _ x.1 hk x.2 hx2.1 hx2.2 w5 h5 HT.out hh.good).2 (has_get hh hk));rw [← putAll_snoc,← HE.out.2] at HPt;have HPr:=hid hpr;have HKk:=hid hk;have hNew:=Rg.Own.new wr (pairA (List.replicate 32 0,eB)) 33;have HN:=hid hNew;have HXs:=hid hx2;obtain ⟨k,v⟩:=x;clear hx hpa hk hpr hx2 hh hNew HE HT;dsimp only at HPt HKk;go_wp2_with (first
    | (refine Rg.run rfl _ _ (op_load_pair HKk.out HPr.out ⟨_,rfl,rfl⟩) ?_)
    | (refine Rg.run rfl _ _ (run_alloc_pair _ _ _ wr.heap.size rfl rfl) ?_)
    | (refine wpl_store_pair HN.out (by simp) (k,v) HKk.out rfl _ _ rfl rfl rfl rfl ?_; intro w5 hO5 hu5; have HO5:=hid hO5; have HB5:Hid (Below wr.heap.size wr w5):=hid (hu5.below (al1 _ _) (Nat.le_refl _)); clear hO5 hu5)
    | (refine Rg.run rfl _ _ (op_load_tree (own_cell (j:=0) (HB.out.o.below HB5.out) rfl) ⟨_,rfl,rfl⟩) ?_)
    | (refine Rg.run rfl _ _ (op_load_key_mid HKk.out (PairAt.own HO5.out).key ⟨_,rfl,rfl⟩) ?_)
    | (refine Rg.run rfl _ _ (op_load_str (s:=v) ((PairAt.own HO5.out).val HKk.out) ⟨_,rfl,rfl⟩) ?_))
   have hS5:=HS.out.below HB5.out;have hA5:=HA.out.below HB5.out;have hB5:=HB.out.below HB5.out;refine (HPt.out w5 hS5.i).mono ?_;intro e w6 hG;obtain ⟨p6,M6,rfl,hT6,hS6,hf6,hb6⟩:=hS5.te hG;have hA6:=hA5.fr hf6 hb6;have hB6:=hB5.fr hf6 hb6;have HT6:=hid hT6;have HS6:=hid hS6;have HA6:=hid hA6;have HB6:=hid hB6;have hs6:=hS6.b.size;have hlb:=hB6.o.1;have hNew:=Rg.Own.new w6 #[.pointer none] 28;have HN6:=hid hNew;clear hG hT6 hS6 hf6 hb6 hA6 hB6 hS5 hA5 hB5 HPt HO5 HB5 HN HPr HXs hNew HS HA HB;go_wp2_with (first
    | (refine Rg.run rfl _ _ (run_alloc_tree _ _ _ w6.heap.size rfl rfl) ?_)
    | (refine wpl_store_tree HN6.out (by decide) p6 rfl _ _ rfl rfl rfl ?_; intro w7 hO7 hu7; have HO7:=hid hO7; have HB7:Hid (Below w6.heap.size w6 w7):=hid (hu7.below (al1 _ _) (Nat.le_refl _)); clear hO7 hu7)
    | (refine Rg.run rfl _ _ (op_load_tree (own_cell (j:=0) HO7.out rfl) ⟨_,rfl,rfl⟩) ?_)
    | (refine wpl_store_tree (HB6.out.o.below HB7.out) (by simp) p6 rfl _ _ rfl rfl rfl ?_; intro w8 hO8 hu8; have HO8:=hid hO8; have HU8:=hid hu8; clear hO8 hu8))
   have hS7:=HS6.out.below HB7.out;have hA7:=HA6.out.below HB7.out;have hB7:=HB6.out.below HB7.out;go_roundw
   case rel=>exact ⟨j+1,p6,M6,by omega,by go_num,hid (hS7.upd HU8.out (by omega) hB7.n),hid (hA7.upd HU8.out (by omega)),hid ⟨HO8.out,hB7.n,one_no _⟩,HT6⟩
   case measure=>simp [intOf]; omega
  ·obtain rfl:j=n:=by omega
   have HT':Hid (IsT Mr p (putAll .nil l)):=hid (by
    have:=HT.out;rwa [List.take_of_length_le (by rw [HL.out]; exact Nat.le_refl _)] at this)
   clear HT;go_wp2_with (first
    | (refine Rg.run rfl _ _ (op_load_tree (own_cell (j:=0) HB.out.o rfl) ⟨_,rfl,rfl⟩) ?_)
    | (refine wpl_store_tree HA.out.o (by decide) p rfl _ _ rfl rfl rfl ?_; intro w8 hO8 hu8; have HO8:=hid hO8; have HU8:=hid hu8; clear hO8 hu8))
   have hS8:=HS.out.upd HU8.out (Nat.le_refl _) HA.out.n;exact bodyPost_ret (res_tree rfl _ rfl HO8.out) rfl ⟨p,Mr,rfl,HT'.out,hS8.f,hS8.i,hS8.b⟩
end Tm
end
section
open Go.RowKit
namespace Tm
open Tr Ni Pk Ky No Rf Rl
open Sm (Tab)
structure Lw (w0:World) (M:Mp) (w:World):Prop where
 f:Fr M0 M w0 w
 i:Inv M w
 t:Tab w
 z:1<w0.heap.size
theorem Lw.start {w:World} (hT:Tab w):Lw w M0 w:=⟨Fr.refl _ _,Inv.zero w,hT,hT.pos⟩
theorem Lw.b {w0 w:World} {M:Mp} (h:Lw w0 M w):Below w0.heap.size w0 w:=h.f.all
theorem Lw.below {w0 w w':World} {M:Mp} (h:Lw w0 M w) (hb:Below w.heap.size w w'):Lw w0 M w':=⟨h.f.trans (Inv.zero _) (Fr.below M hb),h.i.below hb,h.t.below hb h.t.pos,h.z⟩
theorem Lw.fr {w0 w w':World} {M M':Mp} (h:Lw w0 M w) (f:Fr M M' w w') (i:Inv M' w') (t:Tab w'):Lw w0 M' w':=⟨h.f.trans (Inv.zero _) f,i,t,h.z⟩
theorem Lw.got {w0 w w':World} {M:Mp} {t:T} {e:Ending} (h:Lw w0 M w) (g:GotT M w t e w'):∃ p M',e = .returned (tv p)∧IsT M' p t∧Lw w0 M' w'∧Fr M M' w w'∧Below w.heap.size w w':=by
 obtain ⟨p,M',he,ht,f,i,b⟩:=g;exact ⟨p,M',he,ht,h.fr f i (h.t.below b h.t.pos),f,b⟩
theorem Lw.upd {w0 w w':World} {M:Mp} {g:Nat} (h:Lw w0 M w) (hu:Rg.Upd w g w') (hg:w0.heap.size≤g) (hf:¬ M.ft g):Lw w0 M w' :=
 ⟨h.f.upd hu hg,h.i.upd hu hf,fun i hi=>by rw [World.cell?_of_block (hu.block 1 (by have:=h.z; omega))]; exact h.t i hi,h.z⟩
theorem own_fr {M M':Mp} {w w':World} {g:Nat} {cs:Array Value} {t:TypeId} (h:Rg.Own w g cs t) (f:Fr M M' w w') (hm:M.at_ g=none):Rg.Own w' g cs t:=⟨Nat.lt_of_lt_of_le h.1 f.size,(f.block g h.1 hm).trans h.2⟩
theorem at_of_ft {M:Mp} {w:World} (hi:Inv M w) {g:Nat} (h:¬ M.ft g):M.at_ g=none:=by
 cases hm:M.at_ g with
 | none=>rfl
 | some t=>exact absurd (hi.part_ g t hm).2.1 h
theorem Bx.frm {M M':Mp} {w w':World} {g:Nat} {cs:Array Value} {t:TypeId} (h:Bx M w g cs t) (hi:Inv M w) (f:Fr M M' w w'):Bx M' w' g cs t:=⟨own_fr h.o f (at_of_ft hi h.n),f.box h.n h.o.1 (no_byte h.o h.h),h.h⟩
theorem own_byte_fr {M M':Mp} {w w':World} {g j:Nat} {x:Int} {cs:Array Value} {t:TypeId} (h:Rg.Own w g cs t) (hx:cs[j]? = some (.int .u8 x)) (hi:Inv M w) (f:Fr M M' w w'):Rg.Own w' g cs t:=own_fr h f (hi.no_byte (own_cell h hx))
theorem kc_byte {k:List UInt8} (hk:k.length=32):(kc k)[0]? = some (.int .u8 (k.getD 0 0).toNat):=by
 simp [kc,List.getD,hk]
theorem PairAt.frm {M M':Mp} {w w':World} {b o:Nat} {x:Tr.Pair} (h:PairAt w b o x) (hk:x.1.length=32) (hi:Inv M w) (f:Fr M M' w w'):PairAt w' b o x:=fun j v hv=>by
 have h0:w.cell? ⟨b,o+0,none⟩=some (.int .u8 (x.1.getD 0 0).toNat):=h 0 _ (by
  unfold pairC;rw [List.getElem?_append_left (by simp [hk])];simp [List.getD,hk])
 rw [f.cell (World.block_lt_of_cell? w _ h0) (hi.no_byte h0)];exact h j v hv
theorem IsPs.frm {M M':Mp} {w w':World} {a:Option Addr} {n c:Nat} {l:List Tr.Pair} (h:IsPs w a n c l) (hi:Inv M w) (f:Fr M M' w w'):IsPs w' a n c l :=
 ⟨h.1,h.2.1,h.2.2.1,h.2.2.2.1,h.2.2.2.2.1,fun j hj=>by
  obtain ⟨b,off,e,hlt,hp,hk⟩:=h.at' j hj;exact ⟨b,off,e,Nat.lt_of_lt_of_le hlt f.size,hp.frm hk hi f⟩⟩
theorem isPs_lit {w:World} {b:Nat} {t:TypeId} {l:List Tr.Pair} (h:Rg.Own w b (rowP l).toArray t) (hk:∀ x∈l,x.1.length=32) (hn:l.length≤1000000):IsPs w (some ⟨b,0,none⟩) l.length l.length l:=by
 refine ⟨Nat.le_refl _,by unfold maxLen; omega,rfl,fun e=>(by cases e),hk,fun j hj=>⟨b,0,rfl,h.1,fun i v hv=>?_⟩⟩;have hkj:(l.getD j ([],eB)).1.length=32:=hk _ (getD_mem hj);have hi:i<33:=by
  have:=(List.getElem?_eq_some_iff.1 hv).1;rwa [pairC_len hkj] at this
 refine own_cell h ?_;rw [Nat.zero_add];simpa [rowP_at l hk j i hj hi] using hv
theorem wpl_store_u8 {ops:Array Oper} {rest:List Oper} {o:Oper} {act:Act} {w:World} {Q:Exit→Act→World→Prop} {b off:Nat} {cs:Array Value} {t:TypeId} (h:Rg.Own w b cs t) (hof:off<cs.size) (x:Int)
  (hgd:o.guard=none) (p q:Operand) (ho:o.op = .store 5 p q) (hx:act.eval p = .pointer (some ⟨b,off,none⟩)) (hy:act.eval q = .int .u8 x)
  (hQ:∀ w',Rg.Own w' b (cs.setIfInBounds off (.int .u8 x)) t→Rg.Upd w b w'→wpList Tryz.prog ops Q rest (act.put o.dst undef) w'):wpList Tryz.prog ops Q (o::rest) act w :=
 wpList_plain hgd fun K hK=>by
  have hc:w.cell? ⟨b,off,none⟩=some cs[off]:=own_cell h (Array.getElem?_eq_getElem hof);have hz:w.frozen? ⟨b,off,none⟩=false:=own_free h;have hst:(Instr.storeAt 5 (.pointer (some ⟨b,off,none⟩)) (.int .u8 x)).run Tryz.prog w = .ok () (w.setCell ⟨b,off,none⟩ (.int .u8 x)):=by
   simp [go_sem,hc,hz]
  unfold Oper.wp execOp;simp only [ho,hx,hy,Sem.run_bind,Sem.run_pure,Result.andThen_ok,hst];exact hK _ _ (hQ _ (own_setCell h _) (upd_setCell _ _ _ _))
theorem kc_set (k:List UInt8) (i:Nat) (x:UInt8):(kc k).setIfInBounds i (.int .u8 x.toNat)=kc (k.set i x):=by
 unfold kc;rw [List.map_set];simp
theorem op_lit_pairs {ev:Operand→Value} {o:Oper} {w:World} {x z:Tr.Pair} (hk:x.1.length=32) (hz:z.1.length=32) (b:Nat) (hb:b=w.heap.size) (ho:∃ p q,o.op = .buildSlice 22 2 #[(0,p),(1,q)]∧ev p = .agg (pairA x)∧ev q = .agg (pairA z)) :
  (execOp ev o).run Tryz.prog w = .ok (.value (.slice (some ⟨b,0,none⟩) 2 2)) (w.alloc (.cells (rowP [x,z]).toArray 33)):=by
 obtain ⟨p,q,ho,hx,hy⟩:=ho;obtain ⟨k,v⟩:=x;obtain ⟨k',v'⟩:=z;subst hb;unfold execOp;simp only [ho,List.map_toArray,List.map_cons,List.map_nil,hx,hy];obtain ⟨a0,a1,a2,a3,a4,a5,a6,a7,b0,b1,b2,b3,b4,b5,b6,b7,c0,c1,c2,c3,c4,c5,c6,c7,d0,d1,d2,d3,d4,d5,d6,d7,rfl⟩:=thirtytwo k hk;obtain ⟨e0,e1,e2,e3,e4,e5,e6,e7,f0,f1,f2,f3,f4,f5,f6,f7,g0,g1,g2,g3,g4,g5,g6,g7,h0,h1,h2,h3,h4,h5,h6,h7,rfl⟩:=thirtytwo k' hz;kernel_rfl
def ka:List UInt8:=zk
def kb:List UInt8:=zk.set 0 16
def sx:ByteArray:=⟨#[120]⟩
def sy:ByteArray:=⟨#[121]⟩
def lAB:List Tr.Pair:=[(ka,sx),(kb,sy)]
def lB:List Tr.Pair:=[(kb,sy)]
theorem ka_len:ka.length=32:=rfl
theorem kb_len:kb.length=32:=rfl
theorem ka_ne:ka≠kb:=by decide
theorem okAB:OkPs lAB:=⟨fun x hx=>by rcases List.mem_cons.1 hx with rfl | hx; exact ka_len; rw [List.mem_singleton.1 hx]; exact kb_len,fun x hx=>by rcases List.mem_cons.1 hx with rfl | hx; exact ⟨by decide,by decide⟩; rw [List.mem_singleton.1 hx]; exact ⟨by decide,by decide⟩⟩
theorem lastB (k:List UInt8):lastL lB k=if kb=k then some sy else none:=rfl
theorem lastAB (k:List UInt8):lastL lAB k=if kb=k then some sy else if ka=k then some sx else none:=by
 show (match lastL lB k with | some v=>some v | none=>if ka=k then some sx else none)=_;rw [lastB];by_cases h:kb=k
 ·rw [if_pos h,if_pos h]
 ·rw [if_neg h,if_neg h]
theorem hasAB:Has (putAll .nil lAB) (lastL lAB):=okAB.has
end Tm
end
section
open Go.RowKit
namespace No
open Rl (sameB sameB_true sameB_false text_ne)
theorem items_st (ks ls:List ByteArray) (w:World) (d:Nat):∀ is:List Nat,(∀ i∈is,i<ks.length∧i<ls.length) →
  (Op.eqItems (d+1) 9 1 (kidC ks) (kidC ls) is).run Tryz.prog w = .ok (is.all fun i=>(ks.getD i eB).toList==(ls.getD i eB).toList) w
 | [],_=>by simp [Op.eqItems]
 | i::is,h=>by
  have ih:=items_st ks ls w d is (fun j hj=>h j (List.mem_cons_of_mem _ hj));have h1:=part_st ks i (h i (List.mem_cons_self ..)).1 w;have h2:=part_st ls i (h i (List.mem_cons_self ..)).2 w;unfold Op.eqItems;rw [Nat.mul_one];simp only [Sem.run_bind,h1,h2,Result.andThen_ok,run_equalIn_string w d 9 _ _ Tryz.underlying9,List.all_cons];cases (ks.getD i eB).toList==(ls.getD i eB).toList
  ·simp
  ·simpa using ih
theorem toList_inj {a b:ByteArray}:(a.toList==b.toList)=true↔a=b:=by
 constructor
 ·intro h;by_cases e:a=b
  ·exact e
  ·rw [text_ne e] at h; cases h
 ·rintro rfl;simp
theorem all_st (ks ls:List ByteArray) (h1:ks.length=16) (h2:ls.length=16):((List.range 16).all fun i=>(ks.getD i eB).toList==(ls.getD i eB).toList)=sameB ks ls:=by
 by_cases e:ks=ls
 ·rw [sameB_true e,e];simp
 ·rw [sameB_false e];rw [List.all_eq_false];apply Classical.byContradiction;intro hn;apply e;apply List.ext_getElem (h1.trans h2.symm);intro i hi hi';have:(ks.getD i eB).toList==(ls.getD i eB).toList:=by
   apply Classical.byContradiction;intro hc;exact hn ⟨i,by simp; omega,by simpa using hc⟩
  have:=toList_inj.1 this;simpa [List.getD,hi,hi'] using this
theorem eql_ks (ks ls:List ByteArray) (h1:ks.length=16) (h2:ls.length=16) (w:World):(binOp .eql 54 (.agg (kidC ks)) (.agg (kidC ls))).run Tryz.prog w = .ok (.bool (sameB ks ls)) w:=by
 obtain ⟨i0,hi,_⟩:=info_st_parts;rw [run_eql_struct,show (10000:Nat)=9999+1 from rfl,run_equalIn_array w 9999 (kidC ks) (kidC ls) Tryz.underlying54 hi,cells_st,items_st ks ls w 9998 (List.range 16) (fun i h=>by
  have:i<16:=by simpa using h
  omega),all_st ks ls h1 h2]
 rfl
theorem op_eql_ks {ev:Operand→Value} {o:Oper} {w:World} {ks ls:List ByteArray} (h1:ks.length=16) (h2:ls.length=16) (h:∃ x y,o.op = .binOp .eql 54 x y 54∧ev x = .agg (kidC ks)∧ev y = .agg (kidC ls)) :
  (execOp ev o).run Tryz.prog w = .ok (.value (.bool (sameB ks ls))) w:=by
 obtain ⟨x,y,ho,hx,hy⟩:=h;unfold execOp;simp [ho,hx,hy,run_eqGuard_agg,eql_ks ks ls h1 h2 w,Result.andThen]
theorem op_eql_st {ev:Operand→Value} {o:Oper} {w:World} (s:ByteArray) (h:∃ x y,o.op = .binOp .eql 9 x y 9∧ev x = .string s∧ev y = .string s) :
  (execOp ev o).run Tryz.prog w = .ok (.value (.bool true)) w:=by
 obtain ⟨x,y,ho,hx,hy⟩:=h;have:(binOp .eql 9 (.string s) (.string s)).run Tryz.prog w = .ok (.bool true) w:=by
  unfold binOp;simp [go_sem,Op.stringOp]
 unfold execOp;simp [ho,hx,hy,go_sem]
theorem two_nodes (w:World) (N M:Nd) (a b:Option Addr) (n m c d:Nat):∃ w2,w2=(w.alloc (.cells (ndC N a n c) 56)).alloc (.cells (ndC M b m d) 56)∧OwnN w2 w.heap.size N a n c∧OwnN w2 (w.heap.size+1) M b m d∧Below w.heap.size w w2:=by
 refine ⟨_,rfl,(Rg.Own.new _ _ _).below (al1 _ _),?_,al2 _ _ _⟩;have:=Rg.Own.new (w.alloc (.cells (ndC N a n c) 56)) (ndC M b m d) 56;simpa using this
theorem nd_ne {N M:Nd} (h:N.kd≠M.kd∨N.p≠M.p∨N.v≠M.v∨N.ks≠M.ks):N≠M:=by
 rintro rfl;simp at h
theorem nd_eq {N M:Nd} (h0:N.kd=M.kd) (h1:N.p=M.p) (h2:N.v=M.v) (h3:N.ks=M.ks):N=M:=by
 cases N; cases M;simp at h0 h1 h2 h3;rw [h0,h1,h2,h3]
theorem rsame_any (N M:Nd) (u v:Value) (w:World) (hx:IsNd w N u) (hy:IsNd w M v) :
  Calls Tryz.prog 42 #[u,v] w fun e w'=>e = .returned (.bool (sameB N M))∧Below w.heap.size w w':=by
 obtain ⟨a,n,c,rfl,hx,hl⟩:=hx;obtain ⟨b,m,d,rfl,hy,hl2⟩:=hy;obtain ⟨w2,hw2,h1,h2,hb⟩:=two_nodes w N M a b n m c d;obtain ⟨c0,c1,c2⟩:=nd_cells h1;obtain ⟨d0,d1,d2⟩:=nd_cells h2;have hv1:=conv_bs (hx.below hb);have hv2:=conv_bs (hy.below hb);have HL:=hid hl;have HL2:=hid hl2;have HB:=hid hb;have H1:=hid h1;have H2:=hid h2;clear hx hy hl hl2 hb h1 h2;subst hw2;by_cases e0:N.kd=M.kd
 ·by_cases e1:N.p=M.p
  ·rw [e1] at hv1;by_cases e2:N.v=M.v
   ·have HS:Hid (sameB N.ks M.ks=sameB N M):=hid (by
     by_cases e3:N.ks=M.ks
     ·rw [sameB_true e3,sameB_true (nd_eq e0 e1 e2 e3)]
     ·rw [sameB_false e3,sameB_false (nd_ne (.inr (.inr (.inr e3))))])
    rw [e0] at c0;rw [e2] at c2;clear e0 e1 e2;go_enter Tryz.func42,Tryz.ntmps42;go_wp2_with (first
     | (refine Rg.runW (by rfl) _ _ (op_eql_st M.v ?_) ?_; · exact ⟨_,_,rfl,rfl,rfl⟩)
     | (refine Rg.runW (by rfl) _ _ (op_eql_st ⟨M.p.toArray⟩ ?_) ?_; · exact ⟨_,_,rfl,rfl,rfl⟩)
     | (refine Rg.runW (by rfl) _ _ (op_load_ks H1.out HL.out ?_) ?_; · exact ⟨_,rfl,rfl⟩)
     | (refine Rg.runW (by rfl) _ _ (op_load_ks H2.out HL2.out ?_) ?_; · exact ⟨_,rfl,rfl⟩)
     | (refine Rg.runW (by rfl) _ _ (op_eql_ks HL.out HL2.out ?_) ?_; · exact ⟨_,_,rfl,rfl,rfl⟩))
    go_ret;exact ⟨by rw [← HS.out]; rfl,HB.out⟩
   ·have HS:Hid (sameB N M=false):=hid (sameB_false (nd_ne (.inr (.inr (.inl e2)))));have hne:=text_ne e2;rw [e0] at c0;clear e0 e1 e2;go_enter Tryz.func42,Tryz.ntmps42;go_wp2;go_ret;exact ⟨by rw [HS.out]; rfl,HB.out⟩
  ·have HS:Hid (sameB N M=false):=hid (sameB_false (nd_ne (.inr (.inl e1))));have hpp:(⟨N.p.toArray⟩:ByteArray)≠⟨M.p.toArray⟩:=fun e=>e1 (by
    have:=congrArg (fun b:ByteArray=>b.data.toList) e;simpa using this)
   obtain ⟨P1,hP1⟩:∃ s,(⟨N.p.toArray⟩:ByteArray)=s:=⟨_,rfl⟩
   obtain ⟨P2,hP2⟩:∃ s,(⟨M.p.toArray⟩:ByteArray)=s:=⟨_,rfl⟩
   rw [hP1] at hv1 hpp;rw [hP2] at hv2 hpp;have hne:=text_ne hpp;clear hpp hP1 hP2;rw [e0] at c0;clear e0 e1;go_enter Tryz.func42,Tryz.ntmps42;go_wp2;go_ret;exact ⟨by rw [HS.out]; rfl,HB.out⟩
 ·have HS:Hid (sameB N M=false):=hid (sameB_false (nd_ne (.inl e0)));have hne:(N.kd==M.kd)=false:=by simp [e0]
  go_enter Tryz.func42,Tryz.ntmps42;go_wp2;go_ret;exact ⟨by rw [HS.out]; rfl,HB.out⟩
end No
end
end Go.Proofs.YtnecijeakeklaaaGreatDoor
