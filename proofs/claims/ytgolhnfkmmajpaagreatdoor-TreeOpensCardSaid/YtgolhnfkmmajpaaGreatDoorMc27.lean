/-
 The contract of the plain answer's path of a packed text.
-/
import Derived.Test.YtgolhnfkmmajpaaGreatDoorMc7
import Derived.Test.YtgolhnfkmmajpaaGreatDoorMc23
import Derived.Test.YtgolhnfkmmajpaaGreatDoorMc1
import Derived.Maps.AppendAt
import Derived.Test.YtgolhnfkmmajpaaGreatDoorMc25
import Derived.Test.YtgolhnfkmmajpaaGreatDoorMc26
open Go.Lib (hid)
set_option linter.unusedSimpArgs false
set_option linter.unusedVariables false
set_option maxHeartbeats 40000000
set_option maxRecDepth 100000
namespace Go.Proofs.YtgolhnfkmmajpaaGreatDoor
section
open Go.RowKit
namespace No
open Ni
def pathJ (s : ByteArray) (j : Nat) : List UInt8 := ((nibsL s).take (2 * j)).drop (2 - nibAt s 0 % 2)
def pcJ (s : ByteArray) (j : Nat) : List Value := (pathJ s j).map fun x => Value.int .u8 x.toNat
theorem take_two (l : List UInt8) (j : Nat) (h : 2 * j + 1 < l.length) : l.take (2 * (j + 1)) = l.take (2 * j) ++ [l.getD (2 * j) 0, l.getD (2 * j + 1) 0] := by
 rw [show 2 * (j + 1) = 2 * j + 1 + 1 by omega, take_snoc_getD l (2 * j + 1) h, take_snoc_getD l (2 * j) (by omega), List.append_assoc]
 rfl
theorem pathJ_step (s : ByteArray) (j : Nat) (h1 : 1 ≤ j) (hj : j < s.size) : pathJ s (j + 1) = pathJ s j ++ [(nibsL s).getD (2 * j) 0, (nibsL s).getD (2 * j + 1) 0] := by
 unfold pathJ
 rw [take_two _ _ (by rw [nibsL_length]; omega), List.drop_append_of_le_length (by rw [List.length_take, nibsL_length]; omega)]
theorem nib_hi (s : ByteArray) (j : Nat) (hj : j < s.size) : nibAt s (2 * j) = (s[j]'hj).toNat / 16 := by
 unfold nibAt
 rw [if_pos (by omega), show 2 * j / 2 = j by omega, getD_data s j hj]
theorem nib_lo (s : ByteArray) (j : Nat) (hj : j < s.size) : nibAt s (2 * j + 1) = (s[j]'hj).toNat % 16 := by
 unfold nibAt
 rw [if_neg (by omega), show (2 * j + 1) / 2 = j by omega, getD_data s j hj]
theorem pcJ_step (s : ByteArray) (j : Nat) (h1 : 1 ≤ j) (hj : j < s.size) (X Y : Int) (hX : X = ((s[j]'hj).toNat / 16 : Nat)) (hY : Y = ((s[j]'hj).toNat % 16 : Nat)) : pcJ s (j + 1) = pcJ s j ++ [.int .u8 X, .int .u8 Y] := by
 unfold pcJ
 rw [pathJ_step s j h1 hj, List.map_append, List.map_cons, List.map_cons, List.map_nil, nibsL_getD _ _ (by omega), nibsL_getD _ _ (by omega), nib_hi s j hj, nib_lo s j hj, hX, hY]
theorem pathJ_length (s : ByteArray) (j : Nat) (hj : j ≤ s.size) : (pathJ s j).length = 2 * j - (2 - nibAt s 0 % 2) := by
 unfold pathJ
 rw [List.length_drop, List.length_take, nibsL_length, Nat.min_eq_left (by omega)]
theorem pathJ_all (s : ByteArray) : pathJ s s.size = pathL s := by
 unfold pathJ pathL
 rw [List.take_of_length_le (by rw [nibsL_length]; exact Nat.le_refl _)]
theorem pathJ_odd (s : ByteArray) (h0 : 0 < s.size) (h : nibAt s 0 % 2 = 1) (X : Int) (hX : X = (nibAt s 1 : Nat)) : pcJ s 1 = [.int .u8 X] := by
 obtain ⟨a, b, r, e, _, hb⟩ := nibs_two s h0
 unfold pcJ pathJ
 rw [e, h, hX, ← hb]
 rfl
theorem pathJ_even (s : ByteArray) (h0 : 0 < s.size) (h : nibAt s 0 % 2 = 0) : pcJ s 1 = [] := by
 obtain ⟨a, b, r, e, _, hb⟩ := nibs_two s h0
 unfold pcJ pathJ
 rw [e, h]
 rfl
def PathPost (w : World) (s : ByteArray) (e : Ending) (w' : World) : Prop := ∃ (a : Option Addr) (n c : Nat) (l : List UInt8) (leaf ok : Bool), e = .returned (.tuple #[.slice a n c, .bool leaf, .bool ok]) ∧ BsF w.heap.size w' a n c l ∧
 (ok = true ∧ s.size ≠ 0 ∧ ¬ Bad s ∧ l = pathL s ∧ leaf = leafB s ∨ ok = false ∧ (s.size = 0 ∨ Bad s)) ∧ Below w.heap.size w w'
theorem info_u8p : (Tryz.prog.info? 5).map (fun i => (i.zero, i.size, i.bytes)) = some (some (.int .u8 0), 1, 1) := by kernel_rfl
theorem meetTwo {o : Oper} {a : Act} {w : World} {K : Act → World → Prop} {Q : Exit → Act → World → Prop} {ops : Array Oper} {x y : Int} (hw : Region.wanted o (yielded ops a.tmps) = true)
  (ho : ∃ p q, o.op = .buildSlice 49 2 #[(0, p), (1, q)] ∧ a.eval p = .int .u8 x ∧ a.eval q = .int .u8 y)
  (h : ∀ w' b, b = w.heap.size → Rg.Own w' b #[.int .u8 x, .int .u8 y] 5 → Below w.heap.size w w' → K (a.put o.dst (.slice (some ⟨b, 0, none⟩) 2 2)) w') : if Region.wanted o (yielded ops a.tmps) = true then Oper.wp Tryz.prog o a w K Q else K (a.put o.dst undef) w := by
 obtain ⟨p, q, ho, hp, hq⟩ := ho
 obtain ⟨i0, hi, hz, hs, hby⟩ := info_parts info_u8p
 refine Rg.want hw (wp_buildSlice 49 5 2 _ ho #[.int .u8 x, .int .u8 y] i0 _ Tryz.underlying49 hi hz (by rw [hs]; decide) (by rw [hs]; decide) ?_ (h _ _ rfl (Rg.Own.new _ _ _) (al1 _ _)))
 simp only [List.map_toArray, List.map_cons, List.map_nil, hp, hq, hs]
 kernel_rfl
theorem meetPush2 {o : Oper} {a : Act} {w : World} {K : Act → World → Prop} {Q : Exit → Act → World → Prop} {ops : Array Oper} {B b2 n : Nat} {v : Value} {xs : List Value} {x y : Int} (hw : Region.wanted o (yielded ops a.tmps) = true)
  (ho : ∃ s z, o.op = .call { callee := .builtin .append, args := #[s, z], argTypes := #[49, 49] } ∧ a.eval s = v ∧ a.eval z = .slice (some ⟨b2, 0, none⟩) 2 2)
  (hR : w.ownsRow B 5 1 v n xs) (h2 : Rg.Own w b2 #[.int .u8 x, .int .u8 y] 5) (hn : n ≤ 4096) (hB : B ≤ w.heap.size)
  (h : ∀ v' w', w'.ownsRow B 5 1 v' (n + 2) (xs ++ [.int .u8 x, .int .u8 y]) → w.grownBy w' v.ownBlock → K (a.put o.dst v') w') : if Region.wanted o (yielded ops a.tmps) = true then Oper.wp Tryz.prog o a w K Q else K (a.put o.dst undef) w := by
 obtain ⟨s, z, ho, hs, hy⟩ := ho
 obtain ⟨i0, hi, hz, hsz, hby⟩ := info_parts info_u8p
 obtain ⟨v', w', hr, h3, h4, _, h5⟩ := run_append_own_at (P := Tryz.prog) w B 49 o.type 5 i0 _ 1 1 Tryz.underlying49 hi hz hsz hby rfl (by decide) v n _ hR ⟨b2, 0, none⟩ 2 2 [.int .u8 x, .int .u8 y] rfl
  (fun j u hu => by
   rw [Addr.add_mid, Nat.zero_add, cell_of_row w b2 _ _ _ _ h2.2]
   simpa using hu)
  (fun u hu => by simp at hu; rcases hu with rfl | rfl <;> rfl) (by unfold maxLen; omega) (by omega) hB
 refine Rg.want hw ?_
 unfold Oper.wp execOp
 simp only [ho, resolve, invoke, builtin, Sem.run_bind, Sem.run_pure, Result.andThen_ok, List.map_toArray, List.map_cons, List.map_nil, hs, hy, hr]
 exact h v' w' h3 h4
theorem rpath_nil (w : World) : Calls Tryz.prog 50 #[.string eB] w (PathPost w eB) := by
 go_enter Tryz.func50, Tryz.ntmps50
 go_wp2
 go_ret3
 exact ⟨none, 0, 0, [], false, false, rfl, BsF.nil _ _, .inr ⟨rfl, .inl rfl⟩, Below.refl _ _⟩
theorem rpath_big (s : ByteArray) (h0 : 0 < s.size) (h : 64 ≤ (s[0]'h0).toNat) (w : World) : Calls Tryz.prog 50 #[.string s] w (PathPost w s) := by
 have hne := Ni.not_empty h0
 obtain ⟨hn0, hn1⟩ := nib01 s h0
 have HB : Hid (Bad s) := hid (by
  unfold Bad
  rcases Nat.mod_two_eq_zero_or_one (nibAt s 0) with e | e
  ·exact .inl ⟨e, .inr (.inl (by omega))⟩
  ·exact .inr ⟨e, .inr (by omega)⟩)
 obtain ⟨C, hC⟩ : ∃ C, (s[0]'h0).toNat = C := ⟨_, rfl⟩
 rw [hC] at h
 have hd : decide (64 ≤ (C : Int)) = true := by simp; omega
 clear hn0 hn1
 go_enter Tryz.func50, Tryz.ntmps50
 go_wp2
 go_ret3
 exact ⟨none, 0, 0, [], false, false, rfl, BsF.nil _ _, .inr ⟨rfl, .inr HB.out⟩, Below.refl _ _⟩
theorem wrap_div (x : Nat) (h : x < 256) : IntKind.u8.wrap ((x : Int) / 16) = ((x / 16 : Nat) : Int) := by
 simp [IntKind.wrap, IntKind.bits, IntKind.signed]
 omega
theorem row_stays {B n : Nat} {w w' : World} {v : Value} {xs : List Value} (h : w.ownsRow B 5 1 v n xs) (hb : Below w.heap.size w w') : w'.ownsRow B 5 1 v n xs := by
 refine h.kept (row := none) ⟨hb.os, hb.tape, hb.output, hb.size, fun k hk _ => hb.block k hk⟩ ?_
 cases v.ownBlock with
 | none => exact .inl rfl
 | some g => exact .inr (fun e => by cases e)
theorem pcJ_length (s : ByteArray) (j : Nat) (hj : j ≤ s.size) : (pcJ s j).length = 2 * j - (2 - nibAt s 0 % 2) := by
 unfold pcJ
 rw [List.length_map, pathJ_length s j hj]
theorem pack_tells (s : ByteArray) (h0 : 0 < s.size) (hx : (s[0]'h0).toNat < 64) (h64 : (pathL s).length ≤ 64) :
  ((⟨(packL (pathL s) (decide (32 ≤ (s[0]'h0).toNat))).toArray⟩ : ByteArray) = s → ¬ Bad s) ∧ (¬ Bad s → (⟨(packL (pathL s) (decide (32 ≤ (s[0]'h0).toNat))).toArray⟩ : ByteArray) = s ∧ decide (32 ≤ (s[0]'h0).toNat) = leafB s) := by
 obtain ⟨hn0, hn1⟩ := nib01 s h0
 refine ⟨fun e => ?_, fun hb => ?_⟩
 ·have := pack_good (pathL s) (decide (32 ≤ (s[0]'h0).toNat)) (path_right s) h64
  rw [e] at this
  exact this
 ·have hl : decide (32 ≤ (s[0]'h0).toNat) = leafB s := by
   unfold leafB
   rw [decide_eq_decide]
   omega
  exact ⟨by rw [hl]; exact unpack_pack s h0 hb, hl⟩
theorem rpath_even (s : ByteArray) (hs : s.size ≤ 1000000) (h0 : 0 < s.size) (h : (s[0]'h0).toNat < 64) (ho : nibAt s 0 % 2 = 0) (w : World) : Calls Tryz.prog 50 #[.string s] w (PathPost w s) := by
 have hne := Ni.not_empty h0
 obtain ⟨hn0, hn1⟩ := nib01 s h0
 have HP := hid (fun j h1 hj X Y hX hY => pcJ_step s j h1 hj X Y hX hY)
 have HLn := hid (fun j hj => pcJ_length s j hj)
 rw [ho] at HLn
 obtain ⟨i0, hi, hz0, hz1, hz2⟩ := info_parts Cc.info_u8
 have HI : Hid (_ ∧ _ ∧ _ ∧ _) := hid ⟨hi, hz0, hz1, hz2⟩
 have HF1 := hid (pathJ_even s h0 ho)
 obtain ⟨C, hC⟩ : ∃ C, (s[0]'h0).toNat = C := ⟨_, rfl⟩
 rw [hC] at hn0 hn1 h
 have d64c : decide (64 ≤ (C : Int)) = false := by simp; omega
 have dodd : ((C : Int) / 16 % 2 == 1) = false := by simp; omega
 obtain ⟨o, hoe⟩ : ∃ o, (0 : Nat) = o := ⟨_, rfl⟩
 rw [hoe] at HLn
 have ho2 : o ≤ 1 := by omega
 clear hi hz0 hz1 hz2 hoe
 go_enter Tryz.func50, Tryz.ntmps50
 go_wp2
 go_loopw [5, 6] (fun v i wr => ∃ j : Nat, 1 ≤ j ∧ j ≤ min s.size 40 ∧ i = .int .i64 j ∧ Hid (wr.ownsRow w.heap.size 5 1 v (pcJ s j).length (pcJ s j)) ∧ Hid (Below w.heap.size w wr)) (fun _ i _ => 40 - (intOf i).toNat)
 case atStart => exact ⟨1, Nat.le_refl _, by omega, rfl, hid (by rw [HF1.out]; exact World.ownsRow_nil _ _ _ _), hid (Below.refl _ _)⟩
 case round =>
  obtain ⟨j, h1, hj, rfl, HRr, HB⟩ := hrel
  by_cases hlt : j < min s.size 40
  ·have hjs : j < s.size := by omega
   have hj40 : j < 40 := by omega
   have d1 : decide ((j : Int) < (s.size : Int)) = true := by simp; omega
   have d2 : decide ((j : Int) < 40) = true := by simp; omega
   have HST := hid (HP.out j h1 hjs (IntKind.u8.wrap (((s[j]'hjs).toNat : Int) / 16)) (((s[j]'hjs).toNat : Int).tmod 16) (wrap_div _ (UInt8.toNat_lt _)) (by rw [Int.tmod_eq_emod_of_nonneg (by omega)]; omega))
   have hl0 := HLn.out j (by omega)
   obtain ⟨X, hX⟩ : ∃ X, (s[j]'hjs).toNat = X := ⟨_, rfl⟩
   rw [hX] at HST
   go_wp2_with fail
   refine wp_region_noPanic ?_
   refine wp_region_held_drew (S := fun w' => Below w.heap.size w w') (by kernel_rfl) (HB.out.drew) (fun hld => ?_)
   refine Rg.tk (i := 0) rfl ?_
   try simp only [Act.put, Rg.s]
   refine Rg.tk (i := 1) rfl ?_
   try simp only [Act.put, Rg.s]
   refine Rg.tk (i := 2) rfl ?_
   try simp only [Act.put, Rg.s]
   refine Rg.tk (i := 3) rfl ?_
   try simp only [Act.put, Rg.s]
   refine Rg.tk (i := 4) rfl ?_
   try simp only [Act.put, Rg.s]
   refine Rg.tk (i := 5) rfl ?_
   try simp only [Act.put, Rg.s]
   refine Rg.tk (i := 6) rfl ?_
   try simp only [Act.put, Rg.s]
   refine Rg.tk (i := 7) rfl ?_
   try simp only [Act.put, Rg.s]
   refine Rg.tk (i := 8) rfl ?_
   try simp only [Act.put, Rg.s]
   refine Rg.rd (i := 9) rfl fun K hK => ?_
   refine meetTwo (x := IntKind.u8.wrap ((X : Int) / 16)) (y := (X : Int).tmod 16) (by rfl) ⟨_, _, rfl, rfl, rfl⟩ ?_
   rintro wv0 b9 hb9 h9 hbx
   have hR9 := row_stays HRr.out.drew hbx
   refine hK.out _ _ ?_ (fun hld => ?_)
   ·exact bst hld hbx
   clear hK K hbx hb9
   try simp only [Act.put, Rg.s]
   refine Rg.rd (i := 10) rfl fun K hK => ?_
   refine meetPush2 (by rfl) ⟨_, _, rfl, rfl, rfl⟩ hR9 h9 (by omega) hld.size ?_
   rintro v' wv1 hown hgrow
   have hlt' := hR9.lt
   have hB1 := Below.grown hld hgrow hld.size (fun g hg => (hlt' g hg).1)
   refine hK.out _ _ ?_ (fun hld => ?_)
   ·exact hB1
   clear hK K
   try simp only [Act.put, Rg.s]
   refine Rg.tk (i := 11) rfl ?_
   try simp only [Act.put, Rg.s]
   refine wpAnyH_done (by kernel_rfl) ?_ _
   refine NoPanic.normal ?_
   go_wp2
   go_roundw
   case rel =>
    refine ⟨j + 1, by omega, by omega, by go_num, hid ?_, hid hld⟩
    have hl := HLn.out (j + 1) (by omega)
    have hl0 := HLn.out j (by omega)
    rw [hl0] at hown
    rw [hl, HST.out, show 2 * (j + 1) - (2 - o) = 2 * j - (2 - o) + 2 by omega]
    exact hown
   case measure => simp [intOf]; omega
  ·obtain rfl : j = min s.size 40 := by omega
   by_cases h40 : s.size ≤ 40
   ·have hmin : min s.size 40 = s.size := by omega
    rw [hmin] at hlt h1 hj ⊢
    have hR := HRr.out
    rw [hmin] at hR
    have hpl := HLn.out s.size (Nat.le_refl _)
    have hpe : pcJ s s.size = (pathL s).map fun x => Value.int .u8 x.toNat := by unfold pcJ; rw [pathJ_all]
    rw [hpl, hpe] at hR
    have hlen : (pathL s).length = 2 * s.size - (2 - o) := by rw [← hpl, hpe, List.length_map]
    obtain ⟨a, cap, rfl, hb⟩ := ofOwnF hR
    have HX := hid hb
    have d1 : decide ((s.size : Int) < (s.size : Int)) = false := by simp
    have HBd : Hid (64 < (pathL s).length → Bad s) := hid (fun h => Classical.byContradiction fun hb => by have := path_le s hb; omega)
    obtain ⟨N, hN⟩ : ∃ N, 2 * s.size - (2 - o) = N := ⟨_, rfl⟩
    rw [hN] at HX hlen
    rw [hN]
    by_cases h64 : N ≤ 64
    ·obtain ⟨t1, t2⟩ := pack_tells s h0 (by omega) (by omega)
     rw [hC] at t1 t2
     have HPk := hid (rpack_any a N cap (pathL s) (decide (32 ≤ C)) (path_right s) h64 wr HX.out.1)
     obtain ⟨P, hP⟩ : ∃ P, (⟨(packL (pathL s) (decide (32 ≤ C))).toArray⟩ : ByteArray) = P := ⟨_, rfl⟩
     rw [hP] at t1 t2 HPk
     have HT1 := hid t1
     have HT2 := hid t2
     have d64 : decide ((N : Int) ≤ 64) = true := by simp; omega
     by_cases hps : P = s
     ·have HNB := hid (t1 hps)
      have HLf := hid (t2 (t1 hps)).2
      by_cases h32 : 32 ≤ C
      ·have d32 : decide (32 ≤ (C : Int)) = true := by simp; omega
       rw [show decide (32 ≤ C) = true by simp; omega] at HPk HLf
       clear HP HLn HRr hb
       go_wp2_with fail
       refine HPk.out.mono ?_
       rintro e w9 ⟨rfl, hb9⟩
       have HX9 := hid (HX.out.below hb9)
       have HB9 := hid (bst HB.out hb9)
       clear hb9
       subst hps
       go_wp2
       go_ret3
       exact ⟨a, N, cap, _, _, true, rfl, HX9.out, .inl ⟨rfl, by omega, HNB.out, rfl, HLf.out⟩, HB9.out⟩
      ·have d32 : decide (32 ≤ (C : Int)) = false := by simp; omega
       rw [show decide (32 ≤ C) = false by simp; omega] at HPk HLf
       clear HP HLn HRr hb
       go_wp2_with fail
       refine HPk.out.mono ?_
       rintro e w9 ⟨rfl, hb9⟩
       have HX9 := hid (HX.out.below hb9)
       have HB9 := hid (bst HB.out hb9)
       clear hb9
       subst hps
       go_wp2
       go_ret3
       exact ⟨a, N, cap, _, _, true, rfl, HX9.out, .inl ⟨rfl, by omega, HNB.out, rfl, HLf.out⟩, HB9.out⟩
     ·have HBd2 : Hid (Bad s) := hid (Classical.byContradiction fun hb => hps (t2 hb).1)
      have hne2 := Rl.text_ne hps
      by_cases h32 : 32 ≤ C
      ·have d32 : decide (32 ≤ (C : Int)) = true := by simp; omega
       rw [show decide (32 ≤ C) = true by simp; omega] at HPk
       clear HP HLn HRr hb
       go_wp2_with fail
       refine HPk.out.mono ?_
       rintro e w9 ⟨rfl, hb9⟩
       have HX9 := hid (HX.out.below hb9)
       have HB9 := hid (bst HB.out hb9)
       clear hb9
       go_wp2
       go_ret3
       exact ⟨a, N, cap, _, _, false, rfl, HX9.out, .inr ⟨rfl, .inr HBd2.out⟩, HB9.out⟩
      ·have d32 : decide (32 ≤ (C : Int)) = false := by simp; omega
       rw [show decide (32 ≤ C) = false by simp; omega] at HPk
       clear HP HLn HRr hb
       go_wp2_with fail
       refine HPk.out.mono ?_
       rintro e w9 ⟨rfl, hb9⟩
       have HX9 := hid (HX.out.below hb9)
       have HB9 := hid (bst HB.out hb9)
       clear hb9
       go_wp2
       go_ret3
       exact ⟨a, N, cap, _, _, false, rfl, HX9.out, .inr ⟨rfl, .inr HBd2.out⟩, HB9.out⟩
    ·have HBd2 : Hid (Bad s) := hid (HBd.out (by omega))
     have d64 : decide ((N : Int) ≤ 64) = false := by simp; omega
     clear HP HLn HRr hb
     go_wp2
     go_ret3
     exact ⟨a, N, cap, _, _, false, rfl, HX.out, .inr ⟨rfl, .inr HBd2.out⟩, HB.out⟩
   ·have hmin : min s.size 40 = 40 := by omega
    rw [hmin] at hlt h1 hj ⊢
    have hR := HRr.out
    rw [hmin] at hR
    have hpl := HLn.out 40 (by omega)
    rw [hpl] at hR
    obtain ⟨a, cap, rfl, hb⟩ := ofOwnF (l := pathJ s 40) hR
    have HX := hid hb
    have d1 : decide ((40 : Int) < (s.size : Int)) = true := by simp; omega
    have HBd2 : Hid (Bad s) := hid (by
     unfold Bad
     rcases Nat.mod_two_eq_zero_or_one (nibAt s 0) with e | e
     ·exact .inl ⟨e, .inl (by omega)⟩
     ·exact .inr ⟨e, .inl (by omega)⟩)
    obtain ⟨N, hN⟩ : ∃ N, 2 * 40 - (2 - o) = N := ⟨_, rfl⟩
    rw [hN] at HX
    rw [hN]
    have d64 : decide ((N : Int) ≤ 64) = false := by simp; omega
    clear HP HLn HRr hb
    go_wp2
    go_ret3
    exact ⟨a, N, cap, _, _, false, rfl, HX.out, .inr ⟨rfl, .inr HBd2.out⟩, HB.out⟩
theorem rpath_odd (s : ByteArray) (hs : s.size ≤ 1000000) (h0 : 0 < s.size) (h : (s[0]'h0).toNat < 64) (ho : nibAt s 0 % 2 = 1) (w : World) : Calls Tryz.prog 50 #[.string s] w (PathPost w s) := by
 have hne := Ni.not_empty h0
 obtain ⟨hn0, hn1⟩ := nib01 s h0
 have HP := hid (fun j h1 hj X Y hX hY => pcJ_step s j h1 hj X Y hX hY)
 have HLn := hid (fun j hj => pcJ_length s j hj)
 rw [ho] at HLn
 obtain ⟨i0, hi, hz0, hz1, hz2⟩ := info_parts Cc.info_u8
 have HI : Hid (_ ∧ _ ∧ _ ∧ _) := hid ⟨hi, hz0, hz1, hz2⟩
 have HF1 := hid (fun X hX => pathJ_odd s h0 ho X hX)
 obtain ⟨C, hC⟩ : ∃ C, (s[0]'h0).toNat = C := ⟨_, rfl⟩
 rw [hC] at hn0 hn1 h
 have d64c : decide (64 ≤ (C : Int)) = false := by simp; omega
 have dodd : ((C : Int) / 16 % 2 == 1) = true := by simp; omega
 obtain ⟨o, hoe⟩ : ∃ o, (1 : Nat) = o := ⟨_, rfl⟩
 rw [hoe] at HLn
 have ho2 : o ≤ 1 := by omega
 clear hi hz0 hz1 hz2 hoe
 go_enter Tryz.func50, Tryz.ntmps50
 have HO1 := hid (World.ownsRow_nil w w.heap.size 5 1)
 go_wp2_with (at_builtin; refine wpList_append_own _ rfl _ _ 49 rfl w.heap.size 5 i0 (.int .u8 0) 1 1 Tryz.underlying49 HI.out.1 HI.out.2.1 HI.out.2.2.1 HI.out.2.2.2 rfl (by decide) _ _ _ rfl (HO1.out.alloc _) ⟨w.heap.size, 0, none⟩ 1 1 [.int .u8 ((C : Int) % 16)] rfl rfl ?c1 ?c2 ?c3 ?c4 ?c5 ?_)
 case c1 => exact Bu.cell_one_new' _ _ _ _
 case c2 => intro u hu; simp at hu; subst hu; rfl
 case c3 => unfold maxLen; omega
 case c4 => omega
 case c5 => simp
 intro v2 w2 hown2 hgrow2 _
 have HW2 : Hid (w2.ownsRow w.heap.size 5 1 v2 (pcJ s 1).length (pcJ s 1)) := hid (by rw [HF1.out ((C : Int) % 16) (by omega)]; exact hown2)
 have HB2 : Hid (Below w.heap.size w w2) := hid ((al1 w _).grown hgrow2 (by simp) (fun g hg => (HO1.out.lt g hg).1))
 clear hown2 hgrow2 HF1 HO1
 go_wp2
 go_loopw [5, 6] (fun v i wr => ∃ j : Nat, 1 ≤ j ∧ j ≤ min s.size 40 ∧ i = .int .i64 j ∧ Hid (wr.ownsRow w.heap.size 5 1 v (pcJ s j).length (pcJ s j)) ∧ Hid (Below w.heap.size w wr)) (fun _ i _ => 40 - (intOf i).toNat)
 case atStart => exact ⟨1, Nat.le_refl _, by omega, rfl, hid (HW2.out), HB2⟩
 case round =>
  obtain ⟨j, h1, hj, rfl, HRr, HB⟩ := hrel
  by_cases hlt : j < min s.size 40
  ·have hjs : j < s.size := by omega
   have hj40 : j < 40 := by omega
   have d1 : decide ((j : Int) < (s.size : Int)) = true := by simp; omega
   have d2 : decide ((j : Int) < 40) = true := by simp; omega
   have HST := hid (HP.out j h1 hjs (IntKind.u8.wrap (((s[j]'hjs).toNat : Int) / 16)) (((s[j]'hjs).toNat : Int).tmod 16) (wrap_div _ (UInt8.toNat_lt _)) (by rw [Int.tmod_eq_emod_of_nonneg (by omega)]; omega))
   have hl0 := HLn.out j (by omega)
   obtain ⟨X, hX⟩ : ∃ X, (s[j]'hjs).toNat = X := ⟨_, rfl⟩
   rw [hX] at HST
   go_wp2_with fail
   refine wp_region_noPanic ?_
   refine wp_region_held_drew (S := fun w' => Below w.heap.size w w') (by kernel_rfl) (HB.out.drew) (fun hld => ?_)
   refine Rg.tk (i := 0) rfl ?_
   try simp only [Act.put, Rg.s]
   refine Rg.tk (i := 1) rfl ?_
   try simp only [Act.put, Rg.s]
   refine Rg.tk (i := 2) rfl ?_
   try simp only [Act.put, Rg.s]
   refine Rg.tk (i := 3) rfl ?_
   try simp only [Act.put, Rg.s]
   refine Rg.tk (i := 4) rfl ?_
   try simp only [Act.put, Rg.s]
   refine Rg.tk (i := 5) rfl ?_
   try simp only [Act.put, Rg.s]
   refine Rg.tk (i := 6) rfl ?_
   try simp only [Act.put, Rg.s]
   refine Rg.tk (i := 7) rfl ?_
   try simp only [Act.put, Rg.s]
   refine Rg.tk (i := 8) rfl ?_
   try simp only [Act.put, Rg.s]
   refine Rg.rd (i := 9) rfl fun K hK => ?_
   refine meetTwo (x := IntKind.u8.wrap ((X : Int) / 16)) (y := (X : Int).tmod 16) (by rfl) ⟨_, _, rfl, rfl, rfl⟩ ?_
   rintro wv0 b9 hb9 h9 hbx
   have hR9 := row_stays HRr.out.drew hbx
   refine hK.out _ _ ?_ (fun hld => ?_)
   ·exact bst hld hbx
   clear hK K hbx hb9
   try simp only [Act.put, Rg.s]
   refine Rg.rd (i := 10) rfl fun K hK => ?_
   refine meetPush2 (by rfl) ⟨_, _, rfl, rfl, rfl⟩ hR9 h9 (by omega) hld.size ?_
   rintro v' wv1 hown hgrow
   have hlt' := hR9.lt
   have hB1 := Below.grown hld hgrow hld.size (fun g hg => (hlt' g hg).1)
   refine hK.out _ _ ?_ (fun hld => ?_)
   ·exact hB1
   clear hK K
   try simp only [Act.put, Rg.s]
   refine Rg.tk (i := 11) rfl ?_
   try simp only [Act.put, Rg.s]
   refine wpAnyH_done (by kernel_rfl) ?_ _
   refine NoPanic.normal ?_
   go_wp2
   go_roundw
   case rel =>
    refine ⟨j + 1, by omega, by omega, by go_num, hid ?_, hid hld⟩
    have hl := HLn.out (j + 1) (by omega)
    have hl0 := HLn.out j (by omega)
    rw [hl0] at hown
    rw [hl, HST.out, show 2 * (j + 1) - (2 - o) = 2 * j - (2 - o) + 2 by omega]
    exact hown
   case measure => simp [intOf]; omega
  ·obtain rfl : j = min s.size 40 := by omega
   by_cases h40 : s.size ≤ 40
   ·have hmin : min s.size 40 = s.size := by omega
    rw [hmin] at hlt h1 hj ⊢
    have hR := HRr.out
    rw [hmin] at hR
    have hpl := HLn.out s.size (Nat.le_refl _)
    have hpe : pcJ s s.size = (pathL s).map fun x => Value.int .u8 x.toNat := by unfold pcJ; rw [pathJ_all]
    rw [hpl, hpe] at hR
    have hlen : (pathL s).length = 2 * s.size - (2 - o) := by rw [← hpl, hpe, List.length_map]
    obtain ⟨a, cap, rfl, hb⟩ := ofOwnF hR
    have HX := hid hb
    have d1 : decide ((s.size : Int) < (s.size : Int)) = false := by simp
    have HBd : Hid (64 < (pathL s).length → Bad s) := hid (fun h => Classical.byContradiction fun hb => by have := path_le s hb; omega)
    obtain ⟨N, hN⟩ : ∃ N, 2 * s.size - (2 - o) = N := ⟨_, rfl⟩
    rw [hN] at HX hlen
    rw [hN]
    by_cases h64 : N ≤ 64
    ·obtain ⟨t1, t2⟩ := pack_tells s h0 (by omega) (by omega)
     rw [hC] at t1 t2
     have HPk := hid (rpack_any a N cap (pathL s) (decide (32 ≤ C)) (path_right s) h64 wr HX.out.1)
     obtain ⟨P, hP⟩ : ∃ P, (⟨(packL (pathL s) (decide (32 ≤ C))).toArray⟩ : ByteArray) = P := ⟨_, rfl⟩
     rw [hP] at t1 t2 HPk
     have HT1 := hid t1
     have HT2 := hid t2
     have d64 : decide ((N : Int) ≤ 64) = true := by simp; omega
     by_cases hps : P = s
     ·have HNB := hid (t1 hps)
      have HLf := hid (t2 (t1 hps)).2
      by_cases h32 : 32 ≤ C
      ·have d32 : decide (32 ≤ (C : Int)) = true := by simp; omega
       rw [show decide (32 ≤ C) = true by simp; omega] at HPk HLf
       clear HP HLn HRr hb
       go_wp2_with fail
       refine HPk.out.mono ?_
       rintro e w9 ⟨rfl, hb9⟩
       have HX9 := hid (HX.out.below hb9)
       have HB9 := hid (bst HB.out hb9)
       clear hb9
       subst hps
       go_wp2
       go_ret3
       exact ⟨a, N, cap, _, _, true, rfl, HX9.out, .inl ⟨rfl, by omega, HNB.out, rfl, HLf.out⟩, HB9.out⟩
      ·have d32 : decide (32 ≤ (C : Int)) = false := by simp; omega
       rw [show decide (32 ≤ C) = false by simp; omega] at HPk HLf
       clear HP HLn HRr hb
       go_wp2_with fail
       refine HPk.out.mono ?_
       rintro e w9 ⟨rfl, hb9⟩
       have HX9 := hid (HX.out.below hb9)
       have HB9 := hid (bst HB.out hb9)
       clear hb9
       subst hps
       go_wp2
       go_ret3
       exact ⟨a, N, cap, _, _, true, rfl, HX9.out, .inl ⟨rfl, by omega, HNB.out, rfl, HLf.out⟩, HB9.out⟩
     ·have HBd2 : Hid (Bad s) := hid (Classical.byContradiction fun hb => hps (t2 hb).1)
      have hne2 := Rl.text_ne hps
      by_cases h32 : 32 ≤ C
      ·have d32 : decide (32 ≤ (C : Int)) = true := by simp; omega
       rw [show decide (32 ≤ C) = true by simp; omega] at HPk
       clear HP HLn HRr hb
       go_wp2_with fail
       refine HPk.out.mono ?_
       rintro e w9 ⟨rfl, hb9⟩
       have HX9 := hid (HX.out.below hb9)
       have HB9 := hid (bst HB.out hb9)
       clear hb9
       go_wp2
       go_ret3
       exact ⟨a, N, cap, _, _, false, rfl, HX9.out, .inr ⟨rfl, .inr HBd2.out⟩, HB9.out⟩
      ·have d32 : decide (32 ≤ (C : Int)) = false := by simp; omega
       rw [show decide (32 ≤ C) = false by simp; omega] at HPk
       clear HP HLn HRr hb
       go_wp2_with fail
       refine HPk.out.mono ?_
       rintro e w9 ⟨rfl, hb9⟩
       have HX9 := hid (HX.out.below hb9)
       have HB9 := hid (bst HB.out hb9)
       clear hb9
       go_wp2
       go_ret3
       exact ⟨a, N, cap, _, _, false, rfl, HX9.out, .inr ⟨rfl, .inr HBd2.out⟩, HB9.out⟩
    ·have HBd2 : Hid (Bad s) := hid (HBd.out (by omega))
     have d64 : decide ((N : Int) ≤ 64) = false := by simp; omega
     clear HP HLn HRr hb
     go_wp2
     go_ret3
     exact ⟨a, N, cap, _, _, false, rfl, HX.out, .inr ⟨rfl, .inr HBd2.out⟩, HB.out⟩
   ·have hmin : min s.size 40 = 40 := by omega
    rw [hmin] at hlt h1 hj ⊢
    have hR := HRr.out
    rw [hmin] at hR
    have hpl := HLn.out 40 (by omega)
    rw [hpl] at hR
    obtain ⟨a, cap, rfl, hb⟩ := ofOwnF (l := pathJ s 40) hR
    have HX := hid hb
    have d1 : decide ((40 : Int) < (s.size : Int)) = true := by simp; omega
    have HBd2 : Hid (Bad s) := hid (by
     unfold Bad
     rcases Nat.mod_two_eq_zero_or_one (nibAt s 0) with e | e
     ·exact .inl ⟨e, .inl (by omega)⟩
     ·exact .inr ⟨e, .inl (by omega)⟩)
    obtain ⟨N, hN⟩ : ∃ N, 2 * 40 - (2 - o) = N := ⟨_, rfl⟩
    rw [hN] at HX
    rw [hN]
    have d64 : decide ((N : Int) ≤ 64) = false := by simp; omega
    clear HP HLn HRr hb
    go_wp2
    go_ret3
    exact ⟨a, N, cap, _, _, false, rfl, HX.out, .inr ⟨rfl, .inr HBd2.out⟩, HB.out⟩
theorem rpath_any (s : ByteArray) (hs : s.size ≤ 1000000) (w : World) : Calls Tryz.prog 50 #[.string s] w (PathPost w s) := by
 by_cases h0 : 0 < s.size
 ·by_cases h : (s[0]'h0).toNat < 64
  ·rcases Nat.mod_two_eq_zero_or_one (nibAt s 0) with e | e
   ·exact rpath_even s hs h0 h e w
   ·exact rpath_odd s hs h0 h e w
  ·exact rpath_big s h0 (by omega) w
 ·obtain rfl := size_zero (s := s) (by omega)
  exact rpath_nil w
end No
end
section
open Go.RowKit
namespace No
open Rl Ni
theorem op_eq_st {ev : Operand → Value} {o : Oper} {w : World} (s u : ByteArray) (h : ∃ x y, o.op = .binOp .eql 9 x y 9 ∧ ev x = .string s ∧ ev y = .string u) :
  (execOp ev o).run Tryz.prog w = .ok (.value (.bool (decide (s = u)))) w := by
 by_cases e : s = u
 ·subst e
  rw [decide_eq_true rfl]
  exact op_eql_st s h
 ·rw [decide_eq_false e]
  obtain ⟨x, y, ho, hx, hy⟩ := h
  have : (binOp .eql 9 (.string s) (.string u)).run Tryz.prog w = .ok (.bool false) w := by
   unfold binOp
   simp [go_sem, Op.stringOp, text_ne e]
  unfold execOp
  simp [ho, hx, hy, go_sem]
  simpa using text_ne e
theorem rread_err {s : ByteArray} (hs : s.size ≤ 1000000) {c : Int} (hr : readL s.data.toList 0 0 = .error c) (w : World) :
  Calls Tryz.prog 49 #[.string s, .int .i64 0, .int .i64 4096] w fun e w' => ∃ c : Int, c ≠ 0 ∧ e = .returned (.tuple #[.agg #[.bool false, .string ⟨#[]⟩, .slice none 0 0], .int .i64 0, .int .i64 0, .int .i64 c]) ∧ Below w.heap.size w w' := by
 have h := rread_any s hs w
 rw [hr] at h
 exact h
theorem rread_ok {s : ByteArray} (hs : s.size ≤ 1000000) {x : It} {n k : Nat} (hr : readL s.data.toList 0 0 = .ok (x, n, k)) (w : World) :
  Calls Tryz.prog 49 #[.string s, .int .i64 0, .int .i64 4096] w fun e w' => ∃ (a : Option Addr) (nn cap : Nat) (lI : Int), e = .returned (.tuple #[.agg #[.bool x.l, .string x.s, .slice a nn cap], .int .i64 n, .int .i64 lI, .int .i64 0]) ∧ ItsIn w.heap.size w' x.xs a nn cap ∧ Below w.heap.size w w' := by
 have h := rread_any s hs w
 rw [hr] at h
 refine h.mono ?_
 rintro e w' ⟨a, nn, cap, nI, lI, rfl, rfl, _, hI, hb⟩
 exact ⟨a, nn, cap, lI, rfl, hI, hb⟩
theorem its_at {B : Nat} {w : World} {xs : List It} {a : Option Addr} {n cap : Nat} (h : ItsIn B w xs a n cap) (j : Nat) (hj : j < n) : ∃ x b off A N C, xs[j]? = some x ∧ a = some ⟨b, off, none⟩ ∧ B ≤ b ∧ b < w.heap.size ∧ Lies w b (off + j * 3) x A N C ∧ IsIts w x.xs A N C := by
 cases h with
 | mk A N C hl hc hm hw hn h hi =>
  have hx : xs[j]? = some (xs[j]'(by omega)) := List.getElem?_eq_getElem (by omega)
  obtain ⟨b, off, e, hB, hlt, hL⟩ := h j _ hx
  exact ⟨_, b, off, A j, N j, C j, hx, e, hB, hlt, hL, ItsIn.weak (hi j _ hx) (Nat.zero_le _)⟩
theorem get_boxes (w w3 : World) (hO : OwnN w3 w.heap.size nd0 none 0 0) (hB : Below w.heap.size w w3) (x : It) (a : Option Addr) (n c : Nat) :
  OwnN ((w3.alloc (.cells #[.bool x.l, .string x.s, .slice a n c] 101)).alloc (.cells (ndC nd0 none 0 0) 58)) (w3.heap.size + 1) nd0 none 0 0 ∧
  (w3.alloc (.cells #[.bool x.l, .string x.s, .slice a n c] 101)).cell? ⟨w3.heap.size, 2, none⟩ = some (.slice a n c) ∧ OwnN (w3.alloc (.cells #[.bool x.l, .string x.s, .slice a n c] 101)) w.heap.size nd0 none 0 0 ∧ Below w.heap.size w (w3.alloc (.cells #[.bool x.l, .string x.s, .slice a n c] 101)) ∧
  ∀ w5, w5 = ((w3.alloc (.cells #[.bool x.l, .string x.s, .slice a n c] 101)).alloc (.cells (ndC nd0 none 0 0) 58)).setRow (w3.heap.size + 1) (ndC ⟨3, [], eB, zks⟩ none 0 0) →
   OwnN w5 w.heap.size nd0 none 0 0 ∧ w5.cell? ⟨w3.heap.size, 2, none⟩ = some (.slice a n c) ∧ OwnN w5 (w3.heap.size + 1) ⟨3, [], eB, zks⟩ none 0 0 ∧ Below w3.heap.size w3 w5 ∧ w5.heap.size = w3.heap.size + 2 := by
 have h1 : OwnN ((w3.alloc (.cells #[.bool x.l, .string x.s, .slice a n c] 101)).alloc (.cells (ndC nd0 none 0 0) 58)) (w3.heap.size + 1) nd0 none 0 0 := by
  have := Rg.Own.new (w3.alloc (.cells #[.bool x.l, .string x.s, .slice a n c] 101)) (ndC nd0 none 0 0) 58
  simpa using this
 have h2 : (w3.alloc (.cells #[.bool x.l, .string x.s, .slice a n c] 101)).cell? ⟨w3.heap.size, 2, none⟩ = some (.slice a n c) := (lies_new w3 x a n c 101).2.2
 refine ⟨h1, h2, hO.below (al1 _ _), bst hB (al1 _ _), ?_⟩
 rintro w5 rfl
 have hb5 : Below w3.heap.size w3 (((w3.alloc (.cells #[.bool x.l, .string x.s, .slice a n c] 101)).alloc (.cells (ndC nd0 none 0 0) 58)).setRow (w3.heap.size + 1) (ndC ⟨3, [], eB, zks⟩ none 0 0)) := below_rowN (al2 _ _ _) (Nat.le_succ _) _
 refine ⟨hO.below hb5, ?_, own_rowN h1, hb5, by simp⟩
 have h3 : Below (w3.alloc (.cells #[.bool x.l, .string x.s, .slice a n c] 101)).heap.size (w3.alloc (.cells #[.bool x.l, .string x.s, .slice a n c] 101)) (((w3.alloc (.cells #[.bool x.l, .string x.s, .slice a n c] 101)).alloc (.cells (ndC nd0 none 0 0) 58)).setRow (w3.heap.size + 1) (ndC ⟨3, [], eB, zks⟩ none 0 0)) := below_rowN (al1 _ _) (by simp) _
 exact (Below.cell (p := ⟨w3.heap.size, 2, none⟩) h3 (by simp)).trans h2
structure SG (R g : Nat) (L : Nd) (a : Option Addr) (n c : Nat) (w w' : World) : Prop where
 lt : R < g
 nd : OwnN w' g L a n c
 res : ∃ cs : Array Value, cs.size = 19 ∧ Rg.Own w' R cs 58
 bs : BsF (g + 1) w' a n c L.p
 be : Below w.heap.size w w'
theorem SG.keep {R g : Nat} {L : Nd} {a : Option Addr} {n c : Nat} {w w1 w2 : World} (h : SG R g L a n c w w1) (hb : Below w1.heap.size w1 w2) : SG R g L a n c w w2 := by
 obtain ⟨cs, hcs, ho⟩ := h.res
 exact ⟨h.lt, h.nd.below hb, ⟨cs, hcs, ho.below hb⟩, h.bs.below hb, bst h.be hb⟩
theorem SG.put {R g : Nat} {L : Nd} {a : Option Addr} {n c : Nat} {w w1 w2 : World} (h : SG R g L a n c w w1) {cs : Array Value} (hcs : cs.size = 19) (hn : Rg.Own w2 R cs 58) (hu : Rg.Upd w1 R w2) (hR : w.heap.size ≤ R) : SG R g L a n c w w2 :=
 ⟨h.lt, h.nd.upd hu (by have := h.lt; omega), ⟨cs, hcs, hn⟩, h.bs.upd hu (by have := h.lt; omega), hu.below h.be hR⟩
end No
end
end Go.Proofs.YtgolhnfkmmajpaaGreatDoor
