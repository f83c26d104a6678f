/-
 The contract of the plain answer's Put, of an item that may be.
-/
import Derived.Test.YtooklabipgmolaaGreatDoorMr4
import Derived.Test.YtooklabipgmolaaGreatDoorMr1
import Derived.Test.YtooklabipgmolaaGreatDoorMr2
import Derived.Laws.Rows
import Derived.Laws.ResultCell
import Derived.Laws.Tables
import Derived.Great.BuildSlice
import Derived.LoopN
import Derived.Deep.Draws
import Derived.Deep.RegionWith
import Derived.IntWalk
import Derived.RegionTactic
import Derived.Deep.QuietTactic
import Derived.BigQuiet
open Go.Lib (hid)
set_option linter.unusedSimpArgs false
set_option linter.unusedVariables false
set_option maxHeartbeats 40000000
set_option maxRecDepth 100000
namespace Go.Proofs.YtooklabipgmolaaGreatDoor
section
open Go.RowKit
namespace Rl
theorem ba_app (a b : List UInt8) : (⟨a.toArray⟩ : ByteArray) ++ ⟨b.toArray⟩ = ⟨(a ++ b).toArray⟩ := by
 apply ByteArray.ext
 simp
theorem ba_self (s : ByteArray) : (⟨s.data.toList.toArray⟩ : ByteArray) = s := by simp
theorem ba_size (l : List UInt8) : (⟨l.toArray⟩ : ByteArray).size = l.length := by
 show l.toArray.size = _
 simp
theorem headL_le (n : Nat) (l : Bool) (h : n < 2 ^ 64) : (headL n l).length ≤ 9 := by
 have := bigL_length h
 unfold headL
 split <;> simp; omega
theorem rput_any (x : It) : ∀ (d : Nat) (w : World) (v : Value), IsIt w x v → Fits d x → x.bytes.length ≤ 4294967296 →
  Calls Tryz.prog 66 #[v] w fun e w' => e = .returned (.string ⟨x.bytes.toArray⟩) ∧ Below w.heap.size w w' := by
 induction x using It.ind with
 | h l s xs ih =>
  rintro d w v ⟨a, n, cap, rfl, h⟩ hF hb
  have hm := h.max
  have hnc := h.le
  unfold maxLen at hm
  obtain ⟨w1, hw1⟩ : ∃ w1, w1 = w.alloc (.cells #[.bool l, .string s, .slice a n cap] 113) := ⟨_, rfl⟩
  have hO : Rg.Own w1 w.heap.size (itC (.mk l s xs) a n cap) 113 := by rw [hw1]; exact Rg.Own.new _ _ _
  obtain ⟨c0, c1, c2⟩ := lies_row hO.2
  have HB : Hid (Below w.heap.size w w1) := hid (by rw [hw1]; exact al1 _ _)
  have HZ : Hid (w.heap.size < w1.heap.size) := hid hO.1
  have HO := hid hO
  have H := hid h
  clear h hO
  unfold itV
  dsimp only [It.l, It.s, It.xs] at c0 c1 c2 H ⊢
  have hin := inner_le (.mk l s xs)
  cases hF with
  | mk ha hs hx hy =>
   cases l with
   | false =>
    obtain rfl := hx rfl
    rw [inner_text', len_s] at hin
    have h32 : s.size ≤ 4294967296 := by omega
    have hbt := bytes_text s h32
    clear ih hx hs hy hin hb
    by_cases h1 : s.size = 1 ∧ (s.data.toList.headD 0).toNat < 128
    ·rw [if_pos h1, List.nil_append] at hbt
     have HF : Hid ((⟨(It.mk false s []).bytes.toArray⟩ : ByteArray) = s) := hid (by rw [hbt, ba_self])
     have hq : ((s.size : Int) == 1) = true := by simp; omega
     have hg := get_at s 0 (by omega)
     have hz0 : 0 < s.size := by omega
     have hfirst : (s[0]'hz0).toNat ≤ 127 := by
      rw [hg]
      have := h1.2
      cases hd : s.data.toList with
      | nil => rw [hd] at this; simp
      | cons y ys => rw [hd] at this; simp at this ⊢; omega
     have hs0 : 0 < s.size := by omega
     have H1 := hid h1
     clear hbt hg
     subst hw1
     go_enter Tryz.func66, Tryz.ntmps66
     go_wp2
     go_ret
     exact ⟨by rw [HF.out]; rfl, HB.out⟩
    ·rw [if_neg h1] at hbt
     have HF : Hid ((⟨(It.mk false s []).bytes.toArray⟩ : ByteArray) = headS s.size false ++ s) := hid (by
      rw [hbt]
      unfold headS
      conv => rhs; rw [← ba_self s]
      rw [ba_app])
     have hl9 := headL_le s.size false (by omega)
     have HSZ : Hid (¬ 9223372036854775807 < (headS s.size false).size + s.size) := hid (by
      unfold headS
      rw [ba_size]
      omega)
     have HH := hid (fun w => rhead_any s.size h32 false w)
     clear hbt hl9
     by_cases hq1 : s.size = 1
     ·have hq : ((s.size : Int) == 1) = true := by simp; omega
      have hs0 : 0 < s.size := by omega
      have hfirst : ¬ (s[0]'hs0).toNat ≤ 127 := by
       intro hc
       apply h1
       refine ⟨hq1, ?_⟩
       rw [get_at s 0 (by omega)] at hc
       cases hd : s.data.toList with
       | nil => simp
       | cons y ys => rw [hd] at hc; simp at hc ⊢; omega
      clear h1 hq1
      subst hw1
      go_enter Tryz.func66, Tryz.ntmps66
      go_wp2_with fail
      obtain ⟨w1, hw1⟩ : ∃ w1, w1 = w.alloc (.cells #[.bool false, .string s, .slice a n cap] 113) := ⟨_, rfl⟩
      rw [← hw1] at c0 c1 c2 HB HZ HO ⊢
      clear hw1
      refine wp_region_noPanic ?_
      refine wp_region_held_drew (S := fun w' => Below w1.heap.size w1 w') (by kernel_rfl) ((Below.refl _ _).drew) (fun hld => ?_)
      refine Rg.tk (i := 0) rfl ?_
      try simp only [Act.put, Rg.s]
      refine Rg.tk (i := 1) rfl ?_ (hy := by intro wz hSw; have hcc := hSw.cell (p := ⟨w.heap.size, 1, none⟩) HZ.out; rw [c1] at hcc; (try dsimp only at hSw); go_simp <;> with_reducible rfl)
      try simp only [Act.put, Rg.s]
      refine Rg.tk (i := 2) rfl ?_
      try simp only [Act.put, Rg.s]
      refine Rg.tk (i := 4) rfl ?_
      try simp only [Act.put, Rg.s]
      refine Rg.tk (i := 5) rfl ?_ (hy := by intro wz hSw; have hcc := hSw.cell (p := ⟨w.heap.size, 1, none⟩) HZ.out; rw [c1] at hcc; (try dsimp only at hSw); go_simp <;> with_reducible rfl)
      try simp only [Act.put, Rg.s]
      refine Rg.rd (i := 3) rfl fun K hK => ?_
      go_simp
      go_at_call 44
      (with_reducible refine (HH.out _).mono ?_)
      rintro e wv0 ⟨rfl, hbx⟩
      refine hK.out _ _ ?_ (fun hld => ?_)
      ·exact Below.trans hld (hbx.mono hld.size)
      clear hK K
      try simp only [Act.put, Rg.s]
      refine Rg.tk (i := 6) rfl ?_ (hy := by intro wz hSw; have hz8 := HSZ.out; go_simp <;> with_reducible rfl)
      try simp only [Act.put, Rg.s]
      refine Rg.tk (i := 7) rfl ?_
      try simp only [Act.put, Rg.s]
      refine wpAnyH_done (by kernel_rfl) ?_ _
      refine NoPanic.normal ?_
      go_wp2
      go_ret
      exact ⟨by rw [HF.out]; rfl, bst HB.out hld⟩
     ·have hq : ((s.size : Int) == 1) = false := by simp; omega
      clear h1
      subst hw1
      go_enter Tryz.func66, Tryz.ntmps66
      go_wp2_with fail
      obtain ⟨w1, hw1⟩ : ∃ w1, w1 = w.alloc (.cells #[.bool false, .string s, .slice a n cap] 113) := ⟨_, rfl⟩
      rw [← hw1] at c0 c1 c2 HB HZ HO ⊢
      clear hw1
      refine wp_region_noPanic ?_
      refine wp_region_held_drew (S := fun w' => Below w1.heap.size w1 w') (by kernel_rfl) ((Below.refl _ _).drew) (fun hld => ?_)
      refine Rg.tk (i := 0) rfl ?_
      try simp only [Act.put, Rg.s]
      refine Rg.tk (i := 1) rfl ?_ (hy := by intro wz hSw; have hcc := hSw.cell (p := ⟨w.heap.size, 1, none⟩) HZ.out; rw [c1] at hcc; (try dsimp only at hSw); go_simp <;> with_reducible rfl)
      try simp only [Act.put, Rg.s]
      refine Rg.tk (i := 2) rfl ?_
      try simp only [Act.put, Rg.s]
      refine Rg.tk (i := 4) rfl ?_
      try simp only [Act.put, Rg.s]
      refine Rg.tk (i := 5) rfl ?_ (hy := by intro wz hSw; have hcc := hSw.cell (p := ⟨w.heap.size, 1, none⟩) HZ.out; rw [c1] at hcc; (try dsimp only at hSw); go_simp <;> with_reducible rfl)
      try simp only [Act.put, Rg.s]
      refine Rg.rd (i := 3) rfl fun K hK => ?_
      go_simp
      go_at_call 44
      (with_reducible refine (HH.out _).mono ?_)
      rintro e wv0 ⟨rfl, hbx⟩
      refine hK.out _ _ ?_ (fun hld => ?_)
      ·exact Below.trans hld (hbx.mono hld.size)
      clear hK K
      try simp only [Act.put, Rg.s]
      refine Rg.tk (i := 6) rfl ?_ (hy := by intro wz hSw; have hz8 := HSZ.out; go_simp <;> with_reducible rfl)
      try simp only [Act.put, Rg.s]
      refine Rg.tk (i := 7) rfl ?_
      try simp only [Act.put, Rg.s]
      refine wpAnyH_done (by kernel_rfl) ?_ _
      refine NoPanic.normal ?_
      go_wp2
      go_ret
      exact ⟨by rw [HF.out]; rfl, bst HB.out hld⟩
   | true =>
    obtain rfl := hs rfl
    rw [inner_mk] at hin
    have hin2 : ((xs.map It.bytes).flatten).length ≤ 4294967296 := Nat.le_trans hin hb
    have hbl := bytes_list xs hin2
    have HBy : Hid ((⟨(It.mk true ⟨#[]⟩ xs).bytes.toArray⟩ : ByteArray) = headS ((xs.map It.bytes).flatten).length true ++ ⟨((xs.map It.bytes).flatten).toArray⟩) := hid (by
     rw [hbl]
     unfold headS
     rw [ba_app])
    have HLen : Hid (((xs.map It.bytes).flatten).length ≤ 4294967296) := hid hin2
    have HIh := hid ih
    have HY := hid hy
    clear ih hx hs hy hin hb hbl hin2
    subst hw1
    go_enter Tryz.func66, Tryz.ntmps66
    go_wp2
    go_loopw [3, 4] (fun t i wr => ∃ (q : Nat), q ≤ n ∧ i = .int .i64 q ∧ t = .string ⟨(firstL xs q).toArray⟩ ∧ Below (w.heap.size + 1) (w.alloc (.cells #[.bool true, .string ⟨#[]⟩, .slice a n cap] 113)) wr) (fun _ i _ => n - (intOf i).toNat)
    case atStart => exact ⟨0, Nat.zero_le _, rfl, rfl, Below.refl _ _⟩
    case round =>
     obtain ⟨q, hq, rfl, rfl, hB⟩ := hrel
     have e2 : wr.cell? ⟨w.heap.size, 2, none⟩ = some (.slice a n cap) := by
      rw [hB.cell (p := ⟨w.heap.size, 2, none⟩) (Nat.lt_succ_self _)]; exact c2
     have HB1 := hid hB
     clear hB
     by_cases hlt : q < n
     ·obtain ⟨x, b, off, A, N, C, hx, rfl, hb, hL, hI⟩ := H.out.at' q hlt
      have hBw := of_al HB1.out
      obtain ⟨e0, e1, e3⟩ := hL.stays hBw hb
      have hstep := firstL_step xs q x hx
      have hle := firstL_le xs (q + 1)
      have hle2 := HLen.out
      rw [hstep, List.length_append] at hle
      have HS : Hid ((⟨(firstL xs (q + 1)).toArray⟩ : ByteArray) = ⟨(firstL xs q).toArray⟩ ++ ⟨x.bytes.toArray⟩) := hid (by rw [hstep, ba_app])
      have HI := hid (HIh.out x (List.mem_of_getElem? hx) (d + 1) wr (itV x A N C) ⟨A, N, C, rfl, hI.stays hBw⟩ (HY.out x (List.mem_of_getElem? hx)) (by omega))
      obtain ⟨T, hT⟩ : ∃ T, (⟨(firstL xs q).toArray⟩ : ByteArray) = T := ⟨_, rfl⟩
      obtain ⟨X, hX⟩ : ∃ X, (⟨x.bytes.toArray⟩ : ByteArray) = X := ⟨_, rfl⟩
      have hsz : T.size + X.size ≤ 4294967296 := by rw [← hT, ← hX, ba_size, ba_size]; omega
      rw [hT, hX] at HS
      rw [hX] at HI
      rw [hT]
      unfold itV at HI
      clear hL hI hBw hx hT hX hstep hle hle2
      go_wp2_with fail
      refine HI.out.mono ?_
      rintro e w1 ⟨rfl, hb1⟩
      go_wp2
      go_roundw
      case rel => exact ⟨q + 1, by omega, by go_num, by rw [HS.out], al_step HB1.out hb1⟩
      case measure => simp [intOf]; omega
     ·obtain rfl : q = n := by omega
      have hfl := firstL_all xs q H.out.len
      rw [hfl]
      have HF := HBy
      obtain ⟨T, hT⟩ : ∃ T, (xs.map It.bytes).flatten = T := ⟨_, rfl⟩
      rw [hT] at HF HLen ⊢
      have hlen := HLen.out
      have hl9 := headL_le T.length true (by omega)
      have HSz : Hid ((⟨T.toArray⟩ : ByteArray).size = T.length) := hid (ba_size T)
      have HH := hid (fun w => rhead_any T.length hlen true w)
      have HSZ : (headS T.length true).size ≤ 9 := by unfold headS; rw [ba_size]; exact hl9
      obtain ⟨X, hX⟩ : ∃ X, (⟨T.toArray⟩ : ByteArray) = X := ⟨_, rfl⟩
      rw [hX] at HF HSz ⊢
      have hxs := HSz.out
      rw [← hxs] at HF HH HSZ
      have hxl : X.size ≤ 4294967296 := by omega
      clear hX hfl hlen hl9 hT hxs HIh HY HLen HSz HBy
      go_wp2_with fail
      refine (HH.out _).mono ?_
      rintro e w1 ⟨rfl, hb1⟩
      go_wp2
      go_ret
      exact ⟨by rw [HF.out]; rfl, bst (of_al HB1.out) hb1⟩
end Rl
end
section
open Go.RowKit
structure Nd where
 kd : Int
 p : List UInt8
 v : ByteArray
 ks : List ByteArray
abbrev eB : ByteArray := ⟨#[]⟩
def zks : List ByteArray := List.replicate 16 eB
theorem zks_length : zks.length = 16 := rfl
def kidC (ks : List ByteArray) : Array Value := (ks.map Value.string).toArray
def ndC (N : Nd) (a : Option Addr) (n c : Nat) : Array Value := (Value.int .i64 N.kd :: Value.slice a n c :: Value.string N.v :: N.ks.map Value.string).toArray
def nd0 : Nd := ⟨0, [], eB, zks⟩
def BsF (B : Nat) (w : World) (a : Option Addr) (n c : Nat) (l : List UInt8) : Prop := IsBs w a n c l ∧ ∀ ad, a = some ad → B ≤ ad.block
theorem BsF.below {B : Nat} {w w' : World} {a : Option Addr} {n c : Nat} {l : List UInt8} (h : BsF B w a n c l) (hb : Below w.heap.size w w') : BsF B w' a n c l := ⟨h.1.below hb, h.2⟩
theorem BsF.weak {B B' : Nat} {w : World} {a : Option Addr} {n c : Nat} {l : List UInt8} (h : BsF B w a n c l) (hB : B' ≤ B) : BsF B' w a n c l := ⟨h.1, fun ad e => Nat.le_trans hB (h.2 ad e)⟩
theorem BsF.upd {B g : Nat} {w w' : World} {a : Option Addr} {n c : Nat} {l : List UInt8} (h : BsF B w a n c l) (hu : Rg.Upd w g w') (hg : g < B) : BsF B w' a n c l := by
 refine ⟨⟨h.1.1, h.1.2.1, h.1.2.2.1, h.1.2.2.2.1, fun j hj => ?_⟩, h.2⟩
 obtain ⟨b, off, e, hlt, hc⟩ := h.1.2.2.2.2 j hj
 have hB : B ≤ b := h.2 _ e
 exact ⟨b, off, e, by rw [hu.size]; exact hlt, by rw [World.cell?_of_block (hu.block b (by omega))]; exact hc⟩
theorem BsF.row {B g : Nat} {w : World} {a : Option Addr} {n c : Nat} {l : List UInt8} (h : BsF B w a n c l) (hg : g < B) (cs : Array Value) : BsF B (w.setRow g cs) a n c l := h.upd (Rg.Upd.set _ _ _) hg
theorem BsF.nil (B : Nat) (w : World) : BsF B w none 0 0 [] := ⟨IsBs.nil w, fun _ e => by cases e⟩
abbrev OwnN (w : World) (b : Nat) (N : Nd) (a : Option Addr) (n c : Nat) : Prop := Rg.Own w b (ndC N a n c) 57
theorem kidC_size (ks : List ByteArray) : (kidC ks).size = ks.length := by simp [kidC]
theorem ndC_size (N : Nd) (a : Option Addr) (n c : Nat) (h : N.ks.length = 16) : (ndC N a n c).size = 19 := by simp [ndC, h]
theorem ndC_one (N : Nd) (a : Option Addr) (n c : Nat) : (ndC N a n c).all (·.oneCell') = true := by
 unfold ndC
 simp [Value.oneCell']
theorem info_node : (Tryz.prog.info? 57).map (·.size) = some 19 := by kernel_rfl
theorem info_kids : (Tryz.prog.info? 55).map (·.size) = some 16 := by kernel_rfl
theorem info_ndC (N : Nd) (a : Option Addr) (n c : Nat) (h : N.ks.length = 16) : (Tryz.prog.info? 57).map (·.size) = some (ndC N a n c).size := by rw [ndC_size _ _ _ _ h]; exact info_node
theorem info_kidC (ks : List ByteArray) (h : ks.length = 16) : (Tryz.prog.info? 55).map (·.size) = some (kidC ks).size := by rw [kidC_size, h]; exact info_kids
theorem nd_cells {w : World} {b : Nat} {N : Nd} {a : Option Addr} {n c : Nat} (h : OwnN w b N a n c) :
  w.cell? ⟨b, 0, none⟩ = some (.int .i64 N.kd) ∧ w.cell? ⟨b, 1, none⟩ = some (.slice a n c) ∧ w.cell? ⟨b, 2, none⟩ = some (.string N.v) := by
 refine ⟨?_, ?_, ?_⟩
 all_goals
  rw [cell_of_row w b _ _ _ _ h.2]
  rfl
theorem nd_kid {w : World} {b : Nat} {N : Nd} {a : Option Addr} {n c : Nat} (h : OwnN w b N a n c) (hl : N.ks.length = 16) (j : Nat) (hj : j < 16) :
  w.cell? ⟨b, 3 + j, none⟩ = some (.string (N.ks.getD j eB)) := by
 rw [cell_of_row w b _ _ _ _ h.2]
 unfold ndC
 rw [show 3 + j = j + 1 + 1 + 1 by omega]
 simp [List.getD, hl, hj]
theorem own_free {w : World} {b j : Nat} {cs : Array Value} {T : TypeId} (h : Rg.Own w b cs T) : w.frozen? ⟨b, j, none⟩ = false := by
 simp [World.frozen?, h.2]
theorem sixteen {α : Type} (l : List α) (h : l.length = 16) : ∃ a b c d e f g i j k m n o p q r, l = [a, b, c, d, e, f, g, i, j, k, m, n, o, p, q, r] := by
 match l, h with
 | [a, b, c, d, e, f, g, i, j, k, m, n, o, p, q, r], _ => exact ⟨_, _, _, _, _, _, _, _, _, _, _, _, _, _, _, _, rfl⟩
theorem run_load_nd {w : World} {b : Nat} {N : Nd} {a : Option Addr} {n c : Nat} (h : OwnN w b N a n c) (hl : N.ks.length = 16) :
  (loadVar 57 ⟨b, 0, none⟩).run Tryz.prog w = .ok (.agg (ndC N a n c)) w :=
 run_loadVar_row (P := Tryz.prog) w b 57 57 (ndC N a n c) (0, 0) _ h.2 Tryz.underlying57 rfl (info_ndC N a n c hl)
theorem load_nd {w : World} {b : Nat} {N : Nd} {a : Option Addr} {n c : Nat} (h : OwnN w b N a n c) (hl : N.ks.length = 16) :
  (Instr.loadAt 57 (.pointer (some ⟨b, 0, none⟩))).run Tryz.prog w = .ok (.agg (ndC N a n c)) w := by
 simp only [Instr.loadAt, Instr.sureAddr, Sem.run_bind, Sem.run_pure, Result.andThen_ok, run_load_nd h hl]
theorem load_ks {w : World} {b : Nat} {N : Nd} {a : Option Addr} {n c : Nat} (h : OwnN w b N a n c) (hl : N.ks.length = 16) :
  (Instr.loadAt 55 (.pointer (some ⟨b, 3, none⟩))).run Tryz.prog w = .ok (.agg (kidC N.ks)) w := by
 have hc : w.rangeAt b 3 (N.ks.map Value.string) := fun j v hv => by
  have hj : j < 16 := by
   have := (List.getElem?_eq_some_iff.1 hv).1
   simpa [hl] using this
  rw [nd_kid h hl j hj]
  have hx : N.ks[j]? = some (N.ks[j]'(by omega)) := List.getElem?_eq_getElem (by omega)
  rw [List.getElem?_map, hx] at hv
  rw [← Option.some.inj hv]
  simp [List.getD, hx]
 exact run_loadAt_mid w b 3 55 (N.ks.map Value.string) _ hc Tryz.underlying55 rfl (by rw [List.length_map, hl]; exact info_kids)
abbrev OwnK (w : World) (b : Nat) (ks : List ByteArray) : Prop := Rg.Own w b (kidC ks) 55
theorem load_kc {w : World} {b : Nat} {ks : List ByteArray} (h : OwnK w b ks) (hl : ks.length = 16) :
  (Instr.loadAt 55 (.pointer (some ⟨b, 0, none⟩))).run Tryz.prog w = .ok (.agg (kidC ks)) w := by
 simp only [Instr.loadAt, Instr.sureAddr, Sem.run_bind, Sem.run_pure, Result.andThen_ok, run_loadVar_row (P := Tryz.prog) w b 55 55 (kidC ks) (0, 0) _ h.2 Tryz.underlying55 rfl (info_kidC ks hl)]
theorem run_alloc_nd (ev : Operand → Value) (o : Oper) (w : World) (b : Nat) (hb : b = w.heap.size) (ho : o.op = .alloc 57) :
  (execOp ev o).run Tryz.prog w = .ok (.value (.pointer (some ⟨b, 0, none⟩))) (w.alloc (.cells (ndC nd0 none 0 0) 57)) := by
 subst hb
 unfold execOp
 rw [ho]
 kernel_rfl
theorem run_alloc_ks (ev : Operand → Value) (o : Oper) (w : World) (b : Nat) (hb : b = w.heap.size) (ho : o.op = .alloc 55) :
  (execOp ev o).run Tryz.prog w = .ok (.value (.pointer (some ⟨b, 0, none⟩))) (w.alloc (.cells (kidC zks) 55)) := by
 subst hb
 unfold execOp
 rw [ho]
 kernel_rfl
theorem built0 : Tryz.prog.built 57 [] = some (ndC nd0 none 0 0) := by kernel_rfl
theorem built_leaf (a : Option Addr) (n c : Nat) (p : List UInt8) (v : ByteArray) : Tryz.prog.built 57 [(0, .int .i64 1), (1, .slice a n c), (2, .string v)] = some (ndC ⟨1, p, v, zks⟩ a n c) := by kernel_rfl
theorem built_kd (k : Int) : Tryz.prog.built 57 [(0, .int .i64 k)] = some (ndC ⟨k, [], eB, zks⟩ none 0 0) := by kernel_rfl
theorem built_path (k : Int) (a : Option Addr) (n c : Nat) (p : List UInt8) : Tryz.prog.built 57 [(0, .int .i64 k), (1, .slice a n c)] = some (ndC ⟨k, p, eB, zks⟩ a n c) := by kernel_rfl
theorem built_one (s : ByteArray) : Tryz.prog.built 55 [(0, .string s)] = some (kidC (s :: List.replicate 15 eB)) := by kernel_rfl
theorem built_ks (k : Int) (ks : List ByteArray) (h : ks.length = 16) : Tryz.prog.built 57 [(0, .int .i64 k), (3, .agg (kidC ks))] = some (ndC ⟨k, [], eB, ks⟩ none 0 0) := by
 obtain ⟨x0, x1, x2, x3, x4, x5, x6, x7, x8, x9, x10, x11, x12, x13, x14, x15, rfl⟩ := sixteen ks h
 kernel_rfl
theorem built_ext (k : Int) (a : Option Addr) (n c : Nat) (p : List UInt8) (ks : List ByteArray) (h : ks.length = 16) : Tryz.prog.built 57 [(0, .int .i64 k), (1, .slice a n c), (3, .agg (kidC ks))] = some (ndC ⟨k, p, eB, ks⟩ a n c) := by
 obtain ⟨x0, x1, x2, x3, x4, x5, x6, x7, x8, x9, x10, x11, x12, x13, x14, x15, rfl⟩ := sixteen ks h
 kernel_rfl
theorem run_built {t : TypeId} {parts : Array (Nat × Value)} {l : List (Nat × Value)} {cells : Array Value} (w : World) (hl : parts.toList = l) (h : Tryz.prog.built t l = some cells) : (Instr.build t parts).run Tryz.prog w = .ok (.agg cells) w :=
 run_build w t parts cells (by rw [hl]; exact h)
theorem res_nd {fn : Func} {p : Tmp} (hf : fn.results = #[.cell p 57]) (tmps : Array Value) {w : World} {b : Nat} {N : Nd} {a : Option Addr} {n c : Nat} (hp : tmps.getD p undef = .pointer (some ⟨b, 0, none⟩)) (h : OwnN w b N a n c) (hl : N.ks.length = 16) :
  (results fn tmps).run Tryz.prog w = .ok (.agg (ndC N a n c)) w := by
 have hp' : tmps[p]?.getD undef = .pointer (some ⟨b, 0, none⟩) := by simpa using hp
 simp [results, hf, hp', asAddr, run_load_nd h hl]
theorem res_nd1 {fn : Func} {p u : Tmp} (hf : fn.results = #[.cell p 57, .tmp u]) (tmps : Array Value) {w : World} {b : Nat} {N : Nd} {a : Option Addr} {n c : Nat} (hp : tmps.getD p undef = .pointer (some ⟨b, 0, none⟩)) (h : OwnN w b N a n c) (hl : N.ks.length = 16) :
  (results fn tmps).run Tryz.prog w = .ok (.tuple #[.agg (ndC N a n c), tmps.getD u undef]) w := by
 have hp' : tmps[p]?.getD undef = .pointer (some ⟨b, 0, none⟩) := by simpa using hp
 simp [results, hf, hp', asAddr, run_load_nd h hl]
theorem own_rowN {w : World} {b : Nat} {N M : Nd} {a a' : Option Addr} {n c n' c' : Nat} (h : OwnN w b N a n c) : OwnN (w.setRow b (ndC M a' n' c')) b M a' n' c' :=
 ⟨by simp; exact h.1, setRow_heap _ _ _ _ _ _ h.2⟩
theorem below_rowN {B : Nat} {w w1 : World} (h : Below B w w1) {g : Nat} (hg : B ≤ g) (cs : Array Value) : Below B w (w1.setRow g cs) :=
 h.trans ⟨rfl, rfl, rfl, by simp, fun k hk => setRow_other w1 g k cs (by omega)⟩
theorem op_load_nd {ev : Operand → Value} {o : Oper} {w : World} {b : Nat} {N : Nd} {a : Option Addr} {n c : Nat} (h : OwnN w b N a n c) (hl : N.ks.length = 16) (ho : ∃ x, o.op = .load 57 x ∧ ev x = .pointer (some ⟨b, 0, none⟩)) :
  (execOp ev o).run Tryz.prog w = .ok (.value (.agg (ndC N a n c))) w := by
 obtain ⟨x, ho, hx⟩ := ho
 unfold execOp
 simp only [ho, hx, Sem.run_bind, Sem.run_pure, Result.andThen_ok, load_nd h hl]
theorem op_load_ks {ev : Operand → Value} {o : Oper} {w : World} {b : Nat} {N : Nd} {a : Option Addr} {n c : Nat} (h : OwnN w b N a n c) (hl : N.ks.length = 16) (ho : ∃ x, o.op = .load 55 x ∧ ev x = .pointer (some ⟨b, 3, none⟩)) :
  (execOp ev o).run Tryz.prog w = .ok (.value (.agg (kidC N.ks))) w := by
 obtain ⟨x, ho, hx⟩ := ho
 unfold execOp
 simp only [ho, hx, Sem.run_bind, Sem.run_pure, Result.andThen_ok, load_ks h hl]
theorem op_load_kc {ev : Operand → Value} {o : Oper} {w : World} {b : Nat} {ks : List ByteArray} (h : OwnK w b ks) (hl : ks.length = 16) (ho : ∃ x, o.op = .load 55 x ∧ ev x = .pointer (some ⟨b, 0, none⟩)) :
  (execOp ev o).run Tryz.prog w = .ok (.value (.agg (kidC ks))) w := by
 obtain ⟨x, ho, hx⟩ := ho
 unfold execOp
 simp only [ho, hx, Sem.run_bind, Sem.run_pure, Result.andThen_ok, load_kc h hl]
theorem op_build {ev : Operand → Value} {o : Oper} {w : World} {t : TypeId} {l : List (Nat × Value)} {cells : Array Value} (h : Tryz.prog.built t l = some cells) (ho : ∃ ps, o.op = .build t ps ∧ (ps.toList.map fun p => (p.1, ev p.2)) = l) :
  (execOp ev o).run Tryz.prog w = .ok (.value (.agg cells)) w := by
 obtain ⟨ps, ho, hx⟩ := ho
 unfold execOp
 simp only [ho, Sem.run_bind, Sem.run_pure, Result.andThen_ok, run_built w (l := l) (by rw [Array.toList_map]; exact hx) h]
theorem wpl_store_nd {ops : Array Oper} {rest : List Oper} {o : Oper} {act : Act} {w : World} {Q : Exit → Act → World → Prop} {b : Nat} {N : Nd} {a : Option Addr} {n c : Nat} (h : OwnN w b N a n c) (hl : N.ks.length = 16) (M : Nd) (a' : Option Addr) (n' c' : Nat) (hm : M.ks.length = 16)
  (hgd : o.guard = none) (x y : Operand) (ho : o.op = .store 57 x y) (hx : act.eval x = .pointer (some ⟨b, 0, none⟩)) (hy : act.eval y = .agg (ndC M a' n' c')) (hd : o.dst = none)
  (hQ : wpList Tryz.prog ops Q rest act (w.setRow b (ndC M a' n' c'))) : wpList Tryz.prog ops Q (o :: rest) act w :=
 wpList_store_rowTo hgd 57 x y ho hd b _ hx hy 57 _ h.2 (info_ndC _ _ _ _ hm) (by rw [ndC_size _ _ _ _ hl, ndC_size _ _ _ _ hm]) (ndC_one _ _ _ _) hQ
end
section
open Go.RowKit
namespace No
def GotNd (w : World) (N : Nd) (e : Ending) (w' : World) : Prop := ∃ a n c, e = .returned (.agg (ndC N a n c)) ∧ BsF w.heap.size w' a n c N.p ∧ N.ks.length = 16 ∧ Below w.heap.size w w'
theorem branch_any (ks : List ByteArray) (hl : ks.length = 16) (w : World) : Calls Tryz.prog 80 #[.agg (kidC ks)] w (GotNd w ⟨3, [], eB, ks⟩) := by
 obtain ⟨w2, hw2⟩ : ∃ w2, w2 = (w.alloc (.cells (kidC ks) 55)).alloc (.cells (ndC nd0 none 0 0) 57) := ⟨_, rfl⟩
 have hK : OwnK w2 w.heap.size ks := by rw [hw2]; exact (Rg.Own.new _ _ _).below (al1 _ _)
 have hO : OwnN w2 (w.heap.size + 1) nd0 none 0 0 := by
  rw [hw2]
  have := Rg.Own.new (w.alloc (.cells (kidC ks) 55)) (ndC nd0 none 0 0) 57
  simpa using this
 have HK := hid hK
 have HO := hid hO
 have HB : Hid (Below w.heap.size w w2) := hid (by rw [hw2]; exact al2 _ _ _)
 have HL := hid hl
 clear hO hK hl
 subst hw2
 go_enter Tryz.func80, Tryz.ntmps80
 go_wp2_with (first
  | (refine Rg.run rfl _ _ (run_alloc_nd _ _ _ (w.heap.size + 1) (by simp) rfl) ?_)
  | (refine Rg.run rfl _ _ (op_load_kc HK.out HL.out ⟨_, rfl, rfl⟩) ?_)
  | (refine Rg.run rfl _ _ (op_build (built_ks 3 ks HL.out) ?_) ?_; · exact ⟨_, rfl, rfl⟩)
  | (refine wpl_store_nd HO.out rfl ⟨3, [], eB, ks⟩ none 0 0 HL.out rfl _ _ rfl rfl rfl rfl ?_))
 exact bodyPost_ret (res_nd rfl _ rfl (own_rowN HO.out) HL.out) rfl ⟨none, 0, 0, rfl, BsF.nil _ _, HL.out, below_rowN HB.out (Nat.le_succ _) _⟩
end No
end
section
open Go.RowKit
namespace Ni
def rightB (l : List UInt8) : Bool := l.all (fun b => decide (b.toNat ≤ 15))
theorem take_snoc_getD (l : List UInt8) (k : Nat) (h : k < l.length) : l.take (k + 1) = l.take k ++ [l.getD k 0] := by
 rw [List.take_succ_eq_append_getElem h]; simp [List.getD, h]
theorem rightB_take (l : List UInt8) (k : Nat) (h : k < l.length) : rightB (l.take (k + 1)) = (rightB (l.take k) && decide ((l.getD k 0).toNat ≤ 15)) := by
 rw [take_snoc_getD l k h]; simp [rightB, List.all_append]
theorem rightB_no (l : List UInt8) (k : Nat) (h : k < l.length) (hk : 15 < (l.getD k 0).toNat) : rightB l = false := by
 unfold rightB
 rw [List.all_eq_false]
 exact ⟨l.getD k 0, by simp [List.getD, h], by simpa using hk⟩
theorem right_any (a : Option Addr) (n cap : Nat) (l : List UInt8) (w : World) (h : IsBs w a n cap l) :
  Calls Tryz.prog 97 #[.slice a n cap] w fun e w' => e = .returned (.bool (rightB l)) ∧ w = w' := by
 have hm := h.2.1
 have hnc := h.1
 unfold maxLen at hm
 have H := hid h
 clear h
 go_enter Tryz.func97, Tryz.ntmps97
 go_wp2
 go_loop [7] (fun i => ∃ k : Nat, k ≤ n ∧ i = .int .i64 k ∧ Hid (rightB (l.take k) = true)) (fun i => n - (intOf i).toNat)
 case atStart => exact ⟨0, Nat.zero_le _, rfl, hid rfl⟩
 case round =>
  obtain ⟨k, hk, rfl, HR⟩ := hrel
  by_cases hlt : k < n
  ·obtain ⟨b, off, rfl, hb, hc⟩ := H.out.at' k hlt
   have hl : k < l.length := by rw [H.out.len]; exact hlt
   have HT := hid (rightB_take l k hl)
   obtain ⟨x, hx⟩ : ∃ x, (l.getD k 0).toNat = x := ⟨_, rfl⟩
   rw [hx] at hc HT
   by_cases h15 : 15 < x
   ·have HN := hid (rightB_no l k hl (by omega))
    clear hx hl
    go_wp2
    go_ret
    exact ⟨by rw [HN.out]; rfl, rfl⟩
   ·clear hx hl
    go_wp2
    go_round
    case rel => exact ⟨k + 1, by omega, by go_num, hid (by rw [HT.out, HR.out]; simp; omega)⟩
    case measure => simp [intOf]; omega
  ·obtain rfl : k = n := by omega
   have HE : Hid (rightB l = true) := hid (by
    have := HR.out
    rwa [List.take_of_length_le (by rw [H.out.len]; exact Nat.le_refl _)] at this)
   go_wp2
   go_ret
   exact ⟨by rw [HE.out]; rfl, rfl⟩
theorem teller_any (s : ByteArray) (w : World) :
  Calls Tryz.prog 89 #[.string s] w fun e w' => e = .returned (.func (Fn.func 118) #[] #[.pointer (some ⟨w.heap.size, 0, none⟩)]) ∧ w' = w.alloc (.cells #[.string s] 9) := by
 go_enter Tryz.func89, Tryz.ntmps89
 go_wp2
 go_ret
 exact ⟨rfl, rfl⟩
def nibAt (s : ByteArray) (i : Nat) : Nat := if i % 2 = 0 then (s.data.toList.getD (i / 2) 0).toNat / 16 else (s.data.toList.getD (i / 2) 0).toNat % 16
theorem and15 : ∀ x : Fin 256, bits .and .u8 ((x : Nat) : Int) 15 = (((x : Nat) % 16 : Nat) : Int) := by decide +kernel
theorem getD_data (s : ByteArray) (k : Nat) (h : k < s.size) : s.data.toList.getD k 0 = s[k] := by
 have e : k < s.data.toList.length := by simpa using h
 rw [List.getD, List.getElem?_eq_getElem e]; rfl
theorem ret_u8 {a b : Int} (h : a = b) : Ending.returned (.int .u8 a) = .returned (.int .u8 b) := by rw [h]
theorem teller1_any (c : Nat) (s : ByteArray) (i : Nat) (hs : s.size ≤ maxLen) (hi : i / 2 < s.size) (w : World) (hc : w.cell? ⟨c, 0, none⟩ = some (.string s)) :
  Calls Tryz.prog 118 #[.int .i64 i, .pointer (some ⟨c, 0, none⟩)] w fun e w' => e = .returned (.int .u8 (nibAt s i : Nat)) ∧ w = w' := by
 unfold maxLen at hs
 by_cases h2 : i % 2 = 0
 ·have HE : Hid ((s[i / 2].toNat : Int) / 16 = (nibAt s i : Nat)) := hid (by
   unfold nibAt; rw [if_pos h2, getD_data s _ hi]; omega)
  go_enter Tryz.func118, Tryz.ntmps118
  go_wp2
  go_ret
  exact ⟨ret_u8 HE.out, rfl⟩
 ·have HE : Hid (bits .and .u8 (s[i / 2].toNat : Int) 15 = (nibAt s i : Nat)) := hid (by
   unfold nibAt; rw [if_neg h2, getD_data s _ hi]
   exact and15 ⟨s[i / 2].toNat, UInt8.toNat_lt _⟩)
  go_enter Tryz.func118, Tryz.ntmps118
  go_wp2
  go_ret
  exact ⟨ret_u8 HE.out, rfl⟩
theorem cut_zero (a : Option Addr) (n cap : Nat) (w : World) :
  Calls Tryz.prog 136 #[.slice a n cap, .int .i64 0, .int .i64 0] w fun e w' => e = .returned (.slice a 0 0) ∧ w = w' := by
 go_enter Tryz.func136, Tryz.ntmps136
 go_wp2
 go_ret
 exact ⟨rfl, rfl⟩
theorem cut_zero_q (a : Option Addr) (n cap : Nat) (w : World) :
  Calls Tryz.prog 136 #[.slice a n cap, .int .i64 0, .int .i64 0] w fun e w' => e = .returned (.slice a 0 0) ∧ w' = w.drewN 0 := by
 refine (cut_zero a n cap w).mono ?_
 rintro e w' ⟨rfl, rfl⟩
 exact ⟨rfl, rfl⟩
def cutAt (off i j : Nat) : Nat := if j = i then off else off + i
theorem cut_any (b off n cap : Nat) (i j : Nat) (hij : i ≤ j) (hj : j ≤ cap) (_hcap : cap ≤ 2 ^ 63 - 1) (w : World) :
  Calls Tryz.prog 136 #[.slice (some ⟨b, off, none⟩) n cap, .int .i64 i, .int .i64 j] w fun e w' => e = .returned (.slice (some ⟨b, cutAt off i j, none⟩) (j - i) (j - i)) ∧ w = w' := by
 go_enter Tryz.func136, Tryz.ntmps136
 go_wp2
 ·go_ret
  exact ⟨by subst h; simp [cutAt], rfl⟩
 ·go_ret
  exact ⟨by simp [cutAt, h], rfl⟩
theorem cut_one_q (b off n cap : Nat) (h1 : 1 ≤ cap) (w : World) (hcap : cap ≤ 2 ^ 63 - 1) :
  Calls Tryz.prog 136 #[.slice (some ⟨b, off, none⟩) n cap, .int .i64 0, .int .i64 1] w fun e w' => e = .returned (.slice (some ⟨b, off, none⟩) 1 1) ∧ w' = w.drewN 0 := by
 refine (cut_any b off n cap 0 1 (by omega) h1 hcap w).mono ?_
 rintro e w' ⟨rfl, rfl⟩
 exact ⟨by simp [cutAt], rfl⟩
theorem cut_bs (a : Option Addr) (n cap : Nat) (l : List UInt8) (i j : Nat) (hij : i ≤ j) (hj : j ≤ n) (w : World) (h : IsBs w a n cap l) :
  Calls Tryz.prog 136 #[.slice a n cap, .int .i64 i, .int .i64 j] w fun e w' => ∃ a' c', e = .returned (.slice a' (j - i) c') ∧ (IsBs w a' (j - i) c' ((l.drop i).take (j - i)) ∧ c' = j - i) ∧ w = w' := by
 by_cases h0 : n = 0
 ·subst h0
  obtain rfl : j = 0 := by omega
  obtain rfl : i = 0 := by omega
  refine (cut_zero a 0 cap w).mono ?_
  rintro e w' ⟨rfl, rfl⟩
  exact ⟨a, 0, rfl, ⟨⟨Nat.le_refl _, Nat.zero_le _, by simp, fun _ => rfl, fun q hq => absurd hq (Nat.not_lt_zero _)⟩, rfl⟩, rfl⟩
 ·obtain ⟨b, off, rfl, _⟩ := h.at' 0 (by omega)
  refine (cut_any b off n cap i j hij (Nat.le_trans hj h.1) h.2.1 w).mono ?_
  rintro e w' ⟨rfl, rfl⟩
  refine ⟨_, _, rfl, ⟨⟨Nat.le_refl _, by have := h.2.1; have := h.1; omega, ?_, (fun e => by cases e), fun q hq => ?_⟩, rfl⟩, rfl⟩
  ·rw [List.length_take, List.length_drop, h.len]; omega
  ·obtain ⟨b', off', h1, h2, h3⟩ := h.at' (i + q) (by omega)
   simp at h1
   obtain ⟨rfl, rfl⟩ := h1
   refine ⟨b, off + i, by simp [cutAt]; omega, h2, ?_⟩
   have e : ((l.drop i).take (j - i)).getD q 0 = l.getD (i + q) 0 := by
    simp [List.getD, List.getElem?_take_of_lt hq]
   rw [e, Nat.add_assoc]
   exact h3
end Ni
end
section
open Go.RowKit
namespace Ni
def nibsL (s : ByteArray) : List UInt8 := (List.range (2 * s.size)).map fun i => UInt8.ofNat (nibAt s i)
theorem nibAt_lt (s : ByteArray) (i : Nat) : nibAt s i < 16 := by
 unfold nibAt
 have := UInt8.toNat_lt (s.data.toList.getD (i / 2) 0)
 split <;> omega
theorem nibsL_length (s : ByteArray) : (nibsL s).length = 2 * s.size := by simp [nibsL]
theorem nibsL_getD (s : ByteArray) (i : Nat) (h : i < 2 * s.size) : ((nibsL s).getD i 0).toNat = nibAt s i := by
 have := nibAt_lt s i
 simp [nibsL, List.getD, h]
 omega
def Spr (w : World) (s : ByteArray) (k : Nat) (wr : World) : Prop :=
 wr.rowIs (w.heap.size + 1) 5 (2 * s.size) (fun j => .int .u8 (if j < k then nibAt s j else 0 : Nat)) ∧ wr.cell? ⟨w.heap.size, 0, none⟩ = some (.string s) ∧ Below w.heap.size w wr
theorem Spr.next {w wr : World} {s : ByteArray} {k : Nat} (h : Spr w s k wr) (hk : k < 2 * s.size) : Spr w s (k + 1) (wr.setCell ⟨w.heap.size + 1, k, none⟩ (.int .u8 (nibAt s k : Nat))) := by
 refine ⟨(h.1.set k _).congr ?_, ?_, h.2.2.setCell (p := ⟨w.heap.size + 1, k, none⟩) (by simp) _⟩
 ·intro j hj
  by_cases e : j = k
  ·subst e; simp
  ·have : j < k + 1 ↔ j < k := by omega
   simp [e, this]
 ·rw [World.cell?_setCell_other _ _ _ _ (by simp)]
  exact h.2.1
theorem Spr.start (w : World) (s : ByteArray) : Spr w s 0 ((w.alloc (.cells #[.string s] 9)).alloc (.cells (madeCells #[.int .u8 0] (2 * s.size)) 5)) := by
 refine ⟨?_, ?_, ((Below.refl _ _).alloc (Nat.le_refl _) _).alloc (by simp) _⟩
 ·have := World.rowIs_made (w.alloc (.cells #[.string s] 9)) (.int .u8 0) (2 * s.size) 5
  simpa using this
 ·simp
theorem info_u8 : (Tryz.prog.info? 5).map (fun i => (i.zero, i.size, i.bytes)) = some (some (.int .u8 0), 1, 1) := by kernel_rfl
theorem spread_any (s : ByteArray) (hs : s.size ≤ 1000) (w : World) :
  Calls Tryz.prog 63 #[.string s] w (GotBs w (nibsL s)) := by
 obtain ⟨m, hm⟩ : ∃ m, 2 * s.size = m := ⟨_, rfl⟩
 have hmk := run_make_row' (P := Tryz.prog) 51 5 (.int .u8 0) 1 Tryz.underlying51 info_u8 rfl .i64 .i64 m (by omega) (by omega)
 have e : ((m : Nat) : Int) = 2 * (s.size : Int) := by omega
 rw [e] at hmk
 have HS := hid (Spr.start w s)
 rw [hm] at HS
 have HM := hid hm
 have hm2 : m ≤ 2 * s.size := by omega
 clear e hm
 go_enter Tryz.func63, Tryz.ntmps63
 go_wp2_with fail
 refine (teller_any _ _).mono ?_
 rintro e w1 ⟨rfl, rfl⟩
 go_wp2
 clear hmk
 go_loopw [14] (fun i wr => ∃ k : Nat, k ≤ m ∧ i = .int .i64 k ∧ Spr w s k wr) (fun i _ => m - (intOf i).toNat)
 case atStart => exact ⟨0, Nat.zero_le _, rfl, HS.out⟩
 case round =>
  obtain ⟨k, hk, rfl, hS⟩ := hrel
  by_cases hlt : k < m
  ·have hc := hS.2.1
   have hz := hS.1.lt
   have hcell : wr.cell? ⟨w.heap.size + 1, k, none⟩ = some (.int .u8 0) := by
    rw [hS.1.cell (by rw [HM.out]; exact hlt)]; simp
   have hfr := hS.1.frozen k
   go_wp2_with fail
   refine (teller1_any _ s k (by unfold maxLen; omega) (by omega) _ hc).mono ?_
   rintro e w2 ⟨rfl, rfl⟩
   go_wp2
   go_roundw
   case rel => exact ⟨k + 1, by omega, by go_num, hS.next (by rw [HM.out]; exact hlt)⟩
   case measure => simp [intOf]; omega
  ·obtain rfl : k = m := by omega
   have HG : Hid (IsBs wr (some ⟨w.heap.size + 1, 0, none⟩) k k (nibsL s)) := hid (by
    refine IsBs.ofRow (nibsL s) (by unfold maxLen; omega) (by have := hS.1; rw [HM.out] at this; exact this) (by rw [nibsL_length, HM.out]) (fun j hj => ?_)
    rw [if_pos hj, nibsL_getD s j (by rw [HM.out]; exact hj)])
   have hB := hS.2.2
   go_wp2
   go_ret
   exact ⟨_, _, _, rfl, HG.out, hB⟩
def pairsK (l : List UInt8) (k : Nat) : List UInt8 := (List.range k).map fun j => UInt8.ofNat (16 * (l.getD (2 * j) 0).toNat + (l.getD (2 * j + 1) 0).toNat)
theorem pairsK_snoc (l : List UInt8) (k : Nat) : pairsK l (k + 1) = pairsK l k ++ [UInt8.ofNat (16 * (l.getD (2 * k) 0).toNat + (l.getD (2 * k + 1) 0).toNat)] := by
 simp [pairsK, List.range_succ]
theorem pairsK_length (l : List UInt8) (k : Nat) : (pairsK l k).length = k := by simp [pairsK]
theorem wrap16 : ∀ x : Fin 16, IntKind.u8.wrap (((x : Nat) : Int) * 16) = ((x : Nat) : Int) * 16 := by decide +kernel
theorem or_nib : ∀ x y : Fin 16, bits .or .u8 (((x : Nat) : Int) * 16) ((y : Nat) : Int) = ((16 * (x : Nat) + (y : Nat) : Nat) : Int) := by decide +kernel
theorem rightB_getD (l : List UInt8) (h : rightB l = true) (j : Nat) : (l.getD j 0).toNat < 16 := by
 unfold rightB at h
 rw [List.all_eq_true] at h
 by_cases hj : j < l.length
 ·have := h l[j] (List.getElem_mem _)
  simp [List.getD, hj] at this ⊢
  omega
 ·simp [List.getD, hj]
def Prs (w : World) (l : List UInt8) (k : Nat) (wr : World) : Prop :=
 Bu.Is w.heap.size w.heap.size (Lib.byteCells (pairsK l k)) wr ∧ Below w.heap.size w wr
theorem Prs.start (w : World) (l : List UInt8) : Prs w l 0 (w.alloc (.cells #[.pointer none, .slice none 0 0] 153)) :=
 ⟨Bu.fresh (Nat.le_refl _) (by show (w.heap.push _)[w.heap.size]? = _; simp), (Below.refl _ _).alloc (Nat.le_refl _) _⟩
theorem Prs.write {w wr : World} {l : List UInt8} {k : Nat} (h : Prs w l k wr) (hk : k ≤ 1000) (c : Int) (hc : c = ((16 * (l.getD (2 * k) 0).toNat + (l.getD (2 * k + 1) 0).toNat : Nat) : Int)) (hx : (l.getD (2 * k) 0).toNat < 16) (hy : (l.getD (2 * k + 1) 0).toNat < 16) :
  Calls Tryz.prog 153 #[.pointer (some ⟨w.heap.size, 0, none⟩), .int .u8 c] wr fun e w' => e = .returned .nilIface ∧ Prs w l (k + 1) w' := by
 subst hc
 refine (Bu.writeByte _ h.1 (by rw [Lib.byteCells_length, pairsK_length]; omega) h.2.size).mono ?_
 rintro e w' ⟨rfl, h1, h2, _⟩
 refine ⟨rfl, ?_, h.2.trans h2⟩
 rw [pairsK_snoc, Lib.byteCells_append]
 have e : (UInt8.ofNat (16 * (l.getD (2 * k) 0).toNat + (l.getD (2 * k + 1) 0).toNat)).toNat = 16 * (l.getD (2 * k) 0).toNat + (l.getD (2 * k + 1) 0).toNat := by
  simp only [UInt8.toNat_ofNat']; omega
 have e2 : Lib.byteCells [UInt8.ofNat (16 * (l.getD (2 * k) 0).toNat + (l.getD (2 * k + 1) 0).toNat)] = [.int .u8 ((16 * (l.getD (2 * k) 0).toNat + (l.getD (2 * k + 1) 0).toNat : Nat) : Int)] := by
  simp only [Lib.byteCells, List.map_cons, List.map_nil, e]
 rw [e2]
 exact h1
theorem Prs.drew {w wr : World} {l : List UInt8} {k : Nat} (h : Prs w l k wr) : Prs w l k wr.drew := ⟨h.1, h.2.drew⟩
theorem pairs_any (a : Option Addr) (n cap : Nat) (l : List UInt8) (hr : rightB l = true) (h2 : n % 2 = 0) (hn : n ≤ 1000) (w : World) (h : IsBs w a n cap l) :
  Calls Tryz.prog 137 #[.slice a n cap] w fun e w' => e = .returned (.string ⟨(pairsK l (n / 2)).toArray⟩) ∧ Below w.heap.size w w' := by
 have H := hid h
 have HR := hid (rightB_getD l hr)
 have H2 := hid h2
 have HS := hid (Prs.start w l)
 clear h hr h2
 go_enter Tryz.func137, Tryz.ntmps137
 go_wp2
 go_loopw [4] (fun i wr => ∃ k : Nat, 2 * k ≤ n ∧ i = .int .i64 (2 * k) ∧ Prs w l k wr) (fun i _ => n - (intOf i).toNat)
 case atStart => exact ⟨0, Nat.zero_le _, rfl, HS.out⟩
 case round =>
  obtain ⟨k, hk, rfl, hP⟩ := hrel
  by_cases hlt : 2 * k < n
  ·have hlt1 : 2 * k + 1 < n := by have := H2.out; omega
   obtain ⟨b, off, rfl, hb, hc⟩ := H.out.at' (2 * k) hlt
   obtain ⟨b', off', h1, _, hc'⟩ := H.out.at' (2 * k + 1) hlt1
   simp at h1
   obtain ⟨rfl, rfl⟩ := h1
   have hx := HR.out (2 * k)
   have hy := HR.out (2 * k + 1)
   obtain ⟨x, hxe⟩ : ∃ x, (l.getD (2 * k) 0).toNat = x := ⟨_, rfl⟩
   obtain ⟨y, hye⟩ : ∃ y, (l.getD (2 * k + 1) 0).toNat = y := ⟨_, rfl⟩
   have ho := or_nib ⟨x, hxe ▸ hx⟩ ⟨y, hye ▸ hy⟩
   have hw16 := wrap16 ⟨x, hxe ▸ hx⟩
   have HW : Hid (∀ c : Int, c = bits .or .u8 ((x : Int) * 16) (y : Int) → Calls Tryz.prog 153 #[.pointer (some ⟨w.heap.size, 0, none⟩), .int .u8 c] wr.drew fun e w' => e = .returned .nilIface ∧ Prs w l (k + 1) w') := hid (fun c hc => by
    refine hP.drew.write (by omega) _ ?_ hx hy
    rw [hxe, hye, hc]
    exact ho)
   have hcon := hid (HW.out _ rfl)
   have hcon2 : Hid (Calls Tryz.prog 153 #[.pointer (some ⟨w.heap.size, 0, none⟩), .int .u8 (bits .or .u8 (IntKind.u8.wrap ((x : Int) * 16)) (y : Int))] wr.drew fun e w' => e = .returned .nilIface ∧ Prs w l (k + 1) w') := hid (HW.out _ (by rw [show IntKind.u8.wrap ((x : Int) * 16) = (x : Int) * 16 from hw16]))
   clear HW ho hw16
   rw [hxe] at hc hx
   rw [hye] at hc' hy
   rw [← hP.2.cell (p := ⟨b, off + 2 * k, none⟩) hb] at hc
   rw [← hP.2.cell (p := ⟨b, off + (2 * k + 1), none⟩) hb] at hc'
   clear hxe hye
   go_wp2_with fail
   have q1 : (0 : Int) ≤ 2 * (k : Int) := by omega
   have q2 : 2 * (k : Int) < (n : Int) := by omega
   have q3 : (0 : Int) ≤ 2 * (k : Int) + 1 := by omega
   have q4 : 2 * (k : Int) + 1 < (n : Int) := by omega
   have q5 : (2 * (k : Int)).toNat = 2 * k := by omega
   have q6 : (2 * (k : Int) + 1).toNat = 2 * k + 1 := by omega
   have q7 : IntKind.i64.wrap (2 * (k : Int) + 1) = 2 * (k : Int) + 1 := IntWalk.i64_in _ (by omega)
   go_region_with (go_at_call 153; (first | (with_reducible refine hcon.out.mono ?_) | (with_reducible refine hcon2.out.mono ?_)); rintro e w' ⟨rfl, hP2⟩)
   all_goals clear q7 q6 q5
   all_goals go_wp2
   all_goals
    go_roundw
    case rel => exact ⟨k + 1, by omega, by go_num, hP2⟩
    case measure => simp [intOf]; omega
  ·have hkk : k = n / 2 := by have := H2.out; omega
   have HP : Hid (Prs w l (n / 2) wr) := hid (by rw [← hkk]; exact hP)
   clear hkk
   go_wp2_with (go_at_call 103; refine (Bu.text HP.out.1 HP.out.2.size).mono ?_)
   rintro e w2 ⟨rfl, hb2⟩
   go_wp2
   go_ret
   exact ⟨rfl, HP.out.2.trans hb2⟩
end Ni
end
section
open Go.RowKit
namespace Ni
theorem join_any (a : Option Addr) (n cap : Nat) (ls : List (List UInt8)) (hn : n ≤ 1000000) (hL : ls.flatten.length ≤ 1099511627776) (w : World) (h : Cc.IsRows w a n ls) :
  Calls Tryz.prog 138 #[.slice a n cap] w (GotBs w ls.flatten) := by
 have hc := Cc.concat_any a n cap ls hn hL w h
 obtain ⟨r, hr⟩ : ∃ r, ls.flatten = r := ⟨_, rfl⟩
 rw [hr] at hc ⊢
 have HC := hid hc
 clear hc hr hL h
 go_enter Tryz.func138, Tryz.ntmps138
 go_wp2_with fail
 refine HC.out.mono ?_
 rintro e w1 ⟨v, rfl, hown, hb⟩
 obtain ⟨a', cap', rfl, hx⟩ := IsBs.ofOwn hown
 clear hown
 go_wp2
 go_ret
 exact ⟨_, _, _, rfl, hx, hb⟩
def commonN : List UInt8 → List UInt8 → Nat
 | a :: xs, b :: ys => if a = b then commonN xs ys + 1 else 0
 | _, _ => 0
theorem commonN_eq : ∀ (k : Nat) (xs ys : List UInt8), k ≤ xs.length → k ≤ ys.length → (∀ j, j < k → (xs.getD j 0).toNat = (ys.getD j 0).toNat) →
  (k = xs.length ∨ k = ys.length ∨ (xs.getD k 0).toNat ≠ (ys.getD k 0).toNat) → commonN xs ys = k
 | 0, [], _, _, _, _, _ => rfl
 | 0, _ :: _, [], _, _, _, _ => rfl
 | 0, a :: xs, b :: ys, _, _, _, h => by
  have hne : a ≠ b := by
   rintro rfl
   simp at h
  simp [commonN, hne]
 | k + 1, [], _, h, _, _, _ => absurd h (by simp)
 | k + 1, _ :: _, [], _, h, _, _ => absurd h (by simp)
 | k + 1, a :: xs, b :: ys, h1, h2, h3, h4 => by
  have hab : a = b := UInt8.toNat_inj.1 (by simpa using h3 0 (by omega))
  have := commonN_eq k xs ys (by simpa using h1) (by simpa using h2) (fun j hj => by simpa using h3 (j + 1) (by omega)) (by simpa using h4)
  simp [commonN, hab, this]
def Alike (x y : List UInt8) (k : Nat) : Prop := ∀ j, j < k → (x.getD j 0).toNat = (y.getD j 0).toNat
theorem Alike.next {x y : List UInt8} {k : Nat} (h : Alike x y k) (e : (x.getD k 0).toNat = (y.getD k 0).toNat) : Alike x y (k + 1) := fun j hj => by
 by_cases hjk : j = k
 ·subst hjk; exact e
 ·exact h j (by omega)
theorem common_any (a b : Option Addr) (n m c d : Nat) (x y : List UInt8) (hn : n ≤ 1000000) (_hm : m ≤ 1000000) (w : World) (ha : IsBs w a n c x) (hb : IsBs w b m d y) :
  Calls Tryz.prog 116 #[.slice a n c, .slice b m d] w fun e w' => e = .returned (.int .i64 (commonN x y : Nat)) ∧ ∃ q, w' = w.drewN q := by
 have HA := hid ha
 have HB := hid hb
 clear ha hb
 go_enter Tryz.func116, Tryz.ntmps116
 go_wp2
 go_loopw [5] (fun i wr => ∃ k : Nat, k ≤ n ∧ k ≤ m ∧ i = .int .i64 k ∧ Hid (Alike x y k) ∧ ∃ q, wr = w.drewN q) (fun i _ => n - (intOf i).toNat)
 case atStart => exact ⟨0, Nat.zero_le _, Nat.zero_le _, rfl, hid (fun j hj => absurd hj (Nat.not_lt_zero _)), 0, rfl⟩
 case round =>
  obtain ⟨k, hk, hkm, rfl, HK, q, rfl⟩ := hrel
  by_cases hlt : k < n ∧ k < m
  ·obtain ⟨h1, h2⟩ := hlt
   obtain ⟨b1, off1, rfl, _, hc1⟩ := HA.out.at' k h1
   obtain ⟨b2, off2, rfl, _, hc2⟩ := HB.out.at' k h2
   obtain ⟨u, hu⟩ : ∃ u, (x.getD k 0).toNat = u := ⟨_, rfl⟩
   obtain ⟨v, hv⟩ : ∃ v, (y.getD k 0).toNat = v := ⟨_, rfl⟩
   rw [hu] at hc1
   rw [hv] at hc2
   by_cases huv : u = v
   ·subst huv
    have HN := hid (HK.out.next (hu.trans hv.symm))
    clear hu hv
    have hd : decide ((k : Int) < min (n : Int) (m : Int)) = true := decide_eq_true (by omega)
    go_wp2_with fail
    go_quiet (fail)
    go_wp2
    go_roundw
    case rel => exact ⟨k + 1, by omega, by omega, by go_num, HN, (by first | exact ⟨_, rfl⟩ | exact ⟨_, World.drewN_drewN ..⟩)⟩
    case measure => simp [intOf]; omega
   ·have HE : Hid (commonN x y = k) := hid (commonN_eq k x y (by rw [HA.out.len]; exact hk) (by rw [HB.out.len]; exact hkm) HK.out (Or.inr (Or.inr (by rw [hu, hv]; exact huv))))
    have hd : decide ((k : Int) < min (n : Int) (m : Int)) = true := decide_eq_true (by omega)
    have huv2 : ((u : Int) == (v : Int)) = false := by simp; omega
    clear hu hv
    go_wp2_with fail
    go_quiet (fail)
    go_wp2
    go_ret
    exact ⟨by rw [HE.out]; rfl, (by first | exact ⟨_, rfl⟩ | exact ⟨_, World.drewN_drewN ..⟩)⟩
  ·have HE : Hid (commonN x y = k) := hid (commonN_eq k x y (by rw [HA.out.len]; exact hk) (by rw [HB.out.len]; exact hkm) HK.out (by rw [HA.out.len, HB.out.len]; omega))
   have hd : decide ((k : Int) < min (n : Int) (m : Int)) = false := decide_eq_false (by omega)
   go_wp2_with fail
   go_quiet (fail)
   go_wp2
   go_ret
   exact ⟨by rw [HE.out]; rfl, (by first | exact ⟨_, rfl⟩ | exact ⟨_, World.drewN_drewN ..⟩)⟩
theorem rcommon_any (a b : Option Addr) (n m c d : Nat) (x y : List UInt8) (hn : n ≤ 1000000) (_hm : m ≤ 1000000) (w : World) (ha : IsBs w a n c x) (hb : IsBs w b m d y) :
  Calls Tryz.prog 65 #[.slice a n c, .slice b m d] w fun e w' => e = .returned (.int .i64 (commonN x y : Nat)) ∧ ∃ q, w' = w.drewN q := by
 have HA := hid ha
 have HB := hid hb
 clear ha hb
 go_enter Tryz.func65, Tryz.ntmps65
 go_wp2
 go_loopw [5] (fun i wr => ∃ k : Nat, k ≤ n ∧ k ≤ m ∧ i = .int .i64 k ∧ Hid (Alike x y k) ∧ ∃ q, wr = w.drewN q) (fun i _ => n - (intOf i).toNat)
 case atStart => exact ⟨0, Nat.zero_le _, Nat.zero_le _, rfl, hid (fun j hj => absurd hj (Nat.not_lt_zero _)), 0, rfl⟩
 case round =>
  obtain ⟨k, hk, hkm, rfl, HK, q, rfl⟩ := hrel
  by_cases h1 : k < n
  ·by_cases h2 : k < m
   ·obtain ⟨b1, off1, rfl, _, hc1⟩ := HA.out.at' k h1
    obtain ⟨b2, off2, rfl, _, hc2⟩ := HB.out.at' k h2
    obtain ⟨u, hu⟩ : ∃ u, (x.getD k 0).toNat = u := ⟨_, rfl⟩
    obtain ⟨v, hv⟩ : ∃ v, (y.getD k 0).toNat = v := ⟨_, rfl⟩
    rw [hu] at hc1
    rw [hv] at hc2
    have hd : decide ((m : Int) ≤ (k : Int)) = false := decide_eq_false (by omega)
    by_cases huv : u = v
    ·subst huv
     have HN := hid (HK.out.next (hu.trans hv.symm))
     clear hu hv
     go_wp2_with fail
     go_quiet (fail)
     go_wp2
     go_roundw
     case rel => exact ⟨k + 1, by omega, by omega, by go_num, HN, (by first | exact ⟨_, rfl⟩ | exact ⟨_, World.drewN_drewN ..⟩)⟩
     case measure => simp [intOf]; omega
    ·have HE : Hid (commonN x y = k) := hid (commonN_eq k x y (by rw [HA.out.len]; exact hk) (by rw [HB.out.len]; exact hkm) HK.out (Or.inr (Or.inr (by rw [hu, hv]; exact huv))))
     have huv2 : ((u : Int) != (v : Int)) = true := by simp; omega
     clear hu hv
     go_wp2_with fail
     go_quiet (fail)
     go_wp2
     go_ret
     exact ⟨by rw [HE.out]; rfl, (by first | exact ⟨_, rfl⟩ | exact ⟨_, World.drewN_drewN ..⟩)⟩
   ·have HE : Hid (commonN x y = k) := hid (commonN_eq k x y (by rw [HA.out.len]; exact hk) (by rw [HB.out.len]; exact hkm) HK.out (by rw [HA.out.len, HB.out.len]; omega))
    have hd : decide ((m : Int) ≤ (k : Int)) = true := decide_eq_true (by omega)
    go_wp2_with fail
    go_quiet (fail)
    go_wp2
    go_ret
    exact ⟨by rw [HE.out]; rfl, (by first | exact ⟨_, rfl⟩ | exact ⟨_, World.drewN_drewN ..⟩)⟩
  ·obtain rfl : k = n := by omega
   have HE : Hid (commonN x y = k) := hid (commonN_eq k x y (by rw [HA.out.len]; exact hk) (by rw [HB.out.len]; exact hkm) HK.out (by rw [HA.out.len]; omega))
   go_wp2
   go_ret
   exact ⟨by rw [HE.out]; rfl, (by first | exact ⟨_, rfl⟩ | exact ⟨_, World.drewN_drewN ..⟩)⟩
end Ni
end
end Go.Proofs.YtooklabipgmolaaGreatDoor
