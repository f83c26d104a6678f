/-
 slices.IndexFunc and slices.DeleteFunc over texts, with root's own functions.
-/
import Derived.Test.YtooklabipgmolaaGreatDoorMr25
import Derived.Test.YtooklabipgmolaaGreatDoorMr22
import Derived.Lib.SliceRun
import Derived.Test.YtooklabipgmolaaGreatDoorMr24
import Derived.Maps.AppendAt
import Derived.Laws.AppendOwnNone
open Go.Lib (hid)
set_option linter.unusedSimpArgs false
set_option linter.unusedVariables false
set_option maxHeartbeats 40000000
set_option maxRecDepth 100000
namespace Go.Proofs.YtooklabipgmolaaGreatDoor
section
open Go.RowKit
namespace Tm
open Tr Ni Pk Ky No Rf Rl
open Sm (Tab)
theorem str_mem {xs : List ByteArray} {j : Nat} (h : j < xs.length) : xs.getD j eB ∈ xs := by
 rw [List.getD_eq_getElem?_getD, List.getElem?_eq_getElem h]
 exact List.getElem_mem h
def FirstP (P : ByteArray → Bool) (xs : List ByteArray) (i : Int) : Prop :=
 (i = -1 ∧ ∀ j, j < xs.length → P (xs.getD j eB) = false) ∨ ∃ k : Nat, i = k ∧ k < xs.length ∧ P (xs.getD k eB) = true ∧ ∀ j, j < k → P (xs.getD j eB) = false
theorem index_unread (P : ByteArray → Bool) (c : Nat) (xs : List ByteArray) (a : Option Addr) (n cap : Nat) (w : World) (h : IsSt w a n cap xs)
  (hel : ∀ s ∈ xs, ∀ wz, Below w.heap.size w wz → Calls Tryz.prog 93 #[.string s, .pointer (some ⟨c, 0, none⟩)] wz fun e w' => e = .returned (.bool (P s)) ∧ Below wz.heap.size wz w') :
  Calls Tryz.prog 45 #[.slice a n cap, .func (Fn.func 93) #[] #[.pointer (some ⟨c, 0, none⟩)]] w fun e w' => ∃ i : Int, e = .returned (.int .i64 i) ∧ FirstP P xs i ∧ Below w.heap.size w w' := by
 have hm := h.2.1
 have hnc := h.1
 have hl := h.len
 unfold maxLen at hm
 have H := hid h
 have HL := hid hl
 have HE := hid hel
 clear h hl hel
 go_enter Tryz.func45, Tryz.ntmps45
 go_wp2
 go_loopw [8] (fun i wr => ∃ j : Nat, j ≤ n ∧ i = .int .i64 j ∧ Hid (∀ q, q < j → P (xs.getD q eB) = false) ∧ Hid (Below w.heap.size w wr)) (fun i _ => n - (intOf i).toNat)
 case atStart => exact ⟨0, Nat.zero_le _, rfl, hid (fun q hq => absurd hq (Nat.not_lt_zero _)), hid (Below.refl _ _)⟩
 case round =>
  obtain ⟨j, hj, rfl, HJ, HB⟩ := hrel
  by_cases hlt : j < n
  ·obtain ⟨b, off, rfl, hblt, hcj⟩ := H.out.at' j hlt
   have hc' := (Below.cell (p := ⟨b, off + j, none⟩) HB.out hblt).trans hcj
   have HM : Hid (j < xs.length) := hid (by rw [HL.out]; exact hlt)
   have H1 := hid (HE.out (xs.getD j eB) (str_mem HM.out) wr HB.out)
   obtain ⟨F, hF⟩ : ∃ F, P (xs.getD j eB) = F := ⟨_, rfl⟩
   rw [hF] at H1
   have HF := hid hF
   obtain ⟨K, hK⟩ : ∃ K, xs.getD j eB = K := ⟨_, rfl⟩
   rw [hK] at H1 hc'
   clear hK hcj hF
   go_wp2_with fail
   refine H1.out.mono ?_
   rintro e w5 ⟨rfl, hb5⟩
   have HB5 := hid (bst HB.out hb5)
   clear hb5 H1 HB hc'
   cases F with
   | false =>
    have HJ' : Hid (∀ q, q < j + 1 → P (xs.getD q eB) = false) := hid (fun q hq => by
     by_cases e : q = j
     ·rw [e]; exact HF.out
     ·exact HJ.out q (by omega))
    clear HF
    go_wp2
    go_roundw
    case rel => exact ⟨j + 1, by omega, by go_num, HJ', HB5⟩
    case measure => simp [intOf]; omega
   | true =>
    go_wp2
    go_ret
    exact ⟨(j : Int), rfl, .inr ⟨j, rfl, HM.out, HF.out, HJ.out⟩, HB5.out⟩
  ·obtain rfl : j = n := by omega
   go_wp2
   go_ret
   exact ⟨-1, rfl, .inl ⟨rfl, by rw [HL.out]; exact HJ.out⟩, HB.out⟩
theorem index_load (P : ByteArray → Bool) (c : Nat) (xs : List ByteArray) (a : Option Addr) (n cap : Nat) (w : World) (h : IsSt w a n cap xs)
  (hel : ∀ s ∈ xs, ∀ wz, Below w.heap.size w wz → Calls Tryz.prog 46 #[.string s, .pointer (some ⟨c, 0, none⟩)] wz fun e w' => e = .returned (.bool (P s)) ∧ Below wz.heap.size wz w') :
  Calls Tryz.prog 45 #[.slice a n cap, .func (Fn.func 46) #[] #[.pointer (some ⟨c, 0, none⟩)]] w fun e w' => ∃ i : Int, e = .returned (.int .i64 i) ∧ FirstP P xs i ∧ Below w.heap.size w w' := by
 have hm := h.2.1
 have hnc := h.1
 have hl := h.len
 unfold maxLen at hm
 have H := hid h
 have HL := hid hl
 have HE := hid hel
 clear h hl hel
 go_enter Tryz.func45, Tryz.ntmps45
 go_wp2
 go_loopw [8] (fun i wr => ∃ j : Nat, j ≤ n ∧ i = .int .i64 j ∧ Hid (∀ q, q < j → P (xs.getD q eB) = false) ∧ Hid (Below w.heap.size w wr)) (fun i _ => n - (intOf i).toNat)
 case atStart => exact ⟨0, Nat.zero_le _, rfl, hid (fun q hq => absurd hq (Nat.not_lt_zero _)), hid (Below.refl _ _)⟩
 case round =>
  obtain ⟨j, hj, rfl, HJ, HB⟩ := hrel
  by_cases hlt : j < n
  ·obtain ⟨b, off, rfl, hblt, hcj⟩ := H.out.at' j hlt
   have hc' := (Below.cell (p := ⟨b, off + j, none⟩) HB.out hblt).trans hcj
   have HM : Hid (j < xs.length) := hid (by rw [HL.out]; exact hlt)
   have H1 := hid (HE.out (xs.getD j eB) (str_mem HM.out) wr HB.out)
   obtain ⟨F, hF⟩ : ∃ F, P (xs.getD j eB) = F := ⟨_, rfl⟩
   rw [hF] at H1
   have HF := hid hF
   obtain ⟨K, hK⟩ : ∃ K, xs.getD j eB = K := ⟨_, rfl⟩
   rw [hK] at H1 hc'
   clear hK hcj hF
   go_wp2_with fail
   refine H1.out.mono ?_
   rintro e w5 ⟨rfl, hb5⟩
   have HB5 := hid (bst HB.out hb5)
   clear hb5 H1 HB hc'
   cases F with
   | false =>
    have HJ' : Hid (∀ q, q < j + 1 → P (xs.getD q eB) = false) := hid (fun q hq => by
     by_cases e : q = j
     ·rw [e]; exact HF.out
     ·exact HJ.out q (by omega))
    clear HF
    go_wp2
    go_roundw
    case rel => exact ⟨j + 1, by omega, by go_num, HJ', HB5⟩
    case measure => simp [intOf]; omega
   | true =>
    go_wp2
    go_ret
    exact ⟨(j : Int), rfl, .inr ⟨j, rfl, HM.out, HF.out, HJ.out⟩, HB5.out⟩
  ·obtain rfl : j = n := by omega
   go_wp2
   go_ret
   exact ⟨-1, rfl, .inl ⟨rfl, by rw [HL.out]; exact HJ.out⟩, HB.out⟩
theorem under_strs : Tryz.prog.underlying 30 = some (.slice (Tryz.prog.elem 30)) := by kernel_rfl
theorem size_str (w : World) : (sizeOf (Tryz.prog.elem 30)).run Tryz.prog w = .ok 1 w := by kernel_rfl
theorem zero_strs (w : World) : (zeroValue (Tryz.prog.elem 30)).run Tryz.prog w = .ok (.string eB) w := by kernel_rfl
theorem strs_own {w : World} {B g n cap : Nat} {xs : List Value} (h : w.ownsRow B 9 1 (.slice (some ⟨g, 0, none⟩) n cap) n xs) : ∃ cur, Rg.Own w g cur 9 ∧ cur.size = cap ∧ n ≤ cap ∧ cap ≤ maxLen ∧ B ≤ g := by
 obtain ⟨h1, h2⟩ := h
 rcases h2 with ⟨h2, _⟩ | ⟨g', cap', cur, e, hg, hh, hnc, hcm, hsz, htk⟩
 ·cases h2
 ·injection e with e1 e2 e3
  injection e1 with e1
  injection e1 with e1
  subst e1 e3
  exact ⟨cur, ⟨(Array.getElem?_eq_some_iff.1 hh).1, hh⟩, by omega, hnc, hcm, hg⟩
theorem wpl_clear_strs {ops : Array Oper} {rest : List Oper} {o : Oper} {a : Go.Act} {w : World} {Q : Exit → Go.Act → World → Prop} {g cap n : Nat} {cur : Array Value} (hgd : o.guard = none)
  (ho : ∃ s, o.op = .call { callee := .builtin .clear, args := #[s], argTypes := #[30] } ∧ a.eval s = .slice (some ⟨g, 0, none⟩) n cap) (hd : o.dst = none) (h0 : 0 < n)
  (hO : Rg.Own w g cur 9) (hs : cur.size = cap) (hn : n ≤ cap) (H : ∀ w' cur', Rg.Own w' g cur' 9 → cur'.size = cap → Rg.Upd w g w' → wpList Tryz.prog ops Q rest a w') : wpList Tryz.prog ops Q (o :: rest) a w := by
 obtain ⟨s, ho, hx⟩ := ho
 refine wpList_plain hgd fun K hK => ?_
 have hr := Lib.run_clear_slice (P := Tryz.prog) w 30 (Tryz.prog.elem 30) o.type (.string eB) under_strs zero_strs rfl rfl g 0 n cap h0 (fun j hj => by
  rw [Nat.zero_add, cell_of_row w g _ _ _ _ hO.2, Array.getElem?_eq_getElem (by omega)]
  rfl) (fun j hj => own_free hO)
 obtain ⟨cs', h1, h2, _⟩ := own_setCells (List.replicate n (.string eB)) 0 w cur hO
 unfold Oper.wp execOp
 simp only [ho, resolve, invoke, builtin, Sem.run_bind, Sem.run_pure, Result.andThen_ok, List.map_toArray, List.map_cons, List.map_nil, hx, hr]
 refine hK _ _ ?_
 rw [show a.put o.dst (.tuple #[]) = a by rw [hd]; rfl]
 exact H _ cs' h1 (by rw [h2, hs]) (upd_setCells g (List.replicate n (.string eB)) 0 w)
theorem run_from0 {ev : Operand → Value} {o : Oper} {w : World} {a : Option Addr} {n c : Nat} (ho : ∃ x lo, o.op = .slice 30 x (some lo) none none ∧ ev x = .slice a n c ∧ ev lo = .int .i64 0) (hc : c ≠ 0) : (execOp ev o).run Tryz.prog w = .ok (.value (.slice a n c)) w := by
 have h := op_from (P := Tryz.prog) (t := 30) (a := a) (n := n) (c := c) (i := 0) (ev := ev) (o := o) (w := w) under_strs size_str (Nat.zero_le _) ho
 have e : fromA a c 0 = a := by
  unfold fromA
  rw [if_neg (by omega)]
  cases a <;> simp [Addr.add]
 rw [e] at h
 exact h
theorem delete_texts (P : ByteArray → Bool) (c : Nat) (xs : List ByteArray) (hxn : xs.length ≤ 1000) (B : Nat) (v : Value) (w : World) (h : w.ownsRow B 9 1 v xs.length (xs.map Value.string)) (hB : B ≤ w.heap.size)
  (hel : ∀ s ∈ xs, ∀ wz, Below B w wz → w.heap.size ≤ wz.heap.size → (∀ k, k < w.heap.size → v.ownBlock ≠ some k → wz.heap[k]? = w.heap[k]?) → Calls Tryz.prog 93 #[.string s, .pointer (some ⟨c, 0, none⟩)] wz fun e w' => e = .returned (.bool (P s)) ∧ Below wz.heap.size wz w')
  (hall : (∀ s ∈ xs, P s = false) ∨ ∀ s ∈ xs, P s = true) :
  Calls Tryz.prog 91 #[v, .func (Fn.func 93) #[] #[.pointer (some ⟨c, 0, none⟩)]] w fun e w' => ∃ v', e = .returned v' ∧ w'.ownsRow B 9 1 v' (xs.filter fun s => !P s).length ((xs.filter fun s => !P s).map Value.string) ∧ Below B w w' := by
 obtain ⟨a, n, cap, rfl, hst⟩ : ∃ a n cap, v = .slice a n cap ∧ IsSt w a n cap xs := by
  obtain ⟨a, c, e, hb⟩ := IsSt.ofOwn h
  exact ⟨a, _, c, e, hb⟩
 have hl := hst.len
 rw [hl] at h hxn
 have HX := hid (index_unread P c xs a n cap w hst (fun s hs wz hb => hel s hs wz (hb.mono hB) hb.size fun k hk _ => hb.block k hk))
 have H := hid h
 have HL := hid hl
 have HSt := hid hst
 have HEl := hid hel
 have HAll := hid hall
 have hnc := hst.1
 have hcm := hst.2.1
 unfold maxLen at hcm
 clear h hl hst hel hall
 go_enter Tryz.func91, Tryz.ntmps91
 go_wp2_with fail
 refine HX.out.mono ?_
 rintro e w1 ⟨r, rfl, hr, hb1⟩
 have HB1 := hid hb1
 clear HX hb1
 rcases hr with ⟨rfl, hno⟩ | ⟨i, rfl, hi, hyes, hno⟩
 ·have HE : Hid (∃ v', Ending.returned (.slice a n cap) = .returned v' ∧ w1.ownsRow B 9 1 v' (xs.filter fun s => !P s).length ((xs.filter fun s => !P s).map Value.string) ∧ Below B w w1) := hid (by
   have e1 : (xs.filter fun s => !P s) = xs := List.filter_eq_self.2 fun s hs => by
    obtain ⟨j, hj, rfl⟩ := List.getElem_of_mem hs
    have := hno j hj
    rw [show xs.getD j eB = xs[j] by simp [List.getD, hj]] at this
    rw [this]; rfl
   rw [e1, HL.out]
   exact ⟨_, rfl, row_keep H.out HB1.out, HB1.out.mono hB⟩)
  clear hno
  go_wp2
  go_ret
  exact HE.out
 ·have hn0 : 0 < n := by rw [← HL.out]; omega
  have hyall : ∀ s ∈ xs, P s = true := by
   rcases HAll.out with h1 | h1
   ·have := h1 (xs.getD i eB) (str_mem hi)
    rw [hyes] at this
    cases this
   ·exact h1
  obtain rfl : i = 0 := by
   by_cases h0 : i = 0
   ·exact h0
   ·have h2 := hno 0 (by omega)
    rw [hyall _ (str_mem (by omega))] at h2
    cases h2
  obtain ⟨g, rfl⟩ : ∃ g, a = some ⟨g, 0, none⟩ := by
   rcases H.out.2 with ⟨h1, h2⟩ | ⟨g, _, _, h1, _⟩
   ·omega
   ·injection h1 with h1
    exact ⟨g, h1⟩
  have HY := hid hyall
  have HE : Hid ((xs.filter fun s => !P s) = []) := hid (List.filter_eq_nil_iff.2 fun s hs => by rw [hyall s hs]; decide)
  clear hno hyes hyall hi
  go_wp2_with fail
  go_loopw [5, 6] (fun vi vj wr => ∃ j : Nat, vi = .int .i64 0 ∧ vj = .int .i64 j ∧ 1 ≤ j ∧ j ≤ n ∧ Hid (Below w.heap.size w wr)) (fun _ vj _ => n - (intOf vj).toNat)
  case atStart => exact ⟨1, rfl, by go_num, Nat.le_refl _, hn0, HB1⟩
  case round =>
   obtain ⟨j, rfl, rfl, hj1, hj, HB⟩ := hrel
   clear HB1
   by_cases hlt : j < n
   ·have hji : (j : Int) < n := by omega
    obtain ⟨b, off, hbo, hblt, hcj⟩ := HSt.out.at' j hlt
    injection hbo with hbo
    injection hbo with hb1 hb2
    subst hb1 hb2
    have hc' := (Below.cell (p := ⟨g, 0 + j, none⟩) HB.out hblt).trans hcj
    rw [Nat.zero_add] at hc'
    have hm : xs.getD j eB ∈ xs := str_mem (by rw [HL.out]; exact hlt)
    have H1 := hid (HEl.out (xs.getD j eB) hm wr (HB.out.mono hB) HB.out.size fun k hk _ => HB.out.block k hk)
    rw [HY.out _ hm] at H1
    obtain ⟨K, hK⟩ : ∃ K, xs.getD j eB = K := ⟨_, rfl⟩
    rw [hK] at H1 hc'
    clear hK hcj hm
    go_wp2_with fail
    refine H1.out.mono ?_
    rintro e w5 ⟨rfl, hb5⟩
    have HB5 := hid (bst HB.out hb5)
    clear hb5 H1 HB hc'
    go_wp2
    go_roundw
    case rel => exact ⟨j + 1, rfl, by go_num, by omega, by omega, HB5⟩
    case measure => simp [intOf]; omega
   ·obtain rfl : j = n := by omega
    have HR := hid (row_keep H.out HB.out)
    obtain ⟨cur, hO, hsz, hn', hcm', hg⟩ := strs_own HR.out
    have hc0 : cap ≠ 0 := by omega
    have HO := hid hO
    clear hO hcm'
    go_wp2_with (first
     | (refine Rg.run rfl _ _ (run_from0 ⟨_, _, rfl, rfl, rfl⟩ hc0) ?_)
     | (refine wpl_clear_strs rfl ⟨_, rfl, rfl⟩ rfl hn0 HO.out hsz hn' ?_; intro w6 cur6 hO6 hs6 hu6; have HO6 := hid hO6; have HU6 := hid hu6; clear hO6 hu6)
     | (refine Rg.run rfl _ _ (op_upto (j := 0) under_strs size_str (Nat.zero_le _) ⟨_, _, rfl, rfl, rfl⟩) ?_))
    go_ret
    refine ⟨_, rfl, ?_, HU6.out.below (HB.out.mono hB) hg⟩
    rw [HE.out]
    exact ⟨rfl, .inr ⟨g, cap, cur6, rfl, hg, HO6.out.2, Nat.zero_le _, by unfold maxLen; omega, by omega, by simp⟩⟩
end Tm
end
section
open Go.RowKit
namespace Tm
open Tr Ni Pk Ky No Rf Rl
open Sm (Tab)
theorem kids_own (N : Nd) (a : Option Addr) (n c : Nat) (hl : N.ks.length = 16) (w : World) : Calls Tryz.prog 92 #[.agg (ndC N a n c)] w (GotS w (kidsL N.ks)) := by
 obtain ⟨i0, hi, hz0, hz1, hz2⟩ := info_st_parts
 have HI : Hid (_ ∧ _ ∧ _ ∧ _) := hid ⟨hi, hz0, hz1, hz2⟩
 have HO : Hid (OwnN (w.alloc (.cells (ndC N a n c) 57)) w.heap.size N a n c) := hid (Rg.Own.new _ _ _)
 have HL := hid hl
 clear hi hz0 hz1 hz2 hl
 go_enter Tryz.func92, Tryz.ntmps92
 go_wp2_with (refine Rg.run rfl _ _ (op_load_ks HO.out HL.out ⟨_, rfl, rfl⟩) ?_)
 go_loopw [3, 8] (fun v0 i wr => ∃ (j : Nat) (v : Value), v = v0 ∧ j ≤ 16 ∧ i = .int .i64 j ∧ Hid (wr.ownsRow (w.heap.size + 1) 9 1 v (kidsL (N.ks.take j)).length ((kidsL (N.ks.take j)).map Value.string)) ∧ Below (w.heap.size + 1) (w.alloc (.cells (ndC N a n c) 57)) wr) (fun _ i _ => 16 - (intOf i).toNat)
 case atStart => exact ⟨0, _, rfl, Nat.zero_le _, rfl, hid (World.ownsRow_nil _ _ _ _), Below.refl _ _⟩
 case round =>
  obtain ⟨j, v, hv, hj, rfl, HR, hB⟩ := hrel
  subst hv
  have hsz : w.heap.size + 1 ≤ wr.heap.size := by have := hB.size; simp at this; omega
  by_cases hlt : j < 16
  ·have HS := hid (kidsL_snoc N.ks j (by rw [HL.out]; exact hlt))
   have hkl := kidsL_len N.ks j
   obtain ⟨L, hL⟩ : ∃ L, kidsL (N.ks.take j) = L := ⟨_, rfl⟩
   rw [hL] at HS hkl HR
   clear hL
   by_cases hk : (N.ks.getD j eB).size = 0
   ·have HS' : Hid (kidsL (N.ks.take (j + 1)) = L) := hid (by rw [HS.out, if_neg (by simpa using hk), List.append_nil])
    have HE : Hid (N.ks.getD j eB = eB) := hid (size_zero hk)
    clear hk
    go_wp2_with (refine Rg.run rfl (.string (N.ks.getD j eB)) _ (op_index_ks HL.out hlt ⟨_, _, rfl, rfl, rfl⟩) ?_; rw [HE.out])
    go_roundw
    case rel => exact ⟨j + 1, _, rfl, by omega, by go_num, by rw [HS'.out]; exact HR, hB⟩
    case measure => simp [intOf]; omega
   ·have HS' : Hid (kidsL (N.ks.take (j + 1)) = L ++ [N.ks.getD j eB]) := hid (by rw [HS.out, if_pos hk])
    have hne := Ni.not_empty (s := N.ks.getD j eB) (by omega)
    obtain ⟨K, hK⟩ : ∃ K, N.ks.getD j eB = K := ⟨_, rfl⟩
    have HK := hid hK
    rw [hK] at hne HS'
    clear hK hk HS
    go_wp2_with (first
     | (refine Rg.run rfl (.string (N.ks.getD j eB)) _ (op_index_ks HL.out hlt ⟨_, _, rfl, rfl, rfl⟩) ?_; rw [HK.out])
     | (at_builtin; refine wpList_append_own _ rfl _ _ 30 rfl (w.heap.size + 1) 9 i0 (.string ⟨#[]⟩) 1 16 Tryz.underlying30 HI.out.1 HI.out.2.1 HI.out.2.2.1 HI.out.2.2.2 rfl (by decide) _ _ _ rfl (HR.out.alloc _) ⟨wr.heap.size, 0, none⟩ 1 1 [.string K] rfl rfl ?d1 ?d2 ?d3 ?d4 ?d5 ?_))
    case d1 => exact Bu.cell_one_new' _ _ _ _
    case d2 => intro u hu; simp at hu; subst hu; rfl
    case d3 => unfold maxLen; omega
    case d4 => omega
    case d5 => simp; omega
    intro v' w2 hown2 hgrow _
    have hlt' := HR.out.lt
    go_wp2
    go_roundw
    case rel => exact ⟨j + 1, _, rfl, by omega, by go_num, hid (by rw [HS'.out, List.length_append, List.map_append]; exact hown2), (hB.alloc hsz _).grown hgrow (by simp; omega) (fun g hg => (hlt' g hg).1)⟩
    case measure => simp [intOf]; omega
  ·obtain rfl : j = 16 := by omega
   have hO := HR.out
   rw [List.take_of_length_le (by rw [HL.out]; exact Nat.le_refl _)] at hO
   have HO' : Hid (GotS w (kidsL N.ks) (.returned v) wr) := hid ⟨_, rfl, owns_le hO (Nat.le_succ _), of_al hB⟩
   clear hO
   go_wp2
   go_ret
   exact HO'.out
theorem unread1_any {M : Mp} {w : World} {b n : Nat} {f : Fs} {D : DataW Value} (hS : ShS M w b f n D) (c : Nat) (hc : w.cell? ⟨c, 0, none⟩ = some (.map (some b))) (s : ByteArray) (hs : s.size ≤ 1000000) :
  Calls Tryz.prog 93 #[.string s, .pointer (some ⟨c, 0, none⟩)] w fun e w' => e = .returned (.bool (gone f s)) ∧ Below w.heap.size w w' := by
 have hs' : s.size ≤ maxLen := by unfold maxLen; omega
 have HB0 := hid (own_bodyA w w.heap.size rfl)
 have HOw := hid hS.own
 cases hf : f s with
 | none =>
  have HH := hid (hS.none_ s hs' hf)
  have HG : Hid (gone f s = true) := hid (by unfold gone; rw [hf])
  rw [HG.out]
  clear hS hf HG
  go_enter Tryz.func93, Tryz.ntmps93
  go_wp2_with (first
   | (refine Rg.run rfl _ _ (op_look0 HOw.out hs' HH.out ⟨_, _, rfl, rfl, rfl⟩) ?_)
   | (refine Rg.run rfl _ _ (run_alloc_body _ _ _ w.heap.size rfl rfl) ?_)
   | (refine wpl_store_body HB0.out rfl eB none 0 rfl _ _ rfl rfl rfl rfl ?_; intro w1 hO1 hu1; have HB1 : Hid (Below w.heap.size w w1) := hid (hu1.below (al1 _ _) (Nat.le_refl _)); clear hO1 hu1))
  go_ret
  exact ⟨rfl, HB1.out⟩
 | some x =>
  obtain ⟨e, t, lv⟩ := x
  obtain ⟨hh, p, _, hat⟩ := hS.some_ s e t lv hs' hf
  have HH := hid hh
  have HA := hid hat
  have HG : Hid (gone f s = decide (0 < lv)) := hid (by unfold gone; rw [hf])
  rw [HG.out]
  obtain ⟨g, hg⟩ : ∃ g, decide (0 < lv) = g := ⟨_, rfl⟩
  have hg2 : decide ((0 : Int) < (lv : Int)) = g := by rw [← hg]; simp
  rw [hg]
  clear hS hf HG hh hat
  go_enter Tryz.func93, Tryz.ntmps93
  go_wp2_with (first
   | (refine Rg.run rfl _ _ (op_look2 HOw.out hs' HH.out HA.out ⟨_, _, rfl, rfl, rfl⟩) ?_)
   | (refine Rg.run rfl _ _ (run_alloc_body _ _ _ w.heap.size rfl rfl) ?_)
   | (refine wpl_store_body HB0.out rfl e p lv rfl _ _ rfl rfl rfl rfl ?_; intro w1 hO1 hu1; have c2 : w1.cell? ⟨w.heap.size, 2, none⟩ = some (.int .i64 lv) := own_cell (j := 2) hO1 rfl; have HB1 : Hid (Below w.heap.size w w1) := hid (hu1.below (al1 _ _) (Nat.le_refl _)); clear hO1 hu1))
  go_ret
  exact ⟨rfl, HB1.out⟩
theorem get_tree {t : T} (hx : Whl t) (hn : t ≠ .nil) (w : World) : Calls Tryz.prog 90 #[.string (encT t)] w fun e w' => ∃ a n c, e = .returned (.tuple #[.agg (ndC (nodeT t) a n c), .int .i64 0]) ∧ IsBs w' a n c (nodeT t).p ∧ Below w.heap.size w w' := by
 obtain ⟨L, hL, hg⟩ := hx.good
 obtain ⟨h1, h2, h3, _⟩ := tree_node hg hL hx.fine hn hx.ns
 have hgp : getP (encT t).data.toList = some (nodeT t) := by
  rw [h2]
  show getP (putP (nodeT t)).toArray.toList = _
  exact get_put (nodeT_length t) h1
 refine (nget_any (encT t) (by omega) w).mono ?_
 rintro e w' ⟨N, a, n, c, er, rfl, hor, hbs, _, hb⟩
 rw [hgp] at hor
 rcases hor with ⟨rfl, hN⟩ | ⟨_, _, hN⟩
 ·obtain rfl := Option.some.inj hN
  exact ⟨a, n, c, rfl, hbs.1, hb⟩
 ·cases hN
theorem unread_any {M : Mp} {w : World} {b n : Nat} {f : Fs} {D : DataW Value} (hS : ShS M w b f n D) {t : T} (hx : Whl t) (hn : t ≠ .nil) (hall : (∀ u ∈ kidsT t, gone f (ref u) = false) ∨ ∀ u ∈ kidsT t, gone f (ref u) = true) :
  Calls Tryz.prog 68 #[.map (some b), .string (encT t)] w (GotS w (((kidsT t).map ref).filter fun s => !gone f s)) := by
 have hmf : ∀ (fn : Fn) (first cap : Array Value) (w : World), (Instr.makeFunc fn first cap).run Tryz.prog w = .ok (.func fn first cap) w := fun _ _ _ _ => rfl
 obtain ⟨L, hL, hg⟩ := hx.good
 have hks := (tree_node hg hL hx.fine hn hx.ns).2.2.2.2.2
 have hkr := kids_refs hg hL hx.fine
 have hkl := kids_len t
 have hsz : ∀ s ∈ (kidsT t).map ref, s.size ≤ 100 := fun s hs => hks s (by rw [← hkr] at hs; exact (List.mem_filter.1 hs).1)
 have hall' : (∀ s ∈ (kidsT t).map ref, gone f s = false) ∨ ∀ s ∈ (kidsT t).map ref, gone f s = true := hall.imp (fun h s hs => by
  obtain ⟨u, hu, rfl⟩ := List.mem_map.1 hs
  exact h u hu) (fun h s hs => by
  obtain ⟨u, hu, rfl⟩ := List.mem_map.1 hs
  exact h u hu)
 obtain ⟨w1, hw1⟩ : ∃ w1, w1 = w.alloc (.cells #[.map (some b)] 79) := ⟨_, rfl⟩
 have hb1 : Below w.heap.size w w1 := by rw [hw1]; exact al1 _ _
 have hc1 : w1.cell? ⟨w.heap.size, 0, none⟩ = some (.map (some b)) := by rw [hw1]; exact cell_box w _ _
 have hlt := hS.lt
 have HGt := hid (get_tree hx hn w1)
 have hK : ∀ a' n' c' w2, Calls Tryz.prog 92 #[.agg (ndC (nodeT t) a' n' c')] w2 (GotS w2 ((kidsT t).map ref)) := fun a' n' c' w2 => by
  have := kids_own (nodeT t) a' n' c' (nodeT_length t) w2
  rw [hkr] at this
  exact this
 have HK := hid hK
 have HD : Hid (∀ w4 v w5, Below w1.heap.size w1 w4 → w5.ownsRow w4.heap.size 9 1 v ((kidsT t).map ref).length (((kidsT t).map ref).map Value.string) → Below w4.heap.size w4 w5 → Calls Tryz.prog 91 #[v, .func (Fn.func 93) #[] #[.pointer (some ⟨w.heap.size, 0, none⟩)]] w5 fun e w' => GotS w (((kidsT t).map ref).filter fun s => !gone f s) e w') := hid (fun w4 v w5 hb14 h5 hb45 => by
  have hs1 := hb1.size
  have hs4 := hb14.size
  have hs45 := hb45.size
  have hg1 := World.block_lt_of_cell? w1 _ hc1
  refine (delete_texts (gone f) w.heap.size ((kidsT t).map ref) (by rw [List.length_map]; omega) w4.heap.size v w5 h5 hs45 (fun s hs wz hbz _ _ => ?_) hall').mono ?_
  ·have h1z : Below w1.heap.size w1 wz := (hb14.trans (hb45.mono hs4)).trans (hbz.mono hs4)
   exact unread1_any ((hS.below hb1 hlt).below h1z (by omega)) w.heap.size ((h1z.cell (p := ⟨w.heap.size, 0, none⟩) hg1).trans hc1) s (by have := hsz s hs; omega)
  ·rintro e w6 ⟨v', rfl, h6, hb6⟩
   exact ⟨v', rfl, owns_le h6 (by omega), ((hb1.trans (hb14.mono hs1)).trans (hb45.mono (by omega))).trans (hb6.mono (by omega))⟩)
 have HW : Hid (_ = _) := hid hw1
 have HNl := hid (nodeT_length t)
 obtain ⟨N, hN⟩ : ∃ N, nodeT t = N := ⟨_, rfl⟩
 rw [hN] at HGt HK HNl
 obtain ⟨E, hE⟩ : ∃ E, encT t = E := ⟨_, rfl⟩
 rw [hE] at HGt ⊢
 clear hE hN hK hw1 hb1 hc1 hlt hall hall' hsz hkl hkr hks hg hL hS hx hn
 go_enter Tryz.func68, Tryz.ntmps68
 go_wp2_with (first
  | (rw [← HW.out]))
 refine HGt.out.mono ?_
 rintro e w2 ⟨na, nn, nc, rfl, _, hb2⟩
 have hNd : OwnN (w2.alloc (.cells (ndC nd0 none 0 0) 57)) w2.heap.size nd0 none 0 0 := Rg.Own.new _ _ _
 have HNd := hid hNd
 have HB2 := hid hb2
 clear hNd hb2 HGt HW
 go_wp2_with (first
  | (refine Rg.run rfl _ _ (run_alloc_nd _ _ _ w2.heap.size rfl rfl) ?_)
  | (refine wpl_store_ndL HNd.out rfl N na nn nc HNl.out rfl _ _ rfl rfl rfl rfl ?_; intro w4 hO4 hu4; have HO4 := hid hO4; have HB4 : Hid (Below w2.heap.size w2 w4) := hid (hu4.below (al1 _ _) (Nat.le_refl _)); clear hO4 hu4)
  | (refine Rg.run rfl _ _ (op_load_nd HO4.out HNl.out ⟨_, rfl, rfl⟩) ?_))
 refine (HK.out na nn nc w4).mono ?_
 rintro e w5 ⟨v5, rfl, h5, hb5⟩
 have HD5 := hid (HD.out w4 v5 w5 (bst HB2.out HB4.out) h5 hb5)
 clear h5 hb5 HD HK HB2 HB4 HO4 HNd
 go_wp2_with fail
 refine HD5.out.mono ?_
 rintro e w6 ⟨v6, rfl, h6, hb6⟩
 have HE := hid (show GotS w _ (.returned v6) w6 from ⟨v6, rfl, h6, hb6⟩)
 clear h6 hb6 HD5
 go_wp2
 go_ret
 exact HE.out
end Tm
end
section
open Go.RowKit
namespace Tm
open Tr Ni Pk Ky No Rf Rl
open Sm (Tab)
theorem make_any (M : Mp) (N : Nd) (ts : List T) (hM : Mk N ts) (pa : Option Addr) (pn pc : Nat) (ps : List (Option Addr)) (hA : Are M ps ts) (ka : Option Addr) (kn kc : Nat) (hn : kn ≤ 1000000) (w : World) (hi : Inv M w) (hT : Tab w) (hB : IsBs w pa pn pc N.p) (hP : Ptrs w ka kn kc ps) :
  Calls Tryz.prog 122 #[.agg (ndC N pa pn pc), .slice ka kn kc] w (MakeP M w (makeT N ts) 0) := by
 obtain ⟨w2, hw2, hN, hX, hb2⟩ : ∃ w2, w2 = (w.alloc (.cells (ndC N pa pn pc) 57)).alloc (.cells #[.pointer none] 26) ∧ OwnN w2 w.heap.size N pa pn pc ∧ Rg.Own w2 (w.heap.size + 1) #[.pointer none] 26 ∧ Below w.heap.size w w2 := by
  refine ⟨_, rfl, (Rg.Own.new _ _ _).below (al1 _ _), ?_, al2 _ _ _⟩
  have := Rg.Own.new (w.alloc (.cells (ndC N pa pn pc) 57)) #[.pointer none] 26
  simpa using this
 have hkn : (kidsL N.ks).length = kn := by rw [hM.refs, List.length_map, ← hA.1]; exact hP.2.2.1
 have hpn : pn ≤ 1000000 := by have := hB.len; have := hM.pl; omega
 have HN := hid hN
 have HX := hid hX
 have HB := hid hb2
 have HBs := hid (hB.below hb2)
 have HP := hid (hP.below hb2)
 have HI := hid (hi.below hb2)
 have HIz := HI
 have HTb := hid (hT.below hb2 hT.pos)
 have HL := hid hM.ks
 have HW : Hid (_ = _) := hid hw2
 have HKd := hid (kids_new N pa pn pc hM.ks w2)
 have HCk := hid (fun wz hz => check_may hM.ks hM.may hM.v hM.few pa pn pc wz hz)
 have HEnd : Hid (∀ w5 w8 e, Fr M M w2 w5 → Tab w5 → GotT M w5 (makeT N ts) e w8 → ∃ p, e = .returned (tv p) ∧ ∀ w9, Rg.Upd w8 (w.heap.size + 1) w9 → MakeP M w (makeT N ts) 0 (.returned (.tuple #[tv p, .int .i64 0])) w9) := hid (fun w5 w8 e f t g => make_end hi hT.pos hb2 hX (Nat.le_succ _) f t g)
 have HPl : Hid (∀ w5, Ptrs w5 ka kn kc ps → ∀ wz, Below w5.heap.size w5 wz → Calls Tryz.prog 147 #[.agg (ndC N pa pn pc), .slice ka kn kc] wz fun e w' => ∃ va vn vc, e = .returned (.slice va vn vc) ∧ Ks0 M w5.heap.size w' va vn vc (partsT (makeT N ts)) ∧ Below wz.heap.size wz w') := hid (fun w5 hp wz hb => by
  refine (placed_any M N hM.ks pa pn pc ps ts hA hM.kd' ka kn kc wz (hp.below hb) hn).mono ?_
  rintro e w' ⟨va, vn, vc, he, hk, hb'⟩
  exact ⟨va, vn, vc, he, hk.lo hb.size, hb'⟩)
 have HBu := hid (built_make (makeT N ts) N.kd N.v hM.k hM.mv hM.ms)
 have HPt := hid hM.mp
 have HNe := hid hM.mn
 have HAt : Hid (M.at_ w.heap.size = none ∧ M.at_ (w.heap.size + 1) = none) := hid ⟨hi.out (Nat.le_refl _), hi.out (by omega)⟩
 have HM := hid hM
 have HA := hid hA
 obtain ⟨TT, hTT⟩ : ∃ TT, makeT N ts = TT := ⟨_, rfl⟩
 rw [hTT] at HEnd HPl HBu HPt HNe ⊢
 obtain ⟨gN, hgN⟩ : ∃ g, w.heap.size = g := ⟨_, rfl⟩
 obtain ⟨gT, hgT⟩ : ∃ g, w.heap.size + 1 = g := ⟨_, rfl⟩
 have hgg : gN ≠ gT := by omega
 have HGT : Hid (gT = w.heap.size + 1) := hid hgT.symm
 rw [hgT] at HX HEnd HAt
 rw [hgN] at HN HAt
 have HGN : Hid (_ = _) := hid hgN
 have HKn := hid hkn
 clear hN hX hb2 hB hP hi hT hM hA hw2 hTT hkn hgT hgN
 have hgo : Calls Tryz.prog 122 #[.agg (ndC N pa pn pc), .slice ka kn kc] w (MakeP M w TT 0) := by
  go_enter Tryz.func122, Tryz.ntmps122
  go_wp2_with (first
   | (refine Rg.run rfl _ _ (run_alloc_tree _ _ _ gT (by rw [HGT.out]; simp) rfl) ?_; rw [← HW.out, HGN.out])
   | (refine Rg.run rfl _ _ (op_load_nd HN.out HL.out ⟨_, rfl, rfl⟩) ?_))
  refine HKd.out.mono ?_
  rintro e w3 ⟨a3, n3, c3, rfl, hS3, hn3, hb3⟩
  obtain rfl : kn = n3 := by rw [← hS3.2.2.1]; exact HKn.out.symm
  have HN3 := hid (HN.out.below hb3)
  have HX3 := hid (HX.out.below hb3)
  have HB3 := hid (hb3)
  have HBs3 := hid (HBs.out.below hb3)
  have HS3 := hid hS3
  have HN3' : Hid (∀ b off, a3 = some ⟨b, off, none⟩ → M.at_ b = none) := hid (fun b off e => HI.out.out (hn3 b off e))
  clear hS3 hn3 hb3 HKd HX HBs HW
  go_wp2_with (first
   | (refine Rg.run rfl _ _ (op_load_nd HN3.out HL.out ⟨_, rfl, rfl⟩) ?_))
  refine (HCk.out w3 HBs3.out).mono ?_
  rintro e w4 ⟨rfl, hb4⟩
  have HN4 := hid (HN3.out.below hb4)
  have HX4 := hid (HX3.out.below hb4)
  have HBs4 := hid (HBs3.out.below hb4)
  have HB4 := hid (bst HB3.out hb4)
  have HS4 := hid (HS3.out.below hb4)
  have HP4 := hid (HP.out.below HB4.out)
  have HI4 := hid (HI.out.below HB4.out)
  have HT4 := hid (HTb.out.below HB4.out HTb.out.pos)
  have c0 := (nd_cells HN4.out).1
  clear hb4 HN3 HX3 HB3 HBs3 HS3 HCk HP HI HTb
  go_upto_region 4 with fail
  go_cut [36] (fun v wx => v = .bool false ∧ Hid (Below w4.heap.size w4 wx))
  case first =>
   rcases HM.out.kd with ⟨h1, h2⟩ | ⟨h1, s, hts, hs1, hs2⟩ | ⟨h1, h2⟩
   ·rw [h1] at c0
    clear h1 h2
    go_wp2_with fail
    go_meet
    exact ⟨rfl, hid (Below.refl _ _)⟩
   ·rw [h1] at c0
    have hps : ps.length = 1 := by rw [HA.out.1, hts]; rfl
    have hk1 : kn = 1 := by rw [← HP4.out.2.2.1]; exact hps
    obtain ⟨b, off, hka, hlt, hc⟩ := HP4.out.2.2.2.2 0 (by omega)
    have ht := HA.out.2 0 (by omega)
    rw [hts] at ht
    have ht' : IsT M (ps.getD 0 none) s := ht
    have hKd := fun wz (hb : Below w4.heap.size w4 wz) => Tm.kind_any M (ps.getD 0 none) s wz (HI4.out.below hb) ht'
    obtain ⟨p, hp⟩ : ∃ p, ps.getD 0 none = p := ⟨_, rfl⟩
    rw [hp] at hc hKd
    have HKd := hid hKd
    obtain ⟨K, hK⟩ : ∃ K, kindT s = K := ⟨_, rfl⟩
    rw [hK] at HKd hs1 hs2
    have k1 : (K == 1) = false := by rw [beq_eq_false_iff_ne]; exact hs1
    have k2 : (K == 2) = false := by rw [beq_eq_false_iff_ne]; exact hs2
    have k1' : decide (K = 1) = false := decide_eq_false hs1
    have k2' : decide (K = 2) = false := decide_eq_false hs2
    rw [Nat.add_zero] at hc
    have HC := hid hc
    clear h1 hps ht ht' hKd hp hK hts
    subst hk1
    subst hka
    go_wp2_with (first
     | (refine Rg.run rfl _ _ (op_load_tree HC.out ⟨_, rfl, rfl⟩) ?_)
     | (refine Rg.runW ?hw _ _ (op_load_tree HC.out ⟨_, rfl, rfl⟩) ?_; case hw => rfl))
    refine (HKd.out w4 (Below.refl _ _)).mono ?_
    rintro e w5 ⟨rfl, hb5⟩
    have HC5 := hid ((Below.cell (p := ⟨b, off, none⟩) hb5 hlt).trans HC.out)
    have HB5 := hid hb5
    clear hb5
    go_wp2_with (first
     | (refine Rg.run rfl _ _ (op_load_tree HC5.out ⟨_, rfl, rfl⟩) ?_)
     | (refine Rg.runW ?hw _ _ (op_load_tree HC5.out ⟨_, rfl, rfl⟩) ?_; case hw => rfl))
    refine (HKd.out w5 HB5.out).mono ?_
    rintro e w6 ⟨rfl, hb6⟩
    have HB6 := hid (bst HB5.out hb6)
    clear hb6
    go_wp2_with fail
    go_meet
    exact ⟨rfl, HB6⟩
   ·rw [h1] at c0
    clear h1 h2
    go_wp2_with fail
    go_meet
    exact ⟨rfl, hid (Below.refl _ _)⟩
  case rest =>
  obtain ⟨rfl, HB5⟩ := hcut
  obtain ⟨wd, hwd⟩ : ∃ wd, wd = wc := ⟨_, rfl⟩
  subst hwd
  have HNd := hid (HN4.out.below HB5.out)
  have HXd := hid (HX4.out.below HB5.out)
  have HBsd := hid (HBs4.out.below HB5.out)
  have HSd := hid (HS4.out.below HB5.out)
  have HPd := hid (HP4.out.below HB5.out)
  have HId := hid (HI4.out.below HB5.out)
  have HTd := hid (HT4.out.below HB5.out HT4.out.pos)
  have HF2d : Hid (Fr M M w2 wd) := hid (Fr.below M (bst HB4.out HB5.out))
  have HEq := hid (equal_any M ps ts ka kn kc a3 kn c3 wd HPd.out HA.out HM.out.fine (by rw [← HM.out.refs]; exact HSd.out) HN3'.out hn HId.out HTd.out)
  clear HN4 HX4 HBs4 HS4 HP4 HI4 HT4 HB5 HB4 HSd c0
  go_wp2_with fail
  refine HEq.out.mono ?_
  rintro e w5 ⟨rfl, hf5, hi5, hT5⟩
  have HN5 : Hid (OwnN w5 gN N pa pn pc) := hid (own_fr HNd.out hf5 HAt.out.1)
  have HX5 := hid (own_fr HXd.out hf5 HAt.out.2)
  have HBs5 := hid (isBs_fr HId.out HBsd.out hf5)
  have HP5 := hid (HPd.out.frm HId.out hf5)
  have HI5 := hid hi5
  replace HEnd := hid (fun w8 e g => HEnd.out w5 w8 e (HF2d.out.trans HIz.out hf5) hT5 g)
  replace HPl := hid (HPl.out w5 HP5.out)
  have HCl : Hid (∀ wz, Below w5.heap.size w5 wz → Calls Tryz.prog 108 #[.slice pa pn pc] wz (GotBsF wz N.p)) := hid (fun wz hb => cloneB_any pa pn pc N.p hpn wz (HBs5.out.below hb))
  clear hf5 hi5 hT5 HEq HNd HXd HBsd HPd HId HTd HF2d
  go_wp2_with fail
  have HBel : Hid (Below w5.heap.size w5 w5.drew) := hid (Below.refl _ _).drew
  refine wp_region_noPanic ?_
  refine wp_region_held_drew (S := fun w' => OwnN w' gN N pa pn pc) (by kernel_rfl) (HN5.out.drew) (fun hld => ?_)
  refine Rg.tk (i := 0) rfl ?_
  try simp only [Act.put, Rg.s]
  refine Rg.tk (i := 1) rfl ?_ (hy := by intro wz hSw; (have q0 := (nd_cells hSw).1; go_simp <;> with_reducible rfl))
  try simp only [Act.put, Rg.s]
  refine Rg.tk (i := 2) rfl ?_
  try simp only [Act.put, Rg.s]
  refine Rg.tk (i := 3) rfl ?_ (hy := by intro wz hSw; (have q0 := (nd_cells hSw).2.1; go_simp <;> with_reducible rfl))
  try simp only [Act.put, Rg.s]
  refine Rg.tk (i := 5) rfl ?_
  try simp only [Act.put, Rg.s]
  refine Rg.tk (i := 6) rfl ?_ (hy := by intro wz hSw; (have q0 := (nd_cells hSw).2.2; go_simp <;> with_reducible rfl))
  try simp only [Act.put, Rg.s]
  refine Rg.tk (i := 7) rfl ?_ (hy := by intro wz hSw; (refine op_load_nd hSw HL.out ?_; exact ⟨_, rfl, rfl⟩))
  try simp only [Act.put, Rg.s]
  refine Rg.tk (i := 8) rfl ?_
  try simp only [Act.put, Rg.s]
  refine Rg.rd (i := 4) rfl fun K hK => ?_
  go_simp
  go_at_call 108
  (with_reducible refine (HCl.out _ HBel.out).mono ?_)
  rintro e wv0 ⟨a7, n7, c7, rfl, hB7, hbx⟩
  have HB7 := hid (hB7.weak HBel.out.size)
  replace HBel := hid (bst HBel.out hbx)
  clear hB7
  refine hK.out _ _ ?_ (fun hld => ?_)
  ·exact hld.below hbx
  clear hK K hbx
  try simp only [Act.put, Rg.s]
  refine Rg.rd (i := 9) rfl fun K hK => ?_
  go_simp
  go_at_call 147
  (with_reducible refine (HPl.out _ HBel.out).mono ?_)
  rintro e wv1 ⟨va, vn, vc, rfl, hks, hbx⟩
  have HKs := hid hks
  replace HB7 := hid (HB7.out.below hbx)
  replace HBel := hid (bst HBel.out hbx)
  clear hks
  refine hK.out _ _ ?_ (fun hld => ?_)
  ·exact hld.below hbx
  clear hK K hbx
  try simp only [Act.put, Rg.s]
  refine Rg.tk (i := 10) rfl ?_ (hy := by intro wz hSw; (refine op_build (HBu.out a7 n7 c7 va vn vc) ?_; exact ⟨_, rfl, rfl⟩))
  try simp only [Act.put, Rg.s]
  refine Rg.rd (i := 11) rfl fun K hK => ?_
  refine Rg.meetAlloc (by rfl) (op_box_part (t := TT) ⟨_, rfl, rfl⟩) ?_
  rintro wv2 b11 he11 h11 hbx
  have ge11 : w5.heap.size ≤ b11 := by rw [he11]; exact HBel.out.size
  replace HB7 := hid (HB7.out.below hbx)
  replace HKs := hid (HKs.out.below hbx)
  replace HBel := hid (bst HBel.out hbx)
  obtain ⟨p11, he12, hE⟩ := HEnd.out _ _ (got_part HI5.out HBel.out ge11 HNe.out h11.2 (by rw [HPt.out]; exact HB7.out.1) (fun ad e _ => Or.inr (HB7.out.2 ad e)) HKs.out)
  obtain rfl : p11 = some ⟨b11, 0, none⟩ := by cases he12; rfl
  have HE := hid hE
  clear hE he12 he11
  refine hK.out _ _ ?_ (fun hld => ?_)
  ·exact hld.below hbx
  clear hK K hbx
  try simp only [Act.put, Rg.s]
  refine Rg.tk (i := 12) rfl ?_
  try simp only [Act.put, Rg.s]
  refine Rg.rd (i := 13) rfl fun K hK => ?_
  refine meet_store_tree (by rfl) (HX5.out.below HBel.out) (off := 0) (by simp) (some ⟨b11, 0, none⟩) ⟨_, _, rfl, rfl, rfl⟩ ?_
  rintro wv3 hn hu
  have HX9 : Hid (Rg.Own wv3 gT #[.pointer (some ⟨b11, 0, none⟩)] 26) := hid hn
  have HP9 := hid (HE.out _ hu)
  refine hK.out _ _ ?_ (fun hld => ?_)
  ·exact hld.upd hu hgg
  clear hK K hn hu
  try simp only [Act.put, Rg.s]
  refine Rg.tk (i := 14) rfl ?_
  try simp only [Act.put, Rg.s]
  refine wpAnyH_done (by kernel_rfl) ?_ _
  refine NoPanic.normal ?_
  clear hld
  go_wp2
  exact bodyPost_ret (res_tree1 (q := 4) (u := 5) rfl _ rfl HX9.out) rfl HP9.out
 exact hgo
end Tm
end
section
open Go.RowKit
namespace Tm
open Tr Ni Pk Ky No Rf Rl
open Sm (Tab)
theorem goer_nodes {M : Mp} {J : List T → (Nat → Prop) → World → Prop} (hM : OnJ M J) {t : T} (hW : Whl t) (hfew : (nodesT t).length ≤ 100000) {p0 : Option Addr} (ht0 : IsT M p0 t) {K0 : Nat → Prop} {w : World} (hi : Inv M w) (hT : Tab w) (hJ : J [] K0 w) (g0 : Nat) (hc : w.cell? ⟨g0, 0, none⟩ = some (.pointer p0)) (gl : Nat)
  (hon : ∀ (V : List T) (K : Nat → Prop) (x : T) (p : Option Addr) (wx : World), J V K wx → Inv M wx → Tab wx → Whl x → IsT M p x → ((V ++ [x]).map tellL).flatten.length ≤ 100000 → Calls Tryz.prog 32 #[tv p, .pointer (some ⟨gl, 0, none⟩)] wx fun e w' => e = .returned (.bool true) ∧ ∃ K', OnP M J V K x wx w' K') :
  Calls Tryz.prog 54 #[.func (Fn.func 32) #[] #[.pointer (some ⟨gl, 0, none⟩)], .pointer (some ⟨g0, 0, none⟩)] w fun e w' => e = .returned (.bool true) ∧ ∃ V K, (V.map tellL).flatten = nodesT t ∧ J V K w' ∧ FrK M K0 w w' ∧ Inv M w' ∧ Tab w' ∧ ∀ k, K k → K0 k ∨ w.heap.size ≤ k := by
 obtain ⟨i0, z0, hi0, hz0, hz1, hz2, hz3⟩ := info_tree_parts
 have HI : Hid (_ ∧ _ ∧ _ ∧ _ ∧ _) := hid ⟨hi0, hz0, hz1, hz2, hz3⟩
 have hA1 := al1 w (.cells #[.pointer p0] 26)
 have HG0 : Hid (Gs M J K0 w t (w.alloc (.cells #[.pointer p0] 26)) (.slice (some ⟨w.heap.size, 0, none⟩) 1 1) [] [t] [p0] K0) := hid (by
  refine ⟨?_, ⟨rfl, fun j hj => ?_⟩, fun x hx => by rw [List.mem_singleton.1 hx]; exact hW, by rw [stack_one]; rfl, ?_, hM.st _ _ w _ hJ hA1.size fun k hk => hA1.block k (hM.lt _ _ _ hJ k hk).1, fun k e hk => ?_, (FrK.refl M K0 w).below hA1 (Nat.le_refl _), fun k hk => Or.inl hk, hi.below hA1, hT.below hA1 hT.pos, fun k hk => ⟨hi.out hk, hi.free hk⟩, hT.pos⟩
  ·exact World.ownsRow_lit (e := 26) (size := 1) (base := w.heap.size) w #[.pointer p0] 1 (Nat.le_refl _) (by unfold maxLen; decide) rfl
  ·obtain rfl : j = 0 := by simp at hj; exact hj
   exact ht0
  ·show max 1 (nodesT t).length + 0 ≤ 200000
   omega
  ·have e' : w.heap.size = k := Option.some.inj e
   have := (hM.lt _ _ _ hJ k hk).1
   omega)
 have HC := hid hc
 have HM := hid hM
 have HOn := hid hon
 have HFew := hid hfew
 clear hi0 hz0 hz1 hz2 hz3 hA1 hM hW hfew ht0 hi hT hJ hc hon
 go_enter Tryz.func54, Tryz.ntmps54
 go_wp2_with (first
  | (refine Rg.run rfl _ _ (op_load_tree HC.out ⟨_, rfl, rfl⟩) ?_)
  | (refine Rg.run rfl _ _ (op_lit1 w.heap.size rfl ⟨_, rfl, rfl⟩) ?_))
 go_loopw [4] (fun v0 wr => ∃ (v : Value) (V S : List T) (ps : List (Option Addr)) (K : Nat → Prop), v = v0 ∧ Hid (Gs M J K0 w t wr v V S ps K)) (fun v0 wr => rankV M v0 wr)
 case atStart => exact ⟨_, [], [t], [p0], K0, rfl, HG0⟩
 case round =>
  obtain ⟨v, V, S, ps, K, rfl, HG⟩ := hrel
  clear HG0 HC
  by_cases hn : ps.length = 0
  ·obtain ⟨a, c, rfl⟩ : ∃ a c, v = .slice a 0 c := by
    rcases HG.out.row.2 with ⟨rfl, _⟩ | ⟨g, cap, cur, rfl, _⟩
    ·exact ⟨_, _, rfl⟩
    ·exact ⟨_, _, by rw [hn]⟩
   have HE : Hid (∃ V K, (V.map tellL).flatten = nodesT t ∧ J V K wr ∧ FrK M K0 w wr ∧ Inv M wr ∧ Tab wr ∧ ∀ k, K k → K0 k ∨ w.heap.size ≤ k) := hid (by
    have hG := HG.out
    have hS : S = [] := List.length_eq_zero_iff.1 (by rw [← hG.are.1]; exact hn)
    subst hS
    exact ⟨V, K, by have := hG.eq; simpa [stackN] using this, hG.j, hG.f, hG.i, hG.t, hG.sub⟩)
   clear HG
   go_wp2
   go_ret
   exact ⟨rfl, HE.out⟩
  ·obtain ⟨S', x, ps', p, g, cap, rfl, rfl, rfl, hcell, hx, htx, hgw, hglt, hcap, hcm⟩ := HG.out.pop hn
   have hrk : rankV M (.slice (some ⟨g, 0, none⟩) (ps'.length + 1) cap) wr = rankS (S' ++ [x]) := rank_eq (by have := HG.out.row; simpa using this) HG.out.are
   have hlen := rank_len (S' ++ [x])
   have hrk0 := HG.out.rk
   have hpl : ps'.length = S'.length := (are_snoc HG.out.are).1.1
   unfold maxLen at hcm
   rw [List.length_append] at hlen
   have i1 : (0 : Int) < ((ps'.length + 1 : Nat) : Int) := by omega
   obtain ⟨n, hnl⟩ : ∃ n, ps'.length = n := ⟨_, rfl⟩
   rw [hnl] at hcell hcap i1 hrk
   have hn2 : n ≤ 200000 := by omega
   have hni : (n : Int) < ((n + 1 : Nat) : Int) := by omega
   have hsub : ((n + 1 : Nat) : Int) - 1 = (n : Int) := by omega
   have hw1 : IntKind.i64.wrap (((n + 1 : Nat) : Int) - 1) = (n : Int) := by rw [hsub]; exact IntWalk.i64_in _ (by omega)
   have HX := hid hx
   have HTx := hid htx
   have HNl := hid hnl
   have HRk := hid hrk
   have HCell := hid hcell
   have hNew := Rg.Own.new wr #[.pointer none] 26
   have HN := hid hNew
   have HGl : Hid (w.heap.size ≤ g ∧ g < wr.heap.size) := hid ⟨hgw, hglt⟩
   rw [hnl]
   clear hn hcell hx htx hgw hglt hrk hlen hrk0 hpl hnl hNew
   go_wp2_with (first
    | (refine Rg.run rfl _ _ (op_load_tree (off := n) HCell.out ⟨_, rfl, rfl⟩) ?_)
    | (refine Rg.run rfl _ _ (run_alloc_tree _ _ _ wr.heap.size rfl rfl) ?_)
    | (refine wpl_store_tree HN.out (by decide) p rfl _ _ rfl rfl rfl ?_; intro w1 hO1 hu1; have HO1 : Hid (Rg.Own w1 wr.heap.size #[.pointer p] 26) := hid hO1; have HB1 : Hid (Below wr.heap.size wr w1) := hid (hu1.below (al1 _ _) (Nat.le_refl _)); clear hO1 hu1)
    | (refine Rg.run rfl _ _ (op_load_tree (own_cell (j := 0) HO1.out rfl) ⟨_, rfl, rfl⟩) ?_))
   have hG1 : J V K w1 ∧ Inv M w1 ∧ Tab w1 := ⟨HM.out.st _ _ wr w1 HG.out.j HB1.out.size fun k hk => HB1.out.block k (HM.out.lt _ _ _ HG.out.j k hk).1, HG.out.i.below HB1.out, HG.out.t.below HB1.out HG.out.t.pos⟩
   have hVx : ((V ++ [x]).map tellL).flatten.length ≤ 100000 := by
    have h1 := congrArg List.length HG.out.eq
    rw [stack_step S' HX.out, ← List.append_assoc, List.length_append] at h1
    have h2 : ((V ++ [x]).map tellL).flatten = (V.map tellL).flatten ++ tellL x := by simp
    rw [h2]
    have := HFew.out
    omega
   refine (HOn.out V K x p w1 hG1.1 hG1.2.1 hG1.2.2 HX.out HTx.out hVx).mono ?_
   rintro e w2 ⟨rfl, K', hP⟩
   have hO2 : Rg.Own w2 wr.heap.size #[.pointer p] 26 := ⟨Nat.lt_of_lt_of_le HO1.out.1 hP.f.size, (hP.f.block _ HO1.out.1 (HG.out.out _ HG.out.f.size).1 (fun h => by have := (HM.out.lt _ _ _ HG.out.j _ h).1; omega)).trans HO1.out.2⟩
   have HO2 := hid hO2
   have HP := hid hP
   clear hG1 hP hO2 HO1 HCell HN
   go_wp2_with (first
    | (refine Rg.run rfl _ _ (op_load_tree (own_cell (j := 0) HO2.out rfl) ⟨_, rfl, rfl⟩) ?_))
   obtain ⟨L, hL, hg⟩ := HX.out.good
   refine (open_row M p x L hg hL HX.out.fine HX.out.ns w2 HP.out.i HTx.out HP.out.t).mono ?_
   rintro e w3 ⟨na, nn, nc, ka, kc, qs, rfl, hrow, _, _, hare, _, f3, i3, t3⟩
   have HRow := hid hrow
   have HAre := hid hare
   have HF3 : Hid (Fr M M w2 w3 ∧ Inv M w3 ∧ Tab w3) := hid ⟨f3, i3, t3⟩
   have HNl2 : Hid ((nodeT x).ks.length = 16) := hid (nodeT_length x)
   obtain ⟨N, hN⟩ : ∃ N, nodeT x = N := ⟨_, rfl⟩
   rw [hN] at HNl2 ⊢
   have hNd : OwnN (w3.alloc (.cells (ndC nd0 none 0 0) 57)) w3.heap.size nd0 none 0 0 := Rg.Own.new _ _ _
   have HNd := hid hNd
   clear hrow hare f3 i3 t3 hN hNd hL hg HO2
   go_wp2_with (first
    | (refine Rg.run rfl _ _ (run_alloc_nd _ _ _ w3.heap.size rfl rfl) ?_)
    | (refine wpl_store_nd HNd.out rfl N na nn nc HNl2.out rfl _ _ rfl rfl rfl rfl ?_))
   obtain ⟨w4, hw4⟩ : ∃ w4, w4 = (w3.alloc (.cells (ndC nd0 none 0 0) 57)).setRow w3.heap.size (ndC N na nn nc) := ⟨_, rfl⟩
   have HB4 : Hid (Below w3.heap.size w3 w4) := hid (by rw [hw4]; exact below_rowN (al1 _ _) (Nat.le_refl _) _)
   rw [← hw4]
   clear hw4
   have hs3 := HF3.out.1.size
   have hs4 := HB4.out.size
   refine (reverse_row qs _ w4 (HRow.out.below HB4.out) (by omega)).mono ?_
   rintro e w5 ⟨rfl, hrow5, hb5⟩
   have h35 : Below w2.heap.size w3 w5 := (HB4.out.mono hs3).trans hb5
   have HG5 := hid (HG.out.mid HM.out HB1.out HP.out HF3.out.1 HF3.out.2.1 HF3.out.2.2 h35)
   have HRow5 := hid hrow5
   have hq16 : qs.length ≤ 16 := by rw [HAre.out.1]; exact kids_len x
   have hz5 : w.heap.size ≤ w5.heap.size := HG5.out.f.size
   have hown : w5.ownsRow w.heap.size 26 1 (.slice (some ⟨g, 0, none⟩) n cap) n (ps'.map Value.pointer) := by
    obtain ⟨h1, h2⟩ := HG5.out.row
    rcases h2 with ⟨h2, _⟩ | ⟨g', cap', cur, e, hg, hh, hnc, hcm', hsz, htk⟩
    ·cases h2
    ·injection e with e1 e2 e3
     injection e1 with e1
     injection e1 with e1
     subst e1 e3
     refine ⟨by rw [List.length_map, HNl.out, Nat.mul_one], .inr ⟨g, cap, cur, rfl, hg, hh, by omega, hcm', hsz, ?_⟩⟩
     have h3 := congrArg (List.take n) htk
     rw [List.take_take, List.length_append, HNl.out] at h3
     rw [Nat.mul_one, show n = min n ((n + [p].length) * 1) by simp, h3, List.map_append]
     rw [List.take_left' (by rw [List.length_map]; exact HNl.out)]
   have HOwn := hid hown
   clear HRow HB4 HF3 HB1 HP hrow5 h35 hb5 hs3 hs4 hown HNd
   rcases HRow5.out with ⟨he, hq⟩ | ⟨g2, cap2, he, hg2, hR2⟩
   ·injection he with he1 he2 he3
    subst he1 he3
    have hq0 : qs = [] := by simpa using hq
    subst hq0
    have HNx : Hid (Gs M J K0 w t w5 (.slice (some ⟨g, 0, none⟩) n cap) (V ++ [x]) (S' ++ (kidsT x).reverse) ps' K') := hid (by
     have := Gm.next (p := p) HG.out HM.out HG5.out HAre.out (v6 := .slice (some ⟨g, 0, none⟩) n cap) (w6 := w5) (by simpa [HNl.out] using HOwn.out) ⟨rfl, rfl, rfl, Nat.le_refl _, fun _ _ _ => rfl⟩ (.inl rfl)
     simpa using this)
    go_wp2_with (first
     | (refine Rg.run rfl _ _ (op_upto (j := n) under_trees size_tree (by omega) ⟨_, _, rfl, rfl, rfl⟩) ?_)
     | (at_builtin; refine wpList_append_own_none rfl _ _ 85 rfl w.heap.size 26 i0 1 Tryz.underlying85 HI.out.1 _ n (ps'.map Value.pointer) rfl HOwn.out rfl ?_))
    go_roundw
    case rel => exact ⟨_, _, _, _, _, rfl, HNx⟩
    case measure =>
     have hr := rank_eq HNx.out.row HNx.out.are
     have hs := rank_step S' HX.out
     rw [HRk.out, hr]
     exact hs
   ·injection he with he1 he2 he3
    subst he1 he3
    have hcq : ∀ j u, (qs.reverse.map Value.pointer)[j]? = some u → w5.cell? ((⟨g2, 0, none⟩ : Addr).add j) = some u := fun j u hu => by
     have hj : j < qs.reverse.length := by
      have := (List.getElem?_eq_some_iff.1 hu).1
      simpa using this
     rw [Addr.add_mid, Nat.zero_add, hR2.cell hj]
     rw [List.getElem?_map, List.getElem?_eq_getElem hj] at hu
     rw [Option.map_some] at hu
     obtain rfl := Option.some.inj hu
     rw [List.getD_eq_getElem?_getD, List.getElem?_eq_getElem hj]
     rfl
    have HCq := hid hcq
    clear hcq hg2 hR2 he2
    go_wp2_with (first
     | (refine Rg.run rfl _ _ (op_upto (j := n) under_trees size_tree (by omega) ⟨_, _, rfl, rfl, rfl⟩) ?_)
     | (at_builtin; refine wpList_append_own_at _ rfl _ _ 85 rfl w.heap.size 26 i0 z0 1 8 Tryz.underlying85 HI.out.1 HI.out.2.1 HI.out.2.2.1 HI.out.2.2.2.1 HI.out.2.2.2.2 (by decide) _ n (ps'.map Value.pointer) rfl HOwn.out ⟨g2, 0, none⟩ qs.length kc (qs.reverse.map Value.pointer) rfl (by simp) HCq.out ?d2 ?d3 ?d4 ?d5 ?_))
    all_goals first
     | (intro u hu; obtain ⟨q, _, rfl⟩ := List.mem_map.1 hu; rfl)
     | (unfold maxLen; omega)
     | omega
     | exact hz5
     | skip
    intro v' w6 hown6 hgrow6 _ hloc6
    have HNx : Hid (Gs M J K0 w t w6 v' (V ++ [x]) (S' ++ (kidsT x).reverse) (ps' ++ qs.reverse) K') := hid (Gm.next (p := p) HG.out HM.out HG5.out HAre.out (by rw [List.length_append, List.length_reverse, List.map_append, List.map_reverse, HNl.out]; exact hown6) hgrow6 hloc6)
    go_wp2
    go_roundw
    case rel => exact ⟨_, _, _, _, _, rfl, HNx⟩
    case measure =>
     have hr := rank_eq HNx.out.row HNx.out.are
     have hs := rank_step S' HX.out
     rw [HRk.out, hr]
     exact hs
end Tm
end
end Go.Proofs.YtooklabipgmolaaGreatDoor
