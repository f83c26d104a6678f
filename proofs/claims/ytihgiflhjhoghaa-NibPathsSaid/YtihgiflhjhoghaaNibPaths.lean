/-
  NibPaths: any two lists of bytes are joined, are alike as far, and are in order as the plain answers say, and the first is told as digits as it ought to be; for every two lists (of more than 100 bytes: the law asks what comes at any rate).
-/
import Derived.Test.YtihgiflhjhoghaaNibAw
import Derived.Test.YtihgiflhjhoghaaNibL
import Derived.Test.YtihgiflhjhoghaaBsIn
import Derived.Deep.RegionHeld3
import Derived.Deep.QuietTactic
import Derived.BigQuiet
import Derived.OpenShut
import Derived.ShutString
import Derived.ChangeOld
import Derived.Below
namespace Go.Proofs.Ytihgiflhjhoghaa.nibPaths
open Go.ChangeShapes Go.WideShapes Go.ChangeAt Go.RowKit
open Ni

theorem own : ownKnob Try.prog.godebug = none := by kernel_rfl
theorem laidOut : laidOutB Try.prog = true := by kernel_rfl

set_option maxRecDepth 100000 in
set_option maxHeartbeats 1000000 in
theorem walk_big1 (a b : Option Addr) (n m c d : Nat) (hn : 100 < n) (w : World) :
    Calls Try.prog 6 #[.slice a n c, .slice b m d] w fun e w' => e = .returned (.bool true) ∧ Below w.heap.size w w' := by
  go_enter Try.func6, Try.ntmps6
  go_wp2_with fail
  refine (Na.awake_any _).mono ?_
  rintro e w1 ⟨rfl, hb⟩
  go_wp2
  go_ret
  exact ⟨rfl, hb⟩
set_option maxRecDepth 100000 in
set_option maxHeartbeats 1000000 in
theorem walk_big2 (a b : Option Addr) (n m c d : Nat) (hn : n ≤ 100) (hm : 100 < m) (w : World) :
    Calls Try.prog 6 #[.slice a n c, .slice b m d] w fun e w' => e = .returned (.bool true) ∧ Below w.heap.size w w' := by
  go_enter Try.func6, Try.ntmps6
  go_wp2_with fail
  refine (Na.awake_any _).mono ?_
  rintro e w1 ⟨rfl, hb⟩
  go_wp2
  go_ret
  exact ⟨rfl, hb⟩

theorem ba_cat (x y : List UInt8) : (⟨x.toArray⟩ : ByteArray) ++ ⟨y.toArray⟩ = ⟨(x ++ y).toArray⟩ := by
  have h : ((⟨x.toArray⟩ : ByteArray) ++ ⟨y.toArray⟩).data = (x ++ y).toArray := by
    rw [ByteArray.data_append]; simp
  cases e : ((⟨x.toArray⟩ : ByteArray) ++ ⟨y.toArray⟩) with
  | mk d => rw [e] at h; simp only at h; rw [h]
/-- the digits, one by one -/
theorem dig_cut : ∀ x : Fin 16, (⟨#[48, 49, 50, 51, 52, 53, 54, 55, 56, 57, 97, 98, 99, 100, 101, 102]⟩ : ByteArray).extract (x : Nat) ((x : Nat) + 1) = ⟨#[UInt8.ofNat (digN x)]⟩ := by decide +kernel
theorem text_size (l : List UInt8) (n : Nat) (h : l.length = n) : (⟨(textK l n).toArray⟩ : ByteArray).size = n := by
  show (textK l n).toArray.size = n
  simp [textK, h]
theorem text_cut (l : List UInt8) (n k : Nat) (h : l.length = n) (hk : k < n) : (⟨(textK l n).toArray⟩ : ByteArray).extract k (k + 1) = ⟨#[UInt8.ofNat (digN (l.getD k 0).toNat)]⟩ := by
  have e : ((⟨(textK l n).toArray⟩ : ByteArray).extract k (k + 1)).data = #[UInt8.ofNat (digN (l.getD k 0).toNat)] := by
    rw [ByteArray.data_extract]
    apply Array.ext
    · simp [textK, h]; omega
    · intro i h1 h2
      obtain rfl : i = 0 := by simpa using h2
      simp [textK, h, hk, List.getD]
  cases hh : (⟨(textK l n).toArray⟩ : ByteArray).extract k (k + 1) with
  | mk dd => rw [hh] at e; simp only at e; rw [e]

/-- the operation at a place of a region -/
def nthO : List Oper → Nat → Option Oper
  | [], _ => none
  | o :: _, 0 => some o
  | _ :: l, n + 1 => nthO l n
theorem nthO_eq : ∀ (l : List Oper) (n : Nat), l[n]? = nthO l n
  | [], _ => by simp [nthO]
  | _ :: _, 0 => by simp [nthO]
  | _ :: l, n + 1 => by simpa [nthO] using nthO_eq l n
theorem takeL {P : Program} {md : Region.Mode} {l : List Oper} {Q : Exit → Act → World → Prop} {S : World → Prop} {i : Nat} {oi : Oper} {v : Value} {fuel : Nat} {listed : Array Bool} {a : Act} {w : World} (hi : nthO l i = some oi)
    (hs : Region.noSelect l.toArray = true) (hf : Region.free md l.toArray listed i = true) (hr : (Region.ready md l.toArray listed).contains i = true)
    (hQ : ∀ c a w, Q (.panic c) (a.put oi.dst v) w → Q (.panic c) a w) (hy : YieldsIf P l.toArray S oi v a) (hS : S w)
    (h : wpAnyH P md l.toArray Q S fuel (listed.setIfInBounds i true) (a.put oi.dst v) w) : wpAnyH P md l.toArray Q S (fuel + 1) listed a w :=
  wpAnyH_take (by rw [List.getElem?_toArray, nthO_eq]; exact hi) hs hf hr hQ hy hS h
theorem readyL {P : Program} {md : Region.Mode} {l : List Oper} {Q : Exit → Act → World → Prop} {S : World → Prop} {fuel : Nat} {listed : Array Bool} {a : Act} {w : World} {i : Nat} {o : Oper} (ho : nthO l i = some o)
    (h : ∀ K' : Act → World → Prop, Shut (∀ a w, S w → (S w → wpAnyH P md l.toArray Q S fuel (listed.setIfInBounds i true) a w) → K' a w) → if Region.wanted o (yielded l.toArray a.tmps) = true then Oper.wp P o a w K' Q else K' (a.put o.dst undef) w) : AllReadyH P md l.toArray Q S fuel listed a w [i] :=
  AllReadyH.cons (by rw [List.getElem?_toArray, nthO_eq]; exact ho) h AllReadyH.nil

theorem bel_alloc {w w1 : World} (h : Below w.heap.size w w1) (o : Obj) : Below w.heap.size w (w1.alloc o) := h.alloc h.size o

/-- two rows in a new row of the call's own -/
theorem rows2 (w wx : World) (a1 a2 : Option Addr) (n1 c1 n2 c2 : Nat) (l1 l2 : List UInt8) (h1 : IsBs w a1 n1 c1 l1) (h2 : IsBs w a2 n2 c2 l2) (hb : Below w.heap.size w wx) :
    Cc.IsRows (wx.alloc (.cells #[.slice a1 n1 c1, .slice a2 n2 c2] 24)) (some ⟨wx.heap.size, 0, none⟩) 2 [l1, l2] := by
  refine ⟨rfl, fun j hj => ⟨wx.heap.size, 0, rfl, by simp, ?_⟩⟩
  match j, hj with
  | 0, _ => exact ⟨a1, n1, c1, by simp, h1.below (bel_alloc hb _)⟩
  | 1, _ => exact ⟨a2, n2, c2, by simp, h2.below (bel_alloc hb _)⟩

/-- what the last region's calls and readings come to, in whatever world has left the arguments alone -/
theorem last_keys (a b : Option Addr) (n m c d : Nat) (x y : List UInt8) (hn : n ≤ 100) (hm : m ≤ 100) (w : World) (ha : IsBs w a n c x) (hb : IsBs w b m d y) :
    (∀ wx, Below w.heap.size w wx → Sem.run Try.prog (convert 24 9 (Value.slice a n c)) wx = .ok (.string ⟨x.toArray⟩) wx ∧ Sem.run Try.prog (convert 24 9 (Value.slice b m d)) wx = .ok (.string ⟨y.toArray⟩) wx) ∧
    (∀ wx, Below w.heap.size w wx → Calls Try.prog 17 #[.slice (some ⟨wx.heap.size, 0, none⟩) 2 2] (wx.alloc (.cells #[.slice a n c, .slice b m d] 24)) fun e w' => ∃ a' n' c', e = .returned (.slice a' n' c') ∧ Sem.run Try.prog (convert 24 9 (Value.slice a' n' c')) w' = .ok (.string ((⟨x.toArray⟩ : ByteArray) ++ ⟨y.toArray⟩)) w' ∧ Below w.heap.size w w') ∧
    (∀ wx, Below w.heap.size w wx → Calls Try.prog 18 #[.slice a n c, .slice b m d] wx fun e w' => e = .returned (.int .i64 (commonN x y : Nat)) ∧ Below w.heap.size w w') ∧
    (∀ wx, Below w.heap.size w wx → Calls Try.prog 19 #[.slice a n c, .slice b m d] wx fun e w' => e = .returned (.int .i64 (commonN x y : Nat)) ∧ Below w.heap.size w w') ∧
    (∀ wx, Below w.heap.size w wx → Calls Try.prog 20 #[.slice a n c, .slice b m d] wx fun e w' => e = .returned (.bool (Op.bytesLess (⟨x.toArray⟩ : ByteArray).toList (⟨y.toArray⟩ : ByteArray).toList)) ∧ Below w.heap.size w w') ∧
    (∀ wx, Below w.heap.size w wx → Calls Try.prog 7 #[] wx fun e w' => e = .returned (.bool true) ∧ Below w.heap.size w w') ∧
    (⟨x.toArray⟩ : ByteArray).size ≤ 100 ∧ (⟨y.toArray⟩ : ByteArray).size ≤ 100 := by
  refine ⟨fun wx h => ⟨conv_bs (ha.below h), conv_bs (hb.below h)⟩, fun wx h => ?_, fun wx h => ?_, fun wx h => ?_, fun wx h => ?_, fun wx h => ?_, ?_, ?_⟩
  · have hf : [x, y].flatten = x ++ y := by simp
    refine (join_any _ 2 2 [x, y] (by omega) (by rw [hf, List.length_append, ha.len, hb.len]; omega) _ (rows2 w wx a b n c m d x y ha hb h)).mono ?_
    rintro e w' ⟨a', n', c', rfl, hx, hb'⟩
    refine ⟨a', n', c', rfl, ?_, h.trans (((Below.refl _ _).alloc (Nat.le_refl _) _).trans (hb'.mono (by simp)) |>.mono h.size)⟩
    rw [hf] at hx
    rw [conv_bs hx, ba_cat]
  · refine (common_any a b n m c d x y (by omega) (by omega) wx (ha.below h) (hb.below h)).mono ?_
    rintro e w' ⟨rfl, q, rfl⟩
    exact ⟨rfl, below_drewN h q⟩
  · refine (rcommon_any a b n m c d x y (by omega) (by omega) wx (ha.below h) (hb.below h)).mono ?_
    rintro e w' ⟨rfl, q, rfl⟩
    exact ⟨rfl, below_drewN h q⟩
  · refine (less_any a b n m c d x y wx (ha.below h) (hb.below h)).mono ?_
    rintro e w' ⟨rfl, rfl⟩
    exact ⟨by rw [ByteArray.toList_eq, ByteArray.toList_eq], h⟩
  · refine (Na.awake_any wx).mono ?_
    rintro e w' ⟨rfl, hb'⟩
    exact ⟨rfl, h.trans (hb'.mono h.size)⟩
  · show x.toArray.size ≤ 100; simp [ha.len]; exact hn
  · show y.toArray.size ≤ 100; simp [hb.len]; exact hm

set_option maxRecDepth 100000 in
set_option maxHeartbeats 4000000 in
theorem walk_small (a b : Option Addr) (n m c d : Nat) (x y : List UInt8) (hn : n ≤ 100) (hm : m ≤ 100) (w : World) (ha : IsBs w a n c x) (hb : IsBs w b m d y) :
    Calls Try.prog 6 #[.slice a n c, .slice b m d] w fun e w' => e = .returned (.bool true) ∧ Below w.heap.size w w' := by
  have HA := Lib.hid ha
  have HB := Lib.hid hb
  have HT := Lib.hid (text_any a n c x (by omega) w ha)
  have hTs := text_size x n ha.len
  have HC := Lib.hid (fun k hk => text_cut x n k ha.len hk)
  obtain ⟨T, hT⟩ : ∃ T, (⟨(textK x n).toArray⟩ : ByteArray) = T := ⟨_, rfl⟩
  rw [hT] at HT hTs HC
  clear ha hb hT
  go_enter Try.func6, Try.ntmps6
  go_wp2_with fail
  refine HT.out.mono ?_
  rintro e w1 ⟨rfl, hb1⟩
  go_wp2
  go_loopw [6] (fun i wr => ∃ k : Nat, k ≤ n ∧ i = .int .i64 k ∧ ∃ q, wr = w1.drewN q) (fun i _ => n - (intOf i).toNat)
  case atStart => exact ⟨0, Nat.zero_le _, rfl, 0, rfl⟩
  case round =>
    obtain ⟨k, hk, rfl, q, rfl⟩ := hrel
    by_cases hlt : k < n
    · obtain ⟨b0, off, rfl, hbl, hc0⟩ := HA.out.at' k hlt
      have hc : w1.cell? ⟨b0, off + k, none⟩ = some (.int .u8 (x.getD k 0).toNat) := by rw [hb1.cell (p := ⟨b0, off + k, none⟩) hbl]; exact hc0
      have hcut := HC.out k hlt
      have hz256 : (x.getD k 0).toNat < 256 := UInt8.toNat_lt _
      obtain ⟨z, hz⟩ : ∃ z, (x.getD k 0).toNat = z := ⟨_, rfl⟩
      rw [hz] at hc hcut hz256
      clear hc0 hz
      by_cases h16 : z < 16
      · have hdc := dig_cut ⟨z, h16⟩
        go_wp2_with fail
        go_quiet (fail)
        go_wp2
        go_roundw
        case rel => exact ⟨k + 1, by omega, by go_num, (by first | exact ⟨_, rfl⟩ | exact ⟨_, World.drewN_drewN ..⟩)⟩
        case measure => simp [intOf]; omega
      · have hD : digN z = 63 := by unfold digN; rw [if_neg (by omega), if_neg (by omega)]
        rw [hD] at hcut
        clear hD
        go_wp2
        go_roundw
        case rel => exact ⟨k + 1, by omega, by go_num, (by first | exact ⟨_, rfl⟩ | exact ⟨_, World.drewN_drewN ..⟩)⟩
        case measure => simp [intOf]; omega
    · obtain rfl : k = n := by omega
      have hbq : Below w.heap.size w (w1.drewN q) := below_drewN hb1 q
      obtain ⟨w2, hw2⟩ : ∃ w2, w1.drewN q = w2 := ⟨_, rfl⟩
      rw [hw2] at hbq ⊢
      clear hw2 HC HT hb1
      have K := last_keys a b k m c d x y hn hm w HA.out HB.out
      obtain ⟨A, hA⟩ : ∃ A, (⟨x.toArray⟩ : ByteArray) = A := ⟨_, rfl⟩
      obtain ⟨B, hB⟩ : ∃ B, (⟨y.toArray⟩ : ByteArray) = B := ⟨_, rfl⟩
      obtain ⟨N, hN⟩ : ∃ N, commonN x y = N := ⟨_, rfl⟩
      simp only [hA, hB, hN] at K
      obtain ⟨k1, k2, k3, k4, k5, k6, k7, k8⟩ := K
      have HS := Lib.hid k1
      have HJ := Lib.hid k2
      have HCm := Lib.hid k3
      have HRc := Lib.hid k4
      have HLs := Lib.hid k5
      have HAw := Lib.hid k6
      clear k1 k2 k3 k4 k5 k6 hA hB hN HA HB
      have hb0 : Below w.heap.size w w2.drew := hbq.drew
      have hS0 := HS.out _ hb0
      go_wp2_with fail
      have hadd : ¬ (9223372036854775807 < A.size + B.size) := by omega
      have hadd2 : A.size + B.size ≤ 9223372036854775807 := by omega
      refine wp_region_noPanic ?_
      refine wp_region_held_drew (S := (fun w' => Sem.run Try.prog (convert 24 9 (Value.slice a k c)) w' = .ok (.string A) w' ∧ Sem.run Try.prog (convert 24 9 (Value.slice b m d)) w' = .ok (.string B) w')) (by kernel_rfl) hS0 (fun hHeld => ?_)
      refine wpAnyH_ready (rs := [0]) (by kernel_rfl) (by simp) ?_
      refine readyL (i := 0) rfl (fun K hK => ?_)
      go_simp
      go_at_call 7
      with_reducible refine (HAw.out _ (by assumption)).mono ?_
      rintro e w' ⟨rfl, hb'⟩
      refine hK.out _ _ ?_ (fun hHeld => ?_)
      · first | exact HS.out _ (by assumption) | exact HS.out _ (bel_alloc (by assumption) _)
      clear hK K
      try simp only [Act.put, List.setIfInBounds_toArray, List.set_cons_zero, List.set_cons_succ]
      refine takeL (i := 1) (v := ?_) rfl (by kernel_rfl) (by kernel_rfl) (by kernel_rfl) (fun _ _ _ h => h) (Or.inl ⟨by rfl, ?_⟩) (by assumption) ?_
      rotate_left
      · (intro w hSw; (try dsimp only at hSw); go_simp <;> with_reducible rfl)
      try simp only [Act.put, List.setIfInBounds_toArray, List.set_cons_zero, List.set_cons_succ]
      refine takeL (i := 2) (v := ?_) rfl (by kernel_rfl) (by kernel_rfl) (by kernel_rfl) (fun _ _ _ h => h) (Or.inl ⟨by rfl, ?_⟩) (by assumption) ?_
      rotate_left
      · (intro w hSw; (try dsimp only at hSw); go_simp <;> with_reducible rfl)
      try simp only [Act.put, List.setIfInBounds_toArray, List.set_cons_zero, List.set_cons_succ]
      refine takeL (i := 3) (v := ?_) rfl (by kernel_rfl) (by kernel_rfl) (by kernel_rfl) (fun _ _ _ h => h) (Or.inl ⟨by rfl, ?_⟩) (by assumption) ?_
      rotate_left
      · (intro w hSw; (try dsimp only at hSw); go_simp <;> with_reducible rfl)
      try simp only [Act.put, List.setIfInBounds_toArray, List.set_cons_zero, List.set_cons_succ]
      refine takeL (i := 4) (v := ?_) rfl (by kernel_rfl) (by kernel_rfl) (by kernel_rfl) (fun _ _ _ h => h) (Or.inl ⟨by rfl, ?_⟩) (by assumption) ?_
      rotate_left
      · (intro w hSw; (try dsimp only at hSw); go_simp <;> with_reducible rfl)
      try simp only [Act.put, List.setIfInBounds_toArray, List.set_cons_zero, List.set_cons_succ]
      refine takeL (i := 5) (v := ?_) rfl (by kernel_rfl) (by kernel_rfl) (by kernel_rfl) (fun _ _ _ h => h) (Or.inl ⟨by rfl, ?_⟩) (by assumption) ?_
      rotate_left
      · (intro w hSw; (try dsimp only at hSw); go_simp <;> with_reducible rfl)
      try simp only [Act.put, List.setIfInBounds_toArray, List.set_cons_zero, List.set_cons_succ]
      refine takeL (i := 6) (v := ?_) rfl (by kernel_rfl) (by kernel_rfl) (by kernel_rfl) (fun _ _ _ h => h) (Or.inl ⟨by rfl, ?_⟩) (by assumption) ?_
      rotate_left
      · (intro w hSw; (try dsimp only at hSw); go_simp <;> with_reducible rfl)
      try simp only [Act.put, List.setIfInBounds_toArray, List.set_cons_zero, List.set_cons_succ]
      refine takeL (i := 7) (v := ?_) rfl (by kernel_rfl) (by kernel_rfl) (by kernel_rfl) (fun _ _ _ h => h) (Or.inl ⟨by rfl, ?_⟩) (by assumption) ?_
      rotate_left
      · (intro w hSw; (try dsimp only at hSw); go_simp <;> with_reducible rfl)
      try simp only [Act.put, List.setIfInBounds_toArray, List.set_cons_zero, List.set_cons_succ]
      refine takeL (i := 8) (v := ?_) rfl (by kernel_rfl) (by kernel_rfl) (by kernel_rfl) (fun _ _ _ h => h) (Or.inl ⟨by rfl, ?_⟩) (by assumption) ?_
      rotate_left
      · (intro w hSw; (try dsimp only at hSw); go_simp <;> with_reducible rfl)
      try simp only [Act.put, List.setIfInBounds_toArray, List.set_cons_zero, List.set_cons_succ]
      refine takeL (i := 9) (v := ?_) rfl (by kernel_rfl) (by kernel_rfl) (by kernel_rfl) (fun _ _ _ h => h) (Or.inl ⟨by rfl, ?_⟩) (by assumption) ?_
      rotate_left
      · (intro w hSw; (try dsimp only at hSw); go_simp <;> with_reducible rfl)
      try simp only [Act.put, List.setIfInBounds_toArray, List.set_cons_zero, List.set_cons_succ]
      refine takeL (i := 10) (v := ?_) rfl (by kernel_rfl) (by kernel_rfl) (by kernel_rfl) (fun _ _ _ h => h) (Or.inl ⟨by rfl, ?_⟩) (by assumption) ?_
      rotate_left
      · (intro w hSw; (try dsimp only at hSw); go_simp <;> with_reducible rfl)
      try simp only [Act.put, List.setIfInBounds_toArray, List.set_cons_zero, List.set_cons_succ]
      refine takeL (i := 14) (v := ?_) rfl (by kernel_rfl) (by kernel_rfl) (by kernel_rfl) (fun _ _ _ h => h) (Or.inl ⟨by rfl, ?_⟩) (by assumption) ?_
      rotate_left
      · (intro w hSw; (try dsimp only at hSw); go_simp <;> with_reducible rfl)
      try simp only [Act.put, List.setIfInBounds_toArray, List.set_cons_zero, List.set_cons_succ]
      refine takeL (i := 15) (v := ?_) rfl (by kernel_rfl) (by kernel_rfl) (by kernel_rfl) (fun _ _ _ h => h) (Or.inl ⟨by rfl, ?_⟩) (by assumption) ?_
      rotate_left
      · (intro w hSw; (try dsimp only at hSw); go_simp <;> with_reducible rfl)
      try simp only [Act.put, List.setIfInBounds_toArray, List.set_cons_zero, List.set_cons_succ]
      refine takeL (i := 16) (v := ?_) rfl (by kernel_rfl) (by kernel_rfl) (by kernel_rfl) (fun _ _ _ h => h) (Or.inl ⟨by rfl, ?_⟩) (by assumption) ?_
      rotate_left
      · (intro w hSw; (try dsimp only at hSw); go_simp <;> with_reducible rfl)
      try simp only [Act.put, List.setIfInBounds_toArray, List.set_cons_zero, List.set_cons_succ]
      refine takeL (i := 17) (v := ?_) rfl (by kernel_rfl) (by kernel_rfl) (by kernel_rfl) (fun _ _ _ h => h) (Or.inl ⟨by rfl, ?_⟩) (by assumption) ?_
      rotate_left
      · (intro w hSw; (try dsimp only at hSw); go_simp <;> with_reducible rfl)
      try simp only [Act.put, List.setIfInBounds_toArray, List.set_cons_zero, List.set_cons_succ]
      refine takeL (i := 18) (v := ?_) rfl (by kernel_rfl) (by kernel_rfl) (by kernel_rfl) (fun _ _ _ h => h) (Or.inl ⟨by rfl, ?_⟩) (by assumption) ?_
      rotate_left
      · (intro w hSw; (try dsimp only at hSw); go_simp <;> with_reducible rfl)
      try simp only [Act.put, List.setIfInBounds_toArray, List.set_cons_zero, List.set_cons_succ]
      refine wpAnyH_ready (rs := [11]) (by kernel_rfl) (by simp) ?_
      refine readyL (i := 11) rfl (fun K hK => ?_)
      go_simp
      refine hK.out _ _ ?_ (fun hHeld => ?_)
      · first | exact HS.out _ (by assumption) | exact HS.out _ (bel_alloc (by assumption) _)
      clear hK K
      try simp only [Act.put, List.setIfInBounds_toArray, List.set_cons_zero, List.set_cons_succ]
      refine wpAnyH_ready (rs := [12]) (by kernel_rfl) (by simp) ?_
      refine readyL (i := 12) rfl (fun K hK => ?_)
      go_simp
      go_at_call 17
      with_reducible refine (HJ.out _ (by assumption)).mono ?_
      rintro e w' ⟨a', n', c', rfl, hcj, hb'⟩
      refine hK.out _ _ ?_ (fun hHeld => ?_)
      · first | exact HS.out _ (by assumption) | exact HS.out _ (bel_alloc (by assumption) _)
      clear hK K
      try simp only [Act.put, List.setIfInBounds_toArray, List.set_cons_zero, List.set_cons_succ]
      refine wpAnyH_ready (rs := [13]) (by kernel_rfl) (by simp) ?_
      refine readyL (i := 13) rfl (fun K hK => ?_)
      go_simp
      refine hK.out _ _ ?_ (fun hHeld => ?_)
      · first | exact HS.out _ (by assumption) | exact HS.out _ (bel_alloc (by assumption) _)
      clear hK K
      try simp only [Act.put, List.setIfInBounds_toArray, List.set_cons_zero, List.set_cons_succ]
      refine takeL (i := 19) (v := ?_) rfl (by kernel_rfl) (by kernel_rfl) (by kernel_rfl) (fun _ _ _ h => h) (Or.inl ⟨by rfl, ?_⟩) (by assumption) ?_
      rotate_left
      · (intro w hSw; (try dsimp only at hSw); go_simp <;> with_reducible rfl)
      try simp only [Act.put, List.setIfInBounds_toArray, List.set_cons_zero, List.set_cons_succ]
      refine takeL (i := 20) (v := ?_) rfl (by kernel_rfl) (by kernel_rfl) (by kernel_rfl) (fun _ _ _ h => h) (Or.inl ⟨by rfl, ?_⟩) (by assumption) ?_
      rotate_left
      · (intro w hSw; (try dsimp only at hSw); go_simp <;> with_reducible rfl)
      try simp only [Act.put, List.setIfInBounds_toArray, List.set_cons_zero, List.set_cons_succ]
      refine takeL (i := 21) (v := ?_) rfl (by kernel_rfl) (by kernel_rfl) (by kernel_rfl) (fun _ _ _ h => h) (Or.inl ⟨by rfl, ?_⟩) (by assumption) ?_
      rotate_left
      · (intro w hSw; (try dsimp only at hSw); go_simp <;> with_reducible rfl)
      try simp only [Act.put, List.setIfInBounds_toArray, List.set_cons_zero, List.set_cons_succ]
      refine takeL (i := 22) (v := ?_) rfl (by kernel_rfl) (by kernel_rfl) (by kernel_rfl) (fun _ _ _ h => h) (Or.inl ⟨by rfl, ?_⟩) (by assumption) ?_
      rotate_left
      · (intro w hSw; (try dsimp only at hSw); go_simp <;> with_reducible rfl)
      try simp only [Act.put, List.setIfInBounds_toArray, List.set_cons_zero, List.set_cons_succ]
      refine takeL (i := 23) (v := ?_) rfl (by kernel_rfl) (by kernel_rfl) (by kernel_rfl) (fun _ _ _ h => h) (Or.inl ⟨by rfl, ?_⟩) (by assumption) ?_
      rotate_left
      · (intro w hSw; (try dsimp only at hSw); go_simp <;> with_reducible rfl)
      try simp only [Act.put, List.setIfInBounds_toArray, List.set_cons_zero, List.set_cons_succ]
      refine takeL (i := 25) (v := ?_) rfl (by kernel_rfl) (by kernel_rfl) (by kernel_rfl) (fun _ _ _ h => h) (Or.inl ⟨by rfl, ?_⟩) (by assumption) ?_
      rotate_left
      · (intro w hSw; (try dsimp only at hSw); go_simp <;> with_reducible rfl)
      try simp only [Act.put, List.setIfInBounds_toArray, List.set_cons_zero, List.set_cons_succ]
      refine takeL (i := 26) (v := ?_) rfl (by kernel_rfl) (by kernel_rfl) (by kernel_rfl) (fun _ _ _ h => h) (Or.inl ⟨by rfl, ?_⟩) (by assumption) ?_
      rotate_left
      · (intro w hSw; (try dsimp only at hSw); go_simp <;> with_reducible rfl)
      try simp only [Act.put, List.setIfInBounds_toArray, List.set_cons_zero, List.set_cons_succ]
      refine wpAnyH_ready (rs := [24]) (by kernel_rfl) (by simp) ?_
      refine readyL (i := 24) rfl (fun K hK => ?_)
      go_simp
      go_at_call 18
      with_reducible refine (HCm.out _ (by assumption)).mono ?_
      rintro e w' ⟨rfl, hb'⟩
      refine hK.out _ _ ?_ (fun hHeld => ?_)
      · first | exact HS.out _ (by assumption) | exact HS.out _ (bel_alloc (by assumption) _)
      clear hK K
      try simp only [Act.put, List.setIfInBounds_toArray, List.set_cons_zero, List.set_cons_succ]
      refine wpAnyH_ready (rs := [27]) (by kernel_rfl) (by simp) ?_
      refine readyL (i := 27) rfl (fun K hK => ?_)
      go_simp
      go_at_call 19
      with_reducible refine (HRc.out _ (by assumption)).mono ?_
      rintro e w' ⟨rfl, hb'⟩
      refine hK.out _ _ ?_ (fun hHeld => ?_)
      · first | exact HS.out _ (by assumption) | exact HS.out _ (bel_alloc (by assumption) _)
      clear hK K
      try simp only [Act.put, List.setIfInBounds_toArray, List.set_cons_zero, List.set_cons_succ]
      refine takeL (i := 28) (v := ?_) rfl (by kernel_rfl) (by kernel_rfl) (by kernel_rfl) (fun _ _ _ h => h) (Or.inl ⟨by rfl, ?_⟩) (by assumption) ?_
      rotate_left
      · (intro w hSw; (try dsimp only at hSw); go_simp <;> with_reducible rfl)
      try simp only [Act.put, List.setIfInBounds_toArray, List.set_cons_zero, List.set_cons_succ]
      refine takeL (i := 29) (v := ?_) rfl (by kernel_rfl) (by kernel_rfl) (by kernel_rfl) (fun _ _ _ h => h) (Or.inl ⟨by rfl, ?_⟩) (by assumption) ?_
      rotate_left
      · (intro w hSw; (try dsimp only at hSw); go_simp <;> with_reducible rfl)
      try simp only [Act.put, List.setIfInBounds_toArray, List.set_cons_zero, List.set_cons_succ]
      refine takeL (i := 30) (v := ?_) rfl (by kernel_rfl) (by kernel_rfl) (by kernel_rfl) (fun _ _ _ h => h) (Or.inl ⟨by rfl, ?_⟩) (by assumption) ?_
      rotate_left
      · (intro w hSw; (try dsimp only at hSw); go_simp <;> with_reducible rfl)
      try simp only [Act.put, List.setIfInBounds_toArray, List.set_cons_zero, List.set_cons_succ]
      refine takeL (i := 31) (v := ?_) rfl (by kernel_rfl) (by kernel_rfl) (by kernel_rfl) (fun _ _ _ h => h) (Or.inl ⟨by rfl, ?_⟩) (by assumption) ?_
      rotate_left
      · (intro w hSw; (try dsimp only at hSw); go_simp <;> with_reducible rfl)
      try simp only [Act.put, List.setIfInBounds_toArray, List.set_cons_zero, List.set_cons_succ]
      refine takeL (i := 32) (v := ?_) rfl (by kernel_rfl) (by kernel_rfl) (by kernel_rfl) (fun _ _ _ h => h) (Or.inl ⟨by rfl, ?_⟩) (by assumption) ?_
      rotate_left
      · (intro w hSw; (try dsimp only at hSw); go_simp <;> with_reducible rfl)
      try simp only [Act.put, List.setIfInBounds_toArray, List.set_cons_zero, List.set_cons_succ]
      refine takeL (i := 34) (v := ?_) rfl (by kernel_rfl) (by kernel_rfl) (by kernel_rfl) (fun _ _ _ h => h) (Or.inl ⟨by rfl, ?_⟩) (by assumption) ?_
      rotate_left
      · (intro w hSw; (try dsimp only at hSw); go_simp <;> with_reducible rfl)
      try simp only [Act.put, List.setIfInBounds_toArray, List.set_cons_zero, List.set_cons_succ]
      refine takeL (i := 35) (v := ?_) rfl (by kernel_rfl) (by kernel_rfl) (by kernel_rfl) (fun _ _ _ h => h) (Or.inl ⟨by rfl, ?_⟩) (by assumption) ?_
      rotate_left
      · (intro w hSw; (try dsimp only at hSw); go_simp <;> with_reducible rfl)
      try simp only [Act.put, List.setIfInBounds_toArray, List.set_cons_zero, List.set_cons_succ]
      refine takeL (i := 36) (v := ?_) rfl (by kernel_rfl) (by kernel_rfl) (by kernel_rfl) (fun _ _ _ h => h) (Or.inl ⟨by rfl, ?_⟩) (by assumption) ?_
      rotate_left
      · (intro w hSw; (try dsimp only at hSw); go_simp <;> with_reducible rfl)
      try simp only [Act.put, List.setIfInBounds_toArray, List.set_cons_zero, List.set_cons_succ]
      refine takeL (i := 37) (v := ?_) rfl (by kernel_rfl) (by kernel_rfl) (by kernel_rfl) (fun _ _ _ h => h) (Or.inl ⟨by rfl, ?_⟩) (by assumption) ?_
      rotate_left
      · (intro w hSw; (try dsimp only at hSw); go_simp <;> with_reducible rfl)
      try simp only [Act.put, List.setIfInBounds_toArray, List.set_cons_zero, List.set_cons_succ]
      refine takeL (i := 38) (v := ?_) rfl (by kernel_rfl) (by kernel_rfl) (by kernel_rfl) (fun _ _ _ h => h) (Or.inl ⟨by rfl, ?_⟩) (by assumption) ?_
      rotate_left
      · (intro w hSw; (try dsimp only at hSw); go_simp <;> with_reducible rfl)
      try simp only [Act.put, List.setIfInBounds_toArray, List.set_cons_zero, List.set_cons_succ]
      refine wpAnyH_ready (rs := [33]) (by kernel_rfl) (by simp) ?_
      refine readyL (i := 33) rfl (fun K hK => ?_)
      go_simp
      go_at_call 20
      with_reducible refine (HLs.out _ (by assumption)).mono ?_
      rintro e w' ⟨rfl, hb'⟩
      refine hK.out _ _ ?_ (fun hHeld => ?_)
      · first | exact HS.out _ (by assumption) | exact HS.out _ (bel_alloc (by assumption) _)
      clear hK K
      try simp only [Act.put, List.setIfInBounds_toArray, List.set_cons_zero, List.set_cons_succ]
      refine takeL (i := 39) (v := ?_) rfl (by kernel_rfl) (by kernel_rfl) (by kernel_rfl) (fun _ _ _ h => h) (Or.inl ⟨by rfl, ?_⟩) (by assumption) ?_
      rotate_left
      · (intro w hSw; (try dsimp only at hSw); go_simp <;> with_reducible rfl)
      try simp only [Act.put, List.setIfInBounds_toArray, List.set_cons_zero, List.set_cons_succ]
      refine takeL (i := 40) (v := ?_) rfl (by kernel_rfl) (by kernel_rfl) (by kernel_rfl) (fun _ _ _ h => h) (Or.inl ⟨by rfl, ?_⟩) (by assumption) ?_
      rotate_left
      · (intro w hSw; (try dsimp only at hSw); go_simp <;> with_reducible rfl)
      try simp only [Act.put, List.setIfInBounds_toArray, List.set_cons_zero, List.set_cons_succ]
      refine takeL (i := 41) (v := ?_) rfl (by kernel_rfl) (by kernel_rfl) (by kernel_rfl) (fun _ _ _ h => h) (Or.inl ⟨by rfl, ?_⟩) (by assumption) ?_
      rotate_left
      · (intro w hSw; (try dsimp only at hSw); go_simp <;> with_reducible rfl)
      try simp only [Act.put, List.setIfInBounds_toArray, List.set_cons_zero, List.set_cons_succ]
      refine wpAnyH_done (by kernel_rfl) ?_ _
      refine NoPanic.normal ?_
      go_wp2
      go_ret
      exact ⟨rfl, by assumption⟩


theorem walk (a b : Option Addr) (n m c d : Nat) (x y : List UInt8) (w : World) (ha : IsBs w a n c x) (hb : IsBs w b m d y) :
    Calls Try.prog 6 #[.slice a n c, .slice b m d] w fun e w' => e = .returned (.bool true) ∧ Below w.heap.size w w' := by
  by_cases h1 : 100 < n
  · exact walk_big1 a b n m c d h1 w
  · by_cases h2 : 100 < m
    · exact walk_big2 a b n m c d (by omega) h2 w
    · exact walk_small a b n m c d x y (by omega) (by omega) w ha hb

set_option maxRecDepth 100000 in
theorem lifted (os : Os) (started : os.Started) (H : Type) (enc : TypeId × Value → H) :
    ReturnsInHanded {} Try.checked os 6 .any (Rows.nibPathsSpec.pre6 enc Try.prog Try.f6 Rows.nibPathsRow.domain false) (Rows.nibPathsSpec.post enc Try.prog Try.f6 false true false false) := by
  refine returnsInHanded_of_change (C := Try.checked) own started (by kernel_rfl) Try.func6
    (ChangeSpec.witness6 (enc := enc) (C := Try.checked) false ⟨#[], #[.slice none 0 0, .slice none 0 0], []⟩ 8 (by kernel_rfl) (by kernel_rfl) (by kernel_rfl) (by kernel_rfl)) ?_
  intro W base args ds gs before hval0 hW _ _
  have hval : ∀ (j : Nat) t v, Try.f6.params[j]? = some t → args[j]? = some v → Value.okWide Try.prog W .any base t v := hval0
  have hW' := hW
  obtain ⟨p, q, hA0, hV, rfl, hfz, hnd⟩ := hW
  have hA : DataW.TrodAll enc Try.prog W 0 (fun _ => true) true Try.f6.params.toList args.toList ds p := hA0
  rw [Try.params6] at hA hval
  obtain ⟨v0, vs0, d0, ds0, p0, q0, hargs, rfl, rfl, h0, r0⟩ := trodAll_cons hA
  obtain ⟨v1, vs1, d1, ds1, p1, q1, rfl, rfl, rfl, h1, r1⟩ := trodAll_cons r0
  obtain ⟨rfl, rfl, rfl⟩ := trodAll_nil r1
  obtain rfl : args = #[v0, v1] := by cases args; simp_all
  obtain ⟨rfl, rfl⟩ := trodVars_none hV
  have k0 := h0
  have lt0 : ∀ x ∈ p0, x.block < W.heap.size := by obtain ⟨m, hm⟩ := k0; exact DataW.trod_lt m _ _ _ hm
  obtain ⟨b0, len0, cap0, rfl⟩ := okWide_slice Try.underlying24 (hval 0 24 v0 rfl rfl)
  obtain ⟨l0, hl0⟩ := isBs_of Try.underlying24 Try.underlying5 (by kernel_rfl) h0
  have k1 := h1
  have lt1 : ∀ x ∈ p1, x.block < W.heap.size := by obtain ⟨m, hm⟩ := k1; exact DataW.trod_lt m _ _ _ hm
  obtain ⟨b1, len1, cap1, rfl⟩ := okWide_slice Try.underlying24 (hval 1 24 v1 rfl rfl)
  obtain ⟨l1, hl1⟩ := isBs_of Try.underlying24 Try.underlying5 (by kernel_rfl) h1
  clear hA0 hval0
  refine (walk b0 b1 len0 len1 cap0 cap1 l0 l1 W hl0 hl1).mono fun e W' ⟨he, bel⟩ => ?_
  subst he
  exact ⟨_, rfl, _, _, _, [], _, [], hW', trodAll_mk1 (shut_bool Try.underlying4 _), (trodAll_cons_mk (Below.trod laidOut (by kernel_rfl) (of_decide_eq_true (by kernel_rfl)) k0 bel lt0) (trodAll_cons_mk (Below.trod laidOut (by kernel_rfl) (of_decide_eq_true (by kernel_rfl)) k1 bel lt1) trodAll_mk0)), rfl, bel.frame _, fun h => by cases h⟩

theorem over : Rows.nibPathsRow.holds Try.pinned (OpenSpec.ofChange Rows.nibPathsSpec) :=
  OpenClaim.holds_of_wide 6 Try.f6 rfl rfl rfl rfl rfl rfl rfl ⟨rfl, rfl, rfl, rfl, rfl⟩ rfl rfl rfl rfl rfl (by kernel_rfl) Try.func6 (by kernel_rfl)
    (of_decide_eq_true (by kernel_rfl)) (by unfold Func.isWrapper; first | (rw [if_pos (by decide +kernel)]; kernel_rfl) | (rw [if_neg (by decide +kernel)]; exact ⟨rfl, rfl⟩))
    (fun os started H enc _ => lifted os started H enc)

theorem proved : Rows.NibPathsSaid := over

end Go.Proofs.Ytihgiflhjhoghaa.nibPaths
