/-
  NibKeys: any key's path is the plain answer's, and its key is that key; any path of 64 nibbles has a key whose path it is, any other list of bytes has none; for every key and every list of bytes (of more than 200 bytes: the law asks what comes at any rate).
-/
import Derived.Test.YtihgiflhjhoghaaNibAw
import Derived.Test.YtihgiflhjhoghaaKeyEq
import Derived.Test.YtihgiflhjhoghaaKeyIn
import Derived.Deep.RegionHeld3
import Derived.OpenShut
import Derived.ShutString
import Derived.ChangeOld
import Derived.Below
namespace Go.Proofs.Ytihgiflhjhoghaa.nibKeys
open Go.ChangeShapes Go.WideShapes Go.ChangeAt Go.RowKit
open Ni Ky

theorem own : ownKnob Try.prog.godebug = none := by kernel_rfl
theorem laidOut : laidOutB Try.prog = true := by kernel_rfl

/-- the operation at a place of a region -/
def nthO : List Oper → Nat → Option Oper
  | [], _ => none
  | o :: _, 0 => some o
  | _ :: l, n + 1 => nthO l n
theorem nthO_eq : ∀ (l : List Oper) (n : Nat), l[n]? = nthO l n
  | [], _ => by simp [nthO]
  | _ :: _, 0 => by simp [nthO]
  | _ :: l, n + 1 => by simpa [nthO] using nthO_eq l n
theorem takeL {P : Program} {md : Region.Mode} {l : List Oper} {Q : Exit → Act → World → Prop} {S : World → Prop} {i : Nat} {oi : Oper} {v : Value} {fuel : Nat} {listed : Array Bool} {a : Act} {w : World} (hi : nthO l i = some oi)
    (hs : Region.noSelect l.toArray = true) (hf : Region.free md l.toArray listed i = true) (hr : (Region.ready md l.toArray listed).contains i = true)
    (hQ : ∀ c a w, Q (.panic c) (a.put oi.dst v) w → Q (.panic c) a w) (hy : YieldsIf P l.toArray S oi v a) (hS : S w)
    (h : wpAnyH P md l.toArray Q S fuel (listed.setIfInBounds i true) (a.put oi.dst v) w) : wpAnyH P md l.toArray Q S (fuel + 1) listed a w :=
  wpAnyH_take (by rw [List.getElem?_toArray, nthO_eq]; exact hi) hs hf hr hQ hy hS h
theorem readyL {P : Program} {md : Region.Mode} {l : List Oper} {Q : Exit → Act → World → Prop} {S : World → Prop} {fuel : Nat} {listed : Array Bool} {a : Act} {w : World} {i : Nat} {o : Oper} (ho : nthO l i = some o)
    (h : ∀ K' : Act → World → Prop, Shut (∀ a w, S w → (S w → wpAnyH P md l.toArray Q S fuel (listed.setIfInBounds i true) a w) → K' a w) → if Region.wanted o (yielded l.toArray a.tmps) = true then Oper.wp P o a w K' Q else K' (a.put o.dst undef) w) : AllReadyH P md l.toArray Q S fuel listed a w [i] :=
  AllReadyH.cons (by rw [List.getElem?_toArray, nthO_eq]; exact ho) h AllReadyH.nil

/-- an operation of a guarded place whose run is known -/
theorem wpList_run_w {P : Program} {w : World} {ops : Array Oper} {rest : List Oper} {o : Oper} {a : Act} {Q : Exit → Act → World → Prop} (hw : Region.wanted o (yielded ops a.tmps) = true) (v : Value) (w' : World)
    (hr : (execOp a.eval o).run P w = .ok (.value v) w') (h : wpList P ops Q rest (a.put o.dst v) w') : wpList P ops Q (o :: rest) a w :=
  wpList_step fun K hK => by
    rw [if_pos hw]
    unfold Oper.wp
    rw [hr]
    exact hK _ _ h
theorem run_neq_op (ev : Operand → Value) (o : Oper) (k : List UInt8) (hk : k.length = 32) (w : World) (h : ∃ x y, o.op = .binOp .neq 23 x y 23 ∧ ev x = .agg (kc k) ∧ ev y = .agg (kc k)) :
    (execOp ev o).run Try.prog w = .ok (.value (.bool false)) w := by
  obtain ⟨x, y, ho, hx, hy⟩ := h
  unfold execOp
  simp [ho, hx, hy, run_eqGuard_agg, neq_key k hk w, Result.andThen]
theorem run_eql_op (ev : Operand → Value) (o : Oper) (k : List UInt8) (hk : k.length = 32) (w : World) (h : ∃ x y, o.op = .binOp .eql 23 x y 23 ∧ ev x = .agg (kc k) ∧ ev y = .agg (kc k)) :
    (execOp ev o).run Try.prog w = .ok (.value (.bool true)) w := by
  obtain ⟨x, y, ho, hx, hy⟩ := h
  unfold execOp
  simp [ho, hx, hy, run_eqGuard_agg, eql_key k hk w, Result.andThen]
theorem run_load_op' (ev : Operand → Value) (o : Oper) (w : World) (g : Nat) (l : List UInt8) (h : ∃ x, o.op = .load 23 x ∧ ev x = .pointer (some ⟨g, 0, none⟩)) (hr : (loadVar 23 ⟨g, 0, none⟩).run Try.prog w = .ok (.agg (kc l)) w) :
    (execOp ev o).run Try.prog w = .ok (.value (.agg (kc l))) w := by
  obtain ⟨x, ho, hx⟩ := h
  exact run_load_op ev o x w g l ho hx hr
theorem zk_len : zk.length = 32 := rfl

set_option maxRecDepth 100000 in
set_option maxHeartbeats 1000000 in
theorem walk_big (k : List UInt8) (b : Option Addr) (n c : Nat) (hn : 200 < n) (w : World) :
    Calls Try.prog 3 #[.agg (kc k), .slice b n c] w fun e w' => e = .returned (.bool true) ∧ Below w.heap.size w w' := by
  obtain ⟨C, hC⟩ : ∃ C, kc k = C := ⟨_, rfl⟩
  rw [hC]
  clear hC
  go_enter Try.func3, Try.ntmps3
  go_wp2_with fail
  refine (Na.awake_any _).mono ?_
  rintro e w1 ⟨rfl, hb⟩
  go_wp2
  go_ret
  exact ⟨rfl, ((Below.refl w.heap.size w).alloc (Nat.le_refl _) _).trans (hb.mono (by simp))⟩

/-- what the last regions' calls and readings come to, in whatever world has left what lies there alone -/
theorem last_facts (k yk : List UInt8) (hk : k.length = 32) (hyk : yk.length = 32) (a1 b : Option Addr) (n c1 c : Nat) (l : List UInt8) (g0 g6 g8 : Nat) (w5 : World) (hx : IsBs w5 a1 64 c1 (pathK k)) (h : IsBs w5 b n c l)
    (h0 : w5.heap[g0]? = some (.cells (kc k) 23 (0, 0))) (h6 : w5.heap[g6]? = some (.cells (kc k) 23 (0, 0))) (h8 : w5.heap[g8]? = some (.cells (kc yk) 23 (0, 0))) (l0 : g0 < w5.heap.size) (l6 : g6 < w5.heap.size) (l8 : g8 < w5.heap.size) :
    (∀ w', Below w5.heap.size w5 w' → (loadVar 23 ⟨g0, 0, none⟩).run Try.prog w' = .ok (.agg (kc k)) w' ∧ (loadVar 23 ⟨g6, 0, none⟩).run Try.prog w' = .ok (.agg (kc k)) w' ∧ Sem.run Try.prog (convert 24 9 (Value.slice a1 64 c1)) w' = .ok (.string ⟨(pathK k).toArray⟩) w') ∧
    (∀ w', Below w5.heap.size w5 w' → (loadVar 23 ⟨g8, 0, none⟩).run Try.prog w' = .ok (.agg (kc yk)) w' ∧ Sem.run Try.prog (convert 24 9 (Value.slice b n c)) w' = .ok (.string ⟨l.toArray⟩) w') ∧
    (∀ wx, Below w5.heap.size w5 wx → Calls Try.prog 10 #[.agg (kc k)] wx fun e w' => ∃ a' n' c', e = .returned (.slice a' n' c') ∧ Sem.run Try.prog (convert 24 9 (Value.slice a' n' c')) w' = .ok (.string ⟨(pathK k).toArray⟩) w' ∧ Below w5.heap.size w5 w') ∧
    (∀ wx, Below w5.heap.size w5 wx → Calls Try.prog 10 #[.agg (kc yk)] wx fun e w' => ∃ a' n' c', e = .returned (.slice a' n' c') ∧ Sem.run Try.prog (convert 24 9 (Value.slice a' n' c')) w' = .ok (.string ⟨(pathK yk).toArray⟩) w' ∧ Below w5.heap.size w5 w') ∧
    (∀ wx, Below w5.heap.size w5 wx → Calls Try.prog 11 #[.slice b n c] wx fun e w' => e = .returned (.bool (rightB l)) ∧ Below w5.heap.size w5 w') ∧
    (∀ wx, Below w5.heap.size w5 wx → Calls Try.prog 12 #[.slice b n c] wx fun e w' => e = .returned (.bool (rightB l)) ∧ Below w5.heap.size w5 w') ∧
    (∀ wx, Below w5.heap.size w5 wx → Calls Try.prog 7 #[] wx fun e w' => e = .returned (.bool true) ∧ Below w5.heap.size w5 w') := by
  refine ⟨fun w' hb => ⟨load_block w' g0 k hk (by rw [hb.block g0 l0]; exact h0), load_block w' g6 k hk (by rw [hb.block g6 l6]; exact h6), conv_bs (hx.below hb)⟩, fun w' hb => ⟨load_block w' g8 yk hyk (by rw [hb.block g8 l8]; exact h8), conv_bs (h.below hb)⟩, fun wx hb => ?_, fun wx hb => ?_, fun wx hb => ?_, fun wx hb => ?_, fun wx hb => ?_⟩
  · refine (rpath_any k hk wx).mono ?_
    rintro e w' ⟨a', n', c', rfl, hx', hb'⟩
    exact ⟨a', n', c', rfl, conv_bs hx', hb.trans (hb'.mono hb.size)⟩
  · refine (rpath_any yk hyk wx).mono ?_
    rintro e w' ⟨a', n', c', rfl, hx', hb'⟩
    exact ⟨a', n', c', rfl, conv_bs hx', hb.trans (hb'.mono hb.size)⟩
  · refine (right_any b n c l wx (h.below hb)).mono ?_
    rintro e w' ⟨rfl, rfl⟩
    exact ⟨rfl, hb⟩
  · refine (rright_any b n c l wx (h.below hb)).mono ?_
    rintro e w' ⟨rfl, rfl⟩
    exact ⟨rfl, hb⟩
  · refine (Na.awake_any wx).mono ?_
    rintro e w' ⟨rfl, hb'⟩
    exact ⟨rfl, hb.trans (hb'.mono hb.size)⟩

theorem key_wrong (b : Option Addr) (n c : Nat) (l : List UInt8) (hw : n ≠ 64 ∨ rightB l = false) (w : World) (h : IsBs w b n c l) :
    Calls Try.prog 9 #[.slice b n c] w fun e w' => e = .returned (.tuple #[.agg (kc zk), .int .i64 2]) ∧ Below w.heap.size w w' := by
  by_cases h64 : n = 64
  · subst h64
    exact key_bad2 b c l (by simpa using hw) w h
  · exact key_bad1 b n c h64 w

set_option maxRecDepth 100000 in
set_option maxHeartbeats 4000000 in
theorem walk_wrong1 (k : List UInt8) (hk : k.length = 32) (b : Option Addr) (n c : Nat) (l : List UInt8) (hn : n ≤ 200) (hw : n ≠ 64 ∨ rightB l = false) (hr0 : rightB l = false) (w : World) (h : IsBs w b n c l) :
    Calls Try.prog 3 #[.agg (kc k), .slice b n c] w fun e w' => e = .returned (.bool true) ∧ Below w.heap.size w w' := by
  obtain ⟨yk, hyke⟩ : ∃ yk, zk = yk := ⟨_, rfl⟩
  have hyk : yk.length = 32 := by rw [← hyke]; rfl
  have HK2 : ∀ wx, IsBs wx b n c l → Calls Try.prog 9 #[.slice b n c] wx fun e w' => e = .returned (.tuple #[.agg (kc yk), .int .i64 2]) ∧ Below wx.heap.size wx w' := fun wx hx => by
    rw [← hyke]; exact key_wrong b n c l hw wx hx
  have HYZ := Lib.hid hyke
  clear hyke
  have HK32 := Lib.hid hk
  have HY32 := Lib.hid hyk
  have HIk := Lib.hid (info_kc k hk)
  have HIy := Lib.hid (info_kc yk hyk)
  have hok : Hid ((kc zk).size = (kc k).size) := Lib.hid (by rw [zk_size, kc_size, hk])
  have hoy : Hid ((kc zk).size = (kc yk).size) := Lib.hid (by rw [zk_size, kc_size, hyk])
  have HL0 := Lib.hid (load_block (w.alloc (.cells (kc k) 23)) w.heap.size k hk (heap_alloc_new _ _))
  have HPath := Lib.hid (fun wx => path_any k hk wx)
  have HK1 : Hid (∀ (wx : World) a1 c1, IsBs wx a1 64 c1 (pathK k) → Calls Try.prog 9 #[.slice a1 64 c1] wx fun e w' => e = .returned (.tuple #[.agg (kc k), .int .i64 0]) ∧ Below wx.heap.size wx w') := Lib.hid (fun wx a1 c1 hx => by
    have := key_ok a1 c1 (pathK k) (path_right k) wx hx
    rw [key_path k hk] at this
    exact this)
  have H := Lib.hid h
  have HPL := Lib.hid (pathK_length k hk)
  clear hk hyk h
  go_enter Try.func3, Try.ntmps3
  go_wp2_with (first | (refine wpList_load_key rfl _ rfl w.heap.size rfl k HL0.out ?_))
  refine (HPath.out _).mono ?_
  rintro e w1 ⟨a1, n1, c1, rfl, hx1, hb1⟩
  have hn1 : n1 = 64 := by rw [← hx1.len, HPL.out]
  subst hn1
  have HX1 := Lib.hid hx1
  clear hx1
  go_wp2_with fail
  refine (HK1.out _ _ _ HX1.out).mono ?_
  rintro e w2 ⟨rfl, hb2⟩
  go_wp2_with (first | (refine wpList_run rfl _ _ (run_alloc_key _ _ rfl _) ?_) | (refine wpList_store_rowTo rfl 23 _ _ rfl rfl _ (kc k) rfl rfl 23 (kc zk) (heap_alloc_new _ _) HIk.out hok.out (kc_one _) ?_))
  have hbw1 : Below w.heap.size w w1 := ((Below.refl w.heap.size w).alloc (Nat.le_refl _) _).trans (hb1.mono (by simp))
  have hbw2 : Below w.heap.size w w2 := hbw1.trans (hb2.mono hbw1.size)
  have hb12 : Below w1.heap.size w1 ((w2.alloc (.cells (kc zk) 23)).setRow w2.heap.size (kc k)) := below_row (hb2.alloc hb2.size _) hb2.size _
  have hbw3 : Below w.heap.size w ((w2.alloc (.cells (kc zk) 23)).setRow w2.heap.size (kc k)) := below_row (hbw2.alloc hbw2.size _) hbw2.size _
  have hg6 : ((w2.alloc (.cells (kc zk) 23)).setRow w2.heap.size (kc k)).heap[w2.heap.size]? = some (.cells (kc k) 23 (0, 0)) := setRow_heap _ _ _ _ _ _ (heap_alloc_new _ _)
  have hg0 : ((w2.alloc (.cells (kc zk) 23)).setRow w2.heap.size (kc k)).heap[w.heap.size]? = some (.cells (kc k) 23 (0, 0)) := by
    have h1 := hb1.block w.heap.size (by simp)
    have h2 := hb12.block w.heap.size (by have := hb1.size; simp at this; omega)
    rw [h2, h1]
    exact heap_alloc_new _ _
  obtain ⟨g6, hg6e⟩ : ∃ g6, w2.heap.size = g6 := ⟨_, rfl⟩
  obtain ⟨w3, hw3⟩ : ∃ w3, (w2.alloc (.cells (kc zk) 23)).setRow w2.heap.size (kc k) = w3 := ⟨_, rfl⟩
  rw [hw3] at hb12 hbw3 hg6 hg0
  rw [hw3]
  rw [hg6e] at hg6
  rw [hg6e]
  have HX3 := Lib.hid (HX1.out.below hb12)
  have H3 := Lib.hid (H.out.below hbw3)
  have HG0 := Lib.hid hg0
  have HG6 := Lib.hid hg6
  clear hw3 hb12 hg6 hg0 hbw1 hbw2 hb1 hb2 hg6e
  go_wp2_with fail
  refine (HK2 _ H3.out).mono ?_
  rintro e w4 ⟨rfl, hb4⟩
  go_wp2_with (first | (refine wpList_run rfl _ _ (run_alloc_key _ _ rfl _) ?_) | (refine wpList_store_rowTo rfl 23 _ _ rfl rfl _ (kc yk) rfl rfl 23 (kc zk) (heap_alloc_new _ _) HIy.out hoy.out (kc_one _) ?_))
  have hb34 : Below w3.heap.size w3 ((w4.alloc (.cells (kc zk) 23)).setRow w4.heap.size (kc yk)) := below_row (hb4.alloc hb4.size _) hb4.size _
  have hg8 : ((w4.alloc (.cells (kc zk) 23)).setRow w4.heap.size (kc yk)).heap[w4.heap.size]? = some (.cells (kc yk) 23 (0, 0)) := setRow_heap _ _ _ _ _ _ (heap_alloc_new _ _)
  obtain ⟨g8, hg8e⟩ : ∃ g8, w4.heap.size = g8 := ⟨_, rfl⟩
  obtain ⟨w5, hw5⟩ : ∃ w5, (w4.alloc (.cells (kc zk) 23)).setRow w4.heap.size (kc yk) = w5 := ⟨_, rfl⟩
  rw [hw5] at hb34 hg8
  rw [hw5]
  rw [hg8e] at hg8
  rw [hg8e]
  have hbw5 : Below w.heap.size w w5 := hbw3.trans (hb34.mono hbw3.size)
  have lt0 : w.heap.size < w5.heap.size := by
    have := (Array.getElem?_eq_some_iff.1 HG0.out).1
    have := hb34.size
    omega
  have lt6 : g6 < w5.heap.size := by
    have := (Array.getElem?_eq_some_iff.1 HG6.out).1
    have := hb34.size
    omega
  have lt8 : g8 < w5.heap.size := (Array.getElem?_eq_some_iff.1 hg8).1
  have HG05 : Hid (w5.heap[w.heap.size]? = some (.cells (kc k) 23 (0, 0))) := Lib.hid (by rw [hb34.block w.heap.size (Array.getElem?_eq_some_iff.1 HG0.out).1]; exact HG0.out)
  have HG65 : Hid (w5.heap[g6]? = some (.cells (kc k) 23 (0, 0))) := Lib.hid (by rw [hb34.block g6 (Array.getElem?_eq_some_iff.1 HG6.out).1]; exact HG6.out)
  have HX5 := Lib.hid (HX3.out.below hb34)
  have H5 := Lib.hid (H3.out.below hb34)
  have HG85 := Lib.hid hg8
  clear hw5 hb34 hg8 hbw3 hb4 hg8e
  have Kx := last_facts k yk HK32.out HY32.out a1 b n c1 c l w.heap.size g6 g8 w5 HX5.out H5.out HG05.out HG65.out HG85.out lt0 lt6 lt8
  obtain ⟨Q, hQ⟩ : ∃ Q, (⟨(pathK k).toArray⟩ : ByteArray) = Q := ⟨_, rfl⟩
  obtain ⟨QY, hQY⟩ : ∃ QY, (⟨(pathK yk).toArray⟩ : ByteArray) = QY := ⟨_, rfl⟩
  obtain ⟨PP, hPP⟩ : ∃ PP, (⟨l.toArray⟩ : ByteArray) = PP := ⟨_, rfl⟩
  obtain ⟨r, hrr⟩ : ∃ r, rightB l = r := ⟨_, rfl⟩
  simp only [hQ, hQY, hPP, hrr] at Kx
  obtain ⟨x1, x2, x3, x4, x5, x6, x7⟩ := Kx
  have HS6 := Lib.hid x1
  have HS10 := Lib.hid x2
  have HRp := Lib.hid x3
  have HRy := Lib.hid x4
  have HRi := Lib.hid x5
  have HRr := Lib.hid x6
  have HAw := Lib.hid x7
  have hb0 : Below w5.heap.size w5 w5.drew := (Below.refl _ _).drew
  have HBw5 := Lib.hid hbw5
  clear x1 x2 x3 x4 x5 x6 x7 lt0 lt6 lt8 hbw5 hQ HG0 HG6 HX3 H3 HX5 H5 HL0 HPath HK1
  go_wp2_with fail
  refine wp_region_noPanic ?_
  refine wp_region_held_drew (S := (fun w' => (loadVar 23 ⟨w.heap.size, 0, none⟩).run Try.prog w' = .ok (.agg (kc k)) w' ∧ (loadVar 23 ⟨g6, 0, none⟩).run Try.prog w' = .ok (.agg (kc k)) w' ∧ Sem.run Try.prog (convert 24 9 (Value.slice a1 64 c1)) w' = .ok (.string Q) w')) (by kernel_rfl) (HS6.out _ hb0) (fun hHeld => ?_)
  refine takeL (i := 0) (v := ?_) rfl (by kernel_rfl) (by kernel_rfl) (by kernel_rfl) (fun _ _ _ h => h) (Or.inl ⟨by rfl, ?_⟩) (by assumption) ?_
  rotate_left
  · (intro wz hSw; (try dsimp only at hSw); go_simp <;> with_reducible rfl)
  try simp only [Act.put, List.setIfInBounds_toArray, List.set_cons_zero, List.set_cons_succ]
  refine takeL (i := 1) (v := ?_) rfl (by kernel_rfl) (by kernel_rfl) (by kernel_rfl) (fun _ _ _ h => h) (Or.inl ⟨by rfl, ?_⟩) (by assumption) ?_
  rotate_left
  · (intro wz hSw; (try dsimp only at hSw); go_simp <;> with_reducible rfl)
  try simp only [Act.put, List.setIfInBounds_toArray, List.set_cons_zero, List.set_cons_succ]
  refine takeL (i := 2) (v := ?_) rfl (by kernel_rfl) (by kernel_rfl) (by kernel_rfl) (fun _ _ _ h => h) (Or.inl ⟨by rfl, ?_⟩) (by assumption) ?_
  rotate_left
  · (intro wz hSw; refine run_load_op' _ _ wz w.heap.size k ?_ hSw.1; exact ⟨_, rfl, rfl⟩)
  try simp only [Act.put, List.setIfInBounds_toArray, List.set_cons_zero, List.set_cons_succ]
  refine wpAnyH_ready (rs := [3]) (by kernel_rfl) (by simp) ?_
  refine readyL (i := 3) rfl (fun K hK => ?_)
  go_simp
  go_at_call 10
  with_reducible refine (HRp.out _ (by assumption)).mono ?_
  rintro e w' ⟨a', n', c', rfl, hcj, hb'⟩
  refine hK.out _ _ ?_ (fun hHeld => ?_)
  · exact HS6.out _ (by assumption)
  clear hK K
  try simp only [Act.put, List.setIfInBounds_toArray, List.set_cons_zero, List.set_cons_succ]
  refine wpAnyH_ready (rs := [4]) (by kernel_rfl) (by simp) ?_
  refine readyL (i := 4) rfl (fun K hK => ?_)
  go_simp
  refine hK.out _ _ ?_ (fun hHeld => ?_)
  · exact HS6.out _ (by assumption)
  clear hK K
  try simp only [Act.put, List.setIfInBounds_toArray, List.set_cons_zero, List.set_cons_succ]
  refine takeL (i := 5) (v := ?_) rfl (by kernel_rfl) (by kernel_rfl) (by kernel_rfl) (fun _ _ _ h => h) (Or.inl ⟨by rfl, ?_⟩) (by assumption) ?_
  rotate_left
  · (intro wz hSw; (try dsimp only at hSw); go_simp <;> with_reducible rfl)
  try simp only [Act.put, List.setIfInBounds_toArray, List.set_cons_zero, List.set_cons_succ]
  refine takeL (i := 6) (v := ?_) rfl (by kernel_rfl) (by kernel_rfl) (by kernel_rfl) (fun _ _ _ h => h) (Or.inl ⟨by rfl, ?_⟩) (by assumption) ?_
  rotate_left
  · (intro wz hSw; (try dsimp only at hSw); go_simp <;> with_reducible rfl)
  try simp only [Act.put, List.setIfInBounds_toArray, List.set_cons_zero, List.set_cons_succ]
  refine takeL (i := 7) (v := ?_) rfl (by kernel_rfl) (by kernel_rfl) (by kernel_rfl) (fun _ _ _ h => h) (Or.inl ⟨by rfl, ?_⟩) (by assumption) ?_
  rotate_left
  · (intro wz hSw; refine run_load_op' _ _ wz g6 k ?_ hSw.2.1; exact ⟨_, rfl, rfl⟩)
  try simp only [Act.put, List.setIfInBounds_toArray, List.set_cons_zero, List.set_cons_succ]
  refine takeL (i := 8) (v := ?_) rfl (by kernel_rfl) (by kernel_rfl) (by kernel_rfl) (fun _ _ _ h => h) (Or.inl ⟨by rfl, ?_⟩) (by assumption) ?_
  rotate_left
  · (intro wz hSw; refine run_load_op' _ _ wz w.heap.size k ?_ hSw.1; exact ⟨_, rfl, rfl⟩)
  try simp only [Act.put, List.setIfInBounds_toArray, List.set_cons_zero, List.set_cons_succ]
  refine takeL (i := 9) (v := ?_) rfl (by kernel_rfl) (by kernel_rfl) (by kernel_rfl) (fun _ _ _ h => h) (Or.inl ⟨by rfl, ?_⟩) (by assumption) ?_
  rotate_left
  · (intro wz hSw; refine run_neq_op _ _ k HK32.out wz ?_; exact ⟨_, _, rfl, rfl, rfl⟩)
  try simp only [Act.put, List.setIfInBounds_toArray, List.set_cons_zero, List.set_cons_succ]
  refine takeL (i := 10) (v := ?_) rfl (by kernel_rfl) (by kernel_rfl) (by kernel_rfl) (fun _ _ _ h => h) (Or.inl ⟨by rfl, ?_⟩) (by assumption) ?_
  rotate_left
  · (intro wz hSw; (try dsimp only at hSw); go_simp <;> with_reducible rfl)
  try simp only [Act.put, List.setIfInBounds_toArray, List.set_cons_zero, List.set_cons_succ]
  refine takeL (i := 11) (v := ?_) rfl (by kernel_rfl) (by kernel_rfl) (by kernel_rfl) (fun _ _ _ h => h) (Or.inl ⟨by rfl, ?_⟩) (by assumption) ?_
  rotate_left
  · (intro wz hSw; (try dsimp only at hSw); go_simp <;> with_reducible rfl)
  try simp only [Act.put, List.setIfInBounds_toArray, List.set_cons_zero, List.set_cons_succ]
  refine takeL (i := 12) (v := ?_) rfl (by kernel_rfl) (by kernel_rfl) (by kernel_rfl) (fun _ _ _ h => h) (Or.inl ⟨by rfl, ?_⟩) (by assumption) ?_
  rotate_left
  · (intro wz hSw; (try dsimp only at hSw); go_simp <;> with_reducible rfl)
  try simp only [Act.put, List.setIfInBounds_toArray, List.set_cons_zero, List.set_cons_succ]
  refine takeL (i := 13) (v := ?_) rfl (by kernel_rfl) (by kernel_rfl) (by kernel_rfl) (fun _ _ _ h => h) (Or.inl ⟨by rfl, ?_⟩) (by assumption) ?_
  rotate_left
  · (intro wz hSw; (try dsimp only at hSw); go_simp <;> with_reducible rfl)
  try simp only [Act.put, List.setIfInBounds_toArray, List.set_cons_zero, List.set_cons_succ]
  refine takeL (i := 14) (v := ?_) rfl (by kernel_rfl) (by kernel_rfl) (by kernel_rfl) (fun _ _ _ h => h) (Or.inl ⟨by rfl, ?_⟩) (by assumption) ?_
  rotate_left
  · (intro wz hSw; (try dsimp only at hSw); go_simp <;> with_reducible rfl)
  try simp only [Act.put, List.setIfInBounds_toArray, List.set_cons_zero, List.set_cons_succ]
  refine takeL (i := 15) (v := ?_) rfl (by kernel_rfl) (by kernel_rfl) (by kernel_rfl) (fun _ _ _ h => h) (Or.inl ⟨by rfl, ?_⟩) (by assumption) ?_
  rotate_left
  · (intro wz hSw; (try dsimp only at hSw); go_simp <;> with_reducible rfl)
  try simp only [Act.put, List.setIfInBounds_toArray, List.set_cons_zero, List.set_cons_succ]
  refine takeL (i := 16) (v := ?_) rfl (by kernel_rfl) (by kernel_rfl) (by kernel_rfl) (fun _ _ _ h => h) (Or.inl ⟨by rfl, ?_⟩) (by assumption) ?_
  rotate_left
  · (intro wz hSw; (try dsimp only at hSw); go_simp <;> with_reducible rfl)
  try simp only [Act.put, List.setIfInBounds_toArray, List.set_cons_zero, List.set_cons_succ]
  refine takeL (i := 18) (v := ?_) rfl (by kernel_rfl) (by kernel_rfl) (by kernel_rfl) (fun _ _ _ h => h) (Or.inl ⟨by rfl, ?_⟩) (by assumption) ?_
  rotate_left
  · (intro wz hSw; (try dsimp only at hSw); go_simp <;> with_reducible rfl)
  try simp only [Act.put, List.setIfInBounds_toArray, List.set_cons_zero, List.set_cons_succ]
  refine wpAnyH_ready (rs := [17]) (by kernel_rfl) (by simp) ?_
  refine readyL (i := 17) rfl (fun K hK => ?_)
  go_simp
  go_at_call 11
  with_reducible refine (HRi.out _ (by assumption)).mono ?_
  rintro e w' ⟨rfl, hb'⟩
  refine hK.out _ _ ?_ (fun hHeld => ?_)
  · exact HS6.out _ (by assumption)
  clear hK K
  try simp only [Act.put, List.setIfInBounds_toArray, List.set_cons_zero, List.set_cons_succ]
  refine wpAnyH_ready (rs := [19]) (by kernel_rfl) (by simp) ?_
  refine readyL (i := 19) rfl (fun K hK => ?_)
  go_simp
  go_at_call 12
  with_reducible refine (HRr.out _ (by assumption)).mono ?_
  rintro e w' ⟨rfl, hb'⟩
  refine hK.out _ _ ?_ (fun hHeld => ?_)
  · exact HS6.out _ (by assumption)
  clear hK K
  try simp only [Act.put, List.setIfInBounds_toArray, List.set_cons_zero, List.set_cons_succ]
  refine takeL (i := 20) (v := ?_) rfl (by kernel_rfl) (by kernel_rfl) (by kernel_rfl) (fun _ _ _ h => h) (Or.inl ⟨by rfl, ?_⟩) (by assumption) ?_
  rotate_left
  · (intro wz hSw; (try dsimp only at hSw); go_simp <;> with_reducible rfl)
  try simp only [Act.put, List.setIfInBounds_toArray, List.set_cons_zero, List.set_cons_succ]
  refine takeL (i := 21) (v := ?_) rfl (by kernel_rfl) (by kernel_rfl) (by kernel_rfl) (fun _ _ _ h => h) (Or.inl ⟨by rfl, ?_⟩) (by assumption) ?_
  rotate_left
  · (intro wz hSw; (try dsimp only at hSw); go_simp <;> with_reducible rfl)
  try simp only [Act.put, List.setIfInBounds_toArray, List.set_cons_zero, List.set_cons_succ]
  refine wpAnyH_done (by kernel_rfl) ?_ _
  refine NoPanic.normal ?_
  rw [hr0] at hrr
  subst hrr
  go_wp2_with fail
  refine (HRr.out _ (by assumption)).mono ?_
  rintro e w6 ⟨rfl, hb6⟩
  go_wp2_with fail
  refine (HAw.out _ (by assumption)).mono ?_
  rintro e w7 ⟨rfl, hb7⟩
  have HL8 := Lib.hid (HS10.out _ hb7).1
  go_wp2_with (first | (refine wpList_run_w rfl _ _ (run_load_op' _ _ _ g8 yk ?_ HL8.out) ?_; (exact ⟨_, rfl, rfl⟩)) | (refine wpList_run_w rfl _ _ (run_build_key _ _ rfl _) ?_) | (refine wpList_run_w rfl _ _ (run_eql_op _ _ yk HY32.out _ ?_) ?_; (exact ⟨_, _, rfl, rfl, congrArg (fun z => Value.agg (kc z)) HYZ.out⟩)))
  go_wp2
  go_ret
  exact ⟨rfl, HBw5.out.trans (Below.mono (by assumption) HBw5.out.size)⟩

set_option maxRecDepth 100000 in
set_option maxHeartbeats 4000000 in
theorem walk_wrong2 (k : List UInt8) (hk : k.length = 32) (b : Option Addr) (n c : Nat) (l : List UInt8) (hn : n ≤ 200) (hw : n ≠ 64 ∨ rightB l = false) (hr0 : rightB l = true) (w : World) (h : IsBs w b n c l) :
    Calls Try.prog 3 #[.agg (kc k), .slice b n c] w fun e w' => e = .returned (.bool true) ∧ Below w.heap.size w w' := by
  obtain ⟨yk, hyke⟩ : ∃ yk, zk = yk := ⟨_, rfl⟩
  have hyk : yk.length = 32 := by rw [← hyke]; rfl
  have HK2 : ∀ wx, IsBs wx b n c l → Calls Try.prog 9 #[.slice b n c] wx fun e w' => e = .returned (.tuple #[.agg (kc yk), .int .i64 2]) ∧ Below wx.heap.size wx w' := fun wx hx => by
    rw [← hyke]; exact key_wrong b n c l hw wx hx
  have HYZ := Lib.hid hyke
  clear hyke
  have hne : ((n : Int) != 64) = true := by rw [hr0] at hw; simp at hw; simp; omega
  have HK32 := Lib.hid hk
  have HY32 := Lib.hid hyk
  have HIk := Lib.hid (info_kc k hk)
  have HIy := Lib.hid (info_kc yk hyk)
  have hok : Hid ((kc zk).size = (kc k).size) := Lib.hid (by rw [zk_size, kc_size, hk])
  have hoy : Hid ((kc zk).size = (kc yk).size) := Lib.hid (by rw [zk_size, kc_size, hyk])
  have HL0 := Lib.hid (load_block (w.alloc (.cells (kc k) 23)) w.heap.size k hk (heap_alloc_new _ _))
  have HPath := Lib.hid (fun wx => path_any k hk wx)
  have HK1 : Hid (∀ (wx : World) a1 c1, IsBs wx a1 64 c1 (pathK k) → Calls Try.prog 9 #[.slice a1 64 c1] wx fun e w' => e = .returned (.tuple #[.agg (kc k), .int .i64 0]) ∧ Below wx.heap.size wx w') := Lib.hid (fun wx a1 c1 hx => by
    have := key_ok a1 c1 (pathK k) (path_right k) wx hx
    rw [key_path k hk] at this
    exact this)
  have H := Lib.hid h
  have HPL := Lib.hid (pathK_length k hk)
  clear hk hyk h
  go_enter Try.func3, Try.ntmps3
  go_wp2_with (first | (refine wpList_load_key rfl _ rfl w.heap.size rfl k HL0.out ?_))
  refine (HPath.out _).mono ?_
  rintro e w1 ⟨a1, n1, c1, rfl, hx1, hb1⟩
  have hn1 : n1 = 64 := by rw [← hx1.len, HPL.out]
  subst hn1
  have HX1 := Lib.hid hx1
  clear hx1
  go_wp2_with fail
  refine (HK1.out _ _ _ HX1.out).mono ?_
  rintro e w2 ⟨rfl, hb2⟩
  go_wp2_with (first | (refine wpList_run rfl _ _ (run_alloc_key _ _ rfl _) ?_) | (refine wpList_store_rowTo rfl 23 _ _ rfl rfl _ (kc k) rfl rfl 23 (kc zk) (heap_alloc_new _ _) HIk.out hok.out (kc_one _) ?_))
  have hbw1 : Below w.heap.size w w1 := ((Below.refl w.heap.size w).alloc (Nat.le_refl _) _).trans (hb1.mono (by simp))
  have hbw2 : Below w.heap.size w w2 := hbw1.trans (hb2.mono hbw1.size)
  have hb12 : Below w1.heap.size w1 ((w2.alloc (.cells (kc zk) 23)).setRow w2.heap.size (kc k)) := below_row (hb2.alloc hb2.size _) hb2.size _
  have hbw3 : Below w.heap.size w ((w2.alloc (.cells (kc zk) 23)).setRow w2.heap.size (kc k)) := below_row (hbw2.alloc hbw2.size _) hbw2.size _
  have hg6 : ((w2.alloc (.cells (kc zk) 23)).setRow w2.heap.size (kc k)).heap[w2.heap.size]? = some (.cells (kc k) 23 (0, 0)) := setRow_heap _ _ _ _ _ _ (heap_alloc_new _ _)
  have hg0 : ((w2.alloc (.cells (kc zk) 23)).setRow w2.heap.size (kc k)).heap[w.heap.size]? = some (.cells (kc k) 23 (0, 0)) := by
    have h1 := hb1.block w.heap.size (by simp)
    have h2 := hb12.block w.heap.size (by have := hb1.size; simp at this; omega)
    rw [h2, h1]
    exact heap_alloc_new _ _
  obtain ⟨g6, hg6e⟩ : ∃ g6, w2.heap.size = g6 := ⟨_, rfl⟩
  obtain ⟨w3, hw3⟩ : ∃ w3, (w2.alloc (.cells (kc zk) 23)).setRow w2.heap.size (kc k) = w3 := ⟨_, rfl⟩
  rw [hw3] at hb12 hbw3 hg6 hg0
  rw [hw3]
  rw [hg6e] at hg6
  rw [hg6e]
  have HX3 := Lib.hid (HX1.out.below hb12)
  have H3 := Lib.hid (H.out.below hbw3)
  have HG0 := Lib.hid hg0
  have HG6 := Lib.hid hg6
  clear hw3 hb12 hg6 hg0 hbw1 hbw2 hb1 hb2 hg6e
  go_wp2_with fail
  refine (HK2 _ H3.out).mono ?_
  rintro e w4 ⟨rfl, hb4⟩
  go_wp2_with (first | (refine wpList_run rfl _ _ (run_alloc_key _ _ rfl _) ?_) | (refine wpList_store_rowTo rfl 23 _ _ rfl rfl _ (kc yk) rfl rfl 23 (kc zk) (heap_alloc_new _ _) HIy.out hoy.out (kc_one _) ?_))
  have hb34 : Below w3.heap.size w3 ((w4.alloc (.cells (kc zk) 23)).setRow w4.heap.size (kc yk)) := below_row (hb4.alloc hb4.size _) hb4.size _
  have hg8 : ((w4.alloc (.cells (kc zk) 23)).setRow w4.heap.size (kc yk)).heap[w4.heap.size]? = some (.cells (kc yk) 23 (0, 0)) := setRow_heap _ _ _ _ _ _ (heap_alloc_new _ _)
  obtain ⟨g8, hg8e⟩ : ∃ g8, w4.heap.size = g8 := ⟨_, rfl⟩
  obtain ⟨w5, hw5⟩ : ∃ w5, (w4.alloc (.cells (kc zk) 23)).setRow w4.heap.size (kc yk) = w5 := ⟨_, rfl⟩
  rw [hw5] at hb34 hg8
  rw [hw5]
  rw [hg8e] at hg8
  rw [hg8e]
  have hbw5 : Below w.heap.size w w5 := hbw3.trans (hb34.mono hbw3.size)
  have lt0 : w.heap.size < w5.heap.size := by
    have := (Array.getElem?_eq_some_iff.1 HG0.out).1
    have := hb34.size
    omega
  have lt6 : g6 < w5.heap.size := by
    have := (Array.getElem?_eq_some_iff.1 HG6.out).1
    have := hb34.size
    omega
  have lt8 : g8 < w5.heap.size := (Array.getElem?_eq_some_iff.1 hg8).1
  have HG05 : Hid (w5.heap[w.heap.size]? = some (.cells (kc k) 23 (0, 0))) := Lib.hid (by rw [hb34.block w.heap.size (Array.getElem?_eq_some_iff.1 HG0.out).1]; exact HG0.out)
  have HG65 : Hid (w5.heap[g6]? = some (.cells (kc k) 23 (0, 0))) := Lib.hid (by rw [hb34.block g6 (Array.getElem?_eq_some_iff.1 HG6.out).1]; exact HG6.out)
  have HX5 := Lib.hid (HX3.out.below hb34)
  have H5 := Lib.hid (H3.out.below hb34)
  have HG85 := Lib.hid hg8
  clear hw5 hb34 hg8 hbw3 hb4 hg8e
  have Kx := last_facts k yk HK32.out HY32.out a1 b n c1 c l w.heap.size g6 g8 w5 HX5.out H5.out HG05.out HG65.out HG85.out lt0 lt6 lt8
  obtain ⟨Q, hQ⟩ : ∃ Q, (⟨(pathK k).toArray⟩ : ByteArray) = Q := ⟨_, rfl⟩
  obtain ⟨QY, hQY⟩ : ∃ QY, (⟨(pathK yk).toArray⟩ : ByteArray) = QY := ⟨_, rfl⟩
  obtain ⟨PP, hPP⟩ : ∃ PP, (⟨l.toArray⟩ : ByteArray) = PP := ⟨_, rfl⟩
  obtain ⟨r, hrr⟩ : ∃ r, rightB l = r := ⟨_, rfl⟩
  simp only [hQ, hQY, hPP, hrr] at Kx
  obtain ⟨x1, x2, x3, x4, x5, x6, x7⟩ := Kx
  have HS6 := Lib.hid x1
  have HS10 := Lib.hid x2
  have HRp := Lib.hid x3
  have HRy := Lib.hid x4
  have HRi := Lib.hid x5
  have HRr := Lib.hid x6
  have HAw := Lib.hid x7
  have hb0 : Below w5.heap.size w5 w5.drew := (Below.refl _ _).drew
  have HBw5 := Lib.hid hbw5
  clear x1 x2 x3 x4 x5 x6 x7 lt0 lt6 lt8 hbw5 hQ HG0 HG6 HX3 H3 HX5 H5 HL0 HPath HK1
  go_wp2_with fail
  refine wp_region_noPanic ?_
  refine wp_region_held_drew (S := (fun w' => (loadVar 23 ⟨w.heap.size, 0, none⟩).run Try.prog w' = .ok (.agg (kc k)) w' ∧ (loadVar 23 ⟨g6, 0, none⟩).run Try.prog w' = .ok (.agg (kc k)) w' ∧ Sem.run Try.prog (convert 24 9 (Value.slice a1 64 c1)) w' = .ok (.string Q) w')) (by kernel_rfl) (HS6.out _ hb0) (fun hHeld => ?_)
  refine takeL (i := 0) (v := ?_) rfl (by kernel_rfl) (by kernel_rfl) (by kernel_rfl) (fun _ _ _ h => h) (Or.inl ⟨by rfl, ?_⟩) (by assumption) ?_
  rotate_left
  · (intro wz hSw; (try dsimp only at hSw); go_simp <;> with_reducible rfl)
  try simp only [Act.put, List.setIfInBounds_toArray, List.set_cons_zero, List.set_cons_succ]
  refine takeL (i := 1) (v := ?_) rfl (by kernel_rfl) (by kernel_rfl) (by kernel_rfl) (fun _ _ _ h => h) (Or.inl ⟨by rfl, ?_⟩) (by assumption) ?_
  rotate_left
  · (intro wz hSw; (try dsimp only at hSw); go_simp <;> with_reducible rfl)
  try simp only [Act.put, List.setIfInBounds_toArray, List.set_cons_zero, List.set_cons_succ]
  refine takeL (i := 2) (v := ?_) rfl (by kernel_rfl) (by kernel_rfl) (by kernel_rfl) (fun _ _ _ h => h) (Or.inl ⟨by rfl, ?_⟩) (by assumption) ?_
  rotate_left
  · (intro wz hSw; refine run_load_op' _ _ wz w.heap.size k ?_ hSw.1; exact ⟨_, rfl, rfl⟩)
  try simp only [Act.put, List.setIfInBounds_toArray, List.set_cons_zero, List.set_cons_succ]
  refine wpAnyH_ready (rs := [3]) (by kernel_rfl) (by simp) ?_
  refine readyL (i := 3) rfl (fun K hK => ?_)
  go_simp
  go_at_call 10
  with_reducible refine (HRp.out _ (by assumption)).mono ?_
  rintro e w' ⟨a', n', c', rfl, hcj, hb'⟩
  refine hK.out _ _ ?_ (fun hHeld => ?_)
  · exact HS6.out _ (by assumption)
  clear hK K
  try simp only [Act.put, List.setIfInBounds_toArray, List.set_cons_zero, List.set_cons_succ]
  refine wpAnyH_ready (rs := [4]) (by kernel_rfl) (by simp) ?_
  refine readyL (i := 4) rfl (fun K hK => ?_)
  go_simp
  refine hK.out _ _ ?_ (fun hHeld => ?_)
  · exact HS6.out _ (by assumption)
  clear hK K
  try simp only [Act.put, List.setIfInBounds_toArray, List.set_cons_zero, List.set_cons_succ]
  refine takeL (i := 5) (v := ?_) rfl (by kernel_rfl) (by kernel_rfl) (by kernel_rfl) (fun _ _ _ h => h) (Or.inl ⟨by rfl, ?_⟩) (by assumption) ?_
  rotate_left
  · (intro wz hSw; (try dsimp only at hSw); go_simp <;> with_reducible rfl)
  try simp only [Act.put, List.setIfInBounds_toArray, List.set_cons_zero, List.set_cons_succ]
  refine takeL (i := 6) (v := ?_) rfl (by kernel_rfl) (by kernel_rfl) (by kernel_rfl) (fun _ _ _ h => h) (Or.inl ⟨by rfl, ?_⟩) (by assumption) ?_
  rotate_left
  · (intro wz hSw; (try dsimp only at hSw); go_simp <;> with_reducible rfl)
  try simp only [Act.put, List.setIfInBounds_toArray, List.set_cons_zero, List.set_cons_succ]
  refine takeL (i := 7) (v := ?_) rfl (by kernel_rfl) (by kernel_rfl) (by kernel_rfl) (fun _ _ _ h => h) (Or.inl ⟨by rfl, ?_⟩) (by assumption) ?_
  rotate_left
  · (intro wz hSw; refine run_load_op' _ _ wz g6 k ?_ hSw.2.1; exact ⟨_, rfl, rfl⟩)
  try simp only [Act.put, List.setIfInBounds_toArray, List.set_cons_zero, List.set_cons_succ]
  refine takeL (i := 8) (v := ?_) rfl (by kernel_rfl) (by kernel_rfl) (by kernel_rfl) (fun _ _ _ h => h) (Or.inl ⟨by rfl, ?_⟩) (by assumption) ?_
  rotate_left
  · (intro wz hSw; refine run_load_op' _ _ wz w.heap.size k ?_ hSw.1; exact ⟨_, rfl, rfl⟩)
  try simp only [Act.put, List.setIfInBounds_toArray, List.set_cons_zero, List.set_cons_succ]
  refine takeL (i := 9) (v := ?_) rfl (by kernel_rfl) (by kernel_rfl) (by kernel_rfl) (fun _ _ _ h => h) (Or.inl ⟨by rfl, ?_⟩) (by assumption) ?_
  rotate_left
  · (intro wz hSw; refine run_neq_op _ _ k HK32.out wz ?_; exact ⟨_, _, rfl, rfl, rfl⟩)
  try simp only [Act.put, List.setIfInBounds_toArray, List.set_cons_zero, List.set_cons_succ]
  refine takeL (i := 10) (v := ?_) rfl (by kernel_rfl) (by kernel_rfl) (by kernel_rfl) (fun _ _ _ h => h) (Or.inl ⟨by rfl, ?_⟩) (by assumption) ?_
  rotate_left
  · (intro wz hSw; (try dsimp only at hSw); go_simp <;> with_reducible rfl)
  try simp only [Act.put, List.setIfInBounds_toArray, List.set_cons_zero, List.set_cons_succ]
  refine takeL (i := 11) (v := ?_) rfl (by kernel_rfl) (by kernel_rfl) (by kernel_rfl) (fun _ _ _ h => h) (Or.inl ⟨by rfl, ?_⟩) (by assumption) ?_
  rotate_left
  · (intro wz hSw; (try dsimp only at hSw); go_simp <;> with_reducible rfl)
  try simp only [Act.put, List.setIfInBounds_toArray, List.set_cons_zero, List.set_cons_succ]
  refine takeL (i := 12) (v := ?_) rfl (by kernel_rfl) (by kernel_rfl) (by kernel_rfl) (fun _ _ _ h => h) (Or.inl ⟨by rfl, ?_⟩) (by assumption) ?_
  rotate_left
  · (intro wz hSw; (try dsimp only at hSw); go_simp <;> with_reducible rfl)
  try simp only [Act.put, List.setIfInBounds_toArray, List.set_cons_zero, List.set_cons_succ]
  refine takeL (i := 13) (v := ?_) rfl (by kernel_rfl) (by kernel_rfl) (by kernel_rfl) (fun _ _ _ h => h) (Or.inl ⟨by rfl, ?_⟩) (by assumption) ?_
  rotate_left
  · (intro wz hSw; (try dsimp only at hSw); go_simp <;> with_reducible rfl)
  try simp only [Act.put, List.setIfInBounds_toArray, List.set_cons_zero, List.set_cons_succ]
  refine takeL (i := 14) (v := ?_) rfl (by kernel_rfl) (by kernel_rfl) (by kernel_rfl) (fun _ _ _ h => h) (Or.inl ⟨by rfl, ?_⟩) (by assumption) ?_
  rotate_left
  · (intro wz hSw; (try dsimp only at hSw); go_simp <;> with_reducible rfl)
  try simp only [Act.put, List.setIfInBounds_toArray, List.set_cons_zero, List.set_cons_succ]
  refine takeL (i := 15) (v := ?_) rfl (by kernel_rfl) (by kernel_rfl) (by kernel_rfl) (fun _ _ _ h => h) (Or.inl ⟨by rfl, ?_⟩) (by assumption) ?_
  rotate_left
  · (intro wz hSw; (try dsimp only at hSw); go_simp <;> with_reducible rfl)
  try simp only [Act.put, List.setIfInBounds_toArray, List.set_cons_zero, List.set_cons_succ]
  refine takeL (i := 16) (v := ?_) rfl (by kernel_rfl) (by kernel_rfl) (by kernel_rfl) (fun _ _ _ h => h) (Or.inl ⟨by rfl, ?_⟩) (by assumption) ?_
  rotate_left
  · (intro wz hSw; (try dsimp only at hSw); go_simp <;> with_reducible rfl)
  try simp only [Act.put, List.setIfInBounds_toArray, List.set_cons_zero, List.set_cons_succ]
  refine takeL (i := 18) (v := ?_) rfl (by kernel_rfl) (by kernel_rfl) (by kernel_rfl) (fun _ _ _ h => h) (Or.inl ⟨by rfl, ?_⟩) (by assumption) ?_
  rotate_left
  · (intro wz hSw; (try dsimp only at hSw); go_simp <;> with_reducible rfl)
  try simp only [Act.put, List.setIfInBounds_toArray, List.set_cons_zero, List.set_cons_succ]
  refine wpAnyH_ready (rs := [17]) (by kernel_rfl) (by simp) ?_
  refine readyL (i := 17) rfl (fun K hK => ?_)
  go_simp
  go_at_call 11
  with_reducible refine (HRi.out _ (by assumption)).mono ?_
  rintro e w' ⟨rfl, hb'⟩
  refine hK.out _ _ ?_ (fun hHeld => ?_)
  · exact HS6.out _ (by assumption)
  clear hK K
  try simp only [Act.put, List.setIfInBounds_toArray, List.set_cons_zero, List.set_cons_succ]
  refine wpAnyH_ready (rs := [19]) (by kernel_rfl) (by simp) ?_
  refine readyL (i := 19) rfl (fun K hK => ?_)
  go_simp
  go_at_call 12
  with_reducible refine (HRr.out _ (by assumption)).mono ?_
  rintro e w' ⟨rfl, hb'⟩
  refine hK.out _ _ ?_ (fun hHeld => ?_)
  · exact HS6.out _ (by assumption)
  clear hK K
  try simp only [Act.put, List.setIfInBounds_toArray, List.set_cons_zero, List.set_cons_succ]
  refine takeL (i := 20) (v := ?_) rfl (by kernel_rfl) (by kernel_rfl) (by kernel_rfl) (fun _ _ _ h => h) (Or.inl ⟨by rfl, ?_⟩) (by assumption) ?_
  rotate_left
  · (intro wz hSw; (try dsimp only at hSw); go_simp <;> with_reducible rfl)
  try simp only [Act.put, List.setIfInBounds_toArray, List.set_cons_zero, List.set_cons_succ]
  refine takeL (i := 21) (v := ?_) rfl (by kernel_rfl) (by kernel_rfl) (by kernel_rfl) (fun _ _ _ h => h) (Or.inl ⟨by rfl, ?_⟩) (by assumption) ?_
  rotate_left
  · (intro wz hSw; (try dsimp only at hSw); go_simp <;> with_reducible rfl)
  try simp only [Act.put, List.setIfInBounds_toArray, List.set_cons_zero, List.set_cons_succ]
  refine wpAnyH_done (by kernel_rfl) ?_ _
  refine NoPanic.normal ?_
  rw [hr0] at hrr
  subst hrr
  go_wp2_with fail
  refine (HRr.out _ (by assumption)).mono ?_
  rintro e w6 ⟨rfl, hb6⟩
  go_wp2_with fail
  refine (HAw.out _ (by assumption)).mono ?_
  rintro e w7 ⟨rfl, hb7⟩
  have HL8 := Lib.hid (HS10.out _ hb7).1
  go_wp2_with (first | (refine wpList_run_w rfl _ _ (run_load_op' _ _ _ g8 yk ?_ HL8.out) ?_; (exact ⟨_, rfl, rfl⟩)) | (refine wpList_run_w rfl _ _ (run_build_key _ _ rfl _) ?_) | (refine wpList_run_w rfl _ _ (run_eql_op _ _ yk HY32.out _ ?_) ?_; (exact ⟨_, _, rfl, rfl, congrArg (fun z => Value.agg (kc z)) HYZ.out⟩)))
  go_wp2
  go_ret
  exact ⟨rfl, HBw5.out.trans (Below.mono (by assumption) HBw5.out.size)⟩

set_option maxRecDepth 100000 in
set_option maxHeartbeats 4000000 in
theorem walk_right (k : List UInt8) (hk : k.length = 32) (b : Option Addr) (n c : Nat) (l : List UInt8) (hn : n ≤ 200) (h64 : n = 64) (hr0 : rightB l = true) (w : World) (h : IsBs w b n c l) :
    Calls Try.prog 3 #[.agg (kc k), .slice b n c] w fun e w' => e = .returned (.bool true) ∧ Below w.heap.size w w' := by
  subst h64
  obtain ⟨yk, hyke⟩ : ∃ yk, keyL l = yk := ⟨_, rfl⟩
  have hyk : yk.length = 32 := by rw [← hyke]; exact keyL_length l
  have HK2 : ∀ wx, IsBs wx b 64 c l → Calls Try.prog 9 #[.slice b 64 c] wx fun e w' => e = .returned (.tuple #[.agg (kc yk), .int .i64 0]) ∧ Below wx.heap.size wx w' := fun wx hx => by
    rw [← hyke]; exact key_ok b c l hr0 wx hx
  have HYP : Hid (pathK yk = l) := Lib.hid (by rw [← hyke]; exact path_key l hr0 h.len)
  clear hyke
  have HK32 := Lib.hid hk
  have HY32 := Lib.hid hyk
  have HIk := Lib.hid (info_kc k hk)
  have HIy := Lib.hid (info_kc yk hyk)
  have hok : Hid ((kc zk).size = (kc k).size) := Lib.hid (by rw [zk_size, kc_size, hk])
  have hoy : Hid ((kc zk).size = (kc yk).size) := Lib.hid (by rw [zk_size, kc_size, hyk])
  have HL0 := Lib.hid (load_block (w.alloc (.cells (kc k) 23)) w.heap.size k hk (heap_alloc_new _ _))
  have HPath := Lib.hid (fun wx => path_any k hk wx)
  have HK1 : Hid (∀ (wx : World) a1 c1, IsBs wx a1 64 c1 (pathK k) → Calls Try.prog 9 #[.slice a1 64 c1] wx fun e w' => e = .returned (.tuple #[.agg (kc k), .int .i64 0]) ∧ Below wx.heap.size wx w') := Lib.hid (fun wx a1 c1 hx => by
    have := key_ok a1 c1 (pathK k) (path_right k) wx hx
    rw [key_path k hk] at this
    exact this)
  have H := Lib.hid h
  have HPL := Lib.hid (pathK_length k hk)
  clear hk hyk h
  go_enter Try.func3, Try.ntmps3
  go_wp2_with (first | (refine wpList_load_key rfl _ rfl w.heap.size rfl k HL0.out ?_))
  refine (HPath.out _).mono ?_
  rintro e w1 ⟨a1, n1, c1, rfl, hx1, hb1⟩
  have hn1 : n1 = 64 := by rw [← hx1.len, HPL.out]
  subst hn1
  have HX1 := Lib.hid hx1
  clear hx1
  go_wp2_with fail
  refine (HK1.out _ _ _ HX1.out).mono ?_
  rintro e w2 ⟨rfl, hb2⟩
  go_wp2_with (first | (refine wpList_run rfl _ _ (run_alloc_key _ _ rfl _) ?_) | (refine wpList_store_rowTo rfl 23 _ _ rfl rfl _ (kc k) rfl rfl 23 (kc zk) (heap_alloc_new _ _) HIk.out hok.out (kc_one _) ?_))
  have hbw1 : Below w.heap.size w w1 := ((Below.refl w.heap.size w).alloc (Nat.le_refl _) _).trans (hb1.mono (by simp))
  have hbw2 : Below w.heap.size w w2 := hbw1.trans (hb2.mono hbw1.size)
  have hb12 : Below w1.heap.size w1 ((w2.alloc (.cells (kc zk) 23)).setRow w2.heap.size (kc k)) := below_row (hb2.alloc hb2.size _) hb2.size _
  have hbw3 : Below w.heap.size w ((w2.alloc (.cells (kc zk) 23)).setRow w2.heap.size (kc k)) := below_row (hbw2.alloc hbw2.size _) hbw2.size _
  have hg6 : ((w2.alloc (.cells (kc zk) 23)).setRow w2.heap.size (kc k)).heap[w2.heap.size]? = some (.cells (kc k) 23 (0, 0)) := setRow_heap _ _ _ _ _ _ (heap_alloc_new _ _)
  have hg0 : ((w2.alloc (.cells (kc zk) 23)).setRow w2.heap.size (kc k)).heap[w.heap.size]? = some (.cells (kc k) 23 (0, 0)) := by
    have h1 := hb1.block w.heap.size (by simp)
    have h2 := hb12.block w.heap.size (by have := hb1.size; simp at this; omega)
    rw [h2, h1]
    exact heap_alloc_new _ _
  obtain ⟨g6, hg6e⟩ : ∃ g6, w2.heap.size = g6 := ⟨_, rfl⟩
  obtain ⟨w3, hw3⟩ : ∃ w3, (w2.alloc (.cells (kc zk) 23)).setRow w2.heap.size (kc k) = w3 := ⟨_, rfl⟩
  rw [hw3] at hb12 hbw3 hg6 hg0
  rw [hw3]
  rw [hg6e] at hg6
  rw [hg6e]
  have HX3 := Lib.hid (HX1.out.below hb12)
  have H3 := Lib.hid (H.out.below hbw3)
  have HG0 := Lib.hid hg0
  have HG6 := Lib.hid hg6
  clear hw3 hb12 hg6 hg0 hbw1 hbw2 hb1 hb2 hg6e
  go_wp2_with fail
  refine (HK2 _ H3.out).mono ?_
  rintro e w4 ⟨rfl, hb4⟩
  go_wp2_with (first | (refine wpList_run rfl _ _ (run_alloc_key _ _ rfl _) ?_) | (refine wpList_store_rowTo rfl 23 _ _ rfl rfl _ (kc yk) rfl rfl 23 (kc zk) (heap_alloc_new _ _) HIy.out hoy.out (kc_one _) ?_))
  have hb34 : Below w3.heap.size w3 ((w4.alloc (.cells (kc zk) 23)).setRow w4.heap.size (kc yk)) := below_row (hb4.alloc hb4.size _) hb4.size _
  have hg8 : ((w4.alloc (.cells (kc zk) 23)).setRow w4.heap.size (kc yk)).heap[w4.heap.size]? = some (.cells (kc yk) 23 (0, 0)) := setRow_heap _ _ _ _ _ _ (heap_alloc_new _ _)
  obtain ⟨g8, hg8e⟩ : ∃ g8, w4.heap.size = g8 := ⟨_, rfl⟩
  obtain ⟨w5, hw5⟩ : ∃ w5, (w4.alloc (.cells (kc zk) 23)).setRow w4.heap.size (kc yk) = w5 := ⟨_, rfl⟩
  rw [hw5] at hb34 hg8
  rw [hw5]
  rw [hg8e] at hg8
  rw [hg8e]
  have hbw5 : Below w.heap.size w w5 := hbw3.trans (hb34.mono hbw3.size)
  have lt0 : w.heap.size < w5.heap.size := by
    have := (Array.getElem?_eq_some_iff.1 HG0.out).1
    have := hb34.size
    omega
  have lt6 : g6 < w5.heap.size := by
    have := (Array.getElem?_eq_some_iff.1 HG6.out).1
    have := hb34.size
    omega
  have lt8 : g8 < w5.heap.size := (Array.getElem?_eq_some_iff.1 hg8).1
  have HG05 : Hid (w5.heap[w.heap.size]? = some (.cells (kc k) 23 (0, 0))) := Lib.hid (by rw [hb34.block w.heap.size (Array.getElem?_eq_some_iff.1 HG0.out).1]; exact HG0.out)
  have HG65 : Hid (w5.heap[g6]? = some (.cells (kc k) 23 (0, 0))) := Lib.hid (by rw [hb34.block g6 (Array.getElem?_eq_some_iff.1 HG6.out).1]; exact HG6.out)
  have HX5 := Lib.hid (HX3.out.below hb34)
  have H5 := Lib.hid (H3.out.below hb34)
  have HG85 := Lib.hid hg8
  clear hw5 hb34 hg8 hbw3 hb4 hg8e
  have Kx := last_facts k yk HK32.out HY32.out a1 b 64 c1 c l w.heap.size g6 g8 w5 HX5.out H5.out HG05.out HG65.out HG85.out lt0 lt6 lt8
  obtain ⟨Q, hQ⟩ : ∃ Q, (⟨(pathK k).toArray⟩ : ByteArray) = Q := ⟨_, rfl⟩
  obtain ⟨QY, hQY⟩ : ∃ QY, (⟨(pathK yk).toArray⟩ : ByteArray) = QY := ⟨_, rfl⟩
  obtain ⟨PP, hPP⟩ : ∃ PP, (⟨l.toArray⟩ : ByteArray) = PP := ⟨_, rfl⟩
  obtain ⟨r, hrr⟩ : ∃ r, rightB l = r := ⟨_, rfl⟩
  simp only [hQ, hQY, hPP, hrr] at Kx
  obtain ⟨x1, x2, x3, x4, x5, x6, x7⟩ := Kx
  have HS6 := Lib.hid x1
  have HS10 := Lib.hid x2
  have HRp := Lib.hid x3
  have HRy := Lib.hid x4
  have HRi := Lib.hid x5
  have HRr := Lib.hid x6
  have HAw := Lib.hid x7
  have hb0 : Below w5.heap.size w5 w5.drew := (Below.refl _ _).drew
  have HBw5 := Lib.hid hbw5
  clear x1 x2 x3 x4 x5 x6 x7 lt0 lt6 lt8 hbw5 hQ HG0 HG6 HX3 H3 HX5 H5 HL0 HPath HK1
  go_wp2_with fail
  refine wp_region_noPanic ?_
  refine wp_region_held_drew (S := (fun w' => (loadVar 23 ⟨w.heap.size, 0, none⟩).run Try.prog w' = .ok (.agg (kc k)) w' ∧ (loadVar 23 ⟨g6, 0, none⟩).run Try.prog w' = .ok (.agg (kc k)) w' ∧ Sem.run Try.prog (convert 24 9 (Value.slice a1 64 c1)) w' = .ok (.string Q) w')) (by kernel_rfl) (HS6.out _ hb0) (fun hHeld => ?_)
  refine takeL (i := 0) (v := ?_) rfl (by kernel_rfl) (by kernel_rfl) (by kernel_rfl) (fun _ _ _ h => h) (Or.inl ⟨by rfl, ?_⟩) (by assumption) ?_
  rotate_left
  · (intro wz hSw; (try dsimp only at hSw); go_simp <;> with_reducible rfl)
  try simp only [Act.put, List.setIfInBounds_toArray, List.set_cons_zero, List.set_cons_succ]
  refine takeL (i := 1) (v := ?_) rfl (by kernel_rfl) (by kernel_rfl) (by kernel_rfl) (fun _ _ _ h => h) (Or.inl ⟨by rfl, ?_⟩) (by assumption) ?_
  rotate_left
  · (intro wz hSw; (try dsimp only at hSw); go_simp <;> with_reducible rfl)
  try simp only [Act.put, List.setIfInBounds_toArray, List.set_cons_zero, List.set_cons_succ]
  refine takeL (i := 2) (v := ?_) rfl (by kernel_rfl) (by kernel_rfl) (by kernel_rfl) (fun _ _ _ h => h) (Or.inl ⟨by rfl, ?_⟩) (by assumption) ?_
  rotate_left
  · (intro wz hSw; refine run_load_op' _ _ wz w.heap.size k ?_ hSw.1; exact ⟨_, rfl, rfl⟩)
  try simp only [Act.put, List.setIfInBounds_toArray, List.set_cons_zero, List.set_cons_succ]
  refine wpAnyH_ready (rs := [3]) (by kernel_rfl) (by simp) ?_
  refine readyL (i := 3) rfl (fun K hK => ?_)
  go_simp
  go_at_call 10
  with_reducible refine (HRp.out _ (by assumption)).mono ?_
  rintro e w' ⟨a', n', c', rfl, hcj, hb'⟩
  refine hK.out _ _ ?_ (fun hHeld => ?_)
  · exact HS6.out _ (by assumption)
  clear hK K
  try simp only [Act.put, List.setIfInBounds_toArray, List.set_cons_zero, List.set_cons_succ]
  refine wpAnyH_ready (rs := [4]) (by kernel_rfl) (by simp) ?_
  refine readyL (i := 4) rfl (fun K hK => ?_)
  go_simp
  refine hK.out _ _ ?_ (fun hHeld => ?_)
  · exact HS6.out _ (by assumption)
  clear hK K
  try simp only [Act.put, List.setIfInBounds_toArray, List.set_cons_zero, List.set_cons_succ]
  refine takeL (i := 5) (v := ?_) rfl (by kernel_rfl) (by kernel_rfl) (by kernel_rfl) (fun _ _ _ h => h) (Or.inl ⟨by rfl, ?_⟩) (by assumption) ?_
  rotate_left
  · (intro wz hSw; (try dsimp only at hSw); go_simp <;> with_reducible rfl)
  try simp only [Act.put, List.setIfInBounds_toArray, List.set_cons_zero, List.set_cons_succ]
  refine takeL (i := 6) (v := ?_) rfl (by kernel_rfl) (by kernel_rfl) (by kernel_rfl) (fun _ _ _ h => h) (Or.inl ⟨by rfl, ?_⟩) (by assumption) ?_
  rotate_left
  · (intro wz hSw; (try dsimp only at hSw); go_simp <;> with_reducible rfl)
  try simp only [Act.put, List.setIfInBounds_toArray, List.set_cons_zero, List.set_cons_succ]
  refine takeL (i := 7) (v := ?_) rfl (by kernel_rfl) (by kernel_rfl) (by kernel_rfl) (fun _ _ _ h => h) (Or.inl ⟨by rfl, ?_⟩) (by assumption) ?_
  rotate_left
  · (intro wz hSw; refine run_load_op' _ _ wz g6 k ?_ hSw.2.1; exact ⟨_, rfl, rfl⟩)
  try simp only [Act.put, List.setIfInBounds_toArray, List.set_cons_zero, List.set_cons_succ]
  refine takeL (i := 8) (v := ?_) rfl (by kernel_rfl) (by kernel_rfl) (by kernel_rfl) (fun _ _ _ h => h) (Or.inl ⟨by rfl, ?_⟩) (by assumption) ?_
  rotate_left
  · (intro wz hSw; refine run_load_op' _ _ wz w.heap.size k ?_ hSw.1; exact ⟨_, rfl, rfl⟩)
  try simp only [Act.put, List.setIfInBounds_toArray, List.set_cons_zero, List.set_cons_succ]
  refine takeL (i := 9) (v := ?_) rfl (by kernel_rfl) (by kernel_rfl) (by kernel_rfl) (fun _ _ _ h => h) (Or.inl ⟨by rfl, ?_⟩) (by assumption) ?_
  rotate_left
  · (intro wz hSw; refine run_neq_op _ _ k HK32.out wz ?_; exact ⟨_, _, rfl, rfl, rfl⟩)
  try simp only [Act.put, List.setIfInBounds_toArray, List.set_cons_zero, List.set_cons_succ]
  refine takeL (i := 10) (v := ?_) rfl (by kernel_rfl) (by kernel_rfl) (by kernel_rfl) (fun _ _ _ h => h) (Or.inl ⟨by rfl, ?_⟩) (by assumption) ?_
  rotate_left
  · (intro wz hSw; (try dsimp only at hSw); go_simp <;> with_reducible rfl)
  try simp only [Act.put, List.setIfInBounds_toArray, List.set_cons_zero, List.set_cons_succ]
  refine takeL (i := 11) (v := ?_) rfl (by kernel_rfl) (by kernel_rfl) (by kernel_rfl) (fun _ _ _ h => h) (Or.inl ⟨by rfl, ?_⟩) (by assumption) ?_
  rotate_left
  · (intro wz hSw; (try dsimp only at hSw); go_simp <;> with_reducible rfl)
  try simp only [Act.put, List.setIfInBounds_toArray, List.set_cons_zero, List.set_cons_succ]
  refine takeL (i := 12) (v := ?_) rfl (by kernel_rfl) (by kernel_rfl) (by kernel_rfl) (fun _ _ _ h => h) (Or.inl ⟨by rfl, ?_⟩) (by assumption) ?_
  rotate_left
  · (intro wz hSw; (try dsimp only at hSw); go_simp <;> with_reducible rfl)
  try simp only [Act.put, List.setIfInBounds_toArray, List.set_cons_zero, List.set_cons_succ]
  refine takeL (i := 13) (v := ?_) rfl (by kernel_rfl) (by kernel_rfl) (by kernel_rfl) (fun _ _ _ h => h) (Or.inl ⟨by rfl, ?_⟩) (by assumption) ?_
  rotate_left
  · (intro wz hSw; (try dsimp only at hSw); go_simp <;> with_reducible rfl)
  try simp only [Act.put, List.setIfInBounds_toArray, List.set_cons_zero, List.set_cons_succ]
  refine takeL (i := 14) (v := ?_) rfl (by kernel_rfl) (by kernel_rfl) (by kernel_rfl) (fun _ _ _ h => h) (Or.inl ⟨by rfl, ?_⟩) (by assumption) ?_
  rotate_left
  · (intro wz hSw; (try dsimp only at hSw); go_simp <;> with_reducible rfl)
  try simp only [Act.put, List.setIfInBounds_toArray, List.set_cons_zero, List.set_cons_succ]
  refine takeL (i := 15) (v := ?_) rfl (by kernel_rfl) (by kernel_rfl) (by kernel_rfl) (fun _ _ _ h => h) (Or.inl ⟨by rfl, ?_⟩) (by assumption) ?_
  rotate_left
  · (intro wz hSw; (try dsimp only at hSw); go_simp <;> with_reducible rfl)
  try simp only [Act.put, List.setIfInBounds_toArray, List.set_cons_zero, List.set_cons_succ]
  refine takeL (i := 16) (v := ?_) rfl (by kernel_rfl) (by kernel_rfl) (by kernel_rfl) (fun _ _ _ h => h) (Or.inl ⟨by rfl, ?_⟩) (by assumption) ?_
  rotate_left
  · (intro wz hSw; (try dsimp only at hSw); go_simp <;> with_reducible rfl)
  try simp only [Act.put, List.setIfInBounds_toArray, List.set_cons_zero, List.set_cons_succ]
  refine takeL (i := 18) (v := ?_) rfl (by kernel_rfl) (by kernel_rfl) (by kernel_rfl) (fun _ _ _ h => h) (Or.inl ⟨by rfl, ?_⟩) (by assumption) ?_
  rotate_left
  · (intro wz hSw; (try dsimp only at hSw); go_simp <;> with_reducible rfl)
  try simp only [Act.put, List.setIfInBounds_toArray, List.set_cons_zero, List.set_cons_succ]
  refine wpAnyH_ready (rs := [17]) (by kernel_rfl) (by simp) ?_
  refine readyL (i := 17) rfl (fun K hK => ?_)
  go_simp
  go_at_call 11
  with_reducible refine (HRi.out _ (by assumption)).mono ?_
  rintro e w' ⟨rfl, hb'⟩
  refine hK.out _ _ ?_ (fun hHeld => ?_)
  · exact HS6.out _ (by assumption)
  clear hK K
  try simp only [Act.put, List.setIfInBounds_toArray, List.set_cons_zero, List.set_cons_succ]
  refine wpAnyH_ready (rs := [19]) (by kernel_rfl) (by simp) ?_
  refine readyL (i := 19) rfl (fun K hK => ?_)
  go_simp
  go_at_call 12
  with_reducible refine (HRr.out _ (by assumption)).mono ?_
  rintro e w' ⟨rfl, hb'⟩
  refine hK.out _ _ ?_ (fun hHeld => ?_)
  · exact HS6.out _ (by assumption)
  clear hK K
  try simp only [Act.put, List.setIfInBounds_toArray, List.set_cons_zero, List.set_cons_succ]
  refine takeL (i := 20) (v := ?_) rfl (by kernel_rfl) (by kernel_rfl) (by kernel_rfl) (fun _ _ _ h => h) (Or.inl ⟨by rfl, ?_⟩) (by assumption) ?_
  rotate_left
  · (intro wz hSw; (try dsimp only at hSw); go_simp <;> with_reducible rfl)
  try simp only [Act.put, List.setIfInBounds_toArray, List.set_cons_zero, List.set_cons_succ]
  refine takeL (i := 21) (v := ?_) rfl (by kernel_rfl) (by kernel_rfl) (by kernel_rfl) (fun _ _ _ h => h) (Or.inl ⟨by rfl, ?_⟩) (by assumption) ?_
  rotate_left
  · (intro wz hSw; (try dsimp only at hSw); go_simp <;> with_reducible rfl)
  try simp only [Act.put, List.setIfInBounds_toArray, List.set_cons_zero, List.set_cons_succ]
  refine wpAnyH_done (by kernel_rfl) ?_ _
  refine NoPanic.normal ?_
  rw [hr0] at hrr
  subst hrr
  have hqp : PP = QY := by rw [← hQY, ← hPP, HYP.out]
  subst hqp
  go_wp2_with fail
  refine (HRr.out _ (by assumption)).mono ?_
  rintro e w6 ⟨rfl, hb6⟩
  have hb10 : Below w5.heap.size w5 w6.drew := hb6.drew
  go_wp2_with fail
  refine wp_region_noPanic ?_
  refine wp_region_held_drew (S := (fun w' => (loadVar 23 ⟨g8, 0, none⟩).run Try.prog w' = .ok (.agg (kc yk)) w' ∧ Sem.run Try.prog (convert 24 9 (Value.slice b 64 c)) w' = .ok (.string PP) w')) (by kernel_rfl) (HS10.out _ hb10) (fun hHeld => ?_)
  refine wpAnyH_ready (rs := [0]) (by kernel_rfl) (by simp) ?_
  refine readyL (i := 0) rfl (fun K hK => ?_)
  go_simp
  go_at_call 7
  with_reducible refine (HAw.out _ (by assumption)).mono ?_
  rintro e w' ⟨rfl, hb'⟩
  refine hK.out _ _ ?_ (fun hHeld => ?_)
  · exact HS10.out _ (by assumption)
  clear hK K
  try simp only [Act.put, List.setIfInBounds_toArray, List.set_cons_zero, List.set_cons_succ]
  refine takeL (i := 1) (v := ?_) rfl (by kernel_rfl) (by kernel_rfl) (by kernel_rfl) (fun _ _ _ h => h) (Or.inl ⟨by rfl, ?_⟩) (by assumption) ?_
  rotate_left
  · (intro wz hSw; (try dsimp only at hSw); go_simp <;> with_reducible rfl)
  try simp only [Act.put, List.setIfInBounds_toArray, List.set_cons_zero, List.set_cons_succ]
  refine takeL (i := 2) (v := ?_) rfl (by kernel_rfl) (by kernel_rfl) (by kernel_rfl) (fun _ _ _ h => h) (Or.inl ⟨by rfl, ?_⟩) (by assumption) ?_
  rotate_left
  · (intro wz hSw; (try dsimp only at hSw); go_simp <;> with_reducible rfl)
  try simp only [Act.put, List.setIfInBounds_toArray, List.set_cons_zero, List.set_cons_succ]
  refine takeL (i := 3) (v := ?_) rfl (by kernel_rfl) (by kernel_rfl) (by kernel_rfl) (fun _ _ _ h => h) (Or.inl ⟨by rfl, ?_⟩) (by assumption) ?_
  rotate_left
  · (intro wz hSw; (try dsimp only at hSw); go_simp <;> with_reducible rfl)
  try simp only [Act.put, List.setIfInBounds_toArray, List.set_cons_zero, List.set_cons_succ]
  refine takeL (i := 4) (v := ?_) rfl (by kernel_rfl) (by kernel_rfl) (by kernel_rfl) (fun _ _ _ h => h) (Or.inl ⟨by rfl, ?_⟩) (by assumption) ?_
  rotate_left
  · (intro wz hSw; (try dsimp only at hSw); go_simp <;> with_reducible rfl)
  try simp only [Act.put, List.setIfInBounds_toArray, List.set_cons_zero, List.set_cons_succ]
  refine takeL (i := 5) (v := ?_) rfl (by kernel_rfl) (by kernel_rfl) (by kernel_rfl) (fun _ _ _ h => h) (Or.inl ⟨by rfl, ?_⟩) (by assumption) ?_
  rotate_left
  · (intro wz hSw; (try dsimp only at hSw); go_simp <;> with_reducible rfl)
  try simp only [Act.put, List.setIfInBounds_toArray, List.set_cons_zero, List.set_cons_succ]
  refine takeL (i := 6) (v := ?_) rfl (by kernel_rfl) (by kernel_rfl) (by kernel_rfl) (fun _ _ _ h => h) (Or.inl ⟨by rfl, ?_⟩) (by assumption) ?_
  rotate_left
  · (intro wz hSw; refine run_load_op' _ _ wz g8 yk ?_ hSw.1; exact ⟨_, rfl, rfl⟩)
  try simp only [Act.put, List.setIfInBounds_toArray, List.set_cons_zero, List.set_cons_succ]
  refine takeL (i := 9) (v := ?_) rfl (by kernel_rfl) (by kernel_rfl) (by kernel_rfl) (fun _ _ _ h => h) (Or.inl ⟨by rfl, ?_⟩) (by assumption) ?_
  rotate_left
  · (intro wz hSw; (try dsimp only at hSw); go_simp <;> with_reducible rfl)
  try simp only [Act.put, List.setIfInBounds_toArray, List.set_cons_zero, List.set_cons_succ]
  refine takeL (i := 10) (v := ?_) rfl (by kernel_rfl) (by kernel_rfl) (by kernel_rfl) (fun _ _ _ h => h) (Or.inl ⟨by rfl, ?_⟩) (by assumption) ?_
  rotate_left
  · (intro wz hSw; (try dsimp only at hSw); go_simp <;> with_reducible rfl)
  try simp only [Act.put, List.setIfInBounds_toArray, List.set_cons_zero, List.set_cons_succ]
  refine wpAnyH_ready (rs := [7]) (by kernel_rfl) (by simp) ?_
  refine readyL (i := 7) rfl (fun K hK => ?_)
  go_simp
  go_at_call 10
  with_reducible refine (HRy.out _ (by assumption)).mono ?_
  rintro e w' ⟨a', n', c', rfl, hcj, hb'⟩
  refine hK.out _ _ ?_ (fun hHeld => ?_)
  · exact HS10.out _ (by assumption)
  clear hK K
  try simp only [Act.put, List.setIfInBounds_toArray, List.set_cons_zero, List.set_cons_succ]
  refine wpAnyH_ready (rs := [8]) (by kernel_rfl) (by simp) ?_
  refine readyL (i := 8) rfl (fun K hK => ?_)
  go_simp
  refine hK.out _ _ ?_ (fun hHeld => ?_)
  · exact HS10.out _ (by assumption)
  clear hK K
  try simp only [Act.put, List.setIfInBounds_toArray, List.set_cons_zero, List.set_cons_succ]
  refine takeL (i := 11) (v := ?_) rfl (by kernel_rfl) (by kernel_rfl) (by kernel_rfl) (fun _ _ _ h => h) (Or.inl ⟨by rfl, ?_⟩) (by assumption) ?_
  rotate_left
  · (intro wz hSw; (try dsimp only at hSw); go_simp <;> with_reducible rfl)
  try simp only [Act.put, List.setIfInBounds_toArray, List.set_cons_zero, List.set_cons_succ]
  refine takeL (i := 12) (v := ?_) rfl (by kernel_rfl) (by kernel_rfl) (by kernel_rfl) (fun _ _ _ h => h) (Or.inl ⟨by rfl, ?_⟩) (by assumption) ?_
  rotate_left
  · (intro wz hSw; (try dsimp only at hSw); go_simp <;> with_reducible rfl)
  try simp only [Act.put, List.setIfInBounds_toArray, List.set_cons_zero, List.set_cons_succ]
  refine takeL (i := 13) (v := ?_) rfl (by kernel_rfl) (by kernel_rfl) (by kernel_rfl) (fun _ _ _ h => h) (Or.inl ⟨by rfl, ?_⟩) (by assumption) ?_
  rotate_left
  · (intro wz hSw; (try dsimp only at hSw); go_simp <;> with_reducible rfl)
  try simp only [Act.put, List.setIfInBounds_toArray, List.set_cons_zero, List.set_cons_succ]
  refine wpAnyH_done (by kernel_rfl) ?_ _
  refine NoPanic.normal ?_
  go_wp2
  go_ret
  exact ⟨rfl, HBw5.out.trans (Below.mono (by assumption) HBw5.out.size)⟩

theorem walk (k : List UInt8) (hk : k.length = 32) (b : Option Addr) (n c : Nat) (l : List UInt8) (w : World) (h : IsBs w b n c l) :
    Calls Try.prog 3 #[.agg (kc k), .slice b n c] w fun e w' => e = .returned (.bool true) ∧ Below w.heap.size w w' := by
  by_cases hbig : 200 < n
  · exact walk_big k b n c hbig w
  · cases hr : rightB l
    · exact walk_wrong1 k hk b n c l (by omega) (.inr hr) hr w h
    · by_cases h64 : n = 64
      · exact walk_right k hk b n c l (by omega) h64 hr w h
      · exact walk_wrong2 k hk b n c l (by omega) (.inl h64) hr w h

set_option maxRecDepth 100000 in
theorem lifted (os : Os) (started : os.Started) (H : Type) (enc : TypeId × Value → H) :
    ReturnsInHanded {} Try.checked os 3 .any (Rows.nibKeysSpec.pre6 enc Try.prog Try.f3 Rows.nibKeysRow.domain false) (Rows.nibKeysSpec.post enc Try.prog Try.f3 false true false false) := by
  refine returnsInHanded_of_change (C := Try.checked) own started (by kernel_rfl) Try.func3
    (ChangeSpec.witness6 (enc := enc) (C := Try.checked) false ⟨#[], #[.agg #[.int .u8 0, .int .u8 0, .int .u8 0, .int .u8 0, .int .u8 0, .int .u8 0, .int .u8 0, .int .u8 0, .int .u8 0, .int .u8 0, .int .u8 0, .int .u8 0, .int .u8 0, .int .u8 0, .int .u8 0, .int .u8 0, .int .u8 0, .int .u8 0, .int .u8 0, .int .u8 0, .int .u8 0, .int .u8 0, .int .u8 0, .int .u8 0, .int .u8 0, .int .u8 0, .int .u8 0, .int .u8 0, .int .u8 0, .int .u8 0, .int .u8 0, .int .u8 0], .slice none 0 0], []⟩ 8 (by kernel_rfl) (by kernel_rfl) (by kernel_rfl) (by kernel_rfl)) ?_
  intro W base args ds gs before hval0 hW _ _
  have hval : ∀ (j : Nat) t v, Try.f3.params[j]? = some t → args[j]? = some v → Value.okWide Try.prog W .any base t v := hval0
  have hW' := hW
  obtain ⟨p, q, hA0, hV, rfl, hfz, hnd⟩ := hW
  have hA : DataW.TrodAll enc Try.prog W 0 (fun _ => true) true Try.f3.params.toList args.toList ds p := hA0
  rw [Try.params3] at hA hval
  obtain ⟨v0, vs0, d0, ds0, p0, q0, hargs, rfl, rfl, h0, r0⟩ := trodAll_cons hA
  obtain ⟨v1, vs1, d1, ds1, p1, q1, rfl, rfl, rfl, h1, r1⟩ := trodAll_cons r0
  obtain ⟨rfl, rfl, rfl⟩ := trodAll_nil r1
  obtain rfl : args = #[v0, v1] := by cases args; simp_all
  obtain ⟨rfl, rfl⟩ := trodVars_none hV
  have k0 := h0
  have lt0 : ∀ x ∈ p0, x.block < W.heap.size := by obtain ⟨m, hm⟩ := k0; exact DataW.trod_lt m _ _ _ hm
  obtain ⟨key0, rfl, hkey0⟩ := isKey_of Try.underlying23 Try.underlying5 (by kernel_rfl) (by kernel_rfl) (hval 0 23 v0 rfl rfl) h0
  have k1 := h1
  have lt1 : ∀ x ∈ p1, x.block < W.heap.size := by obtain ⟨m, hm⟩ := k1; exact DataW.trod_lt m _ _ _ hm
  obtain ⟨b1, len1, cap1, rfl⟩ := okWide_slice Try.underlying24 (hval 1 24 v1 rfl rfl)
  obtain ⟨l1, hl1⟩ := isBs_of Try.underlying24 Try.underlying5 (by kernel_rfl) h1
  clear hA0 hval0
  refine (walk key0 hkey0 b1 len1 cap1 l1 W hl1).mono fun e W' ⟨he, bel⟩ => ?_
  subst he
  exact ⟨_, rfl, _, _, _, [], _, [], hW', trodAll_mk1 (shut_bool Try.underlying4 _), (trodAll_cons_mk (Below.trod laidOut (by kernel_rfl) (of_decide_eq_true (by kernel_rfl)) k0 bel lt0) (trodAll_cons_mk (Below.trod laidOut (by kernel_rfl) (of_decide_eq_true (by kernel_rfl)) k1 bel lt1) trodAll_mk0)), rfl, bel.frame _, fun h => by cases h⟩

theorem over : Rows.nibKeysRow.holds Try.pinned (OpenSpec.ofChange Rows.nibKeysSpec) :=
  OpenClaim.holds_of_wide 3 Try.f3 rfl rfl rfl rfl rfl rfl rfl ⟨rfl, rfl, rfl, rfl, rfl⟩ rfl rfl rfl rfl rfl (by kernel_rfl) Try.func3 (by kernel_rfl)
    (of_decide_eq_true (by kernel_rfl)) (by unfold Func.isWrapper; first | (rw [if_pos (by decide +kernel)]; kernel_rfl) | (rw [if_neg (by decide +kernel)]; exact ⟨rfl, rfl⟩))
    (fun os started H enc _ => lifted os started H enc)

theorem proved : Rows.NibKeysSaid := over

end Go.Proofs.Ytihgiflhjhoghaa.nibKeys
