/-
  Contracts of strings.IndexByte, sum.Read.
-/
import Derived.Test.YtgpnhdnncfpbcaaDoorSumG
import Derived.Laws.Externs
namespace Go.Proofs.YtgpnhdnncfpbcaaDoor
open Go.RowKit

namespace Sm
open Sh
theorem ofInt_i64 (a : Nat) (ha : a < 9223372036854775808) : (BitVec.ofInt 64 (a : Int)).toNat = a := by
  rw [BitVec.ofInt_natCast, BitVec.toNat_ofNat]; exact Nat.mod_eq_of_lt (by omega)
theorem i64_or_nat (a b : Nat) (ha : a < 9223372036854775808) (hb : b < 9223372036854775808) : bits .or .i64 (a : Int) (b : Int) = ((a ||| b : Nat) : Int) := by
  have hx : a ||| b < 2 ^ 63 := Nat.or_lt_two_pow (by omega) (by omega)
  show IntKind.i64.wrap ((BitVec.ofInt 64 (a : Int) ||| BitVec.ofInt 64 (b : Int)).toNat : Int) = _
  rw [BitVec.toNat_or, ofInt_i64 a ha, ofInt_i64 b hb, IntKind.wrap_i64]
  omega
/-- a digit's number; 16: no digit -/
def hvN (c : Nat) : Nat := if 48 ≤ c ∧ c ≤ 57 then c - 48 else if 97 ≤ c ∧ c ≤ 102 then c - 87 else 16
def digs : List UInt8 := [48, 49, 50, 51, 52, 53, 54, 55, 56, 57, 97, 98, 99, 100, 101, 102]
theorem ix_digs : ∀ c : Fin 256, Lib.indexByte digs (UInt8.ofNat c) = if hvN c < 16 then (hvN c : Int) else -1 := by decide +kernel
theorem indexByte_any (s : ByteArray) (c : Nat) (w : World) :
    Calls Tryd.prog 26 #[.string s, .int .u8 c] w fun e w' => e = .returned (.int .i64 (Lib.indexByte s.data.toList (UInt8.ofNat c))) ∧ w = w' := by
  have hr := Lib.run_indexByteString (P := Tryd.prog) s c w
  have hx : (callFunc 44 #[.string s, .int .u8 c]).run Tryd.prog w = .ok (.value (.int .i64 (Lib.indexByte s.data.toList (UInt8.ofNat c)))) w := by
    rw [run_callFunc_extern Tryd.func44 (by kernel_rfl) (by kernel_rfl) (by kernel_rfl) (e := Extern.BytealgIndexByte.indexByte) (by kernel_rfl), hr]
    rfl
  obtain ⟨v, hv⟩ : ∃ v, Lib.indexByte s.data.toList (UInt8.ofNat c) = v := ⟨_, rfl⟩
  rw [hv] at hx ⊢
  clear hr hv
  go_enter Tryd.func26, Tryd.ntmps26
  go_wp2
  go_ret
  exact ⟨rfl, rfl⟩
theorem digit_any (c : Nat) (hc : c < 256) (w : World) :
    Calls Tryd.prog 26 #[.string ⟨#[48, 49, 50, 51, 52, 53, 54, 55, 56, 57, 97, 98, 99, 100, 101, 102]⟩, .int .u8 c] w fun e w' => e = .returned (.int .i64 (if hvN c < 16 then (hvN c : Int) else -1)) ∧ w = w' := by
  have h := indexByte_any ⟨digs.toArray⟩ c w
  have e := ix_digs ⟨c, hc⟩
  simp only at e
  rw [show (⟨digs.toArray⟩ : ByteArray).data.toList = digs from rfl, e] at h
  exact h

/-- are these 64 digits; their bytes -/
def okH (l : List UInt8) : Bool := l.length == 64 && l.all fun c => decide (hvN c.toNat < 16)
def pairH (l : List UInt8) (i : Nat) : Nat := 16 * hvN (l.getD (2 * i) 0).toNat + hvN (l.getD (2 * i + 1) 0).toNat
def unhexL (l : List UInt8) : List UInt8 := (List.range 32).map fun i => UInt8.ofNat (pairH l i)
theorem unhexL_length (l : List UInt8) : (unhexL l).length = 32 := by simp [unhexL]
theorem okH_iff (l : List UInt8) : okH l = true ↔ l.length = 64 ∧ ∀ j, j < 64 → hvN (l.getD j 0).toNat < 16 := by
  unfold okH
  rw [Bool.and_eq_true, beq_iff_eq, List.all_eq_true]
  constructor
  · rintro ⟨h1, h2⟩
    refine ⟨h1, fun j hj => ?_⟩
    have h3 : j < l.length := by omega
    have := h2 l[j] (List.getElem_mem _)
    simpa [List.getD, h3] using this
  · rintro ⟨h1, h2⟩
    refine ⟨h1, fun x hx => ?_⟩
    obtain ⟨j, hj, rfl⟩ := List.getElem_of_mem hx
    have := h2 j (by omega)
    simpa [List.getD, hj] using this
theorem run_build_sum (ev : Operand → Value) (o : Oper) (ho : o.op = .build 27 #[]) (w : World) :
    (execOp ev o).run Tryd.prog w = .ok (.value (.agg (kc zk))) w := by
  unfold execOp
  rw [ho]
  kernel_rfl

/-- what Read tells -/
def readOk (l : List UInt8) : Ending := .returned (.tuple #[.agg (kc (unhexL l)), .int .i64 0])
def readNo : Ending := .returned (.tuple #[.agg (kc zk), .int .i64 6])
def readE (l : List UInt8) : Ending := if okH l = true then readOk l else readNo
theorem readE_no {l : List UInt8} (h : okH l = false) : readE l = readNo := by unfold readE; rw [h]; rfl
theorem readE_ok {l : List UInt8} (h : okH l = true) : readE l = readOk l := by unfold readE; rw [h]; rfl

set_option maxHeartbeats 1000000 in
theorem read_len (s : ByteArray) (hs : s.size ≠ 64) (w : World) :
    Calls Tryd.prog 13 #[.string s] w fun e w' => e = readNo ∧ Below w.heap.size w w' := by
  have H1 : Hid (((w.alloc (.cells (kc zk) 27)).alloc (.cells (kc zk) 27)).heap[w.heap.size]? = some (.cells (kc zk) 27 (0, 0))) := Lib.hid ((Lib.alloc_old _ _ _ (by simp)).trans (heap_alloc_new _ _))
  have hne : ((s.size : Int) != 64) = true := by simp; omega
  go_enter Tryd.func13, Tryd.ntmps13
  go_wp2_with (first | (refine wpList_run (o := ⟨some 2, _, _, _, _, _⟩) rfl _ _ (run_alloc_sum _ _ rfl _ w.heap.size rfl) ?_) | (refine wpList_run (o := ⟨some 4, _, _, _, _, _⟩) rfl _ _ (run_alloc_sum _ _ rfl _ (w.heap.size + 1) (by simp)) ?_) | (refine wpList_run rfl _ _ (run_build_sum _ _ rfl _) ?_) | (refine wpList_store_rowTo rfl 27 _ _ rfl rfl _ (kc zk) rfl rfl 27 (kc zk) H1.out (info_kc zk rfl) rfl (kc_one _) ?_))
  exact bodyPost_ret (res_sum rfl _ _ _ _ _ rfl rfl (setRow_heap _ _ _ _ _ _ H1.out) rfl) rfl ⟨rfl, below_row (((Below.refl _ _).alloc (Nat.le_refl _) _).alloc (by simp) _) (Nat.le_refl _) _⟩

set_option maxRecDepth 100000 in
set_option maxHeartbeats 4000000 in
theorem read_64 (s : ByteArray) (hs : s.size = 64) (w : World) :
    Calls Tryd.prog 13 #[.string s] w fun e w' => e = readE s.data.toList ∧ Below w.heap.size w w' := by
  have hl : s.data.toList.length = 64 := by simpa using hs
  have HQ := Lib.hid (byteAt_eq s)
  obtain ⟨l, hle⟩ : ∃ l, s.data.toList = l := ⟨_, rfl⟩
  have HBy : Hid (∀ j, byteAt s j = (l.getD j 0).toNat) := Lib.hid (fun j => by unfold byteAt; rw [hle])
  rw [hle] at hl ⊢
  have HLn := Lib.hid hl
  clear hle hl
  have h1 : ((w.alloc (.cells (kc zk) 27)).alloc (.cells (kc zk) 27)).heap[w.heap.size]? = some (.cells (kc zk) 27 (0, 0)) := (Lib.alloc_old _ _ _ (by simp)).trans (heap_alloc_new _ _)
  have h2 : ((w.alloc (.cells (kc zk) 27)).alloc (.cells (kc zk) 27)).heap[w.heap.size + 1]? = some (.cells (kc zk) 27 (0, 0)) := by have := heap_alloc_new (w.alloc (.cells (kc zk) 27)) (.cells (kc zk) 27); simpa using this
  have HO1 : Hid (Rg.Own ((w.alloc (.cells (kc zk) 27)).alloc (.cells (kc zk) 27)) w.heap.size (kc zk) 27) := Lib.hid ⟨by simp; omega, h1⟩
  have HR0 : Hid (((w.alloc (.cells (kc zk) 27)).alloc (.cells (kc zk) 27)).rowIs (w.heap.size + 1) 27 32 (fun j => .int .u8 (if j < 0 then pairH l j else 0 : Nat))) := Lib.hid ((zk_row h2).congr (fun j _ => by rw [if_neg (by omega)]; rfl))
  clear h1 h2
  go_enter Tryd.func13, Tryd.ntmps13
  go_wp2_with (first | (refine wpList_run (o := ⟨some 2, _, _, _, _, _⟩) rfl _ _ (run_alloc_sum _ _ rfl _ w.heap.size rfl) ?_) | (refine wpList_run (o := ⟨some 4, _, _, _, _, _⟩) rfl _ _ (run_alloc_sum _ _ rfl _ (w.heap.size + 1) (by simp)) ?_))
  go_loopw [12] (fun i wr => ∃ q : Nat, q ≤ 32 ∧ i = .int .i64 q ∧ Hid (∀ j, j < 2 * q → hvN (l.getD j 0).toNat < 16) ∧ Hid (wr.rowIs (w.heap.size + 1) 27 32 (fun j => .int .u8 (if j < q then pairH l j else 0 : Nat))) ∧ Hid (Rg.Own wr w.heap.size (kc zk) 27) ∧ Hid (Below w.heap.size w wr)) (fun i _ => 32 - (intOf i).toNat)
  case atStart => exact ⟨0, by omega, rfl, Lib.hid (fun j hj => by omega), HR0, HO1, Lib.hid (((Below.refl _ _).alloc (Nat.le_refl _) _).alloc (by simp) _)⟩
  case round =>
    clear HR0 HO1
    obtain ⟨q, hq, rfl, HG, HR, HO, HB⟩ := hrel
    by_cases hlt : q < 32
    · have p0 : 2 * q < s.size := by omega
      have p1 : 2 * q + 1 < s.size := by omega
      have q0 := HQ.out _ p0
      have q1 := HQ.out _ p1
      rw [HBy.out] at q0 q1
      have a256 : (l.getD (2 * q) 0).toNat < 256 := UInt8.toNat_lt _
      have b256 : (l.getD (2 * q + 1) 0).toNat < 256 := UInt8.toNat_lt _
      have HGn := Lib.hid (fun (ha : hvN (l.getD (2 * q) 0).toNat < 16) (hb : hvN (l.getD (2 * q + 1) 0).toNat < 16) => (show ∀ j, j < 2 * (q + 1) → hvN (l.getD j 0).toNat < 16 from fun j hj => by
        by_cases e0 : j = 2 * q
        · rw [e0]; exact ha
        · by_cases e1 : j = 2 * q + 1
          · rw [e1]; exact hb
          · exact HG.out j (by omega)))
      have HNo := Lib.hid (fun (h : ¬ (hvN (l.getD (2 * q) 0).toNat < 16 ∧ hvN (l.getD (2 * q + 1) 0).toNat < 16)) => (show okH l = false from by
        cases hk : okH l
        · rfl
        · have := (okH_iff l).1 hk
          exact absurd ⟨this.2 _ (by omega), this.2 _ (by omega)⟩ h))
      have HPr := sec (show pairH l q = 16 * hvN (l.getD (2 * q) 0).toNat + hvN (l.getD (2 * q + 1) 0).toNat from rfl)
      obtain ⟨a, ha⟩ : ∃ a, (l.getD (2 * q) 0).toNat = a := ⟨_, rfl⟩
      obtain ⟨b, hb⟩ : ∃ a, (l.getD (2 * q + 1) 0).toNat = a := ⟨_, rfl⟩
      rw [ha] at q0 a256 HGn HNo HPr
      rw [hb] at q1 b256 HGn HNo HPr
      clear ha hb
      have Q0 : Sec (∃ h : 2 * q < s.size, s[2 * q].toNat = a) := sec ⟨p0, q0⟩
      have Q1 : Sec (∃ h : 2 * q + 1 < s.size, s[2 * q + 1].toNat = b) := sec ⟨p1, q1⟩
      clear p0 p1 q0 q1
      have hI0 := digit_any a a256
      have hI1 := digit_any b b256
      have HI0 := Lib.hid hI0
      have HI1 := Lib.hid hI1
      clear hI0 hI1
      have w0 : IntKind.i64.wrap (2 * (q : Int)) = 2 * (q : Int) := IntWalk.i64_in _ (by omega)
      have w1 : IntKind.i64.wrap (2 * (q : Int) + 1) = 2 * (q : Int) + 1 := IntWalk.i64_in _ (by omega)
      obtain ⟨u, hu⟩ : ∃ u : Int, (if hvN a < 16 then (hvN a : Int) else -1) = u := ⟨_, rfl⟩
      obtain ⟨v, hv⟩ : ∃ u : Int, (if hvN b < 16 then (hvN b : Int) else -1) = u := ⟨_, rfl⟩
      rw [hu] at HI0
      rw [hv] at HI1
      have HU := sec hu
      have HV := sec hv
      clear hu hv
      go_wp2_with fail
      refine wp_region_noPanic ?_
      refine wp_region_held_drew (S := fun _ => True) (by kernel_rfl) (trivial) (fun hHeld => ?_)
      refine Rg.takeL (i := 0) (v := ?_) rfl (by kernel_rfl) (by kernel_rfl) (by kernel_rfl) (fun _ _ _ h => h) (Or.inl ⟨by rfl, ?_⟩) (by assumption) ?_
      rotate_left
      · (intro wz hSw; (try dsimp only at hSw); go_simp <;> with_reducible rfl)
      try simp only [Act.put, List.setIfInBounds_toArray, List.set_cons_zero, List.set_cons_succ]
      refine Rg.takeL (i := 1) (v := ?_) rfl (by kernel_rfl) (by kernel_rfl) (by kernel_rfl) (fun _ _ _ h => h) (Or.inl ⟨by rfl, ?_⟩) (by assumption) ?_
      rotate_left
      · (intro wz hSw; (try dsimp only at hSw); go_simp <;> with_reducible rfl)
      try simp only [Act.put, List.setIfInBounds_toArray, List.set_cons_zero, List.set_cons_succ]
      refine Rg.takeL (i := 2) (v := ?_) rfl (by kernel_rfl) (by kernel_rfl) (by kernel_rfl) (fun _ _ _ h => h) (Or.inl ⟨by rfl, ?_⟩) (by assumption) ?_
      rotate_left
      · (intro wz hSw; (try dsimp only at hSw); go_simp <;> with_reducible rfl)
      try simp only [Act.put, List.setIfInBounds_toArray, List.set_cons_zero, List.set_cons_succ]
      refine Rg.takeL (i := 3) (v := ?_) rfl (by kernel_rfl) (by kernel_rfl) (by kernel_rfl) (fun _ _ _ h => h) (Or.inl ⟨by rfl, ?_⟩) (by assumption) ?_
      rotate_left
      · (intro wz hSw; refine run_index_op _ _ 9 Tryd.underlying9 s (2 * q) a (2 * (q : Int)) ?_ (by omega) Q0.out wz; exact ⟨_, _, rfl, rfl, rfl⟩)
      try simp only [Act.put, List.setIfInBounds_toArray, List.set_cons_zero, List.set_cons_succ]
      refine Rg.takeL (i := 5) (v := ?_) rfl (by kernel_rfl) (by kernel_rfl) (by kernel_rfl) (fun _ _ _ h => h) (Or.inl ⟨by rfl, ?_⟩) (by assumption) ?_
      rotate_left
      · (intro wz hSw; (try dsimp only at hSw); go_simp <;> with_reducible rfl)
      try simp only [Act.put, List.setIfInBounds_toArray, List.set_cons_zero, List.set_cons_succ]
      refine Rg.takeL (i := 6) (v := ?_) rfl (by kernel_rfl) (by kernel_rfl) (by kernel_rfl) (fun _ _ _ h => h) (Or.inl ⟨by rfl, ?_⟩) (by assumption) ?_
      rotate_left
      · (intro wz hSw; (try dsimp only at hSw); go_simp <;> with_reducible rfl)
      try simp only [Act.put, List.setIfInBounds_toArray, List.set_cons_zero, List.set_cons_succ]
      refine Rg.takeL (i := 7) (v := ?_) rfl (by kernel_rfl) (by kernel_rfl) (by kernel_rfl) (fun _ _ _ h => h) (Or.inl ⟨by rfl, ?_⟩) (by assumption) ?_
      rotate_left
      · (intro wz hSw; (try dsimp only at hSw); go_simp <;> with_reducible rfl)
      try simp only [Act.put, List.setIfInBounds_toArray, List.set_cons_zero, List.set_cons_succ]
      refine Rg.takeL (i := 8) (v := ?_) rfl (by kernel_rfl) (by kernel_rfl) (by kernel_rfl) (fun _ _ _ h => h) (Or.inl ⟨by rfl, ?_⟩) (by assumption) ?_
      rotate_left
      · (intro wz hSw; (try dsimp only at hSw); go_simp <;> with_reducible rfl)
      try simp only [Act.put, List.setIfInBounds_toArray, List.set_cons_zero, List.set_cons_succ]
      refine Rg.takeL (i := 9) (v := ?_) rfl (by kernel_rfl) (by kernel_rfl) (by kernel_rfl) (fun _ _ _ h => h) (Or.inl ⟨by rfl, ?_⟩) (by assumption) ?_
      rotate_left
      · (intro wz hSw; refine run_index_op _ _ 9 Tryd.underlying9 s (2 * q + 1) b (2 * (q : Int) + 1) ?_ (by omega) Q1.out wz; exact ⟨_, _, rfl, rfl, rfl⟩)
      try simp only [Act.put, List.setIfInBounds_toArray, List.set_cons_zero, List.set_cons_succ]
      refine wpAnyH_ready (rs := [4]) (by kernel_rfl) (by simp) ?_
      refine Rg.readyL (i := 4) rfl (fun K hK => ?_)
      go_simp
      go_at_call 26
      (with_reducible refine (HI0.out _).mono ?_)
      rintro e w3 ⟨rfl, rfl⟩
      refine hK.out _ _ ?_ (fun hHeld => ?_)
      · trivial
      clear hK K
      try simp only [Act.put, List.setIfInBounds_toArray, List.set_cons_zero, List.set_cons_succ]
      refine wpAnyH_ready (rs := [10]) (by kernel_rfl) (by simp) ?_
      refine Rg.readyL (i := 10) rfl (fun K hK => ?_)
      go_simp
      go_at_call 26
      (with_reducible refine (HI1.out _).mono ?_)
      rintro e w3 ⟨rfl, rfl⟩
      refine hK.out _ _ ?_ (fun hHeld => ?_)
      · trivial
      clear hK K
      try simp only [Act.put, List.setIfInBounds_toArray, List.set_cons_zero, List.set_cons_succ]
      refine Rg.takeL (i := 11) (v := ?_) rfl (by kernel_rfl) (by kernel_rfl) (by kernel_rfl) (fun _ _ _ h => h) (Or.inl ⟨by rfl, ?_⟩) (by assumption) ?_
      rotate_left
      · (intro wz hSw; (try dsimp only at hSw); go_simp <;> with_reducible rfl)
      try simp only [Act.put, List.setIfInBounds_toArray, List.set_cons_zero, List.set_cons_succ]
      refine Rg.takeL (i := 12) (v := ?_) rfl (by kernel_rfl) (by kernel_rfl) (by kernel_rfl) (fun _ _ _ h => h) (Or.inl ⟨by rfl, ?_⟩) (by assumption) ?_
      rotate_left
      · (intro wz hSw; (try dsimp only at hSw); go_simp <;> with_reducible rfl)
      try simp only [Act.put, List.setIfInBounds_toArray, List.set_cons_zero, List.set_cons_succ]
      refine wpAnyH_done (by kernel_rfl) ?_ _
      refine NoPanic.normal ?_
      clear w0 w1 HI0 HI1
      by_cases hg : hvN a < 16 ∧ hvN b < 16
      · have hu : u = (hvN a : Nat) := by have := HU.out; rw [if_pos hg.1] at this; exact this.symm
        have hv : v = (hvN b : Nat) := by have := HV.out; rw [if_pos hg.2] at this; exact this.symm
        have hN := HGn.out hg.1 hg.2
        have HN := Lib.hid hN
        have hc := HR.out.cell (i := q) (by omega)
        have hf := HR.out.frozen q
        obtain ⟨x, hx⟩ : ∃ x, hvN a = x := ⟨_, rfl⟩
        obtain ⟨y, hy⟩ : ∃ x, hvN b = x := ⟨_, rfl⟩
        rw [hx, hy] at HPr hg
        rw [hx] at hu
        rw [hy] at hv
        obtain ⟨hx16, hy16⟩ := hg
        subst hu hv
        have hor := i64_or_nat (x * 16) y (by omega) (by omega)
        rw [nat_join 4 _ _ (by omega) (by omega), show ((x * 16 : Nat) : Int) = (x : Int) * 16 by omega] at hor
        have HOr := sec hor
        clear hor hN hx hy HGn HNo
        have g0 : ¬ (x : Int) < 0 := by omega
        have g1 : ¬ (y : Int) < 0 := by omega
        have HS : Hid (((wr.setCell ⟨w.heap.size + 1, q, none⟩ (.int .u8 (pairH l q : Nat))).rowIs (w.heap.size + 1) 27 32 (fun j => .int .u8 (if j < q + 1 then pairH l j else 0 : Nat)))) := Lib.hid ((HR.out.set q _).congr (fun j _ => by
          by_cases e : j = q
          · subst e; simp
          · have : j < q + 1 ↔ j < q := by omega
            simp [e, this]))
        have HE : Sec (bits .or .i64 ((x : Int) * 16) y % 256 = (pairH l q : Nat)) := sec (by rw [HOr.out, HPr.out]; omega)
        have HO2 : Hid (Rg.Own (wr.setCell ⟨w.heap.size + 1, q, none⟩ (.int .u8 (pairH l q : Nat))) w.heap.size (kc zk) 27) := Lib.hid ⟨by simpa using HO.out.1, (heap_setCell_other _ _ _ _ (by simp)).trans HO.out.2⟩
        have HB2 : Hid (Below w.heap.size w (wr.setCell ⟨w.heap.size + 1, q, none⟩ (.int .u8 (pairH l q : Nat)))) := Lib.hid (HB.out.setCell (p := ⟨w.heap.size + 1, q, none⟩) (by simp) _)
        go_wp2_with fail
        go_roundw
        case rel =>
          rw [HE.out]
          exact ⟨q + 1, by omega, by go_num, HN, HS, HO2, Lib.hid HB2.out.drew⟩
        case measure => simp [intOf]; omega
      · have hno := HNo.out hg
        have HH : Hid (Rg.Own wr.drew w.heap.size (kc zk) 27) := HO
        have HUV : Hid (u < 0 ∨ v < 0) := Lib.hid (by
          have h1 := HU.out
          have h2 := HV.out
          by_cases ha : hvN a < 16
          · right
            rw [if_neg (fun hb => hg ⟨ha, hb⟩)] at h2
            omega
          · left
            rw [if_neg ha] at h1
            omega)
        clear HGn HNo HPr hg
        have HNO := sec hno
        clear hno
        by_cases hu0 : u < 0
        · go_wp2_with (first | (refine wpList_run rfl _ _ (run_build_sum _ _ rfl _) ?_) | (refine wpList_store_rowTo rfl 27 _ _ rfl rfl _ (kc zk) rfl rfl 27 (kc zk) HH.out.2 (info_kc zk rfl) rfl (kc_one _) ?_))
          exact bodyPost_ret (res_sum rfl _ _ _ _ _ rfl rfl (setRow_heap _ _ _ _ _ _ HH.out.2) rfl) rfl ⟨by rw [readE_no HNO.out]; rfl, below_row HB.out.drew (Nat.le_refl _) _⟩
        · have hv0 : v < 0 := HUV.out.resolve_left hu0
          go_wp2_with (first | (refine wpList_run rfl _ _ (run_build_sum _ _ rfl _) ?_) | (refine wpList_store_rowTo rfl 27 _ _ rfl rfl _ (kc zk) rfl rfl 27 (kc zk) HH.out.2 (info_kc zk rfl) rfl (kc_one _) ?_))
          exact bodyPost_ret (res_sum rfl _ _ _ _ _ rfl rfl (setRow_heap _ _ _ _ _ _ HH.out.2) rfl) rfl ⟨by rw [readE_no HNO.out]; rfl, below_row HB.out.drew (Nat.le_refl _) _⟩
    · obtain rfl : q = 32 := by omega
      have HOk := sec ((okH_iff l).2 ⟨HLn.out, HG.out⟩)
      have HF : Hid (wr.heap[w.heap.size + 1]? = some (.cells (kc (unhexL l)) 27 (0, 0))) := Lib.hid (kc_row _ HR.out (unhexL_length _) (fun j hj => by
        rw [if_pos hj]
        have h1 := HG.out (2 * j) (by omega)
        have h2 := HG.out (2 * j + 1) (by omega)
        simp [unhexL, List.getD, hj]
        unfold pairH
        rw [List.getD, List.getD] at *
        omega))
      have hul := unhexL_length l
      obtain ⟨K, hK⟩ : ∃ K, unhexL l = K := ⟨_, rfl⟩
      have HKK := sec hK
      rw [hK] at hul HF
      have HKL := Lib.hid hul
      clear hK hul HR HG
      go_wp2_with (first | (refine wpList_load_row rfl _ _ rfl (w.heap.size + 1) rfl 27 (kc K) (0, 0) _ HF.out Tryd.underlying27 rfl (info_kc K HKL.out) ?_) | (refine wpList_store_rowTo rfl 27 _ _ rfl rfl _ (kc K) rfl rfl 27 (kc zk) HO.out.2 (info_kc K HKL.out) (by rw [kc_size, kc_size, HKL.out]; rfl) (kc_one _) ?_))
      exact bodyPost_ret (res_sum rfl _ _ _ _ _ rfl rfl (setRow_heap _ _ _ _ _ _ HO.out.2) (by rw [kc_size]; exact HKL.out)) rfl ⟨by rw [readE_ok HOk.out]; unfold readOk; rw [HKK.out], below_row HB.out (Nat.le_refl _) _⟩
end Sm
end Go.Proofs.YtgpnhdnncfpbcaaDoor
