/-
  Contracts of slices.Grow of nothing, and of slices.Concat, over slices of bytes.
-/
import Derived.Test.YtoeblhdddehemaaDoorMg1
import Derived.Lib.AppendZeros
import Derived.Laws.AppendOwnNone
import Derived.Test.YtoeblhdddehemaaDoorMg7
import Derived.Great.BuildSlice
import Derived.Laws.Rows
namespace Go.Proofs.YtoeblhdddehemaaDoor
set_option maxRecDepth 20000
open Go.RowKit

namespace Cc
theorem info_u8 : (Tryd.prog.info? 5).map (fun i => (i.zero, i.size, i.bytes)) = some (some (.int .u8 0), 1, 1) := by kernel_rfl
/-- an empty slice of the call's own -/
def GotRow (w : World) (l : List UInt8) (e : Ending) (w' : World) : Prop :=
  ∃ v, e = .returned v ∧ w'.ownsRow w.heap.size 5 1 v l.length (l.map fun x => Value.int .u8 x.toNat) ∧ Below w.heap.size w w'

theorem grow_zero (w : World) :
    Calls Tryd.prog 113 #[.slice none 0 0, .int .i64 0] w (GotRow w []) := by
  go_enter Tryd.func113, Tryd.ntmps113
  go_wp2
  go_ret
  exact ⟨_, rfl, World.ownsRow_nil _ _ _ _, Below.refl _ _⟩

set_option maxHeartbeats 400000 in
theorem grow_pos (n : Nat) (h0 : 0 < n) (hn : n ≤ 1099511627776) (w : World) :
    Calls Tryd.prog 113 #[.slice none 0 0, .int .i64 n] w (GotRow w []) := by
  obtain ⟨i0, hi, hz0, hz1, hz2⟩ := info_parts info_u8
  have hr := Lib.run_append_nil_zeros (P := Tryd.prog) w 42 3 42 5 i0 (.int .u8 0) .i64 .i64 Tryd.underlying42 Tryd.underlying3 hi hz0 n h0 (by omega) (by omega) (by rw [hz2]; omega)
  have hge := grownCap_ge w n 0 5
  have hle := grownCap_le_maxLen w n 0 5 (by unfold maxLen; omega)
  have HO : Hid ((w.drew.alloc (.cells (Builtin.zeroCells (Value.int IntKind.u8 0).cells n ++ Builtin.zeroCells (Value.int IntKind.u8 0).cells (grownCap w n 0 5 - n)) 5)).ownsRow w.heap.size 5 1 (.slice (some ⟨w.heap.size, 0, none⟩) 0 (grownCap w n 0 5)) 0 []) := Lib.hid (by
    refine ⟨rfl, .inr ⟨w.heap.size, _, _, rfl, Nat.le_refl _, heap_alloc_new w.drew _, Nat.zero_le _, hle, ?_, by simp⟩⟩
    have hz1 : (Value.int IntKind.u8 0).cells.size = 1 := rfl
    simp only [Array.size_append, size_zeroCells, hz1]
    omega)
  obtain ⟨c, hc⟩ : ∃ c, grownCap w n 0 5 = c := ⟨_, rfl⟩
  rw [hc] at hr hge hle HO
  obtain ⟨o, ho⟩ : ∃ o, Obj.cells (Builtin.zeroCells (Value.int IntKind.u8 0).cells n ++ Builtin.zeroCells (Value.int IntKind.u8 0).cells (c - n)) 5 = o := ⟨_, rfl⟩
  rw [ho] at hr HO
  have HR := Lib.hid hr
  clear hr ho hc hi hz0 hz1 hz2
  unfold maxLen at hle
  go_enter Tryd.func113, Tryd.ntmps113
  go_wp2_with (at_builtin; refine Lib.wpList_append_run _ rfl _ _ _ _ rfl _ _ rfl rfl _ _ HR.out ?_)
  go_wp2
  go_ret
  exact ⟨_, rfl, HO.out, (Below.drew (Below.refl _ _)).alloc (Nat.le_refl _) _⟩

theorem grow_any (n : Nat) (hn : n ≤ 1099511627776) (w : World) :
    Calls Tryd.prog 113 #[.slice none 0 0, .int .i64 n] w (GotRow w []) := by
  by_cases h0 : n = 0
  · subst h0; exact grow_zero w
  · exact grow_pos n (by omega) hn w

/-- slices of bytes in a row -/
def IsRows (w : World) (a : Option Addr) (n : Nat) (ls : List (List UInt8)) : Prop :=
  ls.length = n ∧ ∀ j, j < n → ∃ b off, a = some ⟨b, off, none⟩ ∧ b < w.heap.size ∧ ∃ a' n' c', w.cell? ⟨b, off + j, none⟩ = some (.slice a' n' c') ∧ IsBs w a' n' c' (ls.getD j [])
/-- all of the first k, one behind the other -/
def joinK (ls : List (List UInt8)) (k : Nat) : List UInt8 := (ls.take k).flatten
theorem joinK_snoc (ls : List (List UInt8)) (k : Nat) (h : k < ls.length) : joinK ls (k + 1) = joinK ls k ++ ls.getD k [] := by
  unfold joinK
  have e : ls.getD k [] = ls[k] := by simp [List.getD, h]
  rw [List.take_succ_eq_append_getElem h, e, List.flatten_append]
  congr 1
  exact List.append_nil _
theorem joinK_le (ls : List (List UInt8)) (k : Nat) : (joinK ls k).length ≤ ls.flatten.length := by
  unfold joinK
  conv => rhs; rw [← List.take_append_drop k ls]
  rw [List.flatten_append, List.length_append]
  exact Nat.le_add_right _ _

theorem news_cells {w : World} {a : Option Addr} {n cap : Nat} {l : List UInt8} (h : IsBs w a n cap l) (ad : Addr) (ha : a = some ad) :
    ∀ j u, (l.map fun x => Value.int .u8 x.toNat)[j]? = some u → w.cell? (ad.add j) = some u := by
  intro j u hu
  have hl := h.len
  have hj : j < n := by
    rcases Nat.lt_or_ge j n with h' | h'
    · exact h'
    · rw [List.getElem?_eq_none (by simp [hl]; exact h')] at hu; cases hu
  obtain ⟨b, off, h1, _, h3⟩ := h.at' j hj
  rw [ha] at h1
  injection h1 with h1
  subst h1
  have e : (⟨b, off, none⟩ : Addr).add j = ⟨b, off + j, none⟩ := by unfold Addr.add; split <;> simp_all
  rw [e, h3]
  rw [← hu]
  simp [List.getD, hl, hj]

set_option maxHeartbeats 1000000 in
theorem concat_any (a : Option Addr) (n cap : Nat) (ls : List (List UInt8)) (hn : n ≤ 1000000) (hL : ls.flatten.length ≤ 1099511627776) (w : World) (h : IsRows w a n ls) :
    Calls Tryd.prog 104 #[.slice a n cap] w (GotRow w ls.flatten) := by
  have H := Lib.hid h
  have HN := Lib.hid h.1
  have HL := Lib.hid hL
  obtain ⟨i0, hi, hz0, hz1, hz2⟩ := info_parts info_u8
  have HI : Hid (_ ∧ _ ∧ _ ∧ _) := Lib.hid ⟨hi, hz0, hz1, hz2⟩
  clear h hL hi hz0 hz1 hz2
  go_enter Tryd.func104, Tryd.ntmps104
  go_wp2
  go_loop [3, 11] (fun s i => ∃ k : Nat, k ≤ n ∧ i = .int .i64 k ∧ s = .int .i64 ((joinK ls k).length : Nat)) (fun _ i => n - (intOf i).toNat)
  case atStart => exact ⟨0, Nat.zero_le _, rfl, rfl⟩
  case round =>
    obtain ⟨k, hk, rfl, rfl⟩ := hrel
    by_cases hlt : k < n
    · obtain ⟨b, off, rfl, hb, a', n', c', hc, hx⟩ := H.out.2 k hlt
      have hj := joinK_snoc ls k (by rw [HN.out]; exact hlt)
      have hl1 := joinK_le ls (k + 1)
      have hl2 := HL.out
      have hxl := hx.len
      have hs : (joinK ls (k + 1)).length = (joinK ls k).length + n' := by rw [hj, List.length_append, hxl]
      obtain ⟨p, hp⟩ : ∃ p, (joinK ls k).length = p := ⟨_, rfl⟩
      have hpn : p + n' ≤ 1099511627776 := by omega
      rw [hp] at hs ⊢
      have HS := Lib.hid hs
      clear hs hj hl1 hl2 hxl hp hx
      go_wp2
      go_round
      case rel => exact ⟨k + 1, by omega, by go_num, by rw [HS.out]; go_num⟩
      case measure => simp [intOf]; omega
    · obtain rfl : k = n := by omega
      have hlen : (joinK ls k).length ≤ 1099511627776 := Nat.le_trans (joinK_le ls k) HL.out
      clear hlt hk
      obtain ⟨p, hp⟩ : ∃ p, (joinK ls k).length = p := ⟨_, rfl⟩
      rw [hp] at hlen ⊢
      clear hp
      go_wp2_with fail
      refine (grow_any p hlen _).mono ?_
      rintro e w1 ⟨v, rfl, hown, hb1⟩
      go_wp2
      go_loopw [6, 27] (fun v i wr => ∃ q : Nat, q ≤ k ∧ i = .int .i64 q ∧ Hid (wr.ownsRow w.heap.size 5 1 v (joinK ls q).length ((joinK ls q).map fun x => Value.int .u8 x.toNat)) ∧ Below w.heap.size w wr) (fun _ i _ => k - (intOf i).toNat)
      case atStart => exact ⟨0, Nat.zero_le _, rfl, Lib.hid hown, hb1⟩
      case round =>
        obtain ⟨q, hq, rfl, HO, hB⟩ := hrel
        by_cases hqt : q < k
        · obtain ⟨b, off, rfl, hb, a', n', c', hc, hx⟩ := H.out.2 q hqt
          have hj := joinK_snoc ls q (by rw [HN.out]; exact hqt)
          have hl1 := joinK_le ls (q + 1)
          have hl2 := HL.out
          have hxl := hx.len
          have hs : (joinK ls (q + 1)).length = (joinK ls q).length + n' := by rw [hj, List.length_append, hxl]
          have hbd : (joinK ls q).length + n' ≤ 1099511627776 := by omega
          have hc2 : wr.cell? ⟨b, off + q, none⟩ = some (.slice a' n' c') := by rw [hB.cell (p := ⟨b, off + q, none⟩) hb]; exact hc
          have hx2 := Lib.hid (news_cells (hx.below hB))
          have HS := Lib.hid hs
          have HJ := Lib.hid hj
          have hsz := hB.size
          clear hs hj hl1 hl2 hxl hc
          rcases a' with _ | ad
          · obtain ⟨rfl, rfl, hnil⟩ := hx.capNone
            have HJ2 : Hid (joinK ls (q + 1) = joinK ls q) := Lib.hid (by rw [HJ.out, hnil, List.append_nil])
            clear hx hnil hbd
            go_wp2_with (at_builtin; refine wpList_append_own_none rfl _ _ 42 rfl w.heap.size 5 i0 1 Tryd.underlying42 HI.out.1 _ _ _ rfl HO.out rfl ?_)
            go_wp2
            go_roundw
            case rel => exact ⟨q + 1, by omega, by go_num, by rw [HJ2.out]; exact HO, hB⟩
            case measure => simp [intOf]; omega
          · have HX := Lib.hid hx.len
            clear hx
            go_wp2_with (at_builtin; refine wpList_append_own _ rfl _ _ 42 rfl w.heap.size 5 i0 (.int .u8 0) 1 1 Tryd.underlying42 HI.out.1 HI.out.2.1 HI.out.2.2.1 HI.out.2.2.2 rfl (by decide) _ _ _ rfl HO.out ad n' c' ((ls.getD q []).map fun x => Value.int .u8 x.toNat) rfl ?c0 ?c1 ?c2 ?c3 ?c4 ?c5 ?_)
            case c0 => rw [List.length_map, Nat.mul_one]; exact HX.out
            case c1 => exact hx2.out ad rfl
            case c2 => intro u hu; simp at hu; obtain ⟨_, _, rfl⟩ := hu; rfl
            case c3 => unfold maxLen; omega
            case c4 => omega
            case c5 => exact hsz
            intro v' w2 hown2 hgrow _
            have hlt' := HO.out.lt
            go_wp2
            go_roundw
            case rel =>
              refine ⟨q + 1, by omega, by go_num, Lib.hid ?_, hB.grown hgrow hsz (fun g hg => (hlt' g hg).1)⟩
              rw [HS.out, HJ.out, List.map_append]
              exact hown2
            case measure => simp [intOf]; omega
        · obtain rfl : q = k := by omega
          have HE : Hid (joinK ls q = ls.flatten) := Lib.hid (by
            unfold joinK; rw [List.take_of_length_le (by rw [HN.out]; exact Nat.le_refl _)])
          have hO := HO.out
          rw [HE.out] at hO
          have HG := Lib.hid hO
          clear hO
          go_wp2
          go_ret
          exact ⟨_, rfl, HG.out, hB⟩

end Cc
end Go.Proofs.YtoeblhdddehemaaDoor

/-
  Numbers in the fewest bytes; what stands ahead of so many bytes; contracts of rlp.number and rlp.Head.
-/
namespace Go.Proofs.YtoeblhdddehemaaDoor
set_option maxRecDepth 20000
open Go.RowKit

namespace Rl
/-- the digits, the lowest first -/
def dig (n : Nat) : List UInt8 := if n = 0 then [] else UInt8.ofNat n :: dig (n / 256)
termination_by n
decreasing_by omega
theorem dig_zero : dig 0 = [] := by rw [dig]; rfl
theorem dig_pos {n : Nat} (h : 0 < n) : dig n = UInt8.ofNat n :: dig (n / 256) := by rw [dig, if_neg (by omega)]
theorem dig_length (k : Nat) : ∀ n, n < 256 ^ k → (dig n).length ≤ k := by
  induction k with
  | zero =>
    intro n hn
    obtain rfl : n = 0 := by simpa using hn
    simp [dig_zero]
  | succ k ih =>
    intro n hn
    by_cases h : n = 0
    · subst h; simp [dig_zero]
    · rw [dig_pos (by omega)]
      have := ih (n / 256) (by rw [Nat.pow_succ] at hn; omega)
      simp; omega
/-- .. the highest first -/
def bigL (n : Nat) : List UInt8 := (dig n).reverse
theorem bigL_length {n : Nat} (h : n < 2 ^ 64) : (bigL n).length ≤ 8 := by
  unfold bigL
  rw [List.length_reverse]
  exact dig_length 8 n (by simpa using h)
theorem bigL_pos {n : Nat} (h : 0 < n) : bigL n = bigL (n / 256) ++ [UInt8.ofNat n] := by
  unfold bigL
  rw [dig_pos h]
  simp
theorem bigL_zero : bigL 0 = [] := by unfold bigL; rw [dig_zero]; rfl

def encB (l : List UInt8) : List Value := l.map fun x => Value.int .u8 x.toNat
theorem encB_snoc (l : List UInt8) (n : Nat) : encB l ++ [.int .u8 (IntKind.u8.wrap (n : Int))] = encB (l ++ [UInt8.ofNat n]) := by
  unfold encB
  rw [List.map_append]
  simp [IntKind.wrap_u8]

theorem row_of_owns {w : World} {B : Nat} {t : TypeId} {v : Value} {n : Nat} {l : List UInt8} (h : w.ownsRow B t 1 v n (encB l)) (h0 : 0 < n) :
    ∃ g cap f, v = .slice (some ⟨g, 0, none⟩) n cap ∧ B ≤ g ∧ n ≤ cap ∧ cap ≤ maxLen ∧ w.rowIs g t cap f ∧ ∀ j, j < n → f j = .int .u8 ((l.getD j 0).toNat : Int) := by
  have hl : l.length = n := by simpa [encB] using h.1
  rcases h.2 with ⟨rfl, hz⟩ | ⟨g, cap, cur, rfl, hbg, hg, hnc, hcm, hcs, htake⟩
  · omega
  · refine ⟨g, cap, fun j => cur.getD j undef, rfl, hbg, hnc, hcm, ⟨cur, hg, by simpa using hcs, fun i hi => ?_⟩, fun j hj => ?_⟩
    · have : i < cur.size := by omega
      simp [this]
    · have := h.cells (g := g) rfl j (.int .u8 (l.getD j 0).toNat) (by simp [encB, List.getD, hl, hj])
      have e : (⟨g, 0, none⟩ : Addr).add j = ⟨g, 0 + j, none⟩ := by unfold Addr.add; split <;> simp_all
      rw [e] at this
      simp [World.cell?, hg] at this
      simp [this]
theorem bs_of_row {w : World} {g cap : Nat} {t : TypeId} {f : Nat → Value} {l : List UInt8} (h : w.rowIs g t cap (Rv.turned f l.length l.length)) (hnc : l.length ≤ cap) (hcm : cap ≤ maxLen) (hf : ∀ j, j < l.length → f j = .int .u8 ((l.getD j 0).toNat : Int)) :
    IsBs w (some ⟨g, 0, none⟩) l.length cap l.reverse := by
  refine ⟨hnc, hcm, by simp, fun e => (by cases e), fun j hj => ⟨g, 0, rfl, h.lt, ?_⟩⟩
  rw [Nat.zero_add, h.cell (by omega)]
  unfold Rv.turned
  rw [if_pos ⟨hj, .inl hj⟩, hf _ (by omega)]
  simp [List.getD, hj, show l.length - 1 - j < l.length by omega]

set_option maxHeartbeats 2000000 in
theorem number_any (n : Nat) (h0 : 0 < n) (hn : n < 2 ^ 64) (w : World) :
    Calls Tryd.prog 112 #[.int .u64 n] w fun e w' => e = .returned (.string ⟨(bigL n).toArray⟩) ∧ Below w.heap.size w w' := by
  obtain ⟨i0, hi, hz0, hz1, hz2⟩ := info_parts Cc.info_u8
  have HI : Hid (_ ∧ _ ∧ _ ∧ _) := Lib.hid ⟨hi, hz0, hz1, hz2⟩
  have HL : Hid ((dig n).length ≤ 8) := Lib.hid (dig_length 8 n (by simpa using hn))
  have HP : Hid (0 < (dig n).length) := Lib.hid (by rw [dig_pos h0]; simp)
  clear hi hz0 hz1 hz2
  go_enter Tryd.func112, Tryd.ntmps112
  go_wp2
  go_loopw [0, 3] (fun i v wr => ∃ (x : Nat) (l : List UInt8), x < 2 ^ 64 ∧ i = .int .u64 x ∧ Hid (l ++ dig x = dig n) ∧ Hid (wr.ownsRow w.heap.size 5 1 v l.length (encB l)) ∧ Below w.heap.size w wr) (fun i _ _ => (intOf i).toNat)
  case atStart => exact ⟨n, [], hn, rfl, Lib.hid rfl, Lib.hid (World.ownsRow_nil _ _ _ _), Below.refl _ _⟩
  case round =>
    obtain ⟨x, l, hx, rfl, HD, HO, hB⟩ := hrel
    have hsz := hB.size
    have HB := Lib.hid hB
    clear hB
    by_cases hlt : 0 < x
    · have HD' : Hid ((l ++ [UInt8.ofNat x]) ++ dig (x / 256) = dig n) := Lib.hid (by rw [← HD.out, dig_pos hlt]; simp)
      have hl8 : l.length ≤ 8 := by
        have := congrArg List.length HD.out
        have h8 := HL.out
        rw [List.length_append] at this
        omega
      have HE := Lib.hid (encB_snoc l x)
      go_wp2_with (at_builtin; refine wpList_append_own _ rfl _ _ 42 rfl w.heap.size 5 i0 (.int .u8 0) 1 1 Tryd.underlying42 HI.out.1 HI.out.2.1 HI.out.2.2.1 HI.out.2.2.2 rfl (by decide) _ _ _ rfl (HO.out.alloc _) ⟨wr.heap.size, 0, none⟩ 1 1 [.int .u8 (IntKind.u8.wrap (x : Int))] rfl rfl ?c1 ?c2 ?c3 ?c4 ?c5 ?_)
      case c1 => exact Bu.cell_one_new' _ _ _ _
      case c2 => intro u hu; simp at hu; subst hu; rfl
      case c3 => unfold maxLen; omega
      case c4 => omega
      case c5 => simp; omega
      intro v' w2 hown2 hgrow _
      have hlt' := HO.out.lt
      go_wp2
      go_roundw
      case rel => 
        exact ⟨x / 256, l ++ [UInt8.ofNat x], by omega, by go_num, Lib.hid HD'.out, Lib.hid (by rw [List.length_append, ← HE.out]; exact hown2), (HB.out.alloc hsz _).grown hgrow (by simp; omega) (fun g hg => (hlt' g hg).1)⟩
      case measure => simp [intOf]; omega
    · obtain rfl : x = 0 := by omega
      have hd := HD.out
      rw [dig_zero, List.append_nil] at hd
      obtain ⟨g, cap, f, rfl, hgB, hnc, hcm, hrow, hf⟩ := row_of_owns HO.out (by rw [hd]; exact HP.out)
      have HRv := Lib.hid (Rv.reverse_any g l.length cap 5 f (by rw [hd]; exact HP.out) hnc hcm wr hrow (fun j hj => ⟨_, hf j hj⟩))
      have HF := Lib.hid hf
      have HN : Hid (l = dig n) := Lib.hid hd
      clear hf hrow hd
      go_wp2_with (go_at_call 115; refine HRv.out.mono ?_; rintro e w1 ⟨rfl, hr1, hu1⟩; have hcv := conv_bs (bs_of_row hr1 hnc hcm HF.out); have HU := Lib.hid hu1; clear hr1 hu1)
      go_ret
      refine ⟨by rw [HN.out]; rfl, HU.out.below HB.out hgB⟩
end Rl
end Go.Proofs.YtoeblhdddehemaaDoor

/-
  Contracts of the plain answer's big and Head; of rlp.Head.
-/
namespace Go.Proofs.YtoeblhdddehemaaDoor
set_option maxRecDepth 20000
open Go.RowKit

namespace Rl
/-- a slice of one byte is made -/
theorem meetOne {o : Oper} {a : Act} {w : World} {K : Act → World → Prop} {Q : Exit → Act → World → Prop} {ops : Array Oper} (hw : Region.wanted o (yielded ops a.tmps) = true) {z : Int}
    (ho : ∃ x, o.op = .buildSlice 42 1 #[(0, x)] ∧ a.eval x = .int .u8 z) (hz : 0 ≤ z ∧ z < 256)
    (h : ∀ w' b, IsBs w' (some ⟨b, 0, none⟩) 1 1 [UInt8.ofNat z.toNat] → Below w.heap.size w w' → K (a.put o.dst (.slice (some ⟨b, 0, none⟩) 1 1)) w') : if Region.wanted o (yielded ops a.tmps) = true then Oper.wp Tryd.prog o a w K Q else K (a.put o.dst undef) w := by
  obtain ⟨x, ho, hx⟩ := ho
  have hb : IsBs (w.alloc (.cells #[.int .u8 z] 5)) (some ⟨w.heap.size, 0, none⟩) 1 1 [UInt8.ofNat z.toNat] := IsBs.new w [UInt8.ofNat z.toNat] (by unfold maxLen; simp) _ _ (by
    simp
    omega)
  obtain ⟨i0, hi, hz0, hz1, hz2⟩ := info_parts Cc.info_u8
  refine Rg.want hw (wp_buildSlice 42 5 1 _ ho #[.int .u8 z] i0 (.int .u8 0) Tryd.underlying42 hi hz0 (by rw [hz1]; decide) (by rw [hz1]; decide) ?_ (h _ _ hb (al1 _ _)))
  simp only [List.map_toArray, List.map_cons, List.map_nil, hx, hz1]
  kernel_rfl

set_option maxHeartbeats 4000000 in
theorem big_any (n : Nat) : n < 2 ^ 63 → ∀ w : World, Calls Tryd.prog 93 #[.int .i64 n] w fun e w' => e = .returned (.string ⟨(bigL n).toArray⟩) ∧ Below w.heap.size w w' := by
  induction n using Nat.strongRecOn with
  | ind n ih =>
    intro hn w
    by_cases h0 : n = 0
    · subst h0
      rw [bigL_zero]
      clear ih
      go_enter Tryd.func93, Tryd.ntmps93
      go_wp2
      go_ret
      exact ⟨rfl, Below.refl _ _⟩
    · have hi := ih (n / 256) (by omega) (by omega)
      rw [show ((n / 256 : Nat) : Int) = IntKind.i64.wrap ((n : Int) / 256) by rw [IntKind.wrap_i64]; omega] at hi
      have HI := Lib.hid hi
      have HQ : Hid (0 ≤ IntKind.u8.wrap ((n : Int).tmod 256) ∧ IntKind.u8.wrap ((n : Int).tmod 256) < 256) := Lib.hid (by rw [IntKind.wrap_u8]; omega)
      have HE : Hid (bigL n = bigL (n / 256) ++ [UInt8.ofNat (IntKind.u8.wrap ((n : Int).tmod 256)).toNat]) := Lib.hid (by
        rw [bigL_pos (n := n) (by omega)]
        congr 2
        rw [IntKind.wrap_u8, Int.tmod_eq_emod_of_nonneg (by omega), show (((n : Int) % 256) % 256).toNat = n % 256 by omega]
        apply UInt8.toNat_inj.1
        simp)
      have hlen : (bigL (n / 256)).length ≤ 8 := bigL_length (by omega)
      clear hi
      clear ih
      go_enter Tryd.func93, Tryd.ntmps93
      go_wp2_with fail
      refine wp_region_noPanic ?_
      refine wp_region_held_drew (S := fun w' => Below w.heap.size w w') (by kernel_rfl) ((Below.refl _ _).drew) (fun hHeld => ?_)
      refine Rg.takeL (i := 0) (v := ?_) rfl (by kernel_rfl) (by kernel_rfl) (by kernel_rfl) (fun _ _ _ h => h) (Or.inl ⟨by rfl, ?_⟩) (by assumption) ?_
      rotate_left
      · (intro wz hSw; (try dsimp only at hSw); go_simp <;> with_reducible rfl)
      try simp only [Act.put, List.setIfInBounds_toArray, List.set_cons_zero, List.set_cons_succ]
      refine Rg.takeL (i := 1) (v := ?_) rfl (by kernel_rfl) (by kernel_rfl) (by kernel_rfl) (fun _ _ _ h => h) (Or.inl ⟨by rfl, ?_⟩) (by assumption) ?_
      rotate_left
      · (intro wz hSw; (try dsimp only at hSw); go_simp <;> with_reducible rfl)
      try simp only [Act.put, List.setIfInBounds_toArray, List.set_cons_zero, List.set_cons_succ]
      refine Rg.takeL (i := 3) (v := ?_) rfl (by kernel_rfl) (by kernel_rfl) (by kernel_rfl) (fun _ _ _ h => h) (Or.inl ⟨by rfl, ?_⟩) (by assumption) ?_
      rotate_left
      · (intro wz hSw; (try dsimp only at hSw); go_simp <;> with_reducible rfl)
      try simp only [Act.put, List.setIfInBounds_toArray, List.set_cons_zero, List.set_cons_succ]
      refine Rg.takeL (i := 4) (v := ?_) rfl (by kernel_rfl) (by kernel_rfl) (by kernel_rfl) (fun _ _ _ h => h) (Or.inl ⟨by rfl, ?_⟩) (by assumption) ?_
      rotate_left
      · (intro wz hSw; (try dsimp only at hSw); go_simp <;> with_reducible rfl)
      try simp only [Act.put, List.setIfInBounds_toArray, List.set_cons_zero, List.set_cons_succ]
      refine Rg.takeL (i := 5) (v := ?_) rfl (by kernel_rfl) (by kernel_rfl) (by kernel_rfl) (fun _ _ _ h => h) (Or.inl ⟨by rfl, ?_⟩) (by assumption) ?_
      rotate_left
      · (intro wz hSw; (try dsimp only at hSw); go_simp <;> with_reducible rfl)
      try simp only [Act.put, List.setIfInBounds_toArray, List.set_cons_zero, List.set_cons_succ]
      refine wpAnyH_ready (rs := [2, 6]) (by kernel_rfl) (by simp) ?_
      refine Rg.readyC (i := 2) rfl (fun K hK => ?_) (Rg.readyL (i := 6) rfl (fun K hK => ?_))
      · go_simp
        go_at_call 93
        (with_reducible refine (HI.out _).mono ?_)
        rintro e wv0 ⟨rfl, hbx⟩
        refine hK.out _ _ ?_ (fun hHeld => ?_)
        · exact Below.trans hHeld (hbx.mono hHeld.size)
        clear hK K hbx
        try simp only [Act.put, List.setIfInBounds_toArray, List.set_cons_zero, List.set_cons_succ]
        refine wpAnyH_ready (rs := [6]) (by kernel_rfl) (by simp) ?_
        refine Rg.readyL (i := 6) rfl (fun K hK => ?_)
        refine meetOne (by rfl) ⟨_, rfl, rfl⟩ HQ.out ?_
        rintro wv1 b6 h6 hbx
        refine hK.out _ _ ?_ (fun hHeld => ?_)
        · exact Below.trans hHeld (hbx.mono hHeld.size)
        clear hK K hbx
        try simp only [Act.put, List.setIfInBounds_toArray, List.set_cons_zero, List.set_cons_succ]
        refine wpAnyH_ready (rs := [7]) (by kernel_rfl) (by simp) ?_
        refine Rg.readyL (i := 7) rfl (fun K hK => ?_)
        have hcv := conv_bs h6
        go_simp
        refine hK.out _ _ ?_ (fun hHeld => ?_)
        · exact hHeld
        clear hK K hcv
        try simp only [Act.put, List.setIfInBounds_toArray, List.set_cons_zero, List.set_cons_succ]
        refine Rg.takeL (i := 8) (v := ?_) rfl (by kernel_rfl) (by kernel_rfl) (by kernel_rfl) (fun _ _ _ h => h) (Or.inl ⟨by rfl, ?_⟩) (by assumption) ?_
        rotate_left
        · (intro wz hSw; have hz8 : ¬ 9223372036854775807 < (bigL (n / 256)).length + 1 := (by omega); go_simp <;> with_reducible rfl)
        try simp only [Act.put, List.setIfInBounds_toArray, List.set_cons_zero, List.set_cons_succ]
        refine Rg.takeL (i := 9) (v := ?_) rfl (by kernel_rfl) (by kernel_rfl) (by kernel_rfl) (fun _ _ _ h => h) (Or.inl ⟨by rfl, ?_⟩) (by assumption) ?_
        rotate_left
        · (intro wz hSw; (try dsimp only at hSw); go_simp <;> with_reducible rfl)
        try simp only [Act.put, List.setIfInBounds_toArray, List.set_cons_zero, List.set_cons_succ]
        refine wpAnyH_done (by kernel_rfl) ?_ _
        refine NoPanic.normal ?_
        go_wp2
        go_ret
        exact ⟨by rw [HE.out]; rfl, hHeld⟩
      · refine meetOne (by rfl) ⟨_, rfl, rfl⟩ HQ.out ?_
        rintro wv0 b6 h6 hbx
        refine hK.out _ _ ?_ (fun hHeld => ?_)
        · exact Below.trans hHeld (hbx.mono hHeld.size)
        clear hK K hbx
        try simp only [Act.put, List.setIfInBounds_toArray, List.set_cons_zero, List.set_cons_succ]
        refine wpAnyH_ready (rs := [2, 7]) (by kernel_rfl) (by simp) ?_
        refine Rg.readyC (i := 2) rfl (fun K hK => ?_) (Rg.readyL (i := 7) rfl (fun K hK => ?_))
        · go_simp
          go_at_call 93
          (with_reducible refine (HI.out _).mono ?_)
          rintro e wv1 ⟨rfl, hbx⟩
          replace h6 := h6.below hbx
          refine hK.out _ _ ?_ (fun hHeld => ?_)
          · exact Below.trans hHeld (hbx.mono hHeld.size)
          clear hK K hbx
          try simp only [Act.put, List.setIfInBounds_toArray, List.set_cons_zero, List.set_cons_succ]
          refine wpAnyH_ready (rs := [7]) (by kernel_rfl) (by simp) ?_
          refine Rg.readyL (i := 7) rfl (fun K hK => ?_)
          have hcv := conv_bs h6
          go_simp
          refine hK.out _ _ ?_ (fun hHeld => ?_)
          · exact hHeld
          clear hK K hcv
          try simp only [Act.put, List.setIfInBounds_toArray, List.set_cons_zero, List.set_cons_succ]
          refine Rg.takeL (i := 8) (v := ?_) rfl (by kernel_rfl) (by kernel_rfl) (by kernel_rfl) (fun _ _ _ h => h) (Or.inl ⟨by rfl, ?_⟩) (by assumption) ?_
          rotate_left
          · (intro wz hSw; have hz8 : ¬ 9223372036854775807 < (bigL (n / 256)).length + 1 := (by omega); go_simp <;> with_reducible rfl)
          try simp only [Act.put, List.setIfInBounds_toArray, List.set_cons_zero, List.set_cons_succ]
          refine Rg.takeL (i := 9) (v := ?_) rfl (by kernel_rfl) (by kernel_rfl) (by kernel_rfl) (fun _ _ _ h => h) (Or.inl ⟨by rfl, ?_⟩) (by assumption) ?_
          rotate_left
          · (intro wz hSw; (try dsimp only at hSw); go_simp <;> with_reducible rfl)
          try simp only [Act.put, List.setIfInBounds_toArray, List.set_cons_zero, List.set_cons_succ]
          refine wpAnyH_done (by kernel_rfl) ?_ _
          refine NoPanic.normal ?_
          go_wp2
          go_ret
          exact ⟨by rw [HE.out]; rfl, hHeld⟩
        · have hcv := conv_bs h6
          go_simp
          refine hK.out _ _ ?_ (fun hHeld => ?_)
          · exact hHeld
          clear hK K hcv
          try simp only [Act.put, List.setIfInBounds_toArray, List.set_cons_zero, List.set_cons_succ]
          refine wpAnyH_ready (rs := [2]) (by kernel_rfl) (by simp) ?_
          refine Rg.readyL (i := 2) rfl (fun K hK => ?_)
          go_simp
          go_at_call 93
          (with_reducible refine (HI.out _).mono ?_)
          rintro e wv1 ⟨rfl, hbx⟩
          replace h6 := h6.below hbx
          refine hK.out _ _ ?_ (fun hHeld => ?_)
          · exact Below.trans hHeld (hbx.mono hHeld.size)
          clear hK K hbx
          try simp only [Act.put, List.setIfInBounds_toArray, List.set_cons_zero, List.set_cons_succ]
          refine Rg.takeL (i := 8) (v := ?_) rfl (by kernel_rfl) (by kernel_rfl) (by kernel_rfl) (fun _ _ _ h => h) (Or.inl ⟨by rfl, ?_⟩) (by assumption) ?_
          rotate_left
          · (intro wz hSw; have hz8 : ¬ 9223372036854775807 < (bigL (n / 256)).length + 1 := (by omega); go_simp <;> with_reducible rfl)
          try simp only [Act.put, List.setIfInBounds_toArray, List.set_cons_zero, List.set_cons_succ]
          refine Rg.takeL (i := 9) (v := ?_) rfl (by kernel_rfl) (by kernel_rfl) (by kernel_rfl) (fun _ _ _ h => h) (Or.inl ⟨by rfl, ?_⟩) (by assumption) ?_
          rotate_left
          · (intro wz hSw; (try dsimp only at hSw); go_simp <;> with_reducible rfl)
          try simp only [Act.put, List.setIfInBounds_toArray, List.set_cons_zero, List.set_cons_succ]
          refine wpAnyH_done (by kernel_rfl) ?_ _
          refine NoPanic.normal ?_
          go_wp2
          go_ret
          exact ⟨by rw [HE.out]; rfl, hHeld⟩
end Rl
end Go.Proofs.YtoeblhdddehemaaDoor

/-
  What stands ahead of so many bytes; contracts of rlp.Head and the plain answer's Head.
-/
namespace Go.Proofs.YtoeblhdddehemaaDoor
set_option maxRecDepth 20000
open Go.RowKit

namespace Rl
def mark (l : Bool) : Nat := if l then 192 else 128
/-- ahead of n bytes -/
def headL (n : Nat) (l : Bool) : List UInt8 := if n < 56 then [UInt8.ofNat (mark l + n)] else UInt8.ofNat (mark l + 55 + (bigL n).length) :: bigL n
def headS (n : Nat) (l : Bool) : ByteArray := ⟨(headL n l).toArray⟩
/-- the number that it goes by -/
def clampH (n : Int) : Nat := (min (max n 0) 4294967296).toNat
theorem clampH_le (n : Int) : clampH n ≤ 4294967296 := by unfold clampH; omega
theorem headS_small {n : Nat} (h : n < 56) (l : Bool) : headS n l = ⟨#[UInt8.ofNat (mark l + n)]⟩ := by unfold headS headL; rw [if_pos h]
theorem headS_big {n : Nat} (h : ¬ n < 56) (l : Bool) : headS n l = ⟨#[UInt8.ofNat (mark l + 55 + (bigL n).length)]⟩ ++ ⟨(bigL n).toArray⟩ := by
  unfold headS headL
  rw [if_neg h]
  apply ByteArray.ext
  simp

theorem conv_new (w : World) (z : Int) (hz : 0 ≤ z ∧ z < 256) (c : UInt8) (hc : c = UInt8.ofNat z.toNat) :
    Sem.run Tryd.prog (convert 42 9 (Value.slice (some ⟨w.heap.size, 0, none⟩) 1 1)) (w.alloc (.cells #[.int .u8 z] 5)) = .ok (.string ⟨#[c]⟩) (w.alloc (.cells #[.int .u8 z] 5)) := by
  subst hc
  have hb : IsBs (w.alloc (.cells #[.int .u8 z] 5)) (some ⟨w.heap.size, 0, none⟩) 1 1 [UInt8.ofNat z.toNat] := IsBs.new w [UInt8.ofNat z.toNat] (by unfold maxLen; simp) _ _ (by
    simp
    omega)
  exact conv_bs hb

set_option maxHeartbeats 2000000 in
theorem head_small (n : Int) (m k : Nat) (hmax : max n 0 = m) (hmin : min (m : Int) 4294967296 = k) (hk : k < 56) (l : Bool) (w : World) :
    Calls Tryd.prog 101 #[.int .i64 n, .bool l] w fun e w' => e = .returned (.string (headS k l)) ∧ Below w.heap.size w w' := by
  cases l
  · obtain ⟨c, hc⟩ : ∃ c, c = UInt8.ofNat (128 + k) := ⟨_, rfl⟩
    have HS : Hid (headS k false = ⟨#[c]⟩) := Lib.hid (by rw [headS_small hk, hc]; rfl)
    have hcv := conv_new w (128 + k) (by omega) c (hc.trans (congrArg _ (by omega)))
    clear hc
    go_enter Tryd.func101, Tryd.ntmps101
    go_wp2
    go_ret
    exact ⟨by rw [HS.out]; rfl, al1 _ _⟩
  · obtain ⟨c, hc⟩ : ∃ c, c = UInt8.ofNat (192 + k) := ⟨_, rfl⟩
    have HS : Hid (headS k true = ⟨#[c]⟩) := Lib.hid (by rw [headS_small hk, hc]; rfl)
    have hcv := conv_new w (192 + k) (by omega) c (hc.trans (congrArg _ (by omega)))
    clear hc
    go_enter Tryd.func101, Tryd.ntmps101
    go_wp2
    go_ret
    exact ⟨by rw [HS.out]; rfl, al1 _ _⟩

set_option maxHeartbeats 2000000 in
theorem head_big (n : Int) (m k : Nat) (hmax : max n 0 = m) (hmin : min (m : Int) 4294967296 = k) (hm : m < 2 ^ 63) (hk : ¬ k < 56) (hk2 : k ≤ 4294967296) (l : Bool) (w : World) :
    Calls Tryd.prog 101 #[.int .i64 n, .bool l] w fun e w' => e = .returned (.string (headS k l)) ∧ Below w.heap.size w w' := by
  have HN := Lib.hid (fun w => number_any k (by omega) (by omega) w)
  have hlen := bigL_length (n := k) (by omega)
  cases l
  · obtain ⟨c, hc⟩ : ∃ c, c = UInt8.ofNat (183 + (bigL k).length) := ⟨_, rfl⟩
    have hs1 : headS k false = ⟨#[c]⟩ ++ ⟨(bigL k).toArray⟩ := by rw [headS_big hk, hc]; rfl
    have hcv := fun w => conv_new w (183 + (bigL k).length) (by omega) c (hc.trans (congrArg _ (by omega)))
    obtain ⟨B, hB⟩ : ∃ B, bigL k = B := ⟨_, rfl⟩
    rw [hB] at hs1 HN hlen
    simp only [hB] at hcv
    clear hB hc
    have hsz : (⟨B.toArray⟩ : ByteArray).size = B.length := by rfl
    obtain ⟨s, hs⟩ : ∃ s : ByteArray, ⟨B.toArray⟩ = s := ⟨_, rfl⟩
    rw [hs] at hsz hs1 HN
    have HS := Lib.hid hs1
    clear hs hs1
    go_enter Tryd.func101, Tryd.ntmps101
    go_wp2_with fail
    refine (HN.out _).mono ?_
    rintro e w1 ⟨rfl, hb1⟩
    have hcv1 := hcv w1
    go_wp2
    go_ret
    exact ⟨by rw [HS.out]; rfl, below_step' hb1 (al1 _ _)⟩
  · obtain ⟨c, hc⟩ : ∃ c, c = UInt8.ofNat (247 + (bigL k).length) := ⟨_, rfl⟩
    have hs1 : headS k true = ⟨#[c]⟩ ++ ⟨(bigL k).toArray⟩ := by rw [headS_big hk, hc]; rfl
    have hcv := fun w => conv_new w (247 + (bigL k).length) (by omega) c (hc.trans (congrArg _ (by omega)))
    obtain ⟨B, hB⟩ : ∃ B, bigL k = B := ⟨_, rfl⟩
    rw [hB] at hs1 HN hlen
    simp only [hB] at hcv
    clear hB hc
    have hsz : (⟨B.toArray⟩ : ByteArray).size = B.length := by rfl
    obtain ⟨s, hs⟩ : ∃ s : ByteArray, ⟨B.toArray⟩ = s := ⟨_, rfl⟩
    rw [hs] at hsz hs1 HN
    have HS := Lib.hid hs1
    clear hs hs1
    go_enter Tryd.func101, Tryd.ntmps101
    go_wp2_with fail
    refine (HN.out _).mono ?_
    rintro e w1 ⟨rfl, hb1⟩
    have hcv1 := hcv w1
    go_wp2
    go_ret
    exact ⟨by rw [HS.out]; rfl, below_step' hb1 (al1 _ _)⟩

set_option maxHeartbeats 2000000 in
theorem rhead_small (k : Nat) (hk : k < 56) (l : Bool) (w : World) :
    Calls Tryd.prog 75 #[.int .i64 k, .bool l] w fun e w' => e = .returned (.string (headS k l)) ∧ Below w.heap.size w w' := by
  cases l
  · obtain ⟨c, hc⟩ : ∃ c, c = UInt8.ofNat (128 + k) := ⟨_, rfl⟩
    have HS : Hid (headS k false = ⟨#[c]⟩) := Lib.hid (by rw [headS_small hk, hc]; rfl)
    have hcv := conv_new w (128 + k) (by omega) c (hc.trans (congrArg _ (by omega)))
    clear hc
    go_enter Tryd.func75, Tryd.ntmps75
    go_wp2
    go_ret
    exact ⟨by rw [HS.out]; rfl, al1 _ _⟩
  · obtain ⟨c, hc⟩ : ∃ c, c = UInt8.ofNat (192 + k) := ⟨_, rfl⟩
    have HS : Hid (headS k true = ⟨#[c]⟩) := Lib.hid (by rw [headS_small hk, hc]; rfl)
    have hcv := conv_new w (192 + k) (by omega) c (hc.trans (congrArg _ (by omega)))
    clear hc
    go_enter Tryd.func75, Tryd.ntmps75
    go_wp2
    go_ret
    exact ⟨by rw [HS.out]; rfl, al1 _ _⟩

set_option maxHeartbeats 2000000 in
theorem rhead_big (k : Nat) (hk : ¬ k < 56) (hk2 : k ≤ 4294967296) (l : Bool) (w : World) :
    Calls Tryd.prog 75 #[.int .i64 k, .bool l] w fun e w' => e = .returned (.string (headS k l)) ∧ Below w.heap.size w w' := by
  have HN := Lib.hid (fun w => big_any k (by omega) w)
  have hlen := bigL_length (n := k) (by omega)
  cases l
  · obtain ⟨c, hc⟩ : ∃ c, c = UInt8.ofNat (183 + (bigL k).length) := ⟨_, rfl⟩
    have hs1 : headS k false = ⟨#[c]⟩ ++ ⟨(bigL k).toArray⟩ := by rw [headS_big hk, hc]; rfl
    have hcv := fun w => conv_new w (183 + (bigL k).length) (by omega) c (hc.trans (congrArg _ (by omega)))
    obtain ⟨B, hB⟩ : ∃ B, bigL k = B := ⟨_, rfl⟩
    rw [hB] at hs1 HN hlen
    simp only [hB] at hcv
    clear hB hc
    have hsz : (⟨B.toArray⟩ : ByteArray).size = B.length := by rfl
    obtain ⟨s, hs⟩ : ∃ s : ByteArray, ⟨B.toArray⟩ = s := ⟨_, rfl⟩
    rw [hs] at hsz hs1 HN
    have HS := Lib.hid hs1
    clear hs hs1
    go_enter Tryd.func75, Tryd.ntmps75
    go_wp2_with fail
    refine (HN.out _).mono ?_
    rintro e w1 ⟨rfl, hb1⟩
    have hcv1 := hcv w1
    go_wp2
    go_ret
    exact ⟨by rw [HS.out]; rfl, below_step' hb1 (al1 _ _)⟩
  · obtain ⟨c, hc⟩ : ∃ c, c = UInt8.ofNat (247 + (bigL k).length) := ⟨_, rfl⟩
    have hs1 : headS k true = ⟨#[c]⟩ ++ ⟨(bigL k).toArray⟩ := by rw [headS_big hk, hc]; rfl
    have hcv := fun w => conv_new w (247 + (bigL k).length) (by omega) c (hc.trans (congrArg _ (by omega)))
    obtain ⟨B, hB⟩ : ∃ B, bigL k = B := ⟨_, rfl⟩
    rw [hB] at hs1 HN hlen
    simp only [hB] at hcv
    clear hB hc
    have hsz : (⟨B.toArray⟩ : ByteArray).size = B.length := by rfl
    obtain ⟨s, hs⟩ : ∃ s : ByteArray, ⟨B.toArray⟩ = s := ⟨_, rfl⟩
    rw [hs] at hsz hs1 HN
    have HS := Lib.hid hs1
    clear hs hs1
    go_enter Tryd.func75, Tryd.ntmps75
    go_wp2_with fail
    refine (HN.out _).mono ?_
    rintro e w1 ⟨rfl, hb1⟩
    have hcv1 := hcv w1
    go_wp2
    go_ret
    exact ⟨by rw [HS.out]; rfl, below_step' hb1 (al1 _ _)⟩

theorem head_any (n : Int) (hn : n < 2 ^ 63) (l : Bool) (w : World) :
    Calls Tryd.prog 101 #[.int .i64 n, .bool l] w fun e w' => e = .returned (.string (headS (clampH n) l)) ∧ Below w.heap.size w w' := by
  have h1 : max n 0 = ((max n 0).toNat : Int) := by omega
  have h2 : min (((max n 0).toNat : Nat) : Int) 4294967296 = clampH n := by unfold clampH; omega
  by_cases hk : clampH n < 56
  · exact head_small n _ _ h1 h2 hk l w
  · exact head_big n _ _ h1 h2 (by omega) hk (clampH_le n) l w
theorem rhead_any (k : Nat) (hk2 : k ≤ 4294967296) (l : Bool) (w : World) :
    Calls Tryd.prog 75 #[.int .i64 k, .bool l] w fun e w' => e = .returned (.string (headS k l)) ∧ Below w.heap.size w w' := by
  by_cases hk : k < 56
  · exact rhead_small k hk l w
  · exact rhead_big k hk hk2 l w
end Rl
end Go.Proofs.YtoeblhdddehemaaDoor

/-
  Contracts of the plain answers' Low and High.
-/
namespace Go.Proofs.YtoeblhdddehemaaDoor
open Go.RowKit

namespace Lh
end Lh
end Go.Proofs.YtoeblhdddehemaaDoor

/-
  Contracts of the plain answers' Size; of light.
-/
namespace Go.Proofs.YtoeblhdddehemaaDoor
open Go.RowKit

namespace Rl
set_option maxHeartbeats 1000000 in
theorem text_any (s : ByteArray) (w : World) :
    Calls Tryd.prog 66 #[.string s] w fun e w' => e = .returned (itV (.mk false s []) none 0 0) ∧ Below w.heap.size w w' := by
  go_enter Tryd.func66, Tryd.ntmps66
  go_wp2
  exact bodyPost_ret (res_item rfl _ rfl (lies_new w (.mk false s []) none 0 0 _)) rfl ⟨rfl, (Below.refl _ _).alloc (Nat.le_refl _) _⟩

/-- whether it is so, whichever -/
def GotBool (w : World) (e : Ending) (w' : World) : Prop := ∃ b : Bool, e = .returned (.bool b) ∧ Below w.heap.size w w'
end Rl
end Go.Proofs.YtoeblhdddehemaaDoor

/-
  Contracts of rlp.Count, rlp.Same and the plain answer's Same.
-/
namespace Go.Proofs.YtoeblhdddehemaaDoor
open Go.RowKit

namespace It
/-- how many items -/
def size : It → Nat
  | .mk _ _ xs => 1 + (xs.map size).sum
termination_by x => SizeOf.sizeOf x
decreasing_by
  rename_i h
  have := List.sizeOf_lt_of_mem h
  simp
  omega
theorem size_mk (l : Bool) (s : ByteArray) (xs : List It) : (It.mk l s xs).size = 1 + (xs.map size).sum := by rw [size]
end It

namespace Rl
theorem wrap_step (a b c : Int) (h : b = wrap64 a) : wrap64 (b + wrap64 c) = wrap64 (a + c) := by
  subst h
  simp only [wrap64]
  omega
theorem sum_take (xs : List It) (q : Nat) (x : It) (h : xs[q]? = some x) : (((xs.take (q + 1)).map It.size).sum : Nat) = ((xs.take q).map It.size).sum + x.size := by
  rw [List.take_add_one, h]
  simp

open Classical in
/-- the same? -/
noncomputable def sameB {α : Type} (x y : α) : Bool := decide (x = y)
theorem sameB_true {α : Type} {x y : α} (h : x = y) : sameB x y = true := by simp [sameB, h]
theorem sameB_false {α : Type} {x y : α} (h : x ≠ y) : sameB x y = false := by simp [sameB, h]
/-- what it tells of two items -/
def Tells (f : FuncId) (x : It) : Prop := ∀ (y : It) (w : World) (u v : Value), IsIt w x u → IsIt w y v → Calls Tryd.prog f #[u, v] w fun e w' => e = .returned (.bool (sameB x y)) ∧ Below w.heap.size w w'
theorem differ (xs ys : List It) (q : Nat) (x y : It) (hx : xs[q]? = some x) (hy : ys[q]? = some y) (h : x ≠ y) : xs ≠ ys := by
  rintro rfl
  exact h (Option.some.inj (hx.symm.trans hy))
theorem take_eq (xs ys : List It) (q : Nat) (x : It) (hx : xs[q]? = some x) (hy : ys[q]? = some x) (h : xs.take q = ys.take q) : xs.take (q + 1) = ys.take (q + 1) := by
  rw [List.take_add_one, List.take_add_one, hx, hy, h]

theorem text_ne {s s' : ByteArray} (h : s ≠ s') : (s.toList == s'.toList) = false := by
  rw [beq_eq_false_iff_ne, ByteArray.toList_eq, ByteArray.toList_eq]
  exact fun e => h (ByteArray.ext (Array.toList_inj.mp e))
theorem it_ne {l l' : Bool} {s s' : ByteArray} {xs ys : List It} (h : l ≠ l' ∨ s ≠ s' ∨ xs ≠ ys) : It.mk l s xs ≠ It.mk l' s' ys := by
  rintro ⟨⟩
  simp at h

end Rl
end Go.Proofs.YtoeblhdddehemaaDoor

/-
  The contract of slices.Clone over items.
-/
namespace Go.Proofs.YtoeblhdddehemaaDoor
set_option maxRecDepth 20000
open Go.RowKit

namespace Rl
theorem info_it : (Tryd.prog.info? 63).map (fun i => (i.size, i.bytes)) = some (3, 48) := by kernel_rfl
theorem info_it_zero : ((Tryd.prog.info? 63).bind (·.zero)).isSome = true := by kernel_rfl
theorem info_it_cells : ((Tryd.prog.info? 63).bind (·.zero)).map (·.cells.size) = some 3 := by kernel_rfl
theorem info_it_parts : ∃ i z, Tryd.prog.info? 63 = some i ∧ i.zero = some z ∧ i.size = 3 ∧ i.bytes = 48 ∧ z.cells.size = 3 := by
  have h1 := info_it
  have h2 := info_it_zero
  have h3 := info_it_cells
  cases hi : Tryd.prog.info? 63 with
  | none => rw [hi] at h1; simp at h1
  | some i =>
    rw [hi] at h1 h2 h3
    simp at h1 h2 h3
    cases hz : i.zero with
    | none => rw [hz] at h2; simp at h2
    | some z =>
      rw [hz] at h3
      simp at h3
      exact ⟨i, z, rfl, hz, h1.1, h1.2, h3⟩

/-- one of an item's three cells -/
def OneOf : Value → Prop
  | .bool _ | .string _ | .slice _ _ _ => True
  | _ => False
theorem OneOf.one {v : Value} (h : OneOf v) : v.oneCell' = true := by
  cases v <;> first | rfl | exact h.elim
/-- the cells of a slice of items, one behind the other -/
theorem cells_of {w : World} {xs : List It} {ad : Addr} {n cap : Nat} (h : IsIts w xs (some ad) n cap) (i : Nat) (hi : i < n * 3) : ∃ v, w.cell? (ad.add i) = some v ∧ OneOf v := by
  obtain ⟨x, b, off, A, N, C, _, e, _, ⟨c0, c1, c2⟩, _⟩ := h.at' (i / 3) (by omega)
  obtain rfl := Option.some.inj e
  rw [Addr.add_mid]
  have h3 : i % 3 = 0 ∨ i % 3 = 1 ∨ i % 3 = 2 := by omega
  rcases h3 with h3 | h3 | h3
  · exact ⟨.bool x.l, (by rw [← c0]; congr 2; omega), True.intro⟩
  · exact ⟨.string x.s, (by rw [← c1]; congr 2; omega), True.intro⟩
  · exact ⟨.slice A N C, (by rw [← c2]; congr 2; omega), True.intro⟩

/-- a new slice whose elements' cells are those of the old one -/
def GotClone (w : World) (ad : Addr) (n : Nat) (e : Ending) (w' : World) : Prop :=
  ∃ g cap f, e = .returned (.slice (some ⟨g, 0, none⟩) n cap) ∧ w.heap.size ≤ g ∧ n ≤ cap ∧ cap ≤ maxLen ∧ w'.rowIs g 63 (cap * 3) f ∧ (∀ i, i < n * 3 → w.cell? (ad.add i) = some (f i)) ∧ Below w.heap.size w w'

theorem nil_nil (w : World) : (binOp .eql 61 (.slice none 0 0) (.slice none 0 0)).run Tryd.prog w = .ok (.bool true) w := by kernel_rfl
theorem some_nil (a : Addr) (n cap : Nat) (w : World) : (binOp .eql 61 (.slice (some a) n cap) (.slice none 0 0)).run Tryd.prog w = .ok (.bool false) w := by kernel_rfl
theorem clone_nil (w : World) : Calls Tryd.prog 102 #[.slice none 0 0] w fun e w' => e = .returned (.slice none 0 0) ∧ w = w' := by
  have hnil := nil_nil
  go_enter Tryd.func102, Tryd.ntmps102
  go_wp2
  go_ret
  exact ⟨rfl, rfl⟩

theorem got_of_owns {w w' : World} {ad : Addr} {n : Nat} {v : Value} {news : List Value} (ho : w'.ownsRow w.heap.size 63 3 v n news) (hne : v ≠ .slice none 0 0) (hc : ∀ i u, news[i]? = some u → w.cell? (ad.add i) = some u) (hb : Below w.heap.size w w') :
    GotClone w ad n (.returned v) w' := by
  rcases ho.2 with ⟨rfl, hz⟩ | ⟨g, cap, cur, rfl, hbg, hg, hnc, hcm, hcs, htake⟩
  · exact absurd rfl hne
  · refine ⟨g, cap, fun j => cur.getD j undef, rfl, hbg, hnc, hcm, ⟨cur, hg, hcs, fun i hi => ?_⟩, fun i hi => ?_, hb⟩
    · have : i < cur.size := by omega
      simp [this]
    · have hlt : i < cur.size := by
        have : n * 3 ≤ cap * 3 := Nat.mul_le_mul_right 3 hnc
        omega
      apply hc
      rw [← htake, List.getElem?_take, if_pos hi]
      simp [hlt]

set_option maxHeartbeats 2000000 in
theorem clone_any (xs : List It) (ad : Addr) (n cap : Nat) (w : World) (h : IsIts w xs (some ad) n cap) :
    Calls Tryd.prog 102 #[.slice (some ad) n cap] w (GotClone w ad n) := by
  obtain ⟨i0, z0, hi, hz, hs, hby, hzc⟩ := info_it_parts
  have HI : Hid (_ ∧ _ ∧ _ ∧ _ ∧ _) := Lib.hid ⟨hi, hz, hs, hby, hzc⟩
  obtain ⟨news, hl, hc, h1⟩ : ∃ news : List Value, news.length = n * 3 ∧ (∀ i u, news[i]? = some u → w.cell? (ad.add i) = some u) ∧ ∀ u ∈ news, u.oneCell' = true := by
    refine ⟨(List.range (n * 3)).map fun i => (w.cell? (ad.add i)).getD undef, by simp, fun i u hu => ?_, fun u hu => ?_⟩
    · by_cases hi : i < n * 3
      · obtain ⟨v, hv, _⟩ := cells_of h i hi
        simp [hi, hv] at hu
        rw [hv, hu]
      · simp [hi] at hu
    · simp at hu
      obtain ⟨i, hi, rfl⟩ := hu
      obtain ⟨v, hv, ho⟩ := cells_of h i hi
      rw [hv]
      exact ho.one
  have hfew := h.few
  have HN : Hid (_ ∧ _ ∧ _) := Lib.hid ⟨hl, hc, h1⟩
  have hlt : ∀ j, j < n * 3 → (ad.add j).block < w.heap.size := fun j hj => by
    obtain ⟨v, hv, _⟩ := cells_of h j hj
    exact World.block_lt_of_cell? w _ hv
  have HLt := Lib.hid hlt
  have hnil := some_nil ad n cap
  clear hi hz hs hby hzc hl hc h1 h hlt
  go_enter Tryd.func102, Tryd.ntmps102
  have HO : Hid ((w.alloc (.cells #[] 63)).ownsRow w.heap.size 63 3 (.slice (some ⟨w.heap.size, 0, none⟩) 0 0) 0 []) := Lib.hid (World.ownsRow_made w #[] 0 (Nat.le_refl _) (Nat.zero_le _) (by simp))
  go_wp2_with (at_builtin; refine wpList_append_own _ rfl _ _ 61 rfl w.heap.size 63 i0 z0 3 48 Tryd.underlying61 HI.out.1 HI.out.2.1 HI.out.2.2.1 HI.out.2.2.2.1 HI.out.2.2.2.2 (by decide) _ _ _ rfl HO.out ad n cap news rfl HN.out.1 ?c2 HN.out.2.2 ?c3 ?c4 ?c5 ?_)
  case c2 =>
    intro j u hu
    have hj : j < n * 3 := by rw [← HN.out.1]; exact (List.getElem?_eq_some_iff.1 hu).1
    rw [(al1 w _).cell (p := ad.add j) (HLt.out j hj)]
    exact HN.out.2.1 j u hu
  case c3 => unfold maxLen; omega
  case c4 => omega
  case c5 => simp
  intro v' w2 hown2 hgrow hnil'
  have HG : Hid (GotClone w ad n (.returned v') w2) := Lib.hid (got_of_owns hown2 hnil' HN.out.2.1 ((al1 w _).grown hgrow (by simp) (fun k hk => by simp [Value.ownBlock] at hk; omega)))
  clear hown2 hgrow hnil'
  go_wp2
  go_ret
  exact HG.out
end Rl
end Go.Proofs.YtoeblhdddehemaaDoor

/-
  Contracts of rlp.copied and rlp.List.
-/
namespace Go.Proofs.YtoeblhdddehemaaDoor
set_option maxRecDepth 20000
open Go.RowKit

namespace Rl
/-- new items are handed back -/
def GotIts (w : World) (xs : List It) (e : Ending) (w' : World) : Prop :=
  ∃ a n cap, e = .returned (.slice a n cap) ∧ ItsIn w.heap.size w' xs a n cap ∧ Below w.heap.size w w'

/-- the row of copies, of which so many have copies within -/
def Mid (w wr : World) (g cap : Nat) (xs : List It) (q : Nat) : Prop :=
  ∃ f, wr.rowIs g 63 (cap * 3) f ∧ ∀ (j : Nat) (x : It), xs[j]? = some x → ∃ A N C, f (j * 3) = .bool x.l ∧ f (j * 3 + 1) = .string x.s ∧ f (j * 3 + 2) = .slice A N C ∧
    ((j < q ∧ ItsIn (g + 1) wr x.xs A N C) ∨ (q ≤ j ∧ IsIts w x.xs A N C))
theorem Mid.start {w w' : World} {ad : Addr} {n cap g c : Nat} {xs : List It} (h : IsIts w xs (some ad) n c) {f : Nat → Value} (hr : w'.rowIs g 63 (cap * 3) f) (hf : ∀ i, i < n * 3 → w.cell? (ad.add i) = some (f i)) : Mid w w' g cap xs 0 := by
  refine ⟨f, hr, fun j x hx => ?_⟩
  have hj : j < n := by rw [← h.len]; exact (List.getElem?_eq_some_iff.1 hx).1
  obtain ⟨x', b', off', A, N, C, hx', e, _, ⟨c0, c1, c2⟩, hI⟩ := h.at' j hj
  obtain rfl := Option.some.inj e
  obtain rfl := Option.some.inj (hx.symm.trans hx')
  simp only [Addr.add_mid] at hf
  have f0 := hf (j * 3) (by omega)
  have f1 := hf (j * 3 + 1) (by omega)
  have f2 := hf (j * 3 + 2) (by omega)
  rw [c0] at f0
  rw [← Nat.add_assoc, c1] at f1
  rw [← Nat.add_assoc, c2] at f2
  exact ⟨A, N, C, (Option.some.inj f0).symm, (Option.some.inj f1).symm, (Option.some.inj f2).symm, .inr ⟨Nat.zero_le _, hI⟩⟩
theorem Mid.at' {w wr : World} {g cap q n : Nat} {xs : List It} (h : Mid w wr g cap xs q) (hl : xs.length = n) (hc : n ≤ cap) (hq : q < n) :
    ∃ x A N C, xs[q]? = some x ∧ wr.cell? ⟨g, q * 3 + 2, none⟩ = some (.slice A N C) ∧ IsIts w x.xs A N C := by
  obtain ⟨f, hr, h⟩ := h
  have hx : xs[q]? = some (xs[q]'(by omega)) := List.getElem?_eq_getElem (by omega)
  obtain ⟨A, N, C, _, _, f2, hh⟩ := h q _ hx
  refine ⟨_, A, N, C, hx, by rw [hr.cell (by omega), f2], ?_⟩
  rcases hh with ⟨h1, _⟩ | ⟨_, h2⟩
  · omega
  · exact h2
theorem Mid.step {w wr w1 : World} {g cap q : Nat} {xs : List It} {x : It} (h : Mid w wr g cap xs q) (hx : xs[q]? = some x) {a : Option Addr} {n c : Nat} (hI : ItsIn wr.heap.size w1 x.xs a n c) (hb : Below wr.heap.size wr w1) :
    Mid w (w1.setCell ⟨g, q * 3 + 2, none⟩ (.slice a n c)) g cap xs (q + 1) := by
  obtain ⟨f, hr, h⟩ := h
  have hlt := hr.lt
  have hr1 : w1.rowIs g 63 (cap * 3) f := hr.of_block (hb.block g hlt)
  have keep : ∀ {ys : List It} {A : Option Addr} {N C : Nat}, ItsIn (g + 1) w1 ys A N C → ItsIn (g + 1) (w1.setCell ⟨g, q * 3 + 2, none⟩ (.slice a n c)) ys A N C := fun hh =>
    ItsIn.kept hh (by simp) (fun b o hB _ => World.cell?_of_block (Below.heap_setCell w1 _ _ b (by show b ≠ g; omega)))
  refine ⟨_, hr1.set (q * 3 + 2) (.slice a n c), fun j y hy => ?_⟩
  obtain ⟨A, N, C, f0, f1, f2, hh⟩ := h j y hy
  by_cases hj : j = q
  · subst hj
    obtain rfl := Option.some.inj (hx.symm.trans hy)
    refine ⟨a, n, c, by rw [if_neg (by omega), f0], by rw [if_neg (by omega), f1], by rw [if_pos rfl], .inl ⟨by omega, keep (ItsIn.weak hI (by omega))⟩⟩
  · refine ⟨A, N, C, by rw [if_neg (by omega), f0], by rw [if_neg (by omega), f1], by rw [if_neg (by omega), f2], ?_⟩
    rcases hh with ⟨h1, h2⟩ | ⟨h1, h2⟩
    · exact .inl ⟨by omega, keep (h2.stays hb)⟩
    · exact .inr ⟨by omega, h2⟩
theorem Mid.lt {w wr : World} {g cap q : Nat} {xs : List It} (h : Mid w wr g cap xs q) : g < wr.heap.size := by
  obtain ⟨f, hr, _⟩ := h
  exact hr.lt
theorem Mid.free {w wr w1 : World} {g cap q : Nat} {xs : List It} (h : Mid w wr g cap xs q) (hb : Below wr.heap.size wr w1) (i : Nat) : w1.frozen? ⟨g, i, none⟩ = false := by
  obtain ⟨f, hr, _⟩ := h
  have hr1 : w1.rowIs g 63 (cap * 3) f := hr.of_block (hb.block g hr.lt)
  exact hr1.frozen i
theorem Mid.done {w wr : World} {g cap n : Nat} {xs : List It} (h : Mid w wr g cap xs n) (hl : xs.length = n) (hc : n ≤ cap) (hm : cap ≤ maxLen) (hw : n ≤ 2932031007402) {B : Nat} (hB : B ≤ g) : ItsIn B wr xs (some ⟨g, 0, none⟩) n cap := by
  obtain ⟨f, hr, h⟩ := h
  have each : ∀ j, j < n → ∃ r : Option Addr × Nat × Nat, ∀ x, xs[j]? = some x → Lies wr g (0 + j * 3) x r.1 r.2.1 r.2.2 ∧ ItsIn B wr x.xs r.1 r.2.1 r.2.2 := fun j hj => by
    have hx : xs[j]? = some (xs[j]'(by omega)) := List.getElem?_eq_getElem (by omega)
    obtain ⟨A, N, C, f0, f1, f2, hh⟩ := h j _ hx
    refine ⟨(A, N, C), fun x hx' => ?_⟩
    obtain rfl := Option.some.inj (hx.symm.trans hx')
    refine ⟨⟨by rw [Nat.zero_add, hr.cell (by omega), f0], by rw [Nat.zero_add, hr.cell (by omega), f1], by rw [Nat.zero_add, hr.cell (by omega), f2]⟩, ?_⟩
    rcases hh with ⟨_, h2⟩ | ⟨h1, _⟩
    · exact ItsIn.weak h2 (by omega)
    · omega
  obtain ⟨F, hF⟩ := Go.Deep.choose_lt each
  refine ItsP.mk (fun j => (F j).1) (fun j => (F j).2.1) (fun j => (F j).2.2) hl hc hm hw (fun e => (by cases e)) (fun j x hx => ?_) (fun j x hx => ?_)
  · exact ⟨g, 0, rfl, hB, hr.lt, (hF j (by rw [← hl]; exact (List.getElem?_eq_some_iff.1 hx).1) x hx).1⟩
  · exact (hF j (by rw [← hl]; exact (List.getElem?_eq_some_iff.1 hx).1) x hx).2

set_option maxHeartbeats 4000000 in
theorem copied_any (x : It) : ∀ (w : World) (a : Option Addr) (n cap : Nat), IsIts w x.xs a n cap → Calls Tryd.prog 87 #[.slice a n cap] w (GotIts w x.xs) := by
  induction x using It.ind with
  | h l s xs ih =>
    intro w a n cap h
    replace h : IsIts w xs a n cap := h
    show Calls Tryd.prog 87 #[.slice a n cap] w (GotIts w xs)
    cases a with
    | none =>
      have hc := h.none' rfl
      have hn := h.le
      obtain rfl : cap = 0 := hc
      obtain rfl : n = 0 := by omega
      have HX : Hid (xs = []) := Lib.hid (List.eq_nil_of_length_eq_zero h.len)
      clear ih h hn
      go_enter Tryd.func87, Tryd.ntmps87
      go_wp2_with (go_at_call 102; refine (clone_nil _).mono ?_; rintro e w1 ⟨rfl, rfl⟩)
      refine wp_loop_rounds 1 ?_
      rw [rounds_succ]
      go_wp2
      go_ret
      exact ⟨none, 0, 0, rfl, by rw [HX.out]; exact ItsIn.nil _ _, Below.refl _ _⟩
    | some ad =>
      have HIh := Lib.hid ih
      have H := Lib.hid h
      have hfew := h.few
      clear ih h
      go_enter Tryd.func87, Tryd.ntmps87
      go_wp2_with fail
      refine (clone_any xs ad n cap _ H.out).mono ?_
      rintro e w1 ⟨g, c, f, rfl, hg, hnc, hcm, hr, hf, hb1⟩
      have HM := Lib.hid (Mid.start H.out hr hf)
      have hglt := hr.lt
      have HB1 := Lib.hid hb1
      clear hr hf hb1
      unfold maxLen at hcm
      go_wp2
      go_loopw [9] (fun i wr => ∃ q : Nat, q ≤ n ∧ i = .int .i64 q ∧ Hid (Mid w wr g c xs q) ∧ Below w.heap.size w wr) (fun i _ => n - (intOf i).toNat)
      case atStart => exact ⟨0, Nat.zero_le _, rfl, Lib.hid HM.out, HB1.out⟩
      case round =>
        obtain ⟨q, hq, rfl, HQ, hB⟩ := hrel
        have HB := Lib.hid hB
        clear HM hB
        by_cases hlt : q < n
        · obtain ⟨x, A, N, C, hx, c2, hI⟩ := HQ.out.at' H.out.len hnc hlt
          have HI := Lib.hid (HIh.out x (List.mem_of_getElem? hx) wr A N C (hI.stays HB.out))
          have HX := Lib.hid hx
          clear hI hx HIh
          go_wp2_with fail
          refine HI.out.mono ?_
          rintro e w2 ⟨a', n', c', rfl, hI2, hb2⟩
          have hc2 : w2.cell? ⟨g, q * 3 + 2, none⟩ = some (.slice A N C) := (hb2.cell (p := ⟨g, q * 3 + 2, none⟩) HQ.out.lt).trans c2
          have hz2 := HQ.out.free hb2 (q * 3 + 2)
          have HS := Lib.hid (HQ.out.step HX.out hI2 hb2)
          have HB2 := Lib.hid (below_step' HB.out hb2)
          clear hI2 hb2 c2
          go_wp2
          go_roundw
          case rel => exact ⟨q + 1, by omega, by go_num, Lib.hid HS.out, HB2.out.setCell hg _⟩
          case measure => simp [intOf]; omega
        · obtain rfl : q = n := by omega
          have HD := Lib.hid (HQ.out.done H.out.len hnc (by unfold maxLen; omega) hfew hg)
          clear HIh HQ
          go_wp2
          go_ret
          exact ⟨_, _, _, rfl, HD.out, HB.out⟩
/-- an item is handed back, its items in new memory -/
def GotIt (w : World) (x : It) (e : Ending) (w' : World) : Prop := ∃ a n cap, e = .returned (itV x a n cap) ∧ ItsIn w.heap.size w' x.xs a n cap ∧ Below w.heap.size w w'
/-- an item's cells -/
def itC (x : It) (a : Option Addr) (n cap : Nat) : Array Value := #[.bool x.l, .string x.s, .slice a n cap]
theorem info_itC (x : It) (a : Option Addr) (n cap : Nat) : (Tryd.prog.info? 63).map (·.size) = some (itC x a n cap).size := info_item
theorem itC_one (x : It) (a : Option Addr) (n cap : Nat) : (itC x a n cap).all (·.oneCell') = true := by
  simp [itC, Value.oneCell']
/-- a cell of the call's own for an item -/
theorem lies_row {w : World} {g : Nat} {x : It} {a : Option Addr} {n cap : Nat} {t : TypeId} {fz : Nat × Nat} (h : w.heap[g]? = some (.cells (itC x a n cap) t fz)) : Lies w g 0 x a n cap := by
  refine ⟨?_, ?_, ?_⟩
  all_goals
    simp [World.cell?, h]
    rfl
def it0 : It := .mk false ⟨#[]⟩ []
theorem box_new (w : World) : (w.alloc (.cells (itC it0 none 0 0) 63)).heap[w.heap.size]? = some (.cells (itC it0 none 0 0) 63 (0, 0)) := heap_alloc_new _ _
theorem below_row {B : Nat} {w w1 : World} (h : Below B w w1) {g : Nat} (hg : B ≤ g) (cs : Array Value) : Below B w (w1.setRow g cs) :=
  h.trans ⟨rfl, rfl, rfl, by simp, fun k hk => setRow_other w1 g k cs (by omega)⟩
theorem ItsIn_row {B g : Nat} {w : World} {xs : List It} {a : Option Addr} {n cap : Nat} (h : ItsIn B w xs a n cap) (hg : g < B) (cs : Array Value) : ItsIn B (w.setRow g cs) xs a n cap :=
  ItsIn.kept h (by simp) (fun b o hB _ => World.cell?_of_block (setRow_other w g b cs (by omega)))

set_option maxHeartbeats 4000000 in
theorem list_any (xs : List It) (w : World) (a : Option Addr) (n cap : Nat) (h : IsIts w xs a n cap) : Calls Tryd.prog 64 #[.slice a n cap] w (GotIt w (.mk true ⟨#[]⟩ xs)) := by
  have HC := Lib.hid (copied_any (.mk true ⟨#[]⟩ xs) (w.alloc (.cells (itC it0 none 0 0) 63)) a n cap (h.alloc _))
  clear h
  go_enter Tryd.func64, Tryd.ntmps64
  go_wp2_with fail
  refine HC.out.mono ?_
  rintro e w1 ⟨a', n', c', rfl, hI, hb⟩
  have HG := Lib.hid ((hb.block w.heap.size (by simp)).trans (box_new w))
  have HI := Lib.hid hI
  have HB := Lib.hid (of_al (al_of hb))
  clear hI hb HC
  go_wp2_with (refine wpList_store_rowTo rfl 63 _ _ rfl rfl _ (itC (.mk true ⟨#[]⟩ xs) a' n' c') rfl rfl 63 (itC it0 none 0 0) HG.out (info_itC _ _ _ _) rfl (itC_one _ _ _ _) ?_)
  exact bodyPost_ret (res_item rfl _ rfl (lies_row (setRow_heap _ _ _ _ _ _ HG.out))) rfl ⟨a', n', c', rfl, ItsIn.weak (ItsIn_row HI.out (by simp) _) (by simp), below_row HB.out (Nat.le_refl _) _⟩
end Rl
end Go.Proofs.YtoeblhdddehemaaDoor
