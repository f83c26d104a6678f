/-
  Contracts of slices.Grow of nothing, and of slices.Concat, over slices of bytes.
-/
import Derived.Test.YtihgiflhjhoghaaBs
import Derived.Lib.AppendZeros
import Derived.Laws.AppendOwnNone
namespace Go.Proofs.Ytihgiflhjhoghaa
open Go.RowKit

namespace Cc
theorem info_u8 : (Try.prog.info? 5).map (fun i => (i.zero, i.size, i.bytes)) = some (some (.int .u8 0), 1, 1) := by kernel_rfl
/-- an empty slice of the call's own -/
def GotRow (w : World) (l : List UInt8) (e : Ending) (w' : World) : Prop :=
  ∃ v, e = .returned v ∧ w'.ownsRow w.heap.size 5 1 v l.length (l.map fun x => Value.int .u8 x.toNat) ∧ Below w.heap.size w w'

theorem grow_zero (w : World) :
    Calls Try.prog 31 #[.slice none 0 0, .int .i64 0] w (GotRow w []) := by
  go_enter Try.func31, Try.ntmps31
  go_wp2
  go_ret
  exact ⟨_, rfl, World.ownsRow_nil _ _ _ _, Below.refl _ _⟩

set_option maxHeartbeats 400000 in
theorem grow_pos (n : Nat) (h0 : 0 < n) (hn : n ≤ 1099511627776) (w : World) :
    Calls Try.prog 31 #[.slice none 0 0, .int .i64 n] w (GotRow w []) := by
  obtain ⟨i0, hi, hz0, hz1, hz2⟩ := info_parts info_u8
  have hr := Lib.run_append_nil_zeros (P := Try.prog) w 24 3 24 5 i0 (.int .u8 0) .i64 .i64 Try.underlying24 Try.underlying3 hi hz0 n h0 (by omega) (by omega) (by rw [hz2]; omega)
  have hge := grownCap_ge w n 0 5
  have hle := grownCap_le_maxLen w n 0 5 (by unfold maxLen; omega)
  have HO : Hid ((w.drew.alloc (.cells (Builtin.zeroCells (Value.int IntKind.u8 0).cells n ++ Builtin.zeroCells (Value.int IntKind.u8 0).cells (grownCap w n 0 5 - n)) 5)).ownsRow w.heap.size 5 1 (.slice (some ⟨w.heap.size, 0, none⟩) 0 (grownCap w n 0 5)) 0 []) := Lib.hid (by
    refine ⟨rfl, .inr ⟨w.heap.size, _, _, rfl, Nat.le_refl _, heap_alloc_new w.drew _, Nat.zero_le _, hle, ?_, by simp⟩⟩
    have hz1 : (Value.int IntKind.u8 0).cells.size = 1 := rfl
    simp only [Array.size_append, size_zeroCells, hz1]
    omega)
  obtain ⟨c, hc⟩ : ∃ c, grownCap w n 0 5 = c := ⟨_, rfl⟩
  rw [hc] at hr hge hle HO
  obtain ⟨o, ho⟩ : ∃ o, Obj.cells (Builtin.zeroCells (Value.int IntKind.u8 0).cells n ++ Builtin.zeroCells (Value.int IntKind.u8 0).cells (c - n)) 5 = o := ⟨_, rfl⟩
  rw [ho] at hr HO
  have HR := Lib.hid hr
  clear hr ho hc hi hz0 hz1 hz2
  unfold maxLen at hle
  go_enter Try.func31, Try.ntmps31
  go_wp2_with (at_builtin; refine Lib.wpList_append_run _ rfl _ _ _ _ rfl _ _ rfl rfl _ _ HR.out ?_)
  go_wp2
  go_ret
  exact ⟨_, rfl, HO.out, (Below.drew (Below.refl _ _)).alloc (Nat.le_refl _) _⟩

theorem grow_any (n : Nat) (hn : n ≤ 1099511627776) (w : World) :
    Calls Try.prog 31 #[.slice none 0 0, .int .i64 n] w (GotRow w []) := by
  by_cases h0 : n = 0
  · subst h0; exact grow_zero w
  · exact grow_pos n (by omega) hn w

/-- slices of bytes in a row -/
def IsRows (w : World) (a : Option Addr) (n : Nat) (ls : List (List UInt8)) : Prop :=
  ls.length = n ∧ ∀ j, j < n → ∃ b off, a = some ⟨b, off, none⟩ ∧ b < w.heap.size ∧ ∃ a' n' c', w.cell? ⟨b, off + j, none⟩ = some (.slice a' n' c') ∧ IsBs w a' n' c' (ls.getD j [])
/-- all of the first k, one behind the other -/
def joinK (ls : List (List UInt8)) (k : Nat) : List UInt8 := (ls.take k).flatten
theorem joinK_snoc (ls : List (List UInt8)) (k : Nat) (h : k < ls.length) : joinK ls (k + 1) = joinK ls k ++ ls.getD k [] := by
  unfold joinK
  have e : ls.getD k [] = ls[k] := by simp [List.getD, h]
  rw [List.take_succ_eq_append_getElem h, e, List.flatten_append]
  congr 1
  exact List.append_nil _
theorem joinK_le (ls : List (List UInt8)) (k : Nat) : (joinK ls k).length ≤ ls.flatten.length := by
  unfold joinK
  conv => rhs; rw [← List.take_append_drop k ls]
  rw [List.flatten_append, List.length_append]
  exact Nat.le_add_right _ _

theorem news_cells {w : World} {a : Option Addr} {n cap : Nat} {l : List UInt8} (h : IsBs w a n cap l) (ad : Addr) (ha : a = some ad) :
    ∀ j u, (l.map fun x => Value.int .u8 x.toNat)[j]? = some u → w.cell? (ad.add j) = some u := by
  intro j u hu
  have hl := h.len
  have hj : j < n := by
    rcases Nat.lt_or_ge j n with h' | h'
    · exact h'
    · rw [List.getElem?_eq_none (by simp [hl]; exact h')] at hu; cases hu
  obtain ⟨b, off, h1, _, h3⟩ := h.at' j hj
  rw [ha] at h1
  injection h1 with h1
  subst h1
  have e : (⟨b, off, none⟩ : Addr).add j = ⟨b, off + j, none⟩ := by unfold Addr.add; split <;> simp_all
  rw [e, h3]
  rw [← hu]
  simp [List.getD, hl, hj]

set_option maxHeartbeats 1000000 in
theorem concat_any (a : Option Addr) (n cap : Nat) (ls : List (List UInt8)) (hn : n ≤ 1000000) (hL : ls.flatten.length ≤ 1099511627776) (w : World) (h : IsRows w a n ls) :
    Calls Try.prog 27 #[.slice a n cap] w (GotRow w ls.flatten) := by
  have H := Lib.hid h
  have HN := Lib.hid h.1
  have HL := Lib.hid hL
  obtain ⟨i0, hi, hz0, hz1, hz2⟩ := info_parts info_u8
  have HI : Hid (_ ∧ _ ∧ _ ∧ _) := Lib.hid ⟨hi, hz0, hz1, hz2⟩
  clear h hL hi hz0 hz1 hz2
  go_enter Try.func27, Try.ntmps27
  go_wp2
  go_loop [3, 11] (fun s i => ∃ k : Nat, k ≤ n ∧ i = .int .i64 k ∧ s = .int .i64 ((joinK ls k).length : Nat)) (fun _ i => n - (intOf i).toNat)
  case atStart => exact ⟨0, Nat.zero_le _, rfl, rfl⟩
  case round =>
    obtain ⟨k, hk, rfl, rfl⟩ := hrel
    by_cases hlt : k < n
    · obtain ⟨b, off, rfl, hb, a', n', c', hc, hx⟩ := H.out.2 k hlt
      have hj := joinK_snoc ls k (by rw [HN.out]; exact hlt)
      have hl1 := joinK_le ls (k + 1)
      have hl2 := HL.out
      have hxl := hx.len
      have hs : (joinK ls (k + 1)).length = (joinK ls k).length + n' := by rw [hj, List.length_append, hxl]
      obtain ⟨p, hp⟩ : ∃ p, (joinK ls k).length = p := ⟨_, rfl⟩
      have hpn : p + n' ≤ 1099511627776 := by omega
      rw [hp] at hs ⊢
      have HS := Lib.hid hs
      clear hs hj hl1 hl2 hxl hp hx
      go_wp2
      go_round
      case rel => exact ⟨k + 1, by omega, by go_num, by rw [HS.out]; go_num⟩
      case measure => simp [intOf]; omega
    · obtain rfl : k = n := by omega
      have hlen : (joinK ls k).length ≤ 1099511627776 := Nat.le_trans (joinK_le ls k) HL.out
      clear hlt hk
      obtain ⟨p, hp⟩ : ∃ p, (joinK ls k).length = p := ⟨_, rfl⟩
      rw [hp] at hlen ⊢
      clear hp
      go_wp2_with fail
      refine (grow_any p hlen _).mono ?_
      rintro e w1 ⟨v, rfl, hown, hb1⟩
      go_wp2
      go_loopw [6, 27] (fun v i wr => ∃ q : Nat, q ≤ k ∧ i = .int .i64 q ∧ Hid (wr.ownsRow w.heap.size 5 1 v (joinK ls q).length ((joinK ls q).map fun x => Value.int .u8 x.toNat)) ∧ Below w.heap.size w wr) (fun _ i _ => k - (intOf i).toNat)
      case atStart => exact ⟨0, Nat.zero_le _, rfl, Lib.hid hown, hb1⟩
      case round =>
        obtain ⟨q, hq, rfl, HO, hB⟩ := hrel
        by_cases hqt : q < k
        · obtain ⟨b, off, rfl, hb, a', n', c', hc, hx⟩ := H.out.2 q hqt
          have hj := joinK_snoc ls q (by rw [HN.out]; exact hqt)
          have hl1 := joinK_le ls (q + 1)
          have hl2 := HL.out
          have hxl := hx.len
          have hs : (joinK ls (q + 1)).length = (joinK ls q).length + n' := by rw [hj, List.length_append, hxl]
          have hbd : (joinK ls q).length + n' ≤ 1099511627776 := by omega
          have hc2 : wr.cell? ⟨b, off + q, none⟩ = some (.slice a' n' c') := by rw [hB.cell (p := ⟨b, off + q, none⟩) hb]; exact hc
          have hx2 := Lib.hid (news_cells (hx.below hB))
          have HS := Lib.hid hs
          have HJ := Lib.hid hj
          have hsz := hB.size
          clear hs hj hl1 hl2 hxl hc
          rcases a' with _ | ad
          · obtain ⟨rfl, rfl, hnil⟩ := hx.capNone
            have HJ2 : Hid (joinK ls (q + 1) = joinK ls q) := Lib.hid (by rw [HJ.out, hnil, List.append_nil])
            clear hx hnil hbd
            go_wp2_with (at_builtin; refine wpList_append_own_none rfl _ _ 24 rfl w.heap.size 5 i0 1 Try.underlying24 HI.out.1 _ _ _ rfl HO.out rfl ?_)
            go_wp2
            go_roundw
            case rel => exact ⟨q + 1, by omega, by go_num, by rw [HJ2.out]; exact HO, hB⟩
            case measure => simp [intOf]; omega
          · have HX := Lib.hid hx.len
            clear hx
            go_wp2_with (at_builtin; refine wpList_append_own _ rfl _ _ 24 rfl w.heap.size 5 i0 (.int .u8 0) 1 1 Try.underlying24 HI.out.1 HI.out.2.1 HI.out.2.2.1 HI.out.2.2.2 rfl (by decide) _ _ _ rfl HO.out ad n' c' ((ls.getD q []).map fun x => Value.int .u8 x.toNat) rfl ?c0 ?c1 ?c2 ?c3 ?c4 ?c5 ?_)
            case c0 => rw [List.length_map, Nat.mul_one]; exact HX.out
            case c1 => exact hx2.out ad rfl
            case c2 => intro u hu; simp at hu; obtain ⟨_, _, rfl⟩ := hu; rfl
            case c3 => unfold maxLen; omega
            case c4 => omega
            case c5 => exact hsz
            intro v' w2 hown2 hgrow _
            have hlt' := HO.out.lt
            go_wp2
            go_roundw
            case rel =>
              refine ⟨q + 1, by omega, by go_num, Lib.hid ?_, hB.grown hgrow hsz (fun g hg => (hlt' g hg).1)⟩
              rw [HS.out, HJ.out, List.map_append]
              exact hown2
            case measure => simp [intOf]; omega
        · obtain rfl : q = k := by omega
          have HE : Hid (joinK ls q = ls.flatten) := Lib.hid (by
            unfold joinK; rw [List.take_of_length_le (by rw [HN.out]; exact Nat.le_refl _)])
          have hO := HO.out
          rw [HE.out] at hO
          have HG := Lib.hid hO
          clear hO
          go_wp2
          go_ret
          exact ⟨_, rfl, HG.out, hB⟩

end Cc
end Go.Proofs.Ytihgiflhjhoghaa
