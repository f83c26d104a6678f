/-
  Contracts of bytes.Compare and of nib.Less.
-/
import Derived.Test.YtgpnhdnncfpbcaaDoorBs
import Derived.Lib.Bytealg
import Derived.Lib.BytesEntry
import Derived.Laws.Externs
namespace Go.Proofs.YtgpnhdnncfpbcaaDoor
open Go.RowKit

namespace Ni
/-- the bytes of a slice, as the model's entry reads them -/
theorem read_bs {w : World} {a : Option Addr} {n cap : Nat} {l : List UInt8} (h : IsBs w a n cap l) :
    (Extern.Bytes.bytesOf (.slice a n cap)).run Tryd.prog w = .ok ⟨l.toArray⟩ w := by
  have hl := h.len
  rcases a with _ | ad
  · obtain ⟨rfl, rfl, rfl⟩ := h.capNone
    rfl
  · have := Lib.run_loadBytesX (P := Tryd.prog) w (l.map fun b => (b.toNat : Int)) ad .empty (fun j x hj => by
      have hj' : j < n := by
        rcases Nat.lt_or_ge j n with h' | h'
        · exact h'
        · rw [List.getElem?_eq_none (by simp [hl]; exact h')] at hj; cases hj
      obtain ⟨b, off, e, _, hc⟩ := h.at' j hj'
      injection e with e
      subst e
      have e2 : (⟨b, off, none⟩ : Addr).add j = ⟨b, off + j, none⟩ := by unfold Addr.add; split <;> simp_all
      rw [e2, hc]
      have e3 : (l.map fun b => (b.toNat : Int))[j]? = some ((l.getD j 0).toNat : Int) := by simp [List.getD, hl, hj']
      rw [e3] at hj
      injection hj with hj
      rw [hj])
    rw [List.length_map, hl] at this
    show (Extern.Bytes.loadBytes ad n .empty).run Tryd.prog w = _
    rw [this]
    have e : Lib.bytesOf (l.map fun b => (b.toNat : Int)) = l := by
      unfold Lib.bytesOf
      rw [List.map_map]
      conv => rhs; rw [← List.map_id l]
      apply List.map_congr_left
      intro b _
      simp
    rw [e]
    have e4 : (ByteArray.empty.data ++ l.toArray) = l.toArray := by simp
    rw [e4]

theorem cmp_less : ∀ x y : List UInt8, decide (Lib.compareBytes x y < 0) = Op.bytesLess x y
  | [], [] => rfl
  | [], _ :: _ => rfl
  | _ :: _, [] => rfl
  | a :: x, b :: y => by
    have ih := cmp_less x y
    unfold Lib.compareBytes Op.bytesLess
    by_cases h1 : a < b
    · simp [h1]
    · by_cases h2 : b < a
      · have : ¬ a = b := by rintro rfl; exact UInt8.lt_irrefl _ h2
        simp [h1, h2, this]
      · have : a = b := by
          apply UInt8.toNat_inj.1
          have := UInt8.not_lt.1 h1; have := UInt8.not_lt.1 h2
          rw [UInt8.le_iff_toNat_le] at *
          omega
        subst this
        simp [ih]

set_option maxHeartbeats 400000 in
theorem compare_any (a b : Option Addr) (n m c d : Nat) (x y : List UInt8) (w : World) (ha : IsBs w a n c x) (hb : IsBs w b m d y) :
    Calls Tryd.prog 27 #[.slice a n c, .slice b m d] w fun e w' => e = .returned (.int .i64 (Lib.compareBytes x y)) ∧ w = w' := by
  have hr : (Extern.BytealgCompare.compare #[.slice a n c, .slice b m d]).run Tryd.prog w = .ok (.int .i64 (Lib.compareBytes x y)) w := by
    change Sem.run Tryd.prog (do pure (goInt (Extern.BytealgCompare.cmp (← Extern.Bytes.bytesOf (.slice a n c)) (← Extern.Bytes.bytesOf (.slice b m d))))) w = _
    simp only [Sem.run_bind, Sem.run_pure, read_bs ha, read_bs hb, Result.andThen]
    rw [Lib.cmp_eq]
    rfl
  have hx : (callFunc 38 #[.slice a n c, .slice b m d]).run Tryd.prog w = .ok (.value (.int .i64 (Lib.compareBytes x y))) w := by
    rw [run_callFunc_extern Tryd.func38 (by kernel_rfl) (by kernel_rfl) (by kernel_rfl) (e := Extern.BytealgCompare.compare) (by kernel_rfl), hr]
    rfl
  obtain ⟨v, hv⟩ : ∃ v, Lib.compareBytes x y = v := ⟨_, rfl⟩
  rw [hv] at hx ⊢
  clear hr ha hb hv
  go_enter Tryd.func27, Tryd.ntmps27
  go_wp2
  go_ret
  exact ⟨rfl, rfl⟩

end Ni
end Go.Proofs.YtgpnhdnncfpbcaaDoor
