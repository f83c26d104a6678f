/-
  What a slice of bytes that came in is, as a walk takes it.
-/
import Derived.Test.YtgpnhdnncfpbcaaDoorBs
import Derived.ChangeSlices
import Derived.Lib.HexFns2
namespace Go.Proofs.YtgpnhdnncfpbcaaDoor
open Go.RowKit Go.ChangeShapes Go.WideShapes

theorem u8_wf {n : Int} (h : (Lit.int .u8 n).wf = true) : 0 ≤ n ∧ n < 256 := by
  have := bounds_u8 h
  omega

theorem isBs_of {H : Type} {enc : TypeId × Value → H} {P : Program} {w : World} {t e : TypeId} {a : Option Addr} {n cap : Nat} {d : DataW H} {p : List MemPlace}
    (ht : P.underlying t = some (.slice e)) (he : P.underlying e = some (.int .u8)) (hc : P.cellsOf e = 1)
    (h : DataW.Trod enc P w 0 (fun _ => true) true t (.slice a n cap) d p) : ∃ l, IsBs w a n cap l := by
  obtain ⟨fuel, hf⟩ := h
  rcases open_ints ht he hc hf with ⟨hcs, _⟩ | ⟨x, m, c, zs, hcs, _, hl, hm, hz, _, hcell, hws⟩
  · simp [Value.cells] at hcs
    obtain ⟨rfl, rfl, rfl⟩ := hcs
    exact ⟨[], IsBs.nil w⟩
  · simp [Value.cells] at hcs
    obtain ⟨rfl, rfl, rfl⟩ := hcs
    have hz' : zs.length = cap := by simpa using hz
    refine ⟨(zs.take n).map fun z => UInt8.ofNat z.toNat, hl, hm, by rw [List.length_map, List.length_take]; omega, fun e => (by cases e), fun j hj => ?_⟩
    have hcj := hcell j (by omega)
    obtain ⟨b, off, spot⟩ := x
    have hspot : spot = none := by simpa [Addr.add] using World.cell?_spot (hcell 0 (by omega))
    subst hspot
    have hj' : j < zs.length := by omega
    have e1 : zs.getD j 0 = zs[j] := by simp [List.getD, hj']
    have hb := u8_wf (hws _ (List.getElem_mem hj'))
    have e2 : (⟨b, off, none⟩ : Addr).add j = ⟨b, off + j, none⟩ := by unfold Addr.add; split <;> simp_all
    rw [e2, e1] at hcj
    refine ⟨b, off, rfl, ?_, ?_⟩
    · rcases Nat.lt_or_ge b w.heap.size with h' | h'
      · exact h'
      · simp [World.cell?, Array.getElem?_eq_none h'] at hcj
    · rw [hcj]
      have e3 : ((zs.take n).map fun z => UInt8.ofNat z.toNat).getD j 0 = UInt8.ofNat zs[j].toNat := by
        simp [List.getD, hj', hj]
      rw [e3]
      congr 2
      simp only [UInt8.toNat_ofNat']
      omega
end Go.Proofs.YtgpnhdnncfpbcaaDoor
