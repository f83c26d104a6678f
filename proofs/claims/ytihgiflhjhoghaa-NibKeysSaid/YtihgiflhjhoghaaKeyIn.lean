/-
  What a key (an array of 32 bytes) that came in is, as a walk takes it.
-/
import Derived.Test.YtihgiflhjhoghaaKeyEq
import Derived.Test.YtihgiflhjhoghaaBsIn
namespace Go.Proofs.Ytihgiflhjhoghaa
open Go.RowKit Go.ChangeShapes Go.WideShapes

namespace Ky
def byteOf : Value → UInt8
  | .int _ n => UInt8.ofNat n.toNat
  | _ => 0
theorem isKey_of {H : Type} {enc : TypeId × Value → H} {P : Program} {w : World} {t e : TypeId} {v : Value} {d : DataW H} {p : List MemPlace} {base : Nat}
    (ht : P.underlying t = some (.array 32 e)) (he : P.underlying e = some (.int .u8)) (hc : P.cellsOf e = 1) (hct : P.cellsOf t = 32)
    (hv : Value.okWide P w .any base t v) (h : DataW.Trod enc P w 0 (fun _ => true) true t v d p) : ∃ k : List UInt8, v = .agg (kc k) ∧ k.length = 32 := by
  unfold Value.okWide at hv
  rw [ht] at hv
  obtain ⟨cs, rfl, hsz, _⟩ := hv
  rw [hct] at hsz
  obtain ⟨fuel, hf⟩ := h
  obtain ⟨xs, m, rfl, _, hcs, hxl, hel⟩ := DataW.trod_array ht hf
  have each : ∀ i, i < 32 → ∃ n : Int, cs.toList[i]? = some (.int .u8 n) ∧ 0 ≤ n ∧ n < 256 := fun i hi => by
    have hi' := hel i hi
    rw [hc, Nat.mul_one] at hi'
    have hx : i < xs.length := by omega
    rw [List.getElem?_eq_getElem hx] at hi'
    obtain ⟨n, hn, _, hw⟩ := DataW.trod_int he hi'
    have hlen : i < cs.toList.length := by simpa [hsz] using hi
    have e1 : (cs.toList.drop i).take 1 = [cs.toList[i]] := by
      rw [List.drop_eq_getElem_cons hlen]; rfl
    have e2 : (Value.agg cs).cells.toList = cs.toList := rfl
    rw [e2, e1] at hn
    injection hn with hn
    refine ⟨n, ?_, u8_wf hw⟩
    rw [List.getElem?_eq_getElem hlen, hn]
  refine ⟨cs.toList.map byteOf, ?_, by simp [hsz]⟩
  congr 1
  apply Array.ext'
  unfold kc
  rw [List.map_map]
  apply List.ext_getElem?
  intro i
  by_cases hi : i < 32
  · obtain ⟨n, hn, h0, h1⟩ := each i hi
    rw [hn]
    simp only [List.getElem?_map, hn, Option.map_some, Function.comp, byteOf]
    have : ((UInt8.ofNat n.toNat).toNat : Int) = n := by simp only [UInt8.toNat_ofNat']; omega
    rw [this]
  · rw [List.getElem?_eq_none (by simp [hsz]; omega), List.getElem?_eq_none (by simp [hsz]; omega)]
end Ky
end Go.Proofs.Ytihgiflhjhoghaa
