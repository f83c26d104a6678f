/-
  What a slice of bytes that came in is, as a walk takes it.
-/
import Derived.Test.YtlembfhdljmcoaaDoorMb1
import Derived.ChangeSlices
import Derived.Lib.HexFns2
import Derived.Test.YtlembfhdljmcoaaDoorMb4
import Derived.Test.YtlembfhdljmcoaaDoorMb9
import Derived.Test.YtlembfhdljmcoaaDoorMb14
import Derived.Deep.Slices
import Derived.Test.YtlembfhdljmcoaaDoorMb5
import Derived.Deep.DeepCutAuto
import Derived.Test.YtlembfhdljmcoaaDoorRows
import Derived.ProofKit
import Derived.LaidMore
import Derived.OpenShut
import Derived.ShutString
import Derived.Stop.Joined
set_option linter.unusedSimpArgs false
set_option linter.unusedVariables false
namespace Go.Proofs.YtlembfhdljmcoaaDoor
open Go.RowKit Go.ChangeShapes Go.WideShapes

theorem u8_wf {n : Int} (h : (Lit.int .u8 n).wf = true) : 0 ≤ n ∧ n < 256 := by
  have := bounds_u8 h
  omega

theorem isBs_of {H : Type} {enc : TypeId × Value → H} {P : Program} {w : World} {t e : TypeId} {a : Option Addr} {n cap : Nat} {d : DataW H} {p : List MemPlace}
    (ht : P.underlying t = some (.slice e)) (he : P.underlying e = some (.int .u8)) (hc : P.cellsOf e = 1)
    (h : DataW.Trod enc P w 0 (fun _ => true) true t (.slice a n cap) d p) : ∃ l, IsBs w a n cap l := by
  obtain ⟨fuel, hf⟩ := h
  rcases open_ints ht he hc hf with ⟨hcs, _⟩ | ⟨x, m, c, zs, hcs, _, hl, hm, hz, _, hcell, hws⟩
  · simp [Value.cells] at hcs
    obtain ⟨rfl, rfl, rfl⟩ := hcs
    exact ⟨[], IsBs.nil w⟩
  · simp [Value.cells] at hcs
    obtain ⟨rfl, rfl, rfl⟩ := hcs
    have hz' : zs.length = cap := by simpa using hz
    refine ⟨(zs.take n).map fun z => UInt8.ofNat z.toNat, hl, hm, by rw [List.length_map, List.length_take]; omega, fun e => (by cases e), fun j hj => ?_⟩
    have hcj := hcell j (by omega)
    obtain ⟨b, off, spot⟩ := x
    have hspot : spot = none := by simpa [Addr.add] using World.cell?_spot (hcell 0 (by omega))
    subst hspot
    have hj' : j < zs.length := by omega
    have e1 : zs.getD j 0 = zs[j] := by simp [List.getD, hj']
    have hb := u8_wf (hws _ (List.getElem_mem hj'))
    have e2 : (⟨b, off, none⟩ : Addr).add j = ⟨b, off + j, none⟩ := by unfold Addr.add; split <;> simp_all
    rw [e2, e1] at hcj
    refine ⟨b, off, rfl, ?_, ?_⟩
    · rcases Nat.lt_or_ge b w.heap.size with h' | h'
      · exact h'
      · simp [World.cell?, Array.getElem?_eq_none h'] at hcj
    · rw [hcj]
      have e3 : ((zs.take n).map fun z => UInt8.ofNat z.toNat).getD j 0 = UInt8.ofNat zs[j].toNat := by
        simp [List.getD, hj', hj]
      rw [e3]
      congr 2
      simp only [UInt8.toNat_ofNat']
      omega
end Go.Proofs.YtlembfhdljmcoaaDoor

/-
  A sum that came in.
-/
namespace Go.Proofs.YtlembfhdljmcoaaDoor
open Go.RowKit Go.ChangeShapes Go.WideShapes

namespace Sm
open Sh
def byteOf : Value → UInt8
  | .int _ n => UInt8.ofNat n.toNat
  | _ => 0
theorem isSum_of {H : Type} {enc : TypeId × Value → H} {P : Program} {w : World} {t e : TypeId} {v : Value} {d : DataW H} {p : List MemPlace} {base : Nat}
    (ht : P.underlying t = some (.array 32 e)) (he : P.underlying e = some (.int .u8)) (hc : P.cellsOf e = 1) (hct : P.cellsOf t = 32)
    (hv : Value.okWide P w .any base t v) (h : DataW.Trod enc P w 0 (fun _ => true) true t v d p) : ∃ k : List UInt8, v = .agg (kc k) ∧ k.length = 32 := by
  unfold Value.okWide at hv
  rw [ht] at hv
  obtain ⟨cs, rfl, hsz, _⟩ := hv
  rw [hct] at hsz
  obtain ⟨fuel, hf⟩ := h
  obtain ⟨xs, m, rfl, _, hcs, hxl, hel⟩ := DataW.trod_array ht hf
  have each : ∀ i, i < 32 → ∃ n : Int, cs.toList[i]? = some (.int .u8 n) ∧ 0 ≤ n ∧ n < 256 := fun i hi => by
    have hi' := hel i hi
    rw [hc, Nat.mul_one] at hi'
    have hx : i < xs.length := by omega
    rw [List.getElem?_eq_getElem hx] at hi'
    obtain ⟨n, hn, _, hw⟩ := DataW.trod_int he hi'
    have hlen : i < cs.toList.length := by simpa [hsz] using hi
    have e1 : (cs.toList.drop i).take 1 = [cs.toList[i]] := by
      rw [List.drop_eq_getElem_cons hlen]; rfl
    have e2 : (Value.agg cs).cells.toList = cs.toList := rfl
    rw [e2, e1] at hn
    injection hn with hn
    refine ⟨n, ?_, u8_wf hw⟩
    rw [List.getElem?_eq_getElem hlen, hn]
  refine ⟨cs.toList.map byteOf, ?_, by simp [hsz]⟩
  congr 1
  apply Array.ext'
  unfold kc
  rw [List.map_map]
  apply List.ext_getElem?
  intro i
  by_cases hi : i < 32
  · obtain ⟨n, hn, h0, h1⟩ := each i hi
    rw [hn]
    simp only [List.getElem?_map, hn, Option.map_some, Function.comp, byteOf]
    have : ((UInt8.ofNat n.toNat).toNat : Int) = n := by simp only [UInt8.toNat_ofNat']; omega
    rw [this]
  · rw [List.getElem?_eq_none (by simp [hsz]; omega), List.getElem?_eq_none (by simp [hsz]; omega)]
end Sm
end Go.Proofs.YtlembfhdljmcoaaDoor

/-
  Layer 12: what comes in: acts, texts.
-/
namespace Go.Proofs.YtlembfhdljmcoaaDoor
set_option maxRecDepth 20000
open Go.RowKit Go.ChangeShapes Go.WideShapes Go.Deep

namespace Bd
instance : Inhabited Rw := ⟨rw0⟩
section
variable {H : Type} {enc : TypeId × Value → H} {w : World} {fuel : Nat} {cs : List Value} {x : DataW H × List MemPlace}
theorem cells_str : Tryd.prog.cellsOf 9 = 1 := by kernel_rfl
theorem cells_int : Tryd.prog.cellsOf 3 = 1 := by kernel_rfl
theorem cells_ac : Tryd.prog.cellsOf 28 = 3 := by kernel_rfl
theorem ac_of (h : DataW.trod enc Tryd.prog w 0 (fun _ => true) true fuel 28 cs = some x) : ∃ y : Rw, cs = rwC y ∧ (Lit.int .i64 y.n).wf = true := by
  obtain ⟨xs, m, rfl, _, hcs, hxl, hf⟩ := DataW.trod_struct Tryd.underlying28 h
  rw [cells_ac] at hcs
  have hxl' : xs.length = 3 := hxl
  have g0 := hf 0 _ rfl
  have g1 := hf 1 _ rfl
  have g2 := hf 2 _ rfl
  rw [List.getElem?_eq_getElem (by omega)] at g0 g1 g2
  obtain ⟨n0, e0, _, _⟩ := DataW.trod_int Tryd.underlying3 g0
  obtain ⟨n1, e1, _, hw1⟩ := DataW.trod_int Tryd.underlying3 g1
  obtain ⟨s, e2, _, _⟩ := DataW.trod_string Tryd.underlying9 g2
  have e0' : (cs.drop 0).take (Tryd.prog.cellsOf 3) = [Value.int .i64 n0] := e0
  have e1' : (cs.drop 1).take (Tryd.prog.cellsOf 3) = [Value.int .i64 n1] := e1
  have e2' : (cs.drop 2).take (Tryd.prog.cellsOf 9) = [Value.string s] := e2
  rw [cells_int] at e0' e1'
  rw [cells_str] at e2'
  match cs, hcs, e0', e1', e2' with
  | [a, b, c], _, e0', e1', e2' =>
    refine ⟨⟨n0, n1, s⟩, ?_, hw1⟩
    simp only [List.drop_zero, List.take_succ_cons, List.take_zero, List.cons.injEq, and_true] at e0'
    simp only [List.drop_succ_cons, List.drop_zero, List.take_succ_cons, List.take_zero, List.cons.injEq, and_true] at e1' e2'
    rw [e0', e1', e2']
    rfl
theorem isAc_of (h : DataW.trod enc Tryd.prog w 0 (fun _ => true) true fuel 22 cs = some x) : ∃ a n cap l, cs = [.slice a n cap] ∧ IsRw w a n cap l ∧ ∀ j, j < n → (Lit.int .i64 (l.getD j rw0).n).wf = true := by
  rcases open_slice Tryd.underlying22 h with ⟨rfl, _⟩ | ⟨ad, len, cap, m, n, D, Pl, rfl, _, hl, hm, hmm, _, hel⟩
  · exact ⟨none, 0, 0, [], rfl, IsRw.nil w, fun j hj => absurd hj (Nat.not_lt_zero _)⟩
  · have hmm' : m = cap := by simpa using hmm
    subst hmm'
    have cell : ∀ i, i < m → ∃ y : Rw, (Lit.int .i64 y.n).wf = true ∧ ∀ j, j < 3 → w.cell? ((ad.add (i * 3)).add j) = (rwC y)[j]? := fun i hi => by
      obtain ⟨cs', h1, h2⟩ := hel i hi
      obtain ⟨y, rfl, hy⟩ := ac_of h2
      obtain ⟨_, hcl, hat⟩ := World.cells?_some h1
      rw [cells_ac] at hat
      exact ⟨y, hy, hat⟩
    obtain ⟨F, hF⟩ := choose_lt (α := Rw) cell
    have hgetF : ∀ j, j < len → ((List.range len).map F).getD j rw0 = F j := fun j hj => by simp [List.getD, hj]
    refine ⟨some ad, len, m, (List.range len).map F, rfl, ⟨hl, hm, by simp, fun e => (by cases e), fun j hj => ?_⟩, fun j hj => by rw [hgetF j hj]; exact (hF j (by omega)).1⟩
    have hFj := hF j (by omega)
    have hF0 := hF 0 (by omega)
    obtain ⟨b, off, spot⟩ := ad
    have hc0 : w.cell? _ = some (Value.int .i64 (F 0).e) := hF0.2 0 (by omega)
    have hspot : spot = none := by simpa [Addr.add] using World.cell?_spot hc0
    subst hspot
    have hget : ((List.range len).map F).getD j rw0 = F j := by simp [List.getD, hj]
    rw [hget]
    have hat : ∀ i v, i < 3 → (rwC (F j))[i]? = some v → w.cell? ⟨b, off + j * 3 + i, none⟩ = some v := fun i v hi hv => by
      have := hFj.2 i hi
      rw [Addr.add_mid, Addr.add_mid] at this
      rw [this, hv]
    have c0 := hat 0 (.int .i64 (F j).e) (by decide) rfl
    exact ⟨b, off, rfl, World.block_lt_of_cell? w _ c0, c0, hat 1 (.int .i64 (F j).n) (by decide) rfl, hat 2 (.string (F j).s) (by decide) rfl⟩
theorem isSt_of {w : World} {a : Option Addr} {n cap : Nat} {xs : List ByteArray} (h : IsStrs w a n cap xs) : IsSt w a n cap xs := by
  obtain ⟨h1, h2, h3, h4⟩ := h
  refine ⟨h1, h2, h3, fun j hj => ?_⟩
  obtain ⟨b, off, e1, e2, e3, _⟩ := h4 j hj
  exact ⟨b, off, e1, e2, e3⟩
end
end Bd
end Go.Proofs.YtlembfhdljmcoaaDoor

/-
  The rounds' table, out of the row's condition; SumOf's walk.
-/
namespace Go.Proofs.YtlembfhdljmcoaaDoor
set_option maxRecDepth 20000
open Go.ChangeShapes Go.WideShapes Go.ChangeAt Go.WideMaps Go.WideElems Go.RowKit

namespace Sm
open Sh
theorem gRounds : Tryd.prog.globalNamed "dormouse/sum.rounds" = some 0 := by kernel_rfl
theorem tRounds : (Tryd.prog.globals[0]?).map (·.type) = some 87 := by kernel_rfl
theorem laid_eq {H : Type} : (Rows.laid_dormouse_sum_rounds : DataW H) = .agg ((List.range 64).map fun i => .lit (.int .u32 (kN i : Nat))) := rfl
theorem cells_u32 : Tryd.prog.cellsOf 76 = 1 := by kernel_rfl
theorem tab_of_laid {W : World} (h : laidMetH Tryd.prog [("dormouse/sum.rounds", Rows.laid_dormouse_sum_rounds)] W) : Tab W := by
  rw [MakeChecks.laidMetH_plain _ _ _ (by kernel_rfl)] at h
  obtain ⟨ps, ⟨g0, t0, cs0, f0, p0, q0, hg0, ht0, hv0, hd0, _⟩, _, _⟩ := h
  obtain rfl := Option.some.inj (gRounds.symm.trans hg0)
  obtain rfl := Option.some.inj (tRounds.symm.trans ht0)
  obtain ⟨xs, m1, rfl, hx1, hlen, hn3, hel⟩ := DataW.trod_array Tryd.underlying87 hd0
  rw [laid_eq] at hx1
  simp only [Prod.mk.injEq, DataW.agg.injEq] at hx1
  intro i hi
  have h1 := hel i hi
  rw [cells_u32, Nat.mul_one] at h1
  have hi2 : i < xs.length := by omega
  rw [List.getElem?_eq_getElem hi2] at h1
  obtain ⟨n, e1, e2, _⟩ := DataW.trod_int Tryd.underlying76 h1
  have e3 := congrArg (fun l => l[i]?) hx1.1
  simp only [List.getElem?_map, List.getElem?_eq_getElem hi2, List.getElem?_range hi, Option.map_some, e2] at e3
  have e4 : n = (kN i : Nat) := by
    have := Option.some.inj e3
    simpa using this.symm
  subst e4
  rw [World.var?_cell hg0 hv0 i]
  obtain ⟨l⟩ := cs0
  have e5 := congrArg (fun l => l[0]?) e1
  simp only [List.getElem?_take, List.getElem?_drop, Nat.add_zero] at e5
  simpa using e5
end Sm
end Go.Proofs.YtlembfhdljmcoaaDoor
