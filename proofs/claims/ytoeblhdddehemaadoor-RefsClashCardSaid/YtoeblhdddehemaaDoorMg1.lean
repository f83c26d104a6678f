/-
  Contracts of strings.Builder's copyCheck and String, over a builder that the call itself has made.
-/
import Derived.Test.YtoeblhdddehemaaDoorRows
import Derived.WalkKit
import Derived.WalkSpells
import Derived.WalkLawsBesides
import Derived.Lib.Hide
import Derived.RegionTactic
import Derived.Lib.Strings
import Derived.Lib.Slices
import Derived.Lib.Walk
import Derived.Lib.Builder
import Derived.Lib.AppendStr
import Derived.Lib.UnsafeStr
import Derived.Laws.Externs
import Derived.Lib.OthersKept
import Derived.OwnWalk
import Derived.Deep.RegionHeld3
import Derived.Laws.Rows
import Derived.Below
import Derived.ProofKit
import Derived.OpenShut
import Derived.DataBytes
import Derived.Laws.BytesString
import Derived.Laws.IdiomStrings
import Derived.Deep.OwnRows
import Derived.Deep.Draws
import Derived.Laws.OwnMore
import Derived.LoopN
import Derived.Deep.QuietTactic
import Derived.BigQuiet
import Derived.Laws.BitsAllLaws
import Derived.IntWalk
import Derived.Laws.NewBlocks
import Derived.Lib.Bytealg
import Derived.Lib.BytesEntry
namespace Go.Proofs.YtoeblhdddehemaaDoor
set_option maxRecDepth 20000
open Go.RowKit

namespace Bu
theorem size_bu : (Tryd.prog.info? 93).map (·.size) = some 2 := by kernel_rfl
theorem lies_bu : liesAt Tryd.prog Tryd.prog.depth 93 (2 / Tryd.prog.cellsOf 93) 0 93 1 = true := by kernel_rfl
theorem info_byte : (Tryd.prog.info? 5).map (fun i => (i.zero, i.size, i.bytes)) = some (some (.int .u8 0), 1, 1) := by kernel_rfl
theorem cells_byte : Tryd.prog.cellsOf 5 = 1 := by kernel_rfl

/-- a builder of the call's own that holds these bytes -/
def Is (B b : Nat) (bs : List Value) (w : World) : Prop := Lib.IsBuilder 93 5 B b bs w

theorem fresh {B b : Nat} {w : World} (hB : B ≤ b) (h : w.heap[b]? = some (.cells #[.pointer none, .slice none 0 0] 93 (0, 0))) : Is B b [] w :=
  Or.inl ⟨hB, .slice none 0 0, h, World.ownsRow_nil _ _ _ _, by simp [Value.ownBlock]⟩

set_option maxHeartbeats 1000000 in
theorem check_used (b : Nat) (w : World) (h0 : w.cell? ⟨b, 0, none⟩ = some (.pointer (some ⟨b, 0, none⟩))) :
    Calls Tryd.prog 100 #[.pointer (some ⟨b, 0, none⟩)] w fun e w' => e = .returned (.tuple #[]) ∧ w' = w := by
  obtain ⟨j, hj, _⟩ := Option.map_eq_some_iff.1 size_bu
  go_enter Tryd.func100, Tryd.ntmps100
  go_wp2
  rw [Lib.run_neq_ptr_same w _ Tryd.underlying91 hj]
  go_wp2
  go_end0
  exact ⟨rfl, rfl⟩

set_option maxHeartbeats 1000000 in
theorem check_fresh (b : Nat) (w : World) (h0 : w.cell? ⟨b, 0, none⟩ = some (.pointer none)) (hsh : w.shape? b = some (93, 2)) (hfz : w.frozen? ⟨b, 0, none⟩ = false) :
    Calls Tryd.prog 100 #[.pointer (some ⟨b, 0, none⟩)] w fun e w' => e = .returned (.tuple #[]) ∧ w' = w.setCell ⟨b, 0, none⟩ (.pointer (some ⟨b, 0, none⟩)) := by
  obtain ⟨j, hj, hjs⟩ := Option.map_eq_some_iff.1 size_bu
  have hto := Lib.run_to_unsafe (P := Tryd.prog) w ⟨b, 0, none⟩ Tryd.underlying91 Tryd.underlying143 hj (by rw [hjs]; decide) hsh (Nat.zero_lt_succ 1)
  have hfrom := Lib.run_from_unsafe (P := Tryd.prog) w ⟨b, 0, none⟩ Tryd.underlying143 Tryd.underlying91 hj hsh lies_bu
  have hno : ∀ (a : Addr) (wx : World), (callFunc 111 #[.pointer (some a)]).run Tryd.prog wx = .ok (.value (.pointer (some a))) wx := fun a wx => by
    rw [run_callFunc_extern Tryd.func111 (by kernel_rfl) (by kernel_rfl) (by kernel_rfl) (e := Extern.AbiNoEscape.same) (by kernel_rfl), Lib.run_noEscape]
    rfl
  clear hj hjs
  go_enter Tryd.func100, Tryd.ntmps100
  go_wp2
  go_end0
  exact ⟨rfl, rfl⟩

theorem check {B b : Nat} {bs : List Value} {w : World} (h : Is B b bs w) :
    Calls Tryd.prog 100 #[.pointer (some ⟨b, 0, none⟩)] w fun e w' => e = .returned (.tuple #[]) ∧ (Lib.BuilderAt 93 5 B b (.pointer (some ⟨b, 0, none⟩)) bs w' ∧ Below B w w' ∧ Lib.OthersKept 5 (some b) w w') := by
  rcases h with h | h
  · refine (check_fresh b w h.cell0 h.shape h.frozen0).mono ?_
    rintro e w' ⟨rfl, rfl⟩
    exact ⟨rfl, h.used _, (Below.refl B w).setCell (p := ⟨b, 0, none⟩) h.1 _, (Lib.OthersKept.refl _ _ _).setCell ⟨b, 0, none⟩ rfl _⟩
  · refine (check_used b w h.cell0).mono ?_
    rintro e w' ⟨rfl, rfl⟩
    exact ⟨rfl, h, Below.refl B _, Lib.OthersKept.refl _ _ _⟩

set_option maxHeartbeats 2000000 in
theorem row_kind {w : World} {B : Nat} {e : TypeId} {v : Value} {n : Nat} {xs : List Value} (h : w.ownsRow B e 1 v n xs) : ∀ g, v.ownBlock = some g → ∃ c fz, w.heap[g]? = some (.cells c e fz) := by
  intro g hg
  rcases h.2 with ⟨rfl, _⟩ | ⟨g', cap, cur, rfl, _, hgg, _⟩
  · simp [Value.ownBlock] at hg
  · simp [Value.ownBlock] at hg
    subst hg
    exact ⟨cur, _, hgg⟩
theorem Is.not_at {B b : Nat} {bs : List Value} {w : World} (h : Is B b bs w) {k : Nat} {cs : Array Value} {T : TypeId} {fr : Nat × Nat} (hk : w.heap[k]? = some (.cells cs T fr)) (hT : T ≠ 93) : k ≠ b := by
  intro e
  subst e
  rcases h with ⟨_, v, hb, _⟩ | ⟨_, v, hb, _⟩ <;> (rw [hb] at hk; simp at hk; exact hT hk.2.1.symm)

theorem Is.kept {B b : Nat} {bs : List Value} {w w' : World} (h : Is B b bs w) (hg : w.grownBy w' none) : Is B b bs w' := by
  rcases h with ⟨hB, v, hb, ho, hn⟩ | ⟨hB, v, hb, ho, hn⟩
  · have hlt : b < w.heap.size := (Array.getElem?_eq_some_iff.1 hb).1
    exact Or.inl ⟨hB, v, by rw [hg.block b hlt (by simp)]; exact hb, ho.kept hg (by cases v.ownBlock <;> simp), hn⟩
  · have hlt : b < w.heap.size := (Array.getElem?_eq_some_iff.1 hb).1
    exact Or.inr ⟨hB, v, by rw [hg.block b hlt (by simp)]; exact hb, ho.kept hg (by cases v.ownBlock <;> simp), hn⟩
theorem grown_below {w w' : World} (h : Below w.heap.size w w') : w.grownBy w' none := ⟨h.os, h.tape, h.output, h.size, fun k hk _ => h.block k hk⟩

theorem text_none (W : World) (q : Option Addr) : (Builtin.unsafeString_ #[121, 3] 9 #[.pointer q, .int .i64 0]).run Tryd.prog W = .ok (.string .empty) W :=
  Lib.run_unsafeString_none W _ _ _ q

set_option maxHeartbeats 2000000 in
/-- String of a builder that holds bytes: the text of these; its own memory is of no use any more. -/
theorem text {B b : Nat} {l : List UInt8} {w : World} (h : Is B b (Lib.byteCells l) w) (hBw : B ≤ w.heap.size) :
    Calls Tryd.prog 62 #[.pointer (some ⟨b, 0, none⟩)] w fun e w' => e = .returned (.string ⟨l.toArray⟩) ∧ Below B w w' := by
  obtain ⟨p, hB, v, hbk, hown, hne⟩ : ∃ p, Lib.BuilderAt 93 5 B b p (Lib.byteCells l) w := by
    rcases h with h | h
    · exact ⟨_, h⟩
    · exact ⟨_, h⟩
  rw [Lib.byteCells_length] at hown
  have hUS0 := text_none
  by_cases h0 : l = []
  · subst h0
    rcases hown.2 with ⟨rfl, hz⟩ | ⟨g, cap, cur, rfl, hbg, hg, hnc, hcm, hcs, htake⟩
    · have c1 : w.drew.cell? ⟨b, 1, none⟩ = some (.slice none 0 0) := by
        have : w.drew.heap[b]? = some (.cells #[p, .slice none 0 0] 93 (0, 0)) := hbk
        rw [Lib.cell_of_heap this]; rfl
      have hSD : (Builtin.unsafeSliceData_ #[42] 121 #[.slice none 0 0]).run Tryd.prog w.drew = .ok (.pointer none) w.drew := rfl
      clear hown hbk hne hBw
      go_enter Tryd.func62, Tryd.ntmps62
      go_wp2
      go_region
      all_goals (go_wp2; go_ret; exact ⟨rfl, Below.drew (Below.refl B w)⟩)
    · have hlt : b < w.heap.size := by
        rcases Nat.lt_or_ge b w.heap.size with h' | h'
        · exact h'
        · simp [Array.getElem?_eq_none h'] at hbk
      have hg' : w.drew.heap[g]? = some (.cells cur 5 (0, 0)) := hg
      by_cases hc0 : cap = 0
      · subst hc0
        have c1 : w.drew.cell? ⟨b, 1, none⟩ = some (.slice (some ⟨g, 0, none⟩) 0 0) := by
          have : w.drew.heap[b]? = some (.cells #[p, .slice (some ⟨g, 0, none⟩) 0 0] 93 (0, 0)) := hbk
          rw [Lib.cell_of_heap this]; rfl
        have hSD : (Builtin.unsafeSliceData_ #[42] 121 #[.slice (some ⟨g, 0, none⟩) 0 0]).run Tryd.prog w.drew = .ok (.pointer (some ⟨w.drew.heap.size, 0, none⟩)) (w.drew.alloc (.view ⟨g, 0, none⟩ 5)) :=
          Lib.run_unsafeSliceData_zero w.drew _ _ 5 Tryd.underlying121 ⟨g, 0, none⟩ 0 (5, cur.size) (by simp [World.shape?, hg'])
        have c2 : (w.drew.alloc (.view ⟨g, 0, none⟩ 5)).cell? ⟨b, 1, none⟩ = some (.slice (some ⟨g, 0, none⟩) 0 0) := by
          have : (w.drew.alloc (.view ⟨g, 0, none⟩ 5)).heap[b]? = _ := (Lib.alloc_old w.drew _ b hlt).trans hbk
          rw [Lib.cell_of_heap this]; rfl
        have c3 : (w.alloc (.view ⟨g, 0, none⟩ 5)).drew.cell? ⟨b, 1, none⟩ = some (.slice (some ⟨g, 0, none⟩) 0 0) := c2
        have c0 : w.cell? ⟨b, 1, none⟩ = some (.slice (some ⟨g, 0, none⟩) 0 0) := c1
        clear hown hbk hne hnc hcm hcs htake hg hg' hlt
        go_enter Tryd.func62, Tryd.ntmps62
        go_wp2
        go_region
        all_goals (go_wp2; go_ret; exact ⟨rfl, (Below.drew (Below.refl B w)).alloc hBw _⟩)
      · have c1 : w.drew.cell? ⟨b, 1, none⟩ = some (.slice (some ⟨g, 0, none⟩) 0 cap) := by
          have : w.drew.heap[b]? = some (.cells #[p, .slice (some ⟨g, 0, none⟩) 0 cap] 93 (0, 0)) := hbk
          rw [Lib.cell_of_heap this]; rfl
        have hSD : (Builtin.unsafeSliceData_ #[42] 121 #[.slice (some ⟨g, 0, none⟩) 0 cap]).run Tryd.prog w.drew = .ok (.pointer (some ⟨g, 0, none⟩)) w.drew :=
          Lib.run_unsafeSliceData_row _ _ _ _ _ _ hc0
        clear hown hbk hne hnc hcm hcs htake hg hg' hlt hc0 hBw
        go_enter Tryd.func62, Tryd.ntmps62
        go_wp2
        go_region
        all_goals (go_wp2; go_ret; exact ⟨rfl, Below.drew (Below.refl B w)⟩)
  · have hl0 : l.length ≠ 0 := by simpa using h0
    obtain ⟨g, cap, cur, rfl, hbg, hg, hnc, hcm, hcs, htake⟩ : ∃ g cap cur, v = .slice (some ⟨g, 0, none⟩) l.length cap ∧ B ≤ g ∧ w.heap[g]? = some (.cells cur 5 (0, 0)) ∧ l.length ≤ cap ∧ cap ≤ maxLen ∧ cur.size = cap * 1 ∧ cur.toList.take (l.length * 1) = Lib.byteCells l := by
      rcases hown.2 with ⟨_, hz⟩ | ⟨g, cap, cur, hv, r⟩
      · exact absurd hz hl0
      · exact ⟨g, cap, cur, hv, r⟩
    have c1 : w.drew.cell? ⟨b, 1, none⟩ = some (.slice (some ⟨g, 0, none⟩) l.length cap) := by
      have : w.drew.heap[b]? = some (.cells #[p, .slice (some ⟨g, 0, none⟩) l.length cap] 93 (0, 0)) := hbk
      rw [Lib.cell_of_heap this]; rfl
    have hg' : w.drew.heap[g]? = some (.cells cur 5 (0, 0)) := hg
    have hSD : (Builtin.unsafeSliceData_ #[42] 121 #[.slice (some ⟨g, 0, none⟩) l.length cap]).run Tryd.prog w.drew = .ok (.pointer (some ⟨g, 0, none⟩)) w.drew :=
      Lib.run_unsafeSliceData_row _ _ _ _ _ _ (by omega)
    have hUS : (Builtin.unsafeString_ #[121, 3] 9 #[.pointer (some ⟨g, 0, none⟩), .int .i64 l.length]).run Tryd.prog w.drew = .ok (.string ⟨l.toArray⟩) (w.drew.freeze ⟨g, 0, none⟩ l.length) := by
      refine Lib.run_unsafeString_row w.drew 121 3 9 5 Tryd.underlying121 cells_byte g cur.size (by simp [World.shape?, hg']) l h0 (by omega) (by unfold maxLen at hcm; omega) ?_
      intro j x hx
      have := hown.cells (g := g) rfl j (.int .u8 x.toNat) (by simp [Lib.byteCells, hx])
      exact this
    clear hown hbk hne hnc hcm hcs htake hg hg' h0 hl0 hBw hUS0
    go_enter Tryd.func62, Tryd.ntmps62
    go_wp2
    go_region
    all_goals (go_wp2; go_ret; exact ⟨rfl, Lib.below_freeze (Below.drew (Below.refl B w)) (p := ⟨g, 0, none⟩) hbg _⟩)
end Bu
end Go.Proofs.YtoeblhdddehemaaDoor

/-
  The contract of strings.Builder's WriteByte, over a builder that the call itself has made.
-/
namespace Go.Proofs.YtoeblhdddehemaaDoor
set_option maxRecDepth 20000
open Go.RowKit

namespace Bu
theorem cell_one_new' (w : World) (v : Value) (t : TypeId) (fz : Nat × Nat) : ∀ j u, [v][j]? = some u → (w.alloc (.cells #[v] t fz)).cell? ((⟨w.heap.size, 0, none⟩ : Addr).add j) = some u := by
  intro j u hj
  match j, hj with
  | 0, hj => simp at hj; subst hj; simp [Addr.add, World.cell?_alloc_mark]

set_option maxHeartbeats 400000 in
/-- WriteByte: the byte goes behind those that are held. -/
theorem writeByte {B b : Nat} {bs : List Value} {w : World} (c : Int) (h : Is B b bs w) (hlen : bs.length + 1 ≤ 140737488355328) (hBw : B ≤ w.heap.size) :
    Calls Tryd.prog 103 #[.pointer (some ⟨b, 0, none⟩), .int .u8 c] w fun e w' => e = .returned .nilIface ∧ (Is B b (bs ++ [.int .u8 c]) w' ∧ Below B w w' ∧ Lib.OthersKept 5 (some b) w w') := by
  obtain ⟨i0, hi, hz0, hz1, hz2⟩ := info_parts info_byte
  go_enter Tryd.func103, Tryd.ntmps103
  go_wp2_with (go_at_call 100; refine (check h).mono ?_)
  rintro e w1 ⟨rfl, h1, hb1, hk1⟩
  obtain ⟨hB, v, hbk, hown, hne⟩ := h1
  have c0 : w1.cell? ⟨b, 0, none⟩ = some (.pointer (some ⟨b, 0, none⟩)) := by rw [Lib.cell_of_heap hbk]; rfl
  have c1 : w1.cell? ⟨b, 1, none⟩ = some v := by rw [Lib.cell_of_heap hbk]; rfl
  have hlt : b < w1.heap.size := by
    rcases Nat.lt_or_ge b w1.heap.size with h' | h'
    · exact h'
    · simp [Array.getElem?_eq_none h'] at hbk
  go_wp2_with (at_builtin; refine wpList_append_own _ rfl _ _ 42 rfl B 5 i0 (.int .u8 0) 1 1 Tryd.underlying42 hi hz0 hz1 hz2 rfl (by decide) _ _ _ rfl (hown.alloc _) ⟨w1.heap.size, 0, none⟩ 1 1 [.int .u8 c] rfl rfl ?c1 ?c2 ?c3 ?c4 ?c5 ?_)
  case c1 => exact cell_one_new' _ _ _ _
  case c2 => intro u hu; simp at hu; subst hu; rfl
  case c3 => unfold maxLen; omega
  case c4 => omega
  case c5 => have := hb1.size; simp; omega
  intro v' w2 hown' hgrow _
  have hb2 : w2.heap[b]? = some (.cells #[.pointer (some ⟨b, 0, none⟩), v] 93 (0, 0)) := by
    rw [hgrow.block b (by simp; omega) (fun e => hne e.symm), Lib.alloc_old w1 _ b hlt]
    exact hbk
  have d1 : w2.cell? ⟨b, 1, none⟩ = some v := by rw [Lib.cell_of_heap hb2]; rfl
  have f1 : w2.frozen? ⟨b, 1, none⟩ = false := Lib.frozen_of_heap hb2 1
  obtain ⟨ao, n', cap, rfl⟩ : ∃ ao n' cap, v' = .slice ao n' cap := by
    rcases hown'.2 with ⟨hv, _⟩ | ⟨g, cap, cur, hv, _⟩
    · exact ⟨_, _, _, hv⟩
    · exact ⟨_, _, _, hv⟩
  go_wp2
  go_ret
  refine ⟨rfl, Or.inr ?_, ?_, ?_⟩
  · exact Lib.BuilderAt.put (T := 93) (e := 5) hB hb2 (bs' := bs ++ [.int .u8 c]) (by simpa using hown') (by decide)
  · exact ((hb1.alloc (by have := hb1.size; omega) _).grown hgrow (by have := hb1.size; simp; omega) (fun k hk => (hown.lt k hk).1)).setCell (p := ⟨b, 1, none⟩) hB _
  · exact ((hk1.alloc _).grown hgrow (row_kind (hown.alloc _))).setCell ⟨b, 1, none⟩ rfl _
end Bu
end Go.Proofs.YtoeblhdddehemaaDoor

/-
  The contract of strings.Builder's WriteString, over a builder that the call itself has made.
-/
namespace Go.Proofs.YtoeblhdddehemaaDoor
set_option maxRecDepth 20000
open Go.RowKit

namespace Bu
/-- WriteString: the bytes go behind those that are held. -/
theorem write {B b : Nat} {bs : List Value} {w : World} (s : ByteArray) (h : Is B b bs w) (hlen : bs.length + s.size ≤ 140737488355328) (hBw : B ≤ w.heap.size) :
    Calls Tryd.prog 84 #[.pointer (some ⟨b, 0, none⟩), .string s] w fun e w' => e = .returned (.tuple #[.int .i64 s.size, .nilIface]) ∧ (Is B b (bs ++ Lib.strCells s) w' ∧ Below B w w' ∧ Lib.OthersKept 5 (some b) w w') := by
  obtain ⟨i0, hi, hz0, hz1, hz2⟩ := info_parts info_byte
  go_enter Tryd.func84, Tryd.ntmps84
  go_wp2_with (go_at_call 100; refine (check h).mono ?_)
  rintro e w1 ⟨rfl, h1, hb1, hk1⟩
  obtain ⟨hB, v, hbk, hown, hne⟩ := h1
  have c0 : w1.cell? ⟨b, 0, none⟩ = some (.pointer (some ⟨b, 0, none⟩)) := by rw [Lib.cell_of_heap hbk]; rfl
  have c1 : w1.cell? ⟨b, 1, none⟩ = some v := by rw [Lib.cell_of_heap hbk]; rfl
  go_wp2_with (at_builtin; refine Lib.wpList_append_own_string _ rfl _ _ 42 9 rfl B 5 i0 Tryd.underlying42 Tryd.underlying9 hi hz0 hz1 hz2 _ _ _ rfl hown s rfl ?c3 ?c4 ?c5 ?_)
  case c3 => unfold maxLen; omega
  case c4 => omega
  case c5 => have := hb1.size; omega
  intro v' w2 hown' hgrow _
  have hlt : b < w1.heap.size := by
    rcases Nat.lt_or_ge b w1.heap.size with h' | h'
    · exact h'
    · simp [Array.getElem?_eq_none h'] at hbk
  have hb2 : w2.heap[b]? = some (.cells #[.pointer (some ⟨b, 0, none⟩), v] 93 (0, 0)) := by
    rw [hgrow.block b hlt (fun e => hne e.symm)]
    exact hbk
  have d1 : w2.cell? ⟨b, 1, none⟩ = some v := by rw [Lib.cell_of_heap hb2]; rfl
  have f1 : w2.frozen? ⟨b, 1, none⟩ = false := Lib.frozen_of_heap hb2 1
  obtain ⟨ao, n', cap, rfl⟩ : ∃ ao n' cap, v' = .slice ao n' cap := by
    rcases hown'.2 with ⟨hv, _⟩ | ⟨g, cap, cur, hv, _⟩
    · exact ⟨_, _, _, hv⟩
    · exact ⟨_, _, _, hv⟩
  go_wp2
  go_ret2
  refine ⟨rfl, Or.inr ?_, ?_, (hk1.grown hgrow (row_kind hown)).setCell ⟨b, 1, none⟩ rfl _⟩
  · exact Lib.BuilderAt.put (T := 93) (e := 5) hB hb2 (bs' := bs ++ Lib.strCells s) (by simpa [Lib.strCells_length] using hown') (by decide)
  · exact (hb1.grown hgrow (by have := hb1.size; omega) (fun k hk => (hown.lt k hk).1)).setCell (p := ⟨b, 1, none⟩) hB _

end Bu
end Go.Proofs.YtoeblhdddehemaaDoor

/-
  Regions that draw their order, walked by hand: one operation at a time, over the list of operations; operations whose run is known.
-/
namespace Go.Proofs.YtoeblhdddehemaaDoor
open Go.RowKit

namespace Rg
/-- the operation at a place of a region -/
def nthO : List Oper → Nat → Option Oper
  | [], _ => none
  | o :: _, 0 => some o
  | _ :: l, n + 1 => nthO l n
theorem nthO_eq : ∀ (l : List Oper) (n : Nat), l[n]? = nthO l n
  | [], _ => by simp [nthO]
  | _ :: _, 0 => by simp [nthO]
  | _ :: l, n + 1 => by simpa [nthO] using nthO_eq l n
/-- an operation is taken first that yields its value in every world that meets S -/
theorem takeL {P : Program} {md : Region.Mode} {l : List Oper} {Q : Exit → Act → World → Prop} {S : World → Prop} {i : Nat} {oi : Oper} {v : Value} {fuel : Nat} {listed : Array Bool} {a : Act} {w : World} (hi : nthO l i = some oi)
    (hs : Region.noSelect l.toArray = true) (hf : Region.free md l.toArray listed i = true) (hr : (Region.ready md l.toArray listed).contains i = true)
    (hQ : ∀ c a w, Q (.panic c) (a.put oi.dst v) w → Q (.panic c) a w) (hy : YieldsIf P l.toArray S oi v a) (hS : S w)
    (h : wpAnyH P md l.toArray Q S fuel (listed.setIfInBounds i true) (a.put oi.dst v) w) : wpAnyH P md l.toArray Q S (fuel + 1) listed a w :=
  wpAnyH_take (by rw [List.getElem?_toArray, nthO_eq]; exact hi) hs hf hr hQ hy hS h
/-- the one operation that may come up -/
theorem readyL {P : Program} {md : Region.Mode} {l : List Oper} {Q : Exit → Act → World → Prop} {S : World → Prop} {fuel : Nat} {listed : Array Bool} {a : Act} {w : World} {i : Nat} {o : Oper} (ho : nthO l i = some o)
    (h : ∀ K' : Act → World → Prop, Shut (∀ a w, S w → (S w → wpAnyH P md l.toArray Q S fuel (listed.setIfInBounds i true) a w) → K' a w) → if Region.wanted o (yielded l.toArray a.tmps) = true then Oper.wp P o a w K' Q else K' (a.put o.dst undef) w) : AllReadyH P md l.toArray Q S fuel listed a w [i] :=
  AllReadyH.cons (by rw [List.getElem?_toArray, nthO_eq]; exact ho) h AllReadyH.nil
/-- .. and those that may come up besides -/
theorem readyC {P : Program} {md : Region.Mode} {l : List Oper} {Q : Exit → Act → World → Prop} {S : World → Prop} {fuel : Nat} {listed : Array Bool} {a : Act} {w : World} {i : Nat} {rs : List Nat} {o : Oper} (ho : nthO l i = some o)
    (h : ∀ K' : Act → World → Prop, Shut (∀ a w, S w → (S w → wpAnyH P md l.toArray Q S fuel (listed.setIfInBounds i true) a w) → K' a w) → if Region.wanted o (yielded l.toArray a.tmps) = true then Oper.wp P o a w K' Q else K' (a.put o.dst undef) w)
    (hs : AllReadyH P md l.toArray Q S fuel listed a w rs) : AllReadyH P md l.toArray Q S fuel listed a w (i :: rs) :=
  AllReadyH.cons (by rw [List.getElem?_toArray, nthO_eq]; exact ho) h hs
/-- an operation whose run is known, met -/
theorem meet {P : Program} {o : Oper} {a : Act} {w : World} {K : Act → World → Prop} {Q : Exit → Act → World → Prop} {ops : Array Oper} (hw : Region.wanted o (yielded ops a.tmps) = true) (v : Value) (w' : World)
    (hr : (execOp a.eval o).run P w = .ok (.value v) w') (h : K (a.put o.dst v) w') : if Region.wanted o (yielded ops a.tmps) = true then Oper.wp P o a w K Q else K (a.put o.dst undef) w := by
  rw [if_pos hw]
  unfold Oper.wp
  rw [hr]
  exact h
theorem want {P : Program} {o : Oper} {a : Act} {w : World} {K : Act → World → Prop} {Q : Exit → Act → World → Prop} {ops : Array Oper} (hw : Region.wanted o (yielded ops a.tmps) = true)
    (h : Oper.wp P o a w K Q) : if Region.wanted o (yielded ops a.tmps) = true then Oper.wp P o a w K Q else K (a.put o.dst undef) w := by
  rw [if_pos hw]
  exact h
/-- a block of the call's own, known whole -/
def Own (w : World) (b : Nat) (cs : Array Value) (T : TypeId) : Prop := b < w.heap.size ∧ w.heap[b]? = some (.cells cs T (0, 0))
theorem Own.below {w w' : World} {b : Nat} {cs : Array Value} {T : TypeId} (h : Own w b cs T) (hb : Below w.heap.size w w') : Own w' b cs T :=
  ⟨Nat.lt_of_lt_of_le h.1 hb.size, (hb.block _ h.1).trans h.2⟩
theorem Own.new (w : World) (cs : Array Value) (T : TypeId) : Own (w.alloc (.cells cs T)) w.heap.size cs T :=
  ⟨by simp, by show (w.heap.push _)[w.heap.size]? = _; simp⟩
theorem Own.drew {w : World} {b : Nat} {cs : Array Value} {T : TypeId} (h : Own w b cs T) : Own w.drew b cs T := h
/-- block b alone is turned -/
structure Upd (w : World) (b : Nat) (w' : World) : Prop where
  os : w'.os = w.os
  tape : w'.tape = w.tape
  output : w'.output = w.output
  size : w'.heap.size = w.heap.size
  block : ∀ k, k ≠ b → w'.heap[k]? = w.heap[k]?
theorem Own.upd {w w' : World} {b b' : Nat} {cs : Array Value} {T : TypeId} (h : Own w b cs T) (hu : Upd w b' w') (hne : b ≠ b') : Own w' b cs T :=
  ⟨by rw [hu.size]; exact h.1, (hu.block _ hne).trans h.2⟩
theorem Upd.below {B : Nat} {w0 w w' : World} {b : Nat} (hu : Upd w b w') (h : Below B w0 w) (hB : B ≤ b) : Below B w0 w' :=
  ⟨hu.os.trans h.os, hu.tape.trans h.tape, hu.output.trans h.output, by rw [hu.size]; exact h.size, fun k hk => (hu.block k (by omega)).trans (h.block k hk)⟩
theorem Upd.set (w : World) (b : Nat) (cs : Array Value) : Upd w b (w.setRow b cs) :=
  ⟨rfl, rfl, rfl, by simp, fun k hk => setRow_other w b k cs hk⟩
/-- a block is made: the world behind it is a letter -/
theorem meetAlloc {P : Program} {o : Oper} {a : Act} {w : World} {K : Act → World → Prop} {Q : Exit → Act → World → Prop} {ops : Array Oper} (hw : Region.wanted o (yielded ops a.tmps) = true) {cs : Array Value} {T : TypeId}
    (hr : (execOp a.eval o).run P w = .ok (.value (.pointer (some ⟨w.heap.size, 0, none⟩))) (w.alloc (.cells cs T)))
    (h : ∀ w' b, b = w.heap.size → Own w' b cs T → Below w.heap.size w w' → K (a.put o.dst (.pointer (some ⟨b, 0, none⟩))) w') : if Region.wanted o (yielded ops a.tmps) = true then Oper.wp P o a w K Q else K (a.put o.dst undef) w :=
  meet hw _ _ hr (h _ _ rfl (Own.new _ _ _) ((Below.refl _ _).alloc (Nat.le_refl _) _))
/-- a block of the call's own is written whole -/
theorem meetStore {P : Program} {o : Oper} {a : Act} {w : World} {K : Act → World → Prop} {Q : Exit → Act → World → Prop} {ops : Array Oper} (hw : Region.wanted o (yielded ops a.tmps) = true) {g : Nat} {old : Array Value} {T : TypeId} (hg : Own w g old T)
    (ty : TypeId) (cells : Array Value) (ho : ∃ x y, o.op = .store ty x y ∧ a.eval x = .pointer (some ⟨g, 0, none⟩) ∧ a.eval y = .agg cells)
    (hi : (P.info? ty).map (·.size) = some cells.size) (hold : old.size = cells.size) (h1 : cells.all (·.oneCell') = true)
    (h : ∀ w', Own w' g cells T → Upd w g w' → K (a.put o.dst undef) w') : if Region.wanted o (yielded ops a.tmps) = true then Oper.wp P o a w K Q else K (a.put o.dst undef) w := by
  obtain ⟨x, y, ho, hx, hy⟩ := ho
  exact want hw (wp_store_row ty x y ho g cells hx hy T old hg.2 hi hold h1 (h _ ⟨by simp; exact hg.1, setRow_heap _ _ _ _ _ _ hg.2⟩ (Upd.set _ _ _)))
/-- another S from here on, that says more -/
theorem moreS {P : Program} {md : Region.Mode} {ops : Array Oper} {Q : Exit → Act → World → Prop} {S S' : World → Prop} (hi : ∀ w, S' w → S w) :
    ∀ {fuel : Nat} {listed : Array Bool} {a : Act} {w : World}, wpAnyH P md ops Q S' fuel listed a w → wpAnyH P md ops Q S fuel listed a w
  | 0, _, _, _, h => h
  | _ + 1, _, _, _, h => ⟨h.1, fun i hr => wpOp_mono (fun _ w' h' => ⟨hi w' h'.1, moreS hi h'.2⟩) (h.2 i hr)⟩

/-- an operation whose run is known; one of a guarded place -/
theorem run {P : Program} {w : World} {ops : Array Oper} {rest : List Oper} {o : Oper} {a : Act} {Q : Exit → Act → World → Prop} (hgd : o.guard = none) (v : Value) (w' : World)
    (hr : (execOp a.eval o).run P w = .ok (.value v) w') (h : wpList P ops Q rest (a.put o.dst v) w') : wpList P ops Q (o :: rest) a w :=
  wpList_plain hgd fun K hK => by
    unfold Oper.wp
    rw [hr]
    exact hK _ _ h
theorem runW {P : Program} {w : World} {ops : Array Oper} {rest : List Oper} {o : Oper} {a : Act} {Q : Exit → Act → World → Prop} (hw : Region.wanted o (yielded ops a.tmps) = true) (v : Value) (w' : World)
    (hr : (execOp a.eval o).run P w = .ok (.value v) w') (h : wpList P ops Q rest (a.put o.dst v) w') : wpList P ops Q (o :: rest) a w :=
  wpList_step fun K hK => by
    rw [if_pos hw]
    unfold Oper.wp
    rw [hr]
    exact hK _ _ h
end Rg
end Go.Proofs.YtoeblhdddehemaaDoor

/-
  Slices of bytes: what one is, as a walk takes it (nil among them); what is kept of it; the text of it.
-/
namespace Go.Proofs.YtoeblhdddehemaaDoor
open Go.RowKit Go.ChangeShapes Go.WideShapes

/-- a fact that no tactic looks into ('contradiction' looks through Hid, and reckons both sides of a closed equation) -/
def Sec (p : Prop) : Prop := Unit → p
theorem Sec.out {p : Prop} (h : Sec p) : p := h ()
theorem sec {p : Prop} (h : p) : Sec p := fun _ => h

theorem below_drewN {B : Nat} {w w' : World} (h : Below B w w') (q : Nat) : Below B w (w'.drewN q) := ⟨h.os, h.tape, h.output, h.size, h.block⟩

/-- the slice's elements are these bytes -/
def IsBs (w : World) (a : Option Addr) (n cap : Nat) (l : List UInt8) : Prop :=
  n ≤ cap ∧ cap ≤ maxLen ∧ l.length = n ∧ (a = none → cap = 0) ∧ ∀ j, j < n → ∃ b off, a = some ⟨b, off, none⟩ ∧ b < w.heap.size ∧ w.cell? ⟨b, off + j, none⟩ = some (.int .u8 (l.getD j 0).toNat)

namespace IsBs
theorem len {w : World} {a : Option Addr} {n cap : Nat} {l : List UInt8} (h : IsBs w a n cap l) : l.length = n := h.2.2.1
theorem at' {w : World} {a : Option Addr} {n cap : Nat} {l : List UInt8} (h : IsBs w a n cap l) (j : Nat) (hj : j < n) : ∃ b off, a = some ⟨b, off, none⟩ ∧ b < w.heap.size ∧ w.cell? ⟨b, off + j, none⟩ = some (.int .u8 (l.getD j 0).toNat) := h.2.2.2.2 j hj
/-- what keeps all old cells keeps it -/
theorem kept {w w' : World} {a : Option Addr} {n cap : Nat} {l : List UInt8} (h : IsBs w a n cap l) (hs : w.heap.size ≤ w'.heap.size)
    (hc : ∀ b o, b < w.heap.size → w'.cell? ⟨b, o, none⟩ = w.cell? ⟨b, o, none⟩) : IsBs w' a n cap l := by
  refine ⟨h.1, h.2.1, h.2.2.1, h.2.2.2.1, fun j hj => ?_⟩
  obtain ⟨b, off, h1, h2, h3⟩ := h.2.2.2.2 j hj
  exact ⟨b, off, h1, Nat.lt_of_lt_of_le h2 hs, by rw [hc b _ h2]; exact h3⟩
theorem below {w w' : World} {a : Option Addr} {n cap : Nat} {l : List UInt8} (h : IsBs w a n cap l) (hb : Below w.heap.size w w') : IsBs w' a n cap l :=
  h.kept hb.size fun b o hlt => hb.cell (p := ⟨b, o, none⟩) hlt
theorem alloc {w : World} {a : Option Addr} {n cap : Nat} {l : List UInt8} (h : IsBs w a n cap l) (o : Obj) : IsBs (w.alloc o) a n cap l :=
  h.below ((Below.refl _ _).alloc (Nat.le_refl _) _)
theorem grown {w w' : World} {a : Option Addr} {n cap : Nat} {l : List UInt8} (h : IsBs w a n cap l) (hg : w.grownBy w' none) : IsBs w' a n cap l :=
  h.below ((Below.refl _ _).grown hg (Nat.le_refl _) (fun k hk => by cases hk))
theorem drewN {w : World} {a : Option Addr} {n cap : Nat} {l : List UInt8} (h : IsBs w a n cap l) (q : Nat) : IsBs (w.drewN q) a n cap l := h
theorem capNone {w : World} {n cap : Nat} {l : List UInt8} (h : IsBs w none n cap l) : n = 0 ∧ cap = 0 ∧ l = [] := by
  have hc := h.2.2.2.1 rfl
  have h1 := h.1
  have h2 := h.len
  have : n = 0 := by omega
  subst this
  exact ⟨rfl, hc, List.eq_nil_of_length_eq_zero h2⟩
theorem nil (w : World) : IsBs w none 0 0 [] := ⟨Nat.le_refl _, Nat.zero_le _, rfl, fun _ => rfl, fun _ hj => absurd hj (Nat.not_lt_zero _)⟩
end IsBs

/-- a slice of these bytes is handed back; the world is as it was -/
def SameBs (w : World) (l : List UInt8) (e : Ending) (w' : World) : Prop := ∃ a n cap, e = .returned (.slice a n cap) ∧ IsBs w a n cap l ∧ w = w'
/-- a slice of these bytes is handed back; what was there is as it was -/
def GotBs (w : World) (l : List UInt8) (e : Ending) (w' : World) : Prop := ∃ a n cap, e = .returned (.slice a n cap) ∧ IsBs w' a n cap l ∧ Below w.heap.size w w'

/-- a row of the call's own, as a slice of bytes -/
theorem IsBs.ofRow {w : World} {b n : Nat} {f : Nat → Value} {t : TypeId} (l : List UInt8) (hn : n ≤ maxLen) (h : w.rowIs b t n f) (hl : l.length = n) (hf : ∀ j, j < n → f j = .int .u8 (l.getD j 0).toNat) : IsBs w (some ⟨b, 0, none⟩) n n l :=
  ⟨Nat.le_refl _, hn, hl, (fun e => by cases e), fun j hj => ⟨b, 0, rfl, h.lt, by rw [Nat.zero_add, ← hf j hj]; exact h.cell hj⟩⟩
theorem IsBs.ofOwn {w : World} {B : Nat} {t : TypeId} {v : Value} {n : Nat} {l : List UInt8} (h : w.ownsRow B t 1 v n (l.map fun x => Value.int .u8 x.toNat)) : ∃ a cap, v = .slice a n cap ∧ IsBs w a n cap l := by
  have hl : l.length = n := by simpa using h.1
  rcases h.2 with ⟨rfl, hz⟩ | ⟨g, cap, cur, rfl, hbg, hg, hnc, hcm, hcs, htake⟩
  · have e : l = [] := List.eq_nil_of_length_eq_zero (by rw [hl]; exact hz)
    subst e
    subst hz
    exact ⟨none, 0, rfl, IsBs.nil w⟩
  · refine ⟨_, _, rfl, hnc, hcm, hl, fun e => (by cases e), fun j hj => ⟨g, 0, rfl, (Array.getElem?_eq_some_iff.1 hg).1, ?_⟩⟩
    have := h.cells (g := g) rfl j (.int .u8 (l.getD j 0).toNat) (by simp [List.getD, hl, hj])
    have e : (⟨g, 0, none⟩ : Addr).add j = ⟨g, 0 + j, none⟩ := by unfold Addr.add; split <;> simp_all
    rw [e] at this
    exact this

/-- a new row of the call's own, as a slice of bytes -/
theorem IsBs.new (w : World) (l : List UInt8) (hl : l.length ≤ maxLen) (cs : Array Value) (t : TypeId) (hc : cs = (l.map fun x => Value.int .u8 x.toNat).toArray) : IsBs (w.alloc (.cells cs t)) (some ⟨w.heap.size, 0, none⟩) l.length l.length l := by
  subst hc
  refine ⟨Nat.le_refl _, hl, rfl, fun e => (by cases e), fun j hj => ⟨w.heap.size, 0, rfl, by simp, ?_⟩⟩
  rw [Nat.zero_add, World.cell?_alloc_mark]
  simp [List.getD, hj]

/-- a slice of bytes, as a text -/
theorem conv_bs {w : World} {a : Option Addr} {n cap : Nat} {l : List UInt8} (h : IsBs w a n cap l) :
    Sem.run Tryd.prog (convert 42 9 (Value.slice a n cap)) w = .ok (.string ⟨l.toArray⟩) w := by
  by_cases h0 : n = 0
  · subst h0
    have e : l = [] := List.eq_nil_of_length_eq_zero h.len
    subst e
    have := run_convert_bytes_string (P := Tryd.prog) w 42 9 5 a 0 cap Tryd.underlying42 Tryd.underlying5 Tryd.underlying9
    rw [this]
    cases a <;> simp [Conv.bytesToString, loadCells]
    all_goals rfl
  · obtain ⟨b, off, rfl, hb, hc⟩ := h.at' 0 (by omega)
    have hl := h.len
    have := run_convert_bytes_back (P := Tryd.prog) w 42 9 5 ⟨b, off, none⟩ cap l Tryd.underlying42 Tryd.underlying5 Tryd.underlying9 (fun j hj => by
      obtain ⟨b', off', e, _, hc'⟩ := h.at' j (by omega)
      simp at e
      obtain ⟨rfl, rfl⟩ := e
      have e2 : (⟨b, off, none⟩ : Addr).add j = ⟨b, off + j, none⟩ := by unfold Addr.add; split <;> simp_all
      rw [e2, hc']
      simp [List.getD, hj])
    rw [hl] at this
    exact this
end Go.Proofs.YtoeblhdddehemaaDoor

/-
  The plain answers' sum, as numbers: words, rounds, blocks.
-/
namespace Go.Proofs.YtoeblhdddehemaaDoor.Sh
/-- a word turned right by one; by n -/
def turn1 (x : Nat) : Nat := x / 2 + x % 2 * 2147483648
def turnN : Nat → Nat → Nat
  | x, 0 => x
  | x, n + 1 => turnN (turn1 x) n
theorem turn1_lt (x : Nat) (h : x < 4294967296) : turn1 x < 4294967296 := by unfold turn1; omega
theorem turnN_lt : ∀ (n x : Nat), x < 4294967296 → turnN x n < 4294967296
  | 0, _, h => h
  | n + 1, x, h => turnN_lt n _ (turn1_lt x h)
theorem turnN_succ : ∀ (n x : Nat), turnN x (n + 1) = turn1 (turnN x n)
  | 0, _ => rfl
  | n + 1, x => by
    show turnN (turn1 x) (n + 1) = turn1 (turnN (turn1 x) n)
    exact turnN_succ n (turn1 x)
/-- a turn is a shift to both sides -/
theorem turnN_eq : ∀ (n x : Nat), x < 4294967296 → n ≤ 32 → turnN x n = x / 2 ^ n + x % 2 ^ n * 2 ^ (32 - n)
  | 0, x, _, _ => by simp [turnN, Nat.mod_one]
  | n + 1, x, h, hn => by
    rw [turnN_succ, turnN_eq n x h (by omega)]
    unfold turn1
    have e1 : 2 ^ (32 - n) = 2 * 2 ^ (32 - (n + 1)) := by rw [← Nat.pow_succ']; congr 1; omega
    have e2 : (2 : Nat) ^ (n + 1) = 2 ^ n * 2 := Nat.pow_succ ..
    have e3 : (2 : Nat) ^ n * 2 ^ (32 - (n + 1)) = 2147483648 := by
      rw [← Nat.pow_add, show n + (32 - (n + 1)) = 31 by omega]
    have hp : 0 < 2 ^ n := Nat.pow_pos (by omega)
    generalize 2 ^ (32 - (n + 1)) = A at *
    generalize 2 ^ n = B at *
    rw [e1, e2, ← Nat.div_div_eq_div_mul, Nat.mod_mul]
    generalize hq : x / B = q
    generalize x % B = r
    have h1 : r * (2 * A) = 2 * (r * A) := by rw [Nat.mul_left_comm]
    have h2 : (r + B * (q % 2)) * A = r * A + q % 2 * 2147483648 := by
      rw [Nat.add_mul, ← e3, Nat.mul_assoc, Nat.mul_left_comm (q % 2) B A]
    rw [h1, h2]
    generalize r * A = z
    omega
/-- a word shifted right -/
def shiftN : Nat → Nat → Nat
  | x, 0 => x
  | x, n + 1 => shiftN (x / 2) n
theorem shiftN_eq : ∀ (n x : Nat), shiftN x n = x / 2 ^ n
  | 0, x => by simp [shiftN]
  | n + 1, x => by
    show shiftN (x / 2) n = _
    rw [shiftN_eq n, Nat.div_div_eq_div_mul, Nat.pow_succ']
theorem shiftN_succ : ∀ (n x : Nat), shiftN x (n + 1) = shiftN x n / 2
  | 0, _ => rfl
  | n + 1, x => by
    show shiftN (x / 2) (n + 1) = shiftN (x / 2) n / 2
    exact shiftN_succ n (x / 2)
/-- the rounds' numbers -/
def kList : List Nat := [
  1116352408, 1899447441, 3049323471, 3921009573, 961987163, 1508970993, 2453635748, 2870763221,
  3624381080, 310598401, 607225278, 1426881987, 1925078388, 2162078206, 2614888103, 3248222580,
  3835390401, 4022224774, 264347078, 604807628, 770255983, 1249150122, 1555081692, 1996064986,
  2554220882, 2821834349, 2952996808, 3210313671, 3336571891, 3584528711, 113926993, 338241895,
  666307205, 773529912, 1294757372, 1396182291, 1695183700, 1986661051, 2177026350, 2456956037,
  2730485921, 2820302411, 3259730800, 3345764771, 3516065817, 3600352804, 4094571909, 275423344,
  430227734, 506948616, 659060556, 883997877, 958139571, 1322822218, 1537002063, 1747873779,
  1955562222, 2024104815, 2227730452, 2361852424, 2428436474, 2756734187, 3204031479, 3329325298]
def kN (i : Nat) : Nat := kList.getD i 0
end Go.Proofs.YtoeblhdddehemaaDoor.Sh

/-
  Contracts of the plain answers' low, turn, shift, K.
-/
namespace Go.Proofs.YtoeblhdddehemaaDoor
set_option maxRecDepth 20000
open Go.RowKit

namespace Sh
theorem ret_u64 {a b : Int} (h : a = b) : Ending.returned (.int .u64 a) = .returned (.int .u64 b) := by rw [h]
theorem low_any (x : Nat) (hx : x < 18446744073709551616) (w : World) :
    Calls Tryd.prog 54 #[.int .u64 x] w fun e w' => e = .returned (.int .u64 (x % 4294967296 : Nat)) ∧ w = w' := by
  go_enter Tryd.func54, Tryd.ntmps54
  go_wp2
  go_ret
  exact ⟨ret_u64 (by omega), rfl⟩

set_option maxHeartbeats 400000 in
theorem turn_any (x n : Nat) (hx : x < 4294967296) (hn : n ≤ 1000) (w : World) :
    Calls Tryd.prog 52 #[.int .u64 x, .int .i64 n] w fun e w' => e = .returned (.int .u64 (turnN x n : Nat)) ∧ w = w' := by
  have HT := Lib.hid (fun k => turnN_lt k x hx)
  have HS := Lib.hid (fun k => turnN_succ k x)
  clear hx
  go_enter Tryd.func52, Tryd.ntmps52
  go_wp2
  go_loop [0, 5] (fun v i => ∃ k : Nat, k ≤ n ∧ i = .int .i64 k ∧ v = .int .u64 (turnN x k : Nat)) (fun _ i => n - (intOf i).toNat)
  case atStart => exact ⟨0, Nat.zero_le _, rfl, rfl⟩
  case round =>
    obtain ⟨k, hk, rfl, rfl⟩ := hrel
    have hy := HT.out k
    have hs := HS.out k
    obtain ⟨y, hye⟩ : ∃ y, turnN x k = y := ⟨_, rfl⟩
    rw [hye] at hy hs ⊢
    have HY := Lib.hid hs
    have HE := Lib.hid hye
    clear hs hye
    by_cases hlt : k < n
    · go_wp2
      go_round
      case rel => exact ⟨k + 1, by omega, by go_num, by rw [HY.out]; unfold turn1; go_num⟩
      case measure => simp [intOf]; omega
    · obtain rfl : k = n := by omega
      go_wp2
      go_ret
      exact ⟨by rw [HE.out]; rfl, rfl⟩

set_option maxHeartbeats 400000 in
theorem shift_any (x n : Nat) (hx : x < 4294967296) (hn : n ≤ 1000) (w : World) :
    Calls Tryd.prog 53 #[.int .u64 x, .int .i64 n] w fun e w' => e = .returned (.int .u64 (shiftN x n : Nat)) ∧ w = w' := by
  have HT : Hid (∀ k, shiftN x k < 4294967296) := Lib.hid (fun k => by rw [shiftN_eq]; exact Nat.lt_of_le_of_lt (Nat.div_le_self _ _) hx)
  have HS := Lib.hid (fun k => shiftN_succ k x)
  clear hx
  go_enter Tryd.func53, Tryd.ntmps53
  go_wp2
  go_loop [0, 5] (fun v i => ∃ k : Nat, k ≤ n ∧ i = .int .i64 k ∧ v = .int .u64 (shiftN x k : Nat)) (fun _ i => n - (intOf i).toNat)
  case atStart => exact ⟨0, Nat.zero_le _, rfl, rfl⟩
  case round =>
    obtain ⟨k, hk, rfl, rfl⟩ := hrel
    have hy := HT.out k
    have hs := HS.out k
    obtain ⟨y, hye⟩ : ∃ y, shiftN x k = y := ⟨_, rfl⟩
    rw [hye] at hy hs ⊢
    have HY := Lib.hid hs
    have HE := Lib.hid hye
    clear hs hye
    by_cases hlt : k < n
    · go_wp2
      go_round
      case rel => exact ⟨k + 1, by omega, by go_num, by rw [HY.out]; go_num⟩
      case measure => simp [intOf]; omega
    · obtain rfl : k = n := by omega
      go_wp2
      go_ret
      exact ⟨by rw [HE.out]; rfl, rfl⟩

/-- the same at a written number -/
theorem turn_c (x n : Nat) (N : Int) (hN : N = n) (hx : x < 4294967296) (hn : n ≤ 1000) (w : World) :
    Calls Tryd.prog 52 #[.int .u64 x, .int .i64 N] w fun e w' => e = .returned (.int .u64 (turnN x n : Nat)) ∧ w = w' := by
  subst hN; exact turn_any x n hx hn w
theorem shift_c (x n : Nat) (N : Int) (hN : N = n) (hx : x < 4294967296) (hn : n ≤ 1000) (w : World) :
    Calls Tryd.prog 53 #[.int .u64 x, .int .i64 N] w fun e w' => e = .returned (.int .u64 (shiftN x n : Nat)) ∧ w = w' := by
  subst hN; exact shift_any x n hx hn w

/-- an operation whose run is known -/
theorem wpList_run {P : Program} {w : World} {ops : Array Oper} {rest : List Oper} {o : Oper} {a : Act} {Q : Exit → Act → World → Prop} (hgd : o.guard = none) (v : Value) (w' : World)
    (hr : (execOp a.eval o).run P w = .ok (.value v) w') (h : wpList P ops Q rest (a.put o.dst v) w') : wpList P ops Q (o :: rest) a w :=
  wpList_plain hgd fun K hK => by
    unfold Oper.wp
    rw [hr]
    exact hK _ _ h
/-- words as cells -/
def wc (l : List Nat) : Array Value := (l.map fun (x : Nat) => Value.int .u64 (x : Int)).toArray
theorem wc_cell (w : World) (l : List Nat) (t : TypeId) (i : Nat) (hi : i < l.length) : (w.alloc (.cells (wc l) t)).cell? ⟨w.heap.size, i, none⟩ = some (.int .u64 (l.getD i 0 : Nat)) := by
  rw [World.cell?_alloc_mark]
  simp [wc, List.getD, hi]
theorem k_len : kList.length = 64 := by decide +kernel

set_option maxRecDepth 100000 in
set_option maxHeartbeats 1000000 in
theorem k_any (i : Nat) (hi : i < 64) (w : World) :
    Calls Tryd.prog 55 #[.int .i64 i] w fun e w' => e = .returned (.int .u64 (kN i : Nat)) ∧ Below w.heap.size w w' := by
  have hc := wc_cell w kList 56 i (by rw [k_len]; exact hi)
  obtain ⟨y, hy⟩ : ∃ y, kN i = y := ⟨_, rfl⟩
  have hy2 : kList.getD i 0 = y := hy
  rw [hy2] at hc
  rw [hy]
  clear hy hy2
  go_enter Tryd.func55, Tryd.ntmps55
  go_wp2_with (refine wpList_run (o := ⟨some 4, _, _, _, _, _⟩) rfl (.slice (some ⟨w.heap.size, 0, none⟩) 64 64) (w.alloc (.cells (wc kList) 56)) (by kernel_rfl) ?_)
  go_ret
  exact ⟨rfl, (Below.refl _ _).alloc (Nat.le_refl _) _⟩
end Sh
end Go.Proofs.YtoeblhdddehemaaDoor

/-
  The sum of a text as numbers: words, rounds, blocks, bytes (no program in it).
-/
namespace Go.Proofs.YtoeblhdddehemaaDoor.Sh
/-- a block's words -/
def wordP (g : Nat → Nat) (i : Nat) : Nat → Nat
  | 0 => 0
  | j + 1 => 256 * wordP g i j + g (4 * i + j)
theorem wordP_lt (g : Nat → Nat) (hg : ∀ q, g q < 256) (i : Nat) : ∀ j, wordP g i j < 256 ^ j
  | 0 => by simp [wordP]
  | j + 1 => by
    have := wordP_lt g hg i j
    have := hg (4 * i + j)
    rw [wordP, Nat.pow_succ]
    omega
def sg0 (x : Nat) : Nat := turnN x 7 ^^^ turnN x 18 ^^^ shiftN x 3
def sg1 (x : Nat) : Nat := turnN x 17 ^^^ turnN x 19 ^^^ shiftN x 10
def nextW (g : Nat → Nat) (l : List Nat) (k : Nat) : Nat :=
  if k < 16 then wordP g k 4 else (l.getD (k - 16) 0 + sg0 (l.getD (k - 15) 0) + l.getD (k - 7) 0 + sg1 (l.getD (k - 2) 0)) % 4294967296
def schW (g : Nat → Nat) : Nat → List Nat
  | 0 => []
  | k + 1 => schW g k ++ [nextW g (schW g k) k]
theorem schW_length (g : Nat → Nat) : ∀ k, (schW g k).length = k
  | 0 => rfl
  | k + 1 => by rw [schW, List.length_append, schW_length g k]; rfl
theorem nextW_lt (g : Nat → Nat) (hg : ∀ q, g q < 256) (l : List Nat) (k : Nat) : nextW g l k < 4294967296 := by
  unfold nextW
  split
  · exact wordP_lt g hg k 4
  · exact Nat.mod_lt _ (by omega)
theorem schW_lt (g : Nat → Nat) (hg : ∀ q, g q < 256) : ∀ k, ∀ x ∈ schW g k, x < 4294967296
  | 0, x, h => by cases h
  | k + 1, x, h => by
    rw [schW] at h
    rcases List.mem_append.1 h with h | h
    · exact schW_lt g hg k x h
    · rw [List.mem_singleton.1 h]; exact nextW_lt g hg _ _
theorem getD_lt {l : List Nat} (h : ∀ x ∈ l, x < 4294967296) (j : Nat) : l.getD j 0 < 4294967296 := by
  by_cases hj : j < l.length
  · rw [List.getD, List.getElem?_eq_getElem hj]; exact h _ (List.getElem_mem hj)
  · rw [List.getD, List.getElem?_eq_none (by omega)]; decide
theorem xor3_lt {a b c : Nat} (ha : a < 4294967296) (hb : b < 4294967296) (hc : c < 4294967296) : a ^^^ b ^^^ c < 4294967296 :=
  Nat.xor_lt_two_pow (n := 32) (Nat.xor_lt_two_pow (n := 32) ha hb) hc
theorem shiftN_lt (x n : Nat) (h : x < 4294967296) : shiftN x n < 4294967296 := by rw [shiftN_eq]; exact Nat.lt_of_le_of_lt (Nat.div_le_self _ _) h
theorem sg0_lt (x : Nat) (h : x < 4294967296) : sg0 x < 4294967296 := xor3_lt (turnN_lt _ _ h) (turnN_lt _ _ h) (shiftN_lt _ _ h)
theorem sg1_lt (x : Nat) (h : x < 4294967296) : sg1 x < 4294967296 := xor3_lt (turnN_lt _ _ h) (turnN_lt _ _ h) (shiftN_lt _ _ h)

theorem kN_lt (k : Nat) : kN k < 4294967296 := getD_lt (by decide +kernel) k
/-- a round -/
def bs1 (e : Nat) : Nat := turnN e 6 ^^^ turnN e 11 ^^^ turnN e 25
def bs0 (a : Nat) : Nat := turnN a 2 ^^^ turnN a 13 ^^^ turnN a 22
def pickN (e f g : Nat) : Nat := (e &&& f) ||| ((4294967295 - e) &&& g)
def mostN (a b c : Nat) : Nat := (a &&& b) ||| (a &&& c) ||| (b &&& c)
theorem bs1_lt (x : Nat) (h : x < 4294967296) : bs1 x < 4294967296 := xor3_lt (turnN_lt _ _ h) (turnN_lt _ _ h) (turnN_lt _ _ h)
theorem bs0_lt (x : Nat) (h : x < 4294967296) : bs0 x < 4294967296 := xor3_lt (turnN_lt _ _ h) (turnN_lt _ _ h) (turnN_lt _ _ h)
theorem pickN_lt (e f g : Nat) (he : e < 4294967296) : pickN e f g < 4294967296 :=
  Nat.or_lt_two_pow (n := 32) (Nat.lt_of_le_of_lt Nat.and_le_left he) (Nat.lt_of_le_of_lt Nat.and_le_left (by omega))
theorem mostN_lt (a b c : Nat) (ha : a < 4294967296) (hb : b < 4294967296) : mostN a b c < 4294967296 :=
  Nat.or_lt_two_pow (n := 32) (Nat.or_lt_two_pow (n := 32) (Nat.lt_of_le_of_lt Nat.and_le_left ha) (Nat.lt_of_le_of_lt Nat.and_le_left ha)) (Nat.lt_of_le_of_lt Nat.and_le_left hb)
def xN (k w e f g h : Nat) : Nat := (h + bs1 e + pickN e f g + k + w) % 4294967296
def yN (a b c : Nat) : Nat := (bs0 a + mostN a b c) % 4294967296
def roundL (k w : Nat) (v : List Nat) : List Nat :=
  [(xN k w (v.getD 4 0) (v.getD 5 0) (v.getD 6 0) (v.getD 7 0) + yN (v.getD 0 0) (v.getD 1 0) (v.getD 2 0)) % 4294967296, v.getD 0 0, v.getD 1 0, v.getD 2 0,
    (v.getD 3 0 + xN k w (v.getD 4 0) (v.getD 5 0) (v.getD 6 0) (v.getD 7 0)) % 4294967296, v.getD 4 0, v.getD 5 0, v.getD 6 0]
def runL (ws : List Nat) (h : List Nat) : Nat → List Nat
  | 0 => h
  | k + 1 => roundL (kN k) (ws.getD k 0) (runL ws h k)
theorem runL_length (ws h : List Nat) (hh : h.length = 8) : ∀ k, (runL ws h k).length = 8
  | 0 => hh
  | _ + 1 => rfl
theorem runL_lt (ws h : List Nat) (hh : ∀ x ∈ h, x < 4294967296) : ∀ k, ∀ x ∈ runL ws h k, x < 4294967296
  | 0 => hh
  | k + 1 => by
    have ih := fun j => getD_lt (runL_lt ws h hh k) j
    intro x hx
    simp only [runL, roundL, List.mem_cons, List.not_mem_nil, or_false] at hx
    rcases hx with rfl | rfl | rfl | rfl | rfl | rfl | rfl | rfl <;> first | exact ih _ | exact Nat.mod_lt _ (by omega)
/-- the state behind a block -/
def addK (h v : List Nat) (k : Nat) : List Nat := (List.range k).map fun i => (h.getD i 0 + v.getD i 0) % 4294967296
def blockL (g : Nat → Nat) (h : List Nat) : List Nat := addK h (runL (schW g 64) h 64) 8
theorem addK_snoc (h v : List Nat) (k : Nat) : addK h v (k + 1) = addK h v k ++ [(h.getD k 0 + v.getD k 0) % 4294967296] := by simp [addK, List.range_succ]
theorem addK_length (h v : List Nat) (k : Nat) : (addK h v k).length = k := by simp [addK]
theorem addK_lt (h v : List Nat) (k : Nat) : ∀ x ∈ addK h v k, x < 4294967296 := by
  intro x hx
  simp only [addK, List.mem_map] at hx
  obtain ⟨_, _, rfl⟩ := hx
  exact Nat.mod_lt _ (by omega)
/-- .. word by word -/
def addM (h v : List Nat) (j : Nat) : List Nat := (List.range 8).map fun i => if i < j then (h.getD i 0 + v.getD i 0) % 4294967296 else h.getD i 0
theorem addM_length (h v : List Nat) (j : Nat) : (addM h v j).length = 8 := by simp [addM]
theorem addM_zero (h v : List Nat) (hh : h.length = 8) : addM h v 0 = h := by
  apply List.ext_getElem
  · rw [addM_length, hh]
  · intro i h1 h2
    simp [addM, List.getD, h2]
theorem addM_all (h v : List Nat) : addM h v 8 = addK h v 8 := by
  unfold addM addK
  apply List.map_congr_left
  intro i hi
  rw [if_pos (List.mem_range.1 hi)]
theorem addM_getD (h v : List Nat) (j : Nat) (hj : j < 8) : (addM h v j).getD j 0 = h.getD j 0 := by simp [addM, List.getD, hj]
theorem addM_set (h v : List Nat) (j : Nat) (hj : j < 8) : (addM h v j).set j ((h.getD j 0 + v.getD j 0) % 4294967296) = addM h v (j + 1) := by
  apply List.ext_getElem
  · simp [addM_length]
  · intro i h1 h2
    rw [addM_length] at h2
    by_cases e : i = j
    · subst e; simp [addM]
    · rw [List.getElem_set_ne (by omega)]
      have : i < j + 1 ↔ i < j := by omega
      simp [addM, this]
theorem eight (l : List Nat) (h : l.length = 8) : ∃ x0 x1 x2 x3 x4 x5 x6 x7, l = [x0, x1, x2, x3, x4, x5, x6, x7] := by
  match l, h with
  | [x0, x1, x2, x3, x4, x5, x6, x7], _ => exact ⟨_, _, _, _, _, _, _, _, rfl⟩
/-- how many zeros fill a text up; the filled text -/
def zerosN (n : Nat) : Nat := (119 - n % 64) % 64
def fillK (l : List UInt8) (k : Nat) : List UInt8 := l ++ [128] ++ List.replicate k 0
def beK (N k : Nat) : List UInt8 := ((List.range k).map fun j => UInt8.ofNat (N / 256 ^ j % 256)).reverse
def fillL (l : List UInt8) : List UInt8 := fillK l (zerosN l.length) ++ beK (8 * l.length) 8
theorem fillK_snoc (l : List UInt8) (k : Nat) : fillK l (k + 1) = fillK l k ++ [0] := by
  simp [fillK, List.replicate_succ']
theorem fillK_length (l : List UInt8) (k : Nat) : (fillK l k).length = l.length + 1 + k := by simp [fillK]; omega
theorem beK_snoc (N k : Nat) : beK N (k + 1) = [UInt8.ofNat (N / 256 ^ k % 256)] ++ beK N k := by
  simp [beK, List.range_succ]
theorem beK_length (N k : Nat) : (beK N k).length = k := by simp [beK]
theorem fillL_length (l : List UInt8) : (fillL l).length = l.length + 9 + zerosN l.length := by simp [fillL, fillK_length, beK_length]; omega
theorem fillL_mod (l : List UInt8) : (fillL l).length % 64 = 0 := by rw [fillL_length]; unfold zerosN; omega
/-- the state at the start, and behind k blocks of a text -/
def start : List Nat := [1779033703, 3144134277, 1013904242, 2773480762, 1359893119, 2600822924, 528734635, 1541459225]
def byteK (t : List UInt8) (k q : Nat) : Nat := (t.getD (64 * k + q) 0).toNat
def hashK (t : List UInt8) : Nat → List Nat
  | 0 => start
  | k + 1 => blockL (byteK t k) (hashK t k)
/-- .. from whatever state on -/
def mixK (t : List UInt8) (h : List Nat) : Nat → List Nat
  | 0 => h
  | k + 1 => blockL (byteK t k) (mixK t h k)
theorem mixK_start (t : List UInt8) : ∀ k, mixK t start k = hashK t k
  | 0 => rfl
  | k + 1 => by rw [mixK, hashK, mixK_start t k]
theorem mixK_length (t : List UInt8) (h : List Nat) (hh : h.length = 8) : ∀ k, (mixK t h k).length = 8
  | 0 => hh
  | _ + 1 => addK_length _ _ _
theorem mixK_lt (t : List UInt8) (h : List Nat) (hh : ∀ x ∈ h, x < 4294967296) : ∀ k, ∀ x ∈ mixK t h k, x < 4294967296
  | 0 => hh
  | _ + 1 => addK_lt _ _ _
theorem wordP_congr {g g' : Nat → Nat} (i : Nat) : ∀ j, (∀ q, q < 4 * i + j → g q = g' q) → wordP g i j = wordP g' i j
  | 0, _ => rfl
  | j + 1, h => by rw [wordP, wordP, wordP_congr i j (fun q hq => h q (by omega)), h _ (by omega)]
theorem schW_congr {g g' : Nat → Nat} (h : ∀ q, q < 64 → g q = g' q) : ∀ k, schW g k = schW g' k
  | 0 => rfl
  | k + 1 => by
    rw [schW, schW, schW_congr h k]
    congr 2
    unfold nextW
    split
    · exact wordP_congr k 4 (fun q hq => h q (by omega))
    · rfl
theorem blockL_congr {g g' : Nat → Nat} (h : ∀ q, q < 64 → g q = g' q) (hs : List Nat) : blockL g hs = blockL g' hs := by
  unfold blockL
  rw [schW_congr h]
/-- the state behind two texts: behind the first one, and from there on -/
theorem mixK_more (t u : List UInt8) (a : Nat) (ht : t.length = 64 * a) (h : List Nat) : ∀ b, mixK (t ++ u) h (a + b) = mixK u (mixK t h a) b
  | 0 => by
    have : ∀ k, k ≤ a → mixK (t ++ u) h k = mixK t h k := by
      intro k
      induction k with
      | zero => intro _; rfl
      | succ k ih =>
        intro hk
        rw [mixK, mixK, ih (by omega)]
        refine blockL_congr (fun q hq => ?_) _
        unfold byteK
        rw [List.getD, List.getD, List.getElem?_append_left (by omega)]
    exact this a (Nat.le_refl _)
  | b + 1 => by
    show mixK (t ++ u) h (a + b + 1) = _
    rw [mixK, mixK, mixK_more t u a ht h b]
    refine blockL_congr (fun q _ => ?_) _
    unfold byteK
    rw [List.getD, List.getD, List.getElem?_append_right (by omega), ht, show 64 * (a + b) + q - 64 * a = 64 * b + q by omega]
theorem hashK_length (t : List UInt8) : ∀ k, (hashK t k).length = 8
  | 0 => rfl
  | _ + 1 => addK_length _ _ _
theorem hashK_lt (t : List UInt8) : ∀ k, ∀ x ∈ hashK t k, x < 4294967296
  | 0 => by show ∀ x ∈ start, x < 4294967296; decide
  | _ + 1 => addK_lt _ _ _
/-- a text's byte at a place -/
def byteAt (s : ByteArray) (q : Nat) : Nat := (s.data.toList.getD q 0).toNat
theorem byteAt_lt (s : ByteArray) (q : Nat) : byteAt s q < 256 := UInt8.toNat_lt _
theorem byteAt_eq (s : ByteArray) (q : Nat) (h : q < s.size) : s[q].toNat = byteAt s q := by
  have hl : q < s.data.toList.length := by simpa using h
  unfold byteAt
  rw [List.getD, List.getElem?_eq_getElem hl]; rfl
/-- a word's byte; the bytes of the state -/
def wByte (h : List Nat) (i : Nat) : Nat := h.getD (i / 4) 0 / 256 ^ (3 - i % 4) % 256
def outK (h : List Nat) (k : Nat) : List UInt8 := (List.range k).map fun i => UInt8.ofNat (wByte h i)
theorem outK_snoc (h : List Nat) (k : Nat) : outK h (k + 1) = outK h k ++ [UInt8.ofNat (wByte h k)] := by simp [outK, List.range_succ]
theorem outK_length (h : List Nat) (k : Nat) : (outK h k).length = k := by simp [outK]
/-- the sum of a text: 32 bytes -/
def sumL (l : List UInt8) : List UInt8 := outK (hashK (fillL l) ((fillL l).length / 64)) 32
theorem sumL_length (l : List UInt8) : (sumL l).length = 32 := outK_length _ _
def abcL : List UInt8 := [0xba, 0x78, 0x16, 0xbf, 0x8f, 0x01, 0xcf, 0xea, 0x41, 0x41, 0x40, 0xde, 0x5d, 0xae, 0x22, 0x23, 0xb0, 0x03, 0x61, 0xa3, 0x96, 0x17, 0x7a, 0x9c, 0xb4, 0x10, 0xff, 0x61, 0xf2, 0x00, 0x15, 0xad]
theorem sum_abc : sumL [97, 98, 99] = abcL := by decide +kernel
end Go.Proofs.YtoeblhdddehemaaDoor.Sh

/-
  Contracts of the plain answers' Fill and Hex.
-/
namespace Go.Proofs.YtoeblhdddehemaaDoor
set_option maxRecDepth 20000
open Go.RowKit

namespace Sh
/-- a new slice of one byte, as a text -/
theorem conv_one (v : Int) (x : Nat) (hx : x < 256) (hv : v = x) (w : World) :
    Sem.run Tryd.prog (convert 42 9 (Value.slice (some ⟨w.heap.size, 0, none⟩) 1 1)) (w.alloc (.cells #[.int .u8 v] 5)) = .ok (.string ⟨#[UInt8.ofNat x]⟩) (w.alloc (.cells #[.int .u8 v] 5)) := by
  subst hv
  have h := run_convert_bytes_back (P := Tryd.prog) (w.alloc (.cells #[.int .u8 x] 5)) 42 9 5 ⟨w.heap.size, 0, none⟩ 1 [UInt8.ofNat x] Tryd.underlying42 Tryd.underlying5 Tryd.underlying9
    (fun j hj => by
      obtain rfl : j = 0 := by simpa using hj
      have e : (UInt8.ofNat x).toNat = x := by simp; omega
      simp [Addr.add, e])
  exact h
theorem ba_cat (x y : List UInt8) : (⟨x.toArray⟩ : ByteArray) ++ ⟨y.toArray⟩ = ⟨(x ++ y).toArray⟩ := by
  have h : ((⟨x.toArray⟩ : ByteArray) ++ ⟨y.toArray⟩).data = (x ++ y).toArray := by
    rw [ByteArray.data_append]; simp
  cases e : ((⟨x.toArray⟩ : ByteArray) ++ ⟨y.toArray⟩) with
  | mk d => rw [e] at h; simp only at h; rw [h]
theorem ba_size (x : List UInt8) : (⟨x.toArray⟩ : ByteArray).size = x.length := by show x.toArray.size = _; simp

set_option maxHeartbeats 1000000 in
theorem fill_any (l : List UInt8) (hl : l.length ≤ 1000000) (w : World) :
    Calls Tryd.prog 33 #[.string ⟨l.toArray⟩] w fun e w' => e = .returned (.string ⟨(fillL l).toArray⟩) ∧ Below w.heap.size w w' := by
  obtain ⟨s, hs⟩ : ∃ s, (⟨l.toArray⟩ : ByteArray) = s := ⟨_, rfl⟩
  have hsz : s.size = l.length := by rw [← hs, ba_size]
  have HST : Hid (s ++ ⟨#[128]⟩ = ⟨(fillK l 0).toArray⟩) := Lib.hid (by rw [← hs]; exact (ba_cat l [128]).trans (by simp [fillK]))
  have hle : s.size ≤ 1000000 := by omega
  rw [hs]
  have HZ := Lib.hid hsz
  clear hs hsz
  go_enter Tryd.func33, Tryd.ntmps33
  go_wp2
  go_loop [3] (fun t => ∃ k : Nat, Hid (k ≤ zerosN l.length) ∧ t = .string ⟨(fillK l k).toArray⟩) (fun t => match t with | .string b => 1100000 - b.size | _ => 0)
  case atStart => exact ⟨0, Lib.hid (Nat.zero_le _), by rw [HST.out]⟩
  case round =>
    obtain ⟨k, HK, rfl⟩ := hrel
    have hz : zerosN l.length < 64 := Nat.mod_lt _ (by omega)
    have hk := HK.out
    have hsz : (⟨(fillK l k).toArray⟩ : ByteArray).size = l.length + 1 + k := by rw [ba_size, fillK_length]
    have HN : Hid ((⟨(fillK l k).toArray⟩ : ByteArray) ++ ⟨#[0]⟩ = ⟨(fillK l (k + 1)).toArray⟩) := Lib.hid (by rw [fillK_snoc]; exact ba_cat _ [0])
    have HZ2 : Hid ((⟨(fillK l (k + 1)).toArray⟩ : ByteArray).size = l.length + 1 + (k + 1)) := Lib.hid (by rw [ba_size, fillK_length])
    by_cases hlt : k < zerosN l.length
    · have hne : (((l.length + 1 + k : Nat) : Int) % 64 != 56) = true := by
        unfold zerosN at hlt; simp; omega
      obtain ⟨T, hT⟩ : ∃ T, (⟨(fillK l k).toArray⟩ : ByteArray) = T := ⟨_, rfl⟩
      obtain ⟨L, hL⟩ : ∃ L, l.length + 1 + k = L := ⟨_, rfl⟩
      rw [hT] at hsz HN ⊢
      rw [hL] at hsz hne
      have hLb : L ≤ 1000100 := by have := HZ.out; omega
      have HL := Lib.hid hL
      have HLt := Lib.hid hlt
      clear hT hL hk hlt hz
      go_wp2
      go_round
      case rel => exact ⟨k + 1, Lib.hid (by have := HLt.out; omega), by rw [HN.out]⟩
      case measure =>
        show 1100000 - (T ++ ⟨#[0]⟩ : ByteArray).size < 1100000 - T.size
        rw [HN.out, HZ2.out, hsz]
        have := HL.out
        omega
    · have hkz : k = zerosN l.length := by omega
      have hne : (((l.length + 1 + k : Nat) : Int) % 64 != 56) = false := by
        rw [hkz]; unfold zerosN; simp; omega
      obtain ⟨T, hT⟩ : ∃ T, (⟨(fillK l k).toArray⟩ : ByteArray) = T := ⟨_, rfl⟩
      obtain ⟨L, hL⟩ : ∃ L, l.length + 1 + k = L := ⟨_, rfl⟩
      have HT : Hid (T ++ ⟨(beK (8 * l.length) 8).toArray⟩ = ⟨(fillL l).toArray⟩) := Lib.hid (by
        rw [← hT, ba_cat, hkz]; rfl)
      rw [hT] at hsz ⊢
      rw [hL] at hsz hne
      have hLb : L ≤ 1000100 := by have := HZ.out; omega
      clear hT hL hk hlt hz HN HZ2 hkz HK HST
      go_wp2
      go_loopw [4, 5, 6] (fun n d i wr => ∃ j : Nat, j ≤ 8 ∧ i = .int .i64 j ∧ n = .int .u64 (8 * s.size / 256 ^ j : Nat) ∧ d = .string ⟨(beK (8 * s.size) j).toArray⟩ ∧ Below w.heap.size w wr) (fun _ _ i _ => 8 - (intOf i).toNat)
      case atStart => exact ⟨0, Nat.zero_le _, rfl, by simp, rfl, Below.refl _ _⟩
      case round =>
        obtain ⟨j, hj, rfl, rfl, rfl, hB⟩ := hrel
        obtain ⟨m, hm⟩ : ∃ m, 8 * s.size / 256 ^ j = m := ⟨_, rfl⟩
        have hm64 : m < 18446744073709551616 := by
          rw [← hm]; exact Nat.lt_of_le_of_lt (Nat.div_le_self _ _) (by omega)
        have HD : Hid (8 * s.size / 256 ^ (j + 1) = m / 256) := Lib.hid (by rw [Nat.pow_succ, ← Nat.div_div_eq_div_mul, hm])
        have HS : Hid ((⟨#[UInt8.ofNat (m % 256)]⟩ : ByteArray) ++ ⟨(beK (8 * s.size) j).toArray⟩ = ⟨(beK (8 * s.size) (j + 1)).toArray⟩) := Lib.hid (by
          rw [beK_snoc, hm]; exact ba_cat [_] _)
        have hEs : (⟨(beK (8 * s.size) j).toArray⟩ : ByteArray).size ≤ 8 := by rw [ba_size, beK_length]; exact hj
        obtain ⟨E, hE⟩ : ∃ E, (⟨(beK (8 * s.size) j).toArray⟩ : ByteArray) = E := ⟨_, rfl⟩
        obtain ⟨C, hC⟩ : ∃ C, (⟨#[UInt8.ofNat (m % 256)]⟩ : ByteArray) = C := ⟨_, rfl⟩
        have hCs : C.size ≤ 1 := by rw [← hC]; exact Nat.le_refl _
        have hcv := conv_one ((m : Int) % 256) (m % 256) (by omega) (by omega) wr
        rw [hC] at hcv HS
        rw [hE] at HS hEs
        rw [hm, hE]
        have HE := Lib.hid hE
        clear hm hE hC
        by_cases hlt : j < 8
        · go_wp2
          go_roundw
          case rel => exact ⟨j + 1, by omega, by go_num, by rw [HD.out]; go_num, by rw [HS.out], hB.alloc hB.size _⟩
          case measure => simp [intOf]; omega
        · obtain rfl : j = 8 := by omega
          have HF : Hid (T ++ E = ⟨(fillL l).toArray⟩) := Lib.hid (by rw [← HT.out, ← HE.out, HZ.out])
          clear hcv
          go_wp2
          go_ret
          exact ⟨by rw [← HF.out]; rfl, hB⟩

/-- two digits a byte -/
def hexD (x : Nat) : UInt8 := UInt8.ofNat (if x < 10 then 48 + x else 87 + x)
def hexK (l : List UInt8) (k : Nat) : List UInt8 := (l.take k).flatMap fun b => [hexD (b.toNat / 16), hexD (b.toNat % 16)]
theorem hexK_snoc (l : List UInt8) (k : Nat) (h : k < l.length) : hexK l (k + 1) = hexK l k ++ [hexD ((l.getD k 0).toNat / 16), hexD ((l.getD k 0).toNat % 16)] := by
  have e : l.getD k 0 = l[k] := by rw [List.getD, List.getElem?_eq_getElem h]; rfl
  have t : l.take (k + 1) = l.take k ++ [l[k]] := List.take_succ_eq_append_getElem h
  unfold hexK
  rw [t, e, List.flatMap_append, List.flatMap_cons, List.flatMap_nil, List.append_nil]
theorem hexK_length (l : List UInt8) (k : Nat) (h : k ≤ l.length) : (hexK l k).length = 2 * k := by
  induction k with
  | zero => rfl
  | succ k ih => rw [hexK_snoc l k (by omega), List.length_append, ih (by omega)]; simp; omega
theorem dig_cut : ∀ x : Fin 16, (⟨#[48, 49, 50, 51, 52, 53, 54, 55, 56, 57, 97, 98, 99, 100, 101, 102]⟩ : ByteArray).extract (x : Nat) ((x : Nat) + 1) = ⟨#[hexD x]⟩ := by decide +kernel

end Sh
end Go.Proofs.YtoeblhdddehemaaDoor

/-
  Contracts of sum.right, sum.lay, sum.end.
-/
namespace Go.Proofs.YtoeblhdddehemaaDoor
set_option maxRecDepth 20000
open Go.RowKit

namespace Sm
open Sh
theorem ret_u32 {a b : Int} (h : a = b) : Ending.returned (.int .u32 a) = .returned (.int .u32 b) := by rw [h]
theorem rot_and (n : Nat) (h1 : 1 ≤ n) (h2 : n ≤ 31) : bits .and .u64 (IntKind.u64.wrap (-(n : Int))) 31 = 32 - (n : Int) := by
  have e : IntKind.u64.wrap (-(n : Int)) = ((18446744073709551616 - n : Nat) : Int) := by rw [IntKind.wrap_u64]; omega
  rw [e, show (31 : Int) = ((31 : Nat) : Int) from rfl, u64_and_nat _ _ (by omega) (by omega), nat_mask5]
  omega
/-- shifted left and right, and joined -/
theorem rot_or (x n : Nat) (hx : x < 4294967296) (h2 : n ≤ 31) :
    bits .or .u32 ((x : Int) * 2 ^ (32 - n) % 4294967296) ((x : Int) / 2 ^ (32 - (32 - n))) = (turnN x n : Nat) := by
  have e0 : 32 - (32 - n) = n := by omega
  have hp : 2 ^ n * 2 ^ (32 - n) = 4294967296 := by rw [← Nat.pow_add, show n + (32 - n) = 32 by omega]
  have e1 : x * 2 ^ (32 - n) % 4294967296 = x % 2 ^ n * 2 ^ (32 - n) := by rw [← hp, Nat.mul_mod_mul_right]
  have hb : x / 2 ^ n < 2 ^ (32 - n) := by
    rw [Nat.div_lt_iff_lt_mul (Nat.pow_pos (by omega)), Nat.mul_comm, hp]; exact hx
  have ha : x * 2 ^ (32 - n) % 4294967296 < 4294967296 := Nat.mod_lt _ (by omega)
  have c1 : ((x : Int) * 2 ^ (32 - n) % 4294967296) = ((x * 2 ^ (32 - n) % 4294967296 : Nat) : Int) := by simp
  have c2 : ((x : Int) / 2 ^ n) = ((x / 2 ^ n : Nat) : Int) := by simp
  rw [e0, c1, c2, u32_or_nat _ _ ha (Nat.lt_of_le_of_lt (Nat.div_le_self _ _) hx), e1, nat_join (32 - n) _ _ (Nat.mul_mod_left _ _) hb, turnN_eq n x hx (by omega), Nat.add_comm]

set_option maxHeartbeats 400000 in
theorem rot_any (x n : Nat) (hx : x < 4294967296) (h1 : 1 ≤ n) (h2 : n ≤ 31) (w : World) :
    Calls Tryd.prog 105 #[.int .u32 x, .int .i64 (-(n : Int))] w fun e w' => e = .returned (.int .u32 (turnN x n : Nat)) ∧ w = w' := by
  have hA := rot_and n h1 h2
  have HO := Lib.hid (rot_or x n hx h2)
  go_enter Tryd.func105, Tryd.ntmps105
  go_wp2
  go_ret
  exact ⟨ret_u32 HO.out, rfl⟩

theorem right_any (x n : Nat) (N : Int) (hN : N = n) (hx : x < 4294967296) (h1 : 1 ≤ n) (h2 : n ≤ 31) (w : World) :
    Calls Tryd.prog 91 #[.int .u32 x, .int .i64 N] w fun e w' => e = .returned (.int .u32 (turnN x n : Nat)) ∧ w = w' := by
  subst hN
  have HR := Lib.hid (rot_any x n hx h1 h2)
  go_enter Tryd.func91, Tryd.ntmps91
  go_wp2_with (go_at_call 105; refine (HR.out _).mono ?_; rintro e w1 ⟨rfl, rfl⟩)
  go_ret
  exact ⟨rfl, rfl⟩

/-- a number's byte at a place, the upper one first -/
def upB (m n k : Nat) : Nat := n / 256 ^ (m - 1 - k) % 256
/-- the world behind k bytes that were laid -/
def laidN (w : World) (g off m n : Nat) : Nat → World
  | 0 => w
  | k + 1 => (laidN w g off m n k).setCell ⟨g, off + k, none⟩ (.int .u8 (upB m n k : Nat))
theorem laidN_row {w : World} {g off m n N : Nat} {t : TypeId} {f : Nat → Value} (h : w.rowIs g t N f) : ∀ k, (laidN w g off m n k).rowIs g t N (fun j => if off ≤ j ∧ j < off + k then .int .u8 (upB m n (j - off) : Nat) else f j)
  | 0 => h.congr (fun j _ => by rw [if_neg (by omega)])
  | k + 1 => ((laidN_row h k).set (off + k) _).congr (fun j _ => by
    by_cases e : j = off + k
    · subst e; simp
    · by_cases e2 : off ≤ j ∧ j < off + k
      · rw [if_neg e, if_pos e2, if_pos (by omega)]
      · rw [if_neg e, if_neg e2, if_neg (by omega)])
theorem laidN_below {B : Nat} {w0 w : World} (h : Below B w0 w) {g off m n : Nat} (hg : B ≤ g) : ∀ k, Below B w0 (laidN w g off m n k)
  | 0 => h
  | k + 1 => (laidN_below h hg k).setCell (p := ⟨g, off + k, none⟩) hg _
theorem laidN_block {w : World} {g off m n b : Nat} (hb : b ≠ g) : ∀ k, (laidN w g off m n k).heap[b]? = w.heap[b]?
  | 0 => rfl
  | k + 1 => (heap_setCell_other _ ⟨g, off + k, none⟩ _ _ hb).trans (laidN_block hb k)
theorem laidN_size {w : World} {g off m n : Nat} : ∀ k, (laidN w g off m n k).heap.size = w.heap.size
  | 0 => rfl
  | k + 1 => by
    rw [laidN]
    simp [laidN_size k]

set_option maxHeartbeats 1000000 in
theorem lay_any (g off m c n N : Nat) (t : TypeId) (f : Nat → Value) (w : World) (h : w.rowIs g t N f) (hm : off + m ≤ N) (hm8 : m ≤ 8) :
    Calls Tryd.prog 42 #[.slice (some ⟨g, off, none⟩) m c, .int .u64 n] w fun e w' => e = .returned (.tuple #[]) ∧ w' = laidN w g off m n m := by
  have HROW := Lib.hid (fun k => laidN_row (off := off) (m := m) (n := n) h k)
  clear h
  go_enter Tryd.func42, Tryd.ntmps42
  go_wp2
  go_loopw [7] (fun i wr => ∃ k : Nat, k ≤ m ∧ i = .int .i64 k ∧ wr = laidN w g off m n k) (fun i _ => m - (intOf i).toNat)
  case atStart => exact ⟨0, Nat.zero_le _, rfl, rfl⟩
  case round =>
    obtain ⟨k, hk, rfl, rfl⟩ := hrel
    by_cases hlt : k < m
    · have hr := HROW.out k
      have hc := hr.cell (i := off + k) (by omega)
      rw [if_neg (by omega)] at hc
      have hf := hr.frozen (off + k)
      clear hr
      have HN : Hid ((laidN w g off m n k).setCell ⟨g, off + k, none⟩ (.int .u8 (upB m n k : Nat)) = laidN w g off m n (k + 1)) := Lib.hid rfl
      obtain ⟨wk, hwk⟩ : ∃ wk, laidN w g off m n k = wk := ⟨_, rfl⟩
      rw [hwk] at hc hf HN ⊢
      clear hwk
      go_wp2
      have HE : ((n : Int) / 2 ^ (8 * (m - 1 - k)) % 256) = (upB m n k : Nat) := by
        unfold upB
        rw [show 2 ^ (8 * (m - 1 - k)) = ((256 ^ (m - 1 - k) : Nat) : Int) by rw [Int.natCast_pow, show ((256 : Nat) : Int) = 2 ^ 8 from rfl, ← Int.pow_mul]]
        simp
      go_roundw
      case rel => exact ⟨k + 1, by omega, by go_num, by rw [HE, HN.out]⟩
      case measure => simp [intOf]; omega
    · obtain rfl : k = m := by omega
      have HW : Hid (laidN w g off k n k = laidN w g off k n k) := Lib.hid rfl
      obtain ⟨wk, hwk⟩ : ∃ wk, laidN w g off k n k = wk := ⟨_, rfl⟩
      have HWK := Lib.hid hwk
      rw [hwk]
      clear HROW hwk HW
      go_wp2
      go_end0
      exact ⟨rfl, HWK.out.symm⟩

/-- what stands behind a text of n bytes -/
def endL (n : Nat) : List UInt8 := [128] ++ List.replicate (zerosN n) 0 ++ beK (8 * n) 8
theorem fillL_end (l : List UInt8) : fillL l = l ++ endL l.length := by simp [fillL, fillK, endL]
theorem endL_length (n : Nat) : (endL n).length = zerosN n + 9 := by simp [endL, beK_length]
theorem beK_getD (n j : Nat) (h : j < 8) : ((beK n 8).getD j 0).toNat = upB 8 n j := by
  unfold upB
  have : (beK n 8).getD j 0 = UInt8.ofNat (n / 256 ^ (7 - j) % 256) := by
    unfold beK
    rw [List.getD, List.getElem?_reverse (by simpa using h)]
    simp only [List.length_map, List.length_range, List.getElem?_map]
    rw [List.getElem?_range (by omega)]
    simp only [Option.map_some, Option.getD_some]
  rw [this]
  simp
theorem endL_getD (n j : Nat) (h : j < zerosN n + 9) : ((endL n).getD j 0).toNat = if j = 0 then 128 else if 1 + zerosN n ≤ j then upB 8 (8 * n) (j - (1 + zerosN n)) else 0 := by
  unfold endL
  by_cases h0 : j = 0
  · subst h0; simp
  · rw [if_neg h0]
    by_cases h1 : 1 + zerosN n ≤ j
    · rw [if_pos h1, List.getD, List.getElem?_append_right (by simp; omega)]
      rw [← beK_getD _ _ (by omega), List.getD]
      congr 3
      simp
      omega
    · rw [if_neg h1, List.getD, List.getElem?_append_left (by simp; omega), List.getElem?_append_right (by simp; omega)]
      simp only [List.length_singleton, List.getElem?_replicate]
      rw [if_pos (by omega)]
      rfl

set_option maxHeartbeats 1000000 in
theorem end_any (n : Nat) (hn : n ≤ 1000000) (w : World) :
    Calls Tryd.prog 41 #[.int .i64 n] w fun e w' => e = .returned (.string ⟨(endL n).toArray⟩) ∧ Below w.heap.size w w' := by
  have hz : zerosN n < 64 := Nat.mod_lt _ (by omega)
  obtain ⟨z, hze⟩ : ∃ z, zerosN n = z := ⟨_, rfl⟩
  obtain ⟨m, hm⟩ : ∃ m, z + 9 = m := ⟨_, rfl⟩
  have hmk := run_make_row' (P := Tryd.prog) 42 5 (.int .u8 0) 1 Tryd.underlying42 Bu.info_byte rfl .i64 .i64 m (by omega) (by omega)
  have e : ((m : Nat) : Int) = 1 + (z : Int) + 8 := by omega
  rw [e] at hmk
  have hr : (w.alloc (.cells ((madeCells #[Value.int IntKind.u8 0] m).setIfInBounds 0 (.int .u8 128)) 5)).rowIs w.heap.size 5 m (fun j => if j = 0 then .int .u8 128 else .int .u8 0) := by
    have h0 := (World.rowIs_made w (.int .u8 0) m 5).set 0 (.int .u8 128)
    rw [World.setCell_alloc_at _ _ _ _ _ rfl] at h0
    exact h0
  have hm8 : m - (1 + z) = 8 := by omega
  have hc0 := (World.rowIs_made w (.int .u8 0) m 5).cell (i := 0) (by omega)
  have hf0 := (World.rowIs_made w (.int .u8 0) m 5).frozen 0
  have HL := lay_any w.heap.size (1 + z) (m - (1 + z)) (m - (1 + z)) (8 * n) m 5 _ _ hr (by omega) (by omega)
  rw [show ((8 * n : Nat) : Int) = 8 * (n : Int) by omega] at HL
  have HL := Lib.hid HL
  have hR := laidN_row (off := 1 + z) (m := m - (1 + z)) (n := 8 * n) hr (m - (1 + z))
  have hB := laidN_below (g := w.heap.size) (off := 1 + z) (m := m - (1 + z)) (n := 8 * n) ((Below.refl w.heap.size w).alloc (Nat.le_refl _) (.cells ((madeCells #[Value.int IntKind.u8 0] m).setIfInBounds 0 (.int .u8 128)) 5)) (Nat.le_refl _) (m - (1 + z))
  obtain ⟨W, hW⟩ : ∃ W, laidN (w.alloc (.cells ((madeCells #[Value.int IntKind.u8 0] m).setIfInBounds 0 (.int .u8 128)) 5)) w.heap.size (1 + z) (m - (1 + z)) (8 * n) (m - (1 + z)) = W := ⟨_, rfl⟩
  rw [hW] at hR hB HL
  have hI : IsBs W (some ⟨w.heap.size, 0, none⟩) m m (endL n) := by
    refine IsBs.ofRow (endL n) (by unfold maxLen; omega) hR (by rw [endL_length, hze, hm]) (fun j hj => ?_)
    rw [endL_getD n j (by omega), hze, hm8]
    by_cases h0 : j = 0
    · subst h0; simp
    · by_cases h1 : 1 + z ≤ j
      · rw [if_pos ⟨h1, by omega⟩, if_neg h0, if_pos h1]
      · rw [if_neg (by omega), if_neg h0, if_neg h0, if_neg h1]; rfl
  have hcv := conv_bs hI
  have hzi : (119 - (n : Int) % 64) % 64 = z := by unfold zerosN at hze; omega
  clear hr e hR hI hW hze hm8
  go_enter Tryd.func41, Tryd.ntmps41
  go_wp2_with fail
  refine HL.out.mono ?_
  rintro e w1 ⟨rfl, rfl⟩
  clear hmk hc0 hf0
  go_wp2
  go_ret
  exact ⟨rfl, hB⟩
end Sm
end Go.Proofs.YtoeblhdddehemaaDoor

/-
  Contracts of bytes.Compare and of nib.Less.
-/
namespace Go.Proofs.YtoeblhdddehemaaDoor
open Go.RowKit

namespace Ni
/-- the bytes of a slice, as the model's entry reads them -/
theorem read_bs {w : World} {a : Option Addr} {n cap : Nat} {l : List UInt8} (h : IsBs w a n cap l) :
    (Extern.Bytes.bytesOf (.slice a n cap)).run Tryd.prog w = .ok ⟨l.toArray⟩ w := by
  have hl := h.len
  rcases a with _ | ad
  · obtain ⟨rfl, rfl, rfl⟩ := h.capNone
    rfl
  · have := Lib.run_loadBytesX (P := Tryd.prog) w (l.map fun b => (b.toNat : Int)) ad .empty (fun j x hj => by
      have hj' : j < n := by
        rcases Nat.lt_or_ge j n with h' | h'
        · exact h'
        · rw [List.getElem?_eq_none (by simp [hl]; exact h')] at hj; cases hj
      obtain ⟨b, off, e, _, hc⟩ := h.at' j hj'
      injection e with e
      subst e
      have e2 : (⟨b, off, none⟩ : Addr).add j = ⟨b, off + j, none⟩ := by unfold Addr.add; split <;> simp_all
      rw [e2, hc]
      have e3 : (l.map fun b => (b.toNat : Int))[j]? = some ((l.getD j 0).toNat : Int) := by simp [List.getD, hl, hj']
      rw [e3] at hj
      injection hj with hj
      rw [hj])
    rw [List.length_map, hl] at this
    show (Extern.Bytes.loadBytes ad n .empty).run Tryd.prog w = _
    rw [this]
    have e : Lib.bytesOf (l.map fun b => (b.toNat : Int)) = l := by
      unfold Lib.bytesOf
      rw [List.map_map]
      conv => rhs; rw [← List.map_id l]
      apply List.map_congr_left
      intro b _
      simp
    rw [e]
    have e4 : (ByteArray.empty.data ++ l.toArray) = l.toArray := by simp
    rw [e4]

theorem cmp_less : ∀ x y : List UInt8, decide (Lib.compareBytes x y < 0) = Op.bytesLess x y
  | [], [] => rfl
  | [], _ :: _ => rfl
  | _ :: _, [] => rfl
  | a :: x, b :: y => by
    have ih := cmp_less x y
    unfold Lib.compareBytes Op.bytesLess
    by_cases h1 : a < b
    · simp [h1]
    · by_cases h2 : b < a
      · have : ¬ a = b := by rintro rfl; exact UInt8.lt_irrefl _ h2
        simp [h1, h2, this]
      · have : a = b := by
          apply UInt8.toNat_inj.1
          have := UInt8.not_lt.1 h1; have := UInt8.not_lt.1 h2
          rw [UInt8.le_iff_toNat_le] at *
          omega
        subst this
        simp [ih]

end Ni
end Go.Proofs.YtoeblhdddehemaaDoor
