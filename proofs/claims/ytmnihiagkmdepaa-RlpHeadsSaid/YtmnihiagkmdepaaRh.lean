/-
  The contract of slices.Clone over items.
-/
import Derived.Test.YtmnihiagkmdepaaIt
import Derived.Test.YtmnihiagkmdepaaConcat
import Derived.Test.YtmnihiagkmdepaaRegion
namespace Go.Proofs.Ytmnihiagkmdepaa
open Go.RowKit

namespace Rl
theorem info_it : (Try.prog.info? 24).map (fun i => (i.size, i.bytes)) = some (3, 48) := by kernel_rfl
theorem info_it_zero : ((Try.prog.info? 24).bind (·.zero)).isSome = true := by kernel_rfl
theorem info_it_cells : ((Try.prog.info? 24).bind (·.zero)).map (·.cells.size) = some 3 := by kernel_rfl
theorem info_it_parts : ∃ i z, Try.prog.info? 24 = some i ∧ i.zero = some z ∧ i.size = 3 ∧ i.bytes = 48 ∧ z.cells.size = 3 := by
  have h1 := info_it
  have h2 := info_it_zero
  have h3 := info_it_cells
  cases hi : Try.prog.info? 24 with
  | none => rw [hi] at h1; simp at h1
  | some i =>
    rw [hi] at h1 h2 h3
    simp at h1 h2 h3
    cases hz : i.zero with
    | none => rw [hz] at h2; simp at h2
    | some z =>
      rw [hz] at h3
      simp at h3
      exact ⟨i, z, rfl, hz, h1.1, h1.2, h3⟩

/-- one of an item's three cells -/
def OneOf : Value → Prop
  | .bool _ | .string _ | .slice _ _ _ => True
  | _ => False
theorem OneOf.one {v : Value} (h : OneOf v) : v.oneCell' = true := by
  cases v <;> first | rfl | exact h.elim
/-- the cells of a slice of items, one behind the other -/
theorem cells_of {w : World} {xs : List It} {ad : Addr} {n cap : Nat} (h : IsIts w xs (some ad) n cap) (i : Nat) (hi : i < n * 3) : ∃ v, w.cell? (ad.add i) = some v ∧ OneOf v := by
  obtain ⟨x, b, off, A, N, C, _, e, _, ⟨c0, c1, c2⟩, _⟩ := h.at' (i / 3) (by omega)
  obtain rfl := Option.some.inj e
  rw [Addr.add_mid]
  have h3 : i % 3 = 0 ∨ i % 3 = 1 ∨ i % 3 = 2 := by omega
  rcases h3 with h3 | h3 | h3
  · exact ⟨.bool x.l, (by rw [← c0]; congr 2; omega), True.intro⟩
  · exact ⟨.string x.s, (by rw [← c1]; congr 2; omega), True.intro⟩
  · exact ⟨.slice A N C, (by rw [← c2]; congr 2; omega), True.intro⟩

/-- a new slice whose elements' cells are those of the old one -/
def GotClone (w : World) (ad : Addr) (n : Nat) (e : Ending) (w' : World) : Prop :=
  ∃ g cap f, e = .returned (.slice (some ⟨g, 0, none⟩) n cap) ∧ w.heap.size ≤ g ∧ n ≤ cap ∧ cap ≤ maxLen ∧ w'.rowIs g 24 (cap * 3) f ∧ (∀ i, i < n * 3 → w.cell? (ad.add i) = some (f i)) ∧ Below w.heap.size w w'

theorem nil_nil (w : World) : (binOp .eql 22 (.slice none 0 0) (.slice none 0 0)).run Try.prog w = .ok (.bool true) w := by kernel_rfl
theorem some_nil (a : Addr) (n cap : Nat) (w : World) : (binOp .eql 22 (.slice (some a) n cap) (.slice none 0 0)).run Try.prog w = .ok (.bool false) w := by kernel_rfl
theorem clone_nil (w : World) : Calls Try.prog 31 #[.slice none 0 0] w fun e w' => e = .returned (.slice none 0 0) ∧ w = w' := by
  have hnil := nil_nil
  go_enter Try.func31, Try.ntmps31
  go_wp2
  go_ret
  exact ⟨rfl, rfl⟩

theorem got_of_owns {w w' : World} {ad : Addr} {n : Nat} {v : Value} {news : List Value} (ho : w'.ownsRow w.heap.size 24 3 v n news) (hne : v ≠ .slice none 0 0) (hc : ∀ i u, news[i]? = some u → w.cell? (ad.add i) = some u) (hb : Below w.heap.size w w') :
    GotClone w ad n (.returned v) w' := by
  rcases ho.2 with ⟨rfl, hz⟩ | ⟨g, cap, cur, rfl, hbg, hg, hnc, hcm, hcs, htake⟩
  · exact absurd rfl hne
  · refine ⟨g, cap, fun j => cur.getD j undef, rfl, hbg, hnc, hcm, ⟨cur, hg, hcs, fun i hi => ?_⟩, fun i hi => ?_, hb⟩
    · have : i < cur.size := by omega
      simp [this]
    · have hlt : i < cur.size := by
        have : n * 3 ≤ cap * 3 := Nat.mul_le_mul_right 3 hnc
        omega
      apply hc
      rw [← htake, List.getElem?_take, if_pos hi]
      simp [hlt]

set_option maxHeartbeats 2000000 in
theorem clone_any (xs : List It) (ad : Addr) (n cap : Nat) (w : World) (h : IsIts w xs (some ad) n cap) :
    Calls Try.prog 31 #[.slice (some ad) n cap] w (GotClone w ad n) := by
  obtain ⟨i0, z0, hi, hz, hs, hby, hzc⟩ := info_it_parts
  have HI : Hid (_ ∧ _ ∧ _ ∧ _ ∧ _) := Lib.hid ⟨hi, hz, hs, hby, hzc⟩
  obtain ⟨news, hl, hc, h1⟩ : ∃ news : List Value, news.length = n * 3 ∧ (∀ i u, news[i]? = some u → w.cell? (ad.add i) = some u) ∧ ∀ u ∈ news, u.oneCell' = true := by
    refine ⟨(List.range (n * 3)).map fun i => (w.cell? (ad.add i)).getD undef, by simp, fun i u hu => ?_, fun u hu => ?_⟩
    · by_cases hi : i < n * 3
      · obtain ⟨v, hv, _⟩ := cells_of h i hi
        simp [hi, hv] at hu
        rw [hv, hu]
      · simp [hi] at hu
    · simp at hu
      obtain ⟨i, hi, rfl⟩ := hu
      obtain ⟨v, hv, ho⟩ := cells_of h i hi
      rw [hv]
      exact ho.one
  have hfew := h.few
  have HN : Hid (_ ∧ _ ∧ _) := Lib.hid ⟨hl, hc, h1⟩
  have hlt : ∀ j, j < n * 3 → (ad.add j).block < w.heap.size := fun j hj => by
    obtain ⟨v, hv, _⟩ := cells_of h j hj
    exact World.block_lt_of_cell? w _ hv
  have HLt := Lib.hid hlt
  have hnil := some_nil ad n cap
  clear hi hz hs hby hzc hl hc h1 h hlt
  go_enter Try.func31, Try.ntmps31
  have HO : Hid ((w.alloc (.cells #[] 24)).ownsRow w.heap.size 24 3 (.slice (some ⟨w.heap.size, 0, none⟩) 0 0) 0 []) := Lib.hid (World.ownsRow_made w #[] 0 (Nat.le_refl _) (Nat.zero_le _) (by simp))
  go_wp2_with (at_builtin; refine wpList_append_own _ rfl _ _ 22 rfl w.heap.size 24 i0 z0 3 48 Try.underlying22 HI.out.1 HI.out.2.1 HI.out.2.2.1 HI.out.2.2.2.1 HI.out.2.2.2.2 (by decide) _ _ _ rfl HO.out ad n cap news rfl HN.out.1 ?c2 HN.out.2.2 ?c3 ?c4 ?c5 ?_)
  case c2 =>
    intro j u hu
    have hj : j < n * 3 := by rw [← HN.out.1]; exact (List.getElem?_eq_some_iff.1 hu).1
    rw [(al1 w _).cell (p := ad.add j) (HLt.out j hj)]
    exact HN.out.2.1 j u hu
  case c3 => unfold maxLen; omega
  case c4 => omega
  case c5 => simp
  intro v' w2 hown2 hgrow hnil'
  have HG : Hid (GotClone w ad n (.returned v') w2) := Lib.hid (got_of_owns hown2 hnil' HN.out.2.1 ((al1 w _).grown hgrow (by simp) (fun k hk => by simp [Value.ownBlock] at hk; omega)))
  clear hown2 hgrow hnil'
  go_wp2
  go_ret
  exact HG.out
end Rl
end Go.Proofs.Ytmnihiagkmdepaa
