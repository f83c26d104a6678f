/-
  Contracts of rlp.copied and rlp.List.
-/
import Derived.Test.YtmnihiagkmdepaaRh
import Derived.Test.YtmnihiagkmdepaaRa
import Derived.Laws.Rows
import Derived.Great.BuildSlice
namespace Go.Proofs.Ytmnihiagkmdepaa
open Go.RowKit

namespace Rl
/-- new items are handed back -/
def GotIts (w : World) (xs : List It) (e : Ending) (w' : World) : Prop :=
  ∃ a n cap, e = .returned (.slice a n cap) ∧ ItsIn w.heap.size w' xs a n cap ∧ Below w.heap.size w w'

/-- the row of copies, of which so many have copies within -/
def Mid (w wr : World) (g cap : Nat) (xs : List It) (q : Nat) : Prop :=
  ∃ f, wr.rowIs g 24 (cap * 3) f ∧ ∀ (j : Nat) (x : It), xs[j]? = some x → ∃ A N C, f (j * 3) = .bool x.l ∧ f (j * 3 + 1) = .string x.s ∧ f (j * 3 + 2) = .slice A N C ∧
    ((j < q ∧ ItsIn (g + 1) wr x.xs A N C) ∨ (q ≤ j ∧ IsIts w x.xs A N C))
theorem Mid.start {w w' : World} {ad : Addr} {n cap g c : Nat} {xs : List It} (h : IsIts w xs (some ad) n c) {f : Nat → Value} (hr : w'.rowIs g 24 (cap * 3) f) (hf : ∀ i, i < n * 3 → w.cell? (ad.add i) = some (f i)) : Mid w w' g cap xs 0 := by
  refine ⟨f, hr, fun j x hx => ?_⟩
  have hj : j < n := by rw [← h.len]; exact (List.getElem?_eq_some_iff.1 hx).1
  obtain ⟨x', b', off', A, N, C, hx', e, _, ⟨c0, c1, c2⟩, hI⟩ := h.at' j hj
  obtain rfl := Option.some.inj e
  obtain rfl := Option.some.inj (hx.symm.trans hx')
  simp only [Addr.add_mid] at hf
  have f0 := hf (j * 3) (by omega)
  have f1 := hf (j * 3 + 1) (by omega)
  have f2 := hf (j * 3 + 2) (by omega)
  rw [c0] at f0
  rw [← Nat.add_assoc, c1] at f1
  rw [← Nat.add_assoc, c2] at f2
  exact ⟨A, N, C, (Option.some.inj f0).symm, (Option.some.inj f1).symm, (Option.some.inj f2).symm, .inr ⟨Nat.zero_le _, hI⟩⟩
theorem Mid.at' {w wr : World} {g cap q n : Nat} {xs : List It} (h : Mid w wr g cap xs q) (hl : xs.length = n) (hc : n ≤ cap) (hq : q < n) :
    ∃ x A N C, xs[q]? = some x ∧ wr.cell? ⟨g, q * 3 + 2, none⟩ = some (.slice A N C) ∧ IsIts w x.xs A N C := by
  obtain ⟨f, hr, h⟩ := h
  have hx : xs[q]? = some (xs[q]'(by omega)) := List.getElem?_eq_getElem (by omega)
  obtain ⟨A, N, C, _, _, f2, hh⟩ := h q _ hx
  refine ⟨_, A, N, C, hx, by rw [hr.cell (by omega), f2], ?_⟩
  rcases hh with ⟨h1, _⟩ | ⟨_, h2⟩
  · omega
  · exact h2
theorem Mid.step {w wr w1 : World} {g cap q : Nat} {xs : List It} {x : It} (h : Mid w wr g cap xs q) (hx : xs[q]? = some x) {a : Option Addr} {n c : Nat} (hI : ItsIn wr.heap.size w1 x.xs a n c) (hb : Below wr.heap.size wr w1) :
    Mid w (w1.setCell ⟨g, q * 3 + 2, none⟩ (.slice a n c)) g cap xs (q + 1) := by
  obtain ⟨f, hr, h⟩ := h
  have hlt := hr.lt
  have hr1 : w1.rowIs g 24 (cap * 3) f := hr.of_block (hb.block g hlt)
  have keep : ∀ {ys : List It} {A : Option Addr} {N C : Nat}, ItsIn (g + 1) w1 ys A N C → ItsIn (g + 1) (w1.setCell ⟨g, q * 3 + 2, none⟩ (.slice a n c)) ys A N C := fun hh =>
    ItsIn.kept hh (by simp) (fun b o hB _ => World.cell?_of_block (Below.heap_setCell w1 _ _ b (by show b ≠ g; omega)))
  refine ⟨_, hr1.set (q * 3 + 2) (.slice a n c), fun j y hy => ?_⟩
  obtain ⟨A, N, C, f0, f1, f2, hh⟩ := h j y hy
  by_cases hj : j = q
  · subst hj
    obtain rfl := Option.some.inj (hx.symm.trans hy)
    refine ⟨a, n, c, by rw [if_neg (by omega), f0], by rw [if_neg (by omega), f1], by rw [if_pos rfl], .inl ⟨by omega, keep (ItsIn.weak hI (by omega))⟩⟩
  · refine ⟨A, N, C, by rw [if_neg (by omega), f0], by rw [if_neg (by omega), f1], by rw [if_neg (by omega), f2], ?_⟩
    rcases hh with ⟨h1, h2⟩ | ⟨h1, h2⟩
    · exact .inl ⟨by omega, keep (h2.stays hb)⟩
    · exact .inr ⟨by omega, h2⟩
theorem Mid.lt {w wr : World} {g cap q : Nat} {xs : List It} (h : Mid w wr g cap xs q) : g < wr.heap.size := by
  obtain ⟨f, hr, _⟩ := h
  exact hr.lt
theorem Mid.free {w wr w1 : World} {g cap q : Nat} {xs : List It} (h : Mid w wr g cap xs q) (hb : Below wr.heap.size wr w1) (i : Nat) : w1.frozen? ⟨g, i, none⟩ = false := by
  obtain ⟨f, hr, _⟩ := h
  have hr1 : w1.rowIs g 24 (cap * 3) f := hr.of_block (hb.block g hr.lt)
  exact hr1.frozen i
theorem Mid.done {w wr : World} {g cap n : Nat} {xs : List It} (h : Mid w wr g cap xs n) (hl : xs.length = n) (hc : n ≤ cap) (hm : cap ≤ maxLen) (hw : n ≤ 2932031007402) {B : Nat} (hB : B ≤ g) : ItsIn B wr xs (some ⟨g, 0, none⟩) n cap := by
  obtain ⟨f, hr, h⟩ := h
  have each : ∀ j, j < n → ∃ r : Option Addr × Nat × Nat, ∀ x, xs[j]? = some x → Lies wr g (0 + j * 3) x r.1 r.2.1 r.2.2 ∧ ItsIn B wr x.xs r.1 r.2.1 r.2.2 := fun j hj => by
    have hx : xs[j]? = some (xs[j]'(by omega)) := List.getElem?_eq_getElem (by omega)
    obtain ⟨A, N, C, f0, f1, f2, hh⟩ := h j _ hx
    refine ⟨(A, N, C), fun x hx' => ?_⟩
    obtain rfl := Option.some.inj (hx.symm.trans hx')
    refine ⟨⟨by rw [Nat.zero_add, hr.cell (by omega), f0], by rw [Nat.zero_add, hr.cell (by omega), f1], by rw [Nat.zero_add, hr.cell (by omega), f2]⟩, ?_⟩
    rcases hh with ⟨_, h2⟩ | ⟨h1, _⟩
    · exact ItsIn.weak h2 (by omega)
    · omega
  obtain ⟨F, hF⟩ := Go.Deep.choose_lt each
  refine ItsP.mk (fun j => (F j).1) (fun j => (F j).2.1) (fun j => (F j).2.2) hl hc hm hw (fun e => (by cases e)) (fun j x hx => ?_) (fun j x hx => ?_)
  · exact ⟨g, 0, rfl, hB, hr.lt, (hF j (by rw [← hl]; exact (List.getElem?_eq_some_iff.1 hx).1) x hx).1⟩
  · exact (hF j (by rw [← hl]; exact (List.getElem?_eq_some_iff.1 hx).1) x hx).2

set_option maxHeartbeats 4000000 in
theorem copied_any (x : It) : ∀ (w : World) (a : Option Addr) (n cap : Nat), IsIts w x.xs a n cap → Calls Try.prog 22 #[.slice a n cap] w (GotIts w x.xs) := by
  induction x using It.ind with
  | h l s xs ih =>
    intro w a n cap h
    replace h : IsIts w xs a n cap := h
    show Calls Try.prog 22 #[.slice a n cap] w (GotIts w xs)
    cases a with
    | none =>
      have hc := h.none' rfl
      have hn := h.le
      obtain rfl : cap = 0 := hc
      obtain rfl : n = 0 := by omega
      have HX : Hid (xs = []) := Lib.hid (List.eq_nil_of_length_eq_zero h.len)
      clear ih h hn
      go_enter Try.func22, Try.ntmps22
      go_wp2_with (go_at_call 31; refine (clone_nil _).mono ?_; rintro e w1 ⟨rfl, rfl⟩)
      refine wp_loop_rounds 1 ?_
      rw [rounds_succ]
      go_wp2
      go_ret
      exact ⟨none, 0, 0, rfl, by rw [HX.out]; exact ItsIn.nil _ _, Below.refl _ _⟩
    | some ad =>
      have HIh := Lib.hid ih
      have H := Lib.hid h
      have hfew := h.few
      clear ih h
      go_enter Try.func22, Try.ntmps22
      go_wp2_with fail
      refine (clone_any xs ad n cap _ H.out).mono ?_
      rintro e w1 ⟨g, c, f, rfl, hg, hnc, hcm, hr, hf, hb1⟩
      have HM := Lib.hid (Mid.start H.out hr hf)
      have hglt := hr.lt
      have HB1 := Lib.hid hb1
      clear hr hf hb1
      unfold maxLen at hcm
      go_wp2
      go_loopw [9] (fun i wr => ∃ q : Nat, q ≤ n ∧ i = .int .i64 q ∧ Hid (Mid w wr g c xs q) ∧ Below w.heap.size w wr) (fun i _ => n - (intOf i).toNat)
      case atStart => exact ⟨0, Nat.zero_le _, rfl, Lib.hid HM.out, HB1.out⟩
      case round =>
        obtain ⟨q, hq, rfl, HQ, hB⟩ := hrel
        have HB := Lib.hid hB
        clear HM hB
        by_cases hlt : q < n
        · obtain ⟨x, A, N, C, hx, c2, hI⟩ := HQ.out.at' H.out.len hnc hlt
          have HI := Lib.hid (HIh.out x (List.mem_of_getElem? hx) wr A N C (hI.stays HB.out))
          have HX := Lib.hid hx
          clear hI hx HIh
          go_wp2_with fail
          refine HI.out.mono ?_
          rintro e w2 ⟨a', n', c', rfl, hI2, hb2⟩
          have hc2 : w2.cell? ⟨g, q * 3 + 2, none⟩ = some (.slice A N C) := (hb2.cell (p := ⟨g, q * 3 + 2, none⟩) HQ.out.lt).trans c2
          have hz2 := HQ.out.free hb2 (q * 3 + 2)
          have HS := Lib.hid (HQ.out.step HX.out hI2 hb2)
          have HB2 := Lib.hid (below_step' HB.out hb2)
          clear hI2 hb2 c2
          go_wp2
          go_roundw
          case rel => exact ⟨q + 1, by omega, by go_num, Lib.hid HS.out, HB2.out.setCell hg _⟩
          case measure => simp [intOf]; omega
        · obtain rfl : q = n := by omega
          have HD := Lib.hid (HQ.out.done H.out.len hnc (by unfold maxLen; omega) hfew hg)
          clear HIh HQ
          go_wp2
          go_ret
          exact ⟨_, _, _, rfl, HD.out, HB.out⟩
/-- an item is handed back, its items in new memory -/
def GotIt (w : World) (x : It) (e : Ending) (w' : World) : Prop := ∃ a n cap, e = .returned (itV x a n cap) ∧ ItsIn w.heap.size w' x.xs a n cap ∧ Below w.heap.size w w'
/-- an item's cells -/
def itC (x : It) (a : Option Addr) (n cap : Nat) : Array Value := #[.bool x.l, .string x.s, .slice a n cap]
theorem info_itC (x : It) (a : Option Addr) (n cap : Nat) : (Try.prog.info? 24).map (·.size) = some (itC x a n cap).size := info_item
theorem itC_one (x : It) (a : Option Addr) (n cap : Nat) : (itC x a n cap).all (·.oneCell') = true := by
  simp [itC, Value.oneCell']
/-- a cell of the call's own for an item -/
theorem lies_row {w : World} {g : Nat} {x : It} {a : Option Addr} {n cap : Nat} {t : TypeId} {fz : Nat × Nat} (h : w.heap[g]? = some (.cells (itC x a n cap) t fz)) : Lies w g 0 x a n cap := by
  refine ⟨?_, ?_, ?_⟩
  all_goals
    simp [World.cell?, h]
    rfl
def it0 : It := .mk false ⟨#[]⟩ []
theorem box_new (w : World) : (w.alloc (.cells (itC it0 none 0 0) 24)).heap[w.heap.size]? = some (.cells (itC it0 none 0 0) 24 (0, 0)) := heap_alloc_new _ _
theorem below_row {B : Nat} {w w1 : World} (h : Below B w w1) {g : Nat} (hg : B ≤ g) (cs : Array Value) : Below B w (w1.setRow g cs) :=
  h.trans ⟨rfl, rfl, rfl, by simp, fun k hk => setRow_other w1 g k cs (by omega)⟩
theorem ItsIn_row {B g : Nat} {w : World} {xs : List It} {a : Option Addr} {n cap : Nat} (h : ItsIn B w xs a n cap) (hg : g < B) (cs : Array Value) : ItsIn B (w.setRow g cs) xs a n cap :=
  ItsIn.kept h (by simp) (fun b o hB _ => World.cell?_of_block (setRow_other w g b cs (by omega)))

set_option maxHeartbeats 4000000 in
theorem list_any (xs : List It) (w : World) (a : Option Addr) (n cap : Nat) (h : IsIts w xs a n cap) : Calls Try.prog 13 #[.slice a n cap] w (GotIt w (.mk true ⟨#[]⟩ xs)) := by
  have HC := Lib.hid (copied_any (.mk true ⟨#[]⟩ xs) (w.alloc (.cells (itC it0 none 0 0) 24)) a n cap (h.alloc _))
  clear h
  go_enter Try.func13, Try.ntmps13
  go_wp2_with fail
  refine HC.out.mono ?_
  rintro e w1 ⟨a', n', c', rfl, hI, hb⟩
  have HG := Lib.hid ((hb.block w.heap.size (by simp)).trans (box_new w))
  have HI := Lib.hid hI
  have HB := Lib.hid (of_al (al_of hb))
  clear hI hb HC
  go_wp2_with (refine wpList_store_rowTo rfl 24 _ _ rfl rfl _ (itC (.mk true ⟨#[]⟩ xs) a' n' c') rfl rfl 24 (itC it0 none 0 0) HG.out (info_itC _ _ _ _) rfl (itC_one _ _ _ _) ?_)
  exact bodyPost_ret (res_item rfl _ rfl (lies_row (setRow_heap _ _ _ _ _ _ HG.out))) rfl ⟨a', n', c', rfl, ItsIn.weak (ItsIn_row HI.out (by simp) _) (by simp), below_row HB.out (Nat.le_refl _) _⟩
end Rl
end Go.Proofs.Ytmnihiagkmdepaa
