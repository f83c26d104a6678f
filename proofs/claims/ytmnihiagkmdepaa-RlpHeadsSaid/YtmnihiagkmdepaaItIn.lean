/-
  What an item that came in is, as a walk takes it.
-/
import Derived.Test.YtmnihiagkmdepaaIt
import Derived.Deep.Slices
import Derived.Deep.Fields
import Derived.Deep.Strs
import Derived.ChangeArms
import Derived.SizedLaws
namespace Go.Proofs.Ytmnihiagkmdepaa
open Go.RowKit Go.ChangeShapes Go.WideShapes Go.Deep

section
variable {H : Type} {enc : TypeId × Value → H} {w : World}
theorem bytes_item : Try.prog.bytesOf 24 = 48 := by kernel_rfl
theorem cells_item : Try.prog.cellsOf 24 = 3 := by kernel_rfl
theorem cells_bool : Try.prog.cellsOf 4 = 1 := by kernel_rfl
theorem cells_string : Try.prog.cellsOf 9 = 1 := by kernel_rfl
theorem cells_items : Try.prog.cellsOf 22 = 1 := by kernel_rfl
/-- the cells of an item that came in -/
theorem item_of {fuel : Nat} {cs : List Value} {x : DataW H × List MemPlace} (h : DataW.trod enc Try.prog w 0 (fun _ => true) true fuel 24 cs = some x) :
    ∃ (l : Bool) (s : ByteArray) (v : Value) (y0 y1 y2 : DataW H × List MemPlace) (n : Nat), cs = [.bool l, .string s, v] ∧ x.1 = .agg [y0.1, y1.1, y2.1] ∧ DataW.trod enc Try.prog w 0 (fun _ => true) true n 22 [v] = some y2 := by
  obtain ⟨y0, y1, y2, n, rfl, hl, h0, h1, h2⟩ := trod_struct3 Try.underlying24 h
  rw [cells_item] at hl
  match cs, hl with
  | [c0, c1, c2], _ =>
    have h0' : DataW.trod enc Try.prog w 0 (fun _ => true) true n 4 ((([c0, c1, c2] : List Value).drop 0).take (Try.prog.cellsOf 4)) = some y0 := h0
    have h1' : DataW.trod enc Try.prog w 0 (fun _ => true) true n 9 ((([c0, c1, c2] : List Value).drop 1).take (Try.prog.cellsOf 9)) = some y1 := h1
    have h2' : DataW.trod enc Try.prog w 0 (fun _ => true) true n 22 ((([c0, c1, c2] : List Value).drop 2).take (Try.prog.cellsOf 22)) = some y2 := h2
    rw [cells_bool] at h0'
    rw [cells_string] at h1'
    rw [cells_items] at h2'
    obtain ⟨l, e0, _⟩ := DataW.trod_bool Try.underlying4 h0'
    obtain ⟨s, e1, _, _⟩ := DataW.trod_string Try.underlying9 h1'
    simp at e0 e1
    subst e0 e1
    exact ⟨l, s, c2, y0, y1, y2, n, rfl, rfl, h2'⟩

theorem mem_all {P : Program} {e : TypeId} {d : DataW H} : ∀ (ds : List (DataW H)), d ∈ ds → ∀ {n : Nat}, n ∈ d.weights P e → n ∈ DataW.weightsAll P e ds
  | [], h, _, _ => by simp at h
  | x :: ds, h, n, hn => by
    rw [DataW.weightsAll, List.mem_append]
    rcases List.mem_cons.1 h with rfl | h
    · exact .inl hn
    · exact .inr (mem_all ds h hn)
theorem add_zero (x : Addr) : x.add 0 = x := by unfold Addr.add; rw [if_pos rfl]
instance : Inhabited It := ⟨.mk false ⟨#[]⟩ []⟩
/-- items that came in -/
theorem its_of : ∀ (N fuel : Nat) (cs : List Value) (x : DataW H × List MemPlace), SizeOf.sizeOf x.1 ≤ N → DataW.trod enc Try.prog w 0 (fun _ => true) true fuel 22 cs = some x → (∀ n ∈ x.1.weights Try.prog 22, n ≤ reachBytes) →
    ∃ (r : List It × Option Addr × Nat × Nat), cs = [.slice r.2.1 r.2.2.1 r.2.2.2] ∧ IsIts w r.1 r.2.1 r.2.2.1 r.2.2.2 := by
  intro N
  induction N using Nat.strongRecOn with
  | ind N ih =>
    intro fuel cs x hN h hw
    rcases open_slice Try.underlying22 h with ⟨rfl, _⟩ | ⟨ad, len, cap, m, n, D, Pl, rfl, _, hl, hm, hmm, rfl, hel⟩
    · exact ⟨([], none, 0, 0), rfl, ItsIn.nil _ _⟩
    · have hmm' : m = cap := by simpa using hmm
      subst hmm'
      have hwl : ∀ n ∈ DataW.weights Try.prog 22 (.slice ((List.range len).map D) ((List.range (m - len)).map fun j => D (len + j))), n ≤ reachBytes := hw
      have hlen : len ≤ 2932031007402 := by
        have := hwl _ (by rw [DataW.weights, Try.underlying22]; exact List.mem_cons_self)
        rw [bytes_item, List.length_map, List.length_range] at this
        have hr := reachBytes_lt
        omega
      have each : ∀ i, i < len → ∃ (r : It × Option Addr × Nat × Nat), ∃ b off, ad = ⟨b, off, none⟩ ∧ b < w.heap.size ∧ Lies w b (off + i * 3) r.1 r.2.1 r.2.2.1 r.2.2.2 ∧ IsIts w r.1.xs r.2.1 r.2.2.1 r.2.2.2 := by
        intro i hi
        obtain ⟨cs', h1, h2⟩ := hel i (by omega)
        obtain ⟨l, s, v, y0, y1, y2, n', rfl, hx, ht⟩ := item_of h2
        have hx' : D i = .agg [y0.1, y1.1, y2.1] := hx
        have hmem : D i ∈ (List.range len).map D := List.mem_map.2 ⟨i, List.mem_range.2 hi, rfl⟩
        have hs1 := List.sizeOf_lt_of_mem hmem
        have hsz : SizeOf.sizeOf y2.1 < N := by
          have e1 : SizeOf.sizeOf (D i) = SizeOf.sizeOf (DataW.agg [y0.1, y1.1, y2.1]) := by rw [hx']
          simp at e1
          simp at hN
          omega
        have hwi : ∀ n ∈ y2.1.weights Try.prog 22, n ≤ reachBytes := fun n hn => hwl n (by
          rw [DataW.weights, Try.underlying22]
          refine List.mem_cons_of_mem _ (List.mem_append_left _ ?_)
          refine mem_all _ hmem ?_
          rw [hx', DataW.weights, Try.underlying24]
          exact DataW.weights_mem_each (j := 2) rfl rfl n hn)
        obtain ⟨⟨xs, A, N', C⟩, hv, hI⟩ := ih (SizeOf.sizeOf y2.1) hsz n' [v] y2 (Nat.le_refl _) ht hwi
        simp at hv
        subst hv
        obtain ⟨_, _, hat⟩ := World.cells?_some h1
        rw [cells_item] at hat
        have a0 := hat 0 (by omega)
        have a1 := hat 1 (by omega)
        have a2 := hat 2 (by omega)
        obtain ⟨b, off, spot⟩ := ad
        have hspot : spot = none := by
          obtain ⟨cs0, g1, g2⟩ := hel 0 (by omega)
          obtain ⟨_, _, _, _, _, _, _, rfl, _, _⟩ := item_of g2
          obtain ⟨_, _, gat⟩ := World.cells?_some g1
          rw [cells_item] at gat
          have := World.cell?_spot (gat 0 (by omega))
          rwa [Nat.zero_mul, add_zero, add_zero] at this
        subst hspot
        rw [Addr.add_mid, Addr.add_mid] at a0 a1 a2
        refine ⟨(.mk l s xs, A, N', C), b, off, rfl, World.block_lt_of_cell? w _ a0, ⟨a0, a1, a2⟩, hI⟩
      obtain ⟨F, hF⟩ := choose_lt each
      refine ⟨((List.range len).map fun i => (F i).1, some ad, len, m), rfl, ItsP.mk (fun j => (F j).2.1) (fun j => (F j).2.2.1) (fun j => (F j).2.2.2) (by simp) hl hm hlen (fun e => by cases e) (fun j x hx => ?_) (fun j x hx => ?_)⟩
      · obtain ⟨hj, rfl⟩ : j < len ∧ (F j).1 = x := by
          have := (List.getElem?_eq_some_iff.1 hx).1
          simp at this
          refine ⟨this, ?_⟩
          simpa [this] using hx
        obtain ⟨b, off, e, hb, hL, _⟩ := hF j hj
        exact ⟨b, off, by rw [e], Nat.zero_le _, hb, hL⟩
      · obtain ⟨hj, rfl⟩ : j < len ∧ (F j).1 = x := by
          have := (List.getElem?_eq_some_iff.1 hx).1
          simp at this
          refine ⟨this, ?_⟩
          simpa [this] using hx
        obtain ⟨b, off, e, hb, hL, hI⟩ := hF j hj
        exact hI
end
end Go.Proofs.Ytmnihiagkmdepaa
