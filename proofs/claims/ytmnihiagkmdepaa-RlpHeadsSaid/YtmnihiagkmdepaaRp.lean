/-
  The contract of (*rlp.tally).all, where each item is read as it ought to be.
-/
import Derived.Test.YtmnihiagkmdepaaRo
import Derived.Maps.AppendAt
namespace Go.Proofs.Ytmnihiagkmdepaa
open Go.RowKit

namespace Rl
open Pk
abbrev Hdr : Type := Option Addr × Nat × Nat
/-- the cells of items, one behind the other -/
def flat : List It → List Hdr → List Value
  | x :: xs, h :: hs => .bool x.l :: .string x.s :: .slice h.1 h.2.1 h.2.2 :: flat xs hs
  | _, _ => []
theorem flat_length : ∀ (xs : List It) (hs : List Hdr), hs.length = xs.length → (flat xs hs).length = xs.length * 3
  | [], [], _ => rfl
  | x :: xs, h :: hs, e => by
    have := flat_length xs hs (by simpa using e)
    simp [flat, this]
    omega
theorem flat_snoc : ∀ (xs : List It) (hs : List Hdr) (x : It) (h : Hdr), hs.length = xs.length → flat (xs ++ [x]) (hs ++ [h]) = flat xs hs ++ [.bool x.l, .string x.s, .slice h.1 h.2.1 h.2.2]
  | [], [], _, _, _ => rfl
  | y :: xs, g :: hs, x, h, e => by
    have := flat_snoc xs hs x h (by simpa using e)
    simp [flat, this]
theorem flat_at : ∀ (xs : List It) (hs : List Hdr) (j : Nat) (x : It) (h : Hdr), xs[j]? = some x → hs[j]? = some h →
    (flat xs hs)[j * 3]? = some (.bool x.l) ∧ (flat xs hs)[j * 3 + 1]? = some (.string x.s) ∧ (flat xs hs)[j * 3 + 2]? = some (.slice h.1 h.2.1 h.2.2)
  | [], _, _, _, _, hx, _ => by simp at hx
  | _ :: _, [], _, _, _, _, hh => by simp at hh
  | y :: xs, g :: hs, 0, x, h, hx, hh => by
    simp at hx hh
    subst hx hh
    simp [flat]
  | y :: xs, g :: hs, j + 1, x, h, hx, hh => by
    have := flat_at xs hs j x h (by simpa using hx) (by simpa using hh)
    rw [show (j + 1) * 3 = j * 3 + 3 by omega]
    simp only [flat, List.getElem?_cons_succ]
    exact this

/-- a row of the call's own that holds these items -/
def RowI (B : Nat) (w : World) (v : Value) (xs : List It) : Prop :=
  ∃ hs : List Hdr, hs.length = xs.length ∧ w.ownsRow B 24 3 v xs.length (flat xs hs) ∧ ∀ (j : Nat) (x : It) (h : Hdr), xs[j]? = some x → hs[j]? = some h → ItsP (fun b => B ≤ b ∧ v.ownBlock ≠ some b) w x.xs h.1 h.2.1 h.2.2
theorem RowI.nil (B : Nat) (w : World) : RowI B w (.slice none 0 0) [] := ⟨[], rfl, World.ownsRow_nil _ _ _ _, fun _ _ _ hx _ => by simp at hx⟩
theorem RowI.lt {B : Nat} {w : World} {v : Value} {xs : List It} (h : RowI B w v xs) : ∀ k, v.ownBlock = some k → B ≤ k ∧ k < w.heap.size := by
  obtain ⟨hs, _, ho, _⟩ := h
  exact ho.lt
theorem RowI.gb {B g : Nat} {w w' : World} {v : Value} {xs : List It} (h : RowI B w v xs) (hg : w.grownBy w' (some g)) (hlt : g < B) : RowI B w' v xs := by
  have hl := h.lt
  obtain ⟨hs, hlen, ho, hi⟩ := h
  refine ⟨hs, hlen, ho.kept hg (.inr fun e => ?_), fun j x h hx hh => ?_⟩
  · have := (hl g e).1
    omega
  · exact (hi j x h hx hh).kept hg.size fun b o hb hlt' => World.cell?_of_block (a := ⟨b, o, none⟩) (hg.block b hlt' (fun e => by have := Option.some.inj e; omega))
theorem RowI.below' {B : Nat} {w w' : World} {v : Value} {xs : List It} (h : RowI B w v xs) (hb : Below w.heap.size w w') : RowI B w' v xs := by
  obtain ⟨hs, hlen, ho, hi⟩ := h
  refine ⟨hs, hlen, ho.kept (Bu.grown_below hb) (by cases v.ownBlock <;> simp), fun j x h hx hh => (hi j x h hx hh).stays hb⟩
theorem RowI.push {B : Nat} {w w' : World} {v v' : Value} {xs : List It} {x : It} {a : Option Addr} {n cap : Nat} {hs : List Hdr} (hlen : hs.length = xs.length) (hi : ∀ (j : Nat) (x : It) (h : Hdr), xs[j]? = some x → hs[j]? = some h → ItsP (fun b => B ≤ b ∧ v.ownBlock ≠ some b) w x.xs h.1 h.2.1 h.2.2)
    (hI : ItsP (fun b => B ≤ b ∧ v.ownBlock ≠ some b) w x.xs a n cap) (ho : w'.ownsRow B 24 3 v' (xs.length + 1) (flat xs hs ++ [.bool x.l, .string x.s, .slice a n cap]))
    (hg : w.grownBy w' v.ownBlock) (hat : v'.ownBlock = v.ownBlock ∨ v'.ownBlock = some w.heap.size) : RowI B w' v' (xs ++ [x]) := by
  have keep : ∀ {ys : List It} {a : Option Addr} {n cap : Nat}, ItsP (fun b => B ≤ b ∧ v.ownBlock ≠ some b) w ys a n cap → ItsP (fun b => B ≤ b ∧ v'.ownBlock ≠ some b) w' ys a n cap := fun hh => by
    have h1 := hh.to (p' := fun b => (B ≤ b ∧ v'.ownBlock ≠ some b) ∧ v.ownBlock ≠ some b) fun b hlt hb => ⟨⟨hb.1, fun e => by
      rcases hat with h2 | h2
      · exact hb.2 (h2 ▸ e)
      · rw [h2] at e
        have := Option.some.inj e
        omega⟩, hb.2⟩
    have h2 := h1.kept (w' := w') hg.size fun b o hb hlt => World.cell?_of_block (a := ⟨b, o, none⟩) (hg.block b hlt (fun e => hb.2 e.symm))
    exact h2.to fun b _ hb => hb.1
  refine ⟨hs ++ [(a, n, cap)], by simp [hlen], ?_, fun j y h hy hh => ?_⟩
  · rw [List.length_append, flat_snoc xs hs x (a, n, cap) hlen]
    exact ho
  · by_cases hj : j < xs.length
    · rw [List.getElem?_append_left hj] at hy
      rw [List.getElem?_append_left (by omega)] at hh
      exact keep (hi j y h hy hh)
    · have hj2 : j = xs.length := by
        have := (List.getElem?_eq_some_iff.1 hy).1
        simp at this
        omega
      subst hj2
      rw [List.getElem?_append_right (Nat.le_refl _), Nat.sub_self] at hy
      rw [List.getElem?_append_right (by omega), hlen, Nat.sub_self] at hh
      simp at hy hh
      subst hy hh
      exact keep hI
theorem RowI.done {B : Nat} {w : World} {v : Value} {xs : List It} (h : RowI B w v xs) (hn : xs.length ≤ 4096) : ∃ a n cap, v = .slice a n cap ∧ ItsIn B w xs a n cap := by
  obtain ⟨hs, hlen, ho, hi⟩ := h
  rcases ho.2 with ⟨rfl, hz⟩ | ⟨g, cap, cur, rfl, hbg, hg, hnc, hcm, hcs, htake⟩
  · have : xs = [] := List.eq_nil_of_length_eq_zero hz
    subst this
    exact ⟨none, 0, 0, rfl, ItsIn.nil _ _⟩
  · refine ⟨_, _, _, rfl, ItsP.mk (fun j => (hs.getD j (none, 0, 0)).1) (fun j => (hs.getD j (none, 0, 0)).2.1) (fun j => (hs.getD j (none, 0, 0)).2.2) rfl hnc hcm (by omega) (fun e => by cases e) (fun j x hx => ?_) (fun j x hx => ?_)⟩
    · have hj : j < hs.length := by rw [hlen]; exact (List.getElem?_eq_some_iff.1 hx).1
      have hh : hs[j]? = some (hs.getD j (none, 0, 0)) := by simp [hj]
      obtain ⟨f0, f1, f2⟩ := flat_at xs hs j x _ hx hh
      have e : ∀ i, (⟨g, 0, none⟩ : Addr).add i = ⟨g, 0 + i, none⟩ := fun i => Addr.add_mid g 0 i
      refine ⟨g, 0, rfl, hbg, (Array.getElem?_eq_some_iff.1 hg).1, ?_, ?_, ?_⟩
      · have := ho.cells (g := g) rfl _ _ f0
        rw [e] at this
        exact this
      · have := ho.cells (g := g) rfl _ _ f1
        rw [e, ← Nat.add_assoc] at this
        exact this
      · have := ho.cells (g := g) rfl _ _ f2
        rw [e, ← Nat.add_assoc] at this
        exact this
    · have hj : j < hs.length := by rw [hlen]; exact (List.getElem?_eq_some_iff.1 hx).1
      have hh : hs[j]? = some (hs.getD j (none, 0, 0)) := by simp [hj]
      exact (hi j x _ hx hh).to fun b _ hb => hb.1

theorem info_it_all : (Try.prog.info? 24).map (fun i => (i.zero, i.size, i.bytes)) = some (some (.agg #[.bool false, .string ⟨#[]⟩, .slice none 0 0]), 3, 48) := by kernel_rfl
/-- a slice of one item is made -/
theorem meetItem {o : Oper} {a : Act} {w : World} {K : Act → World → Prop} {Q : Exit → Act → World → Prop} {ops : Array Oper} {x : It} {A : Option Addr} {N C : Nat} (hw : Region.wanted o (yielded ops a.tmps) = true)
    (ho : ∃ y, o.op = .buildSlice 22 1 #[(0, y)] ∧ a.eval y = .agg #[.bool x.l, .string x.s, .slice A N C])
    (h : ∀ w' b, Rg.Own w' b (itC x A N C) 24 → Below w.heap.size w w' → K (a.put o.dst (.slice (some ⟨b, 0, none⟩) 1 1)) w') : if Region.wanted o (yielded ops a.tmps) = true then Oper.wp Try.prog o a w K Q else K (a.put o.dst undef) w := by
  obtain ⟨y, ho, hy⟩ := ho
  obtain ⟨i0, hi, hz, hs, hby⟩ := info_parts info_it_all
  refine Rg.want hw (wp_buildSlice 22 24 1 _ ho (itC x A N C) i0 _ Try.underlying22 hi hz (by rw [hs]; decide) (by rw [hs]; decide) ?_ (h _ _ (Rg.Own.new _ _ _) (al1 _ _)))
  simp only [List.map_toArray, List.map_cons, List.map_nil, hy, hs]
  kernel_rfl

/-- an item goes behind those that are held -/
theorem meetPush {o : Oper} {a : Act} {w : World} {K : Act → World → Prop} {Q : Exit → Act → World → Prop} {ops : Array Oper} {B b2 : Nat} {v : Value} {xs : List It} {x : It} {A : Option Addr} {N C : Nat} (hw : Region.wanted o (yielded ops a.tmps) = true)
    (ho : ∃ s y, o.op = .call { callee := .builtin .append, args := #[s, y], argTypes := #[22, 22] } ∧ a.eval s = v ∧ a.eval y = .slice (some ⟨b2, 0, none⟩) 1 1)
    (hR : RowI B w v xs) (h2 : Rg.Own w b2 (itC x A N C) 24) (hI : ItsP (fun b => B ≤ b ∧ v.ownBlock ≠ some b) w x.xs A N C) (hn : xs.length ≤ 4096) (hB : B ≤ w.heap.size)
    (h : ∀ v' w', RowI B w' v' (xs ++ [x]) → w.grownBy w' v.ownBlock → K (a.put o.dst v') w') : if Region.wanted o (yielded ops a.tmps) = true then Oper.wp Try.prog o a w K Q else K (a.put o.dst undef) w := by
  obtain ⟨s, y, ho, hs, hy⟩ := ho
  obtain ⟨i0, z0, hi, hz, hsz, hby, hzc⟩ := info_it_parts
  obtain ⟨hs', hlen, hown, hi'⟩ := hR
  obtain ⟨v', w', hr, h3, h4, _, h5⟩ := run_append_own_at (P := Try.prog) w B 22 o.type 24 i0 z0 3 48 Try.underlying22 hi hz hsz hby hzc (by decide) v xs.length _ hown ⟨b2, 0, none⟩ 1 1 [.bool x.l, .string x.s, .slice A N C] rfl
    (fun j u hu => by
      obtain ⟨c0, c1, c2⟩ := lies_row h2.2
      rw [Addr.add_mid, Nat.zero_add]
      match j, hu with
      | 0, hu => cases hu; exact c0
      | 1, hu => cases hu; exact c1
      | 2, hu => cases hu; exact c2)
    (fun u hu => by simp at hu; rcases hu with rfl | rfl | rfl <;> rfl) (by unfold maxLen; omega) (by omega) hB
  refine Rg.want hw ?_
  unfold Oper.wp execOp
  simp only [ho, resolve, invoke, builtin, Sem.run_bind, Sem.run_pure, Result.andThen_ok, List.map_toArray, List.map_cons, List.map_nil, hs, hy, hr]
  exact h v' w' (RowI.push hlen hi' hI h3 h4 h5) h4
theorem Tal.gb {w w' : World} {g : Nat} {k : Int} {r : Option Nat} (h : Tal w g k) (hg : w.grownBy w' r) (hr : ∀ j, r = some j → g ≠ j) : Tal w' g k := by
  have e : w'.heap[g]? = w.heap[g]? := hg.block g h.lt (fun e => hr g e.symm rfl)
  exact ⟨(World.cell?_of_block (a := ⟨g, 0, none⟩) e).trans h.1, (World.frozen?_of_block (a := ⟨g, 0, none⟩) e).trans h.2⟩
theorem gb_up {w w1 w' : World} {g : Nat} {r : Option Nat} (h : w.grownBy w1 (some g)) (h2 : w1.grownBy w' r) (hr : ∀ j, r = some j → w.heap.size ≤ j) : w.grownBy w' (some g) :=
  ⟨h2.os.trans h.os, h2.tape.trans h.tape, h2.output.trans h.output, Nat.le_trans h.size h2.size, fun k hk hne => (h2.block k (Nat.lt_of_lt_of_le hk h.size) (fun e => by have := hr k e.symm; omega)).trans (h.block k hk hne)⟩
theorem own_gb' {w w' : World} {b : Nat} {cs : Array Value} {T : TypeId} {r : Option Nat} (h : Rg.Own w b cs T) (hg : w.grownBy w' r) (hne : r ≠ some b) : Rg.Own w' b cs T :=
  ⟨Nat.lt_of_lt_of_le h.1 hg.size, (hg.block b h.1 (fun e => hne e.symm)).trans h.2⟩
/-- what was read ahead of the rest -/
def glue (xs : List It) : Except Int (List It × Nat) → Except Int (List It × Nat)
  | .error c => .error c
  | .ok (ys, k) => .ok (xs ++ ys, k)
theorem glue_more {s : List UInt8} {around k n k' : Nat} {xs : List It} {x : It} (hs : s ≠ []) (hn : 1 ≤ n) (h : readL s around k = .ok (x, n, k')) : glue xs (allL s around k) = glue (xs ++ [x]) (allL (s.drop n) around k') := by
  cases s with
  | nil => exact absurd rfl hs
  | cons c t =>
    obtain ⟨m, rfl⟩ : ∃ m, n = m + 1 := ⟨n - 1, by omega⟩
    rw [allL, h]
    dsimp only
    rw [Nat.add_sub_cancel, List.drop_succ_cons]
    cases allL (t.drop m) around k' with
    | error e => rfl
    | ok r => obtain ⟨ys, k2⟩ := r; simp [glue]
theorem glue_err {s : List UInt8} {around k : Nat} {xs : List It} {c : Int} (hs : s ≠ []) (h : readL s around k = .error c) : glue xs (allL s around k) = .error c := by
  cases s with
  | nil => exact absurd rfl hs
  | cons d t => rw [allL, h]; rfl
theorem glue_nil (xs : List It) (around k : Nat) : glue xs (allL [] around k) = .ok (xs, k) := by
  rw [allL]
  simp [glue]
theorem glue_zero (r : Except Int (List It × Nat)) : glue [] r = r := by
  cases r with
  | error c => rfl
  | ok r => rfl
theorem rest_bytes (r : ByteArray) (n : Nat) (h : n ≤ r.size) : (r.extract n r.size).data.toList = r.data.toList.drop n := by
  have := ext_bytes r n (r.size - n)
  rw [show n + (r.size - n) = r.size by omega] at this
  rw [this]
  show (r.data.toList.drop n).take (r.size - n) = _
  rw [List.take_of_length_le]
  rw [List.length_drop, ← size_len]
  exact Nat.le_refl _
def restSize : Value → Nat
  | .string r => r.size
  | _ => 0

set_option maxRecDepth 100000 in
set_option maxHeartbeats 8000000 in
theorem all_tells (s : ByteArray) (hsz : s.size ≤ 9223372036854775807) (hR : ∀ t : ByteArray, t.size ≤ s.size → ReadC t) : AllC s := by
  intro around k g ar w har ha hk hT
  have hgl := hT.lt
  obtain ⟨r0, hr0⟩ : ∃ r0, allL s.data.toList around k = r0 := ⟨_, rfl⟩
  rw [hr0]
  have HRd := Lib.hid hR
  have HAR := Lib.hid har
  have HT := Lib.hid hT
  have H0 : Hid (r0 = glue [] (allL s.data.toList around k)) := Lib.hid (by rw [glue_zero, hr0])
  clear hR har hT hr0
  unfold AllTo
  go_enter Try.func39, Try.ntmps39
  go_wp2
  go_loopw [1, 7] (fun rs v wr => ∃ (r : ByteArray) (xs : List It) (kk : Nat), rs = .string r ∧ r.size ≤ s.size ∧ kk ≤ 4096 ∧ xs.length ≤ kk ∧ Hid (r0 = glue xs (allL r.data.toList around kk)) ∧ Hid (RowI w.heap.size wr v xs) ∧ Hid (Tal wr g kk) ∧ Hid (w.grownBy wr (some g))) (fun rs _ _ => restSize rs)
  case atStart => exact ⟨s, [], k, rfl, Nat.le_refl _, hk, Nat.zero_le _, Lib.hid H0.out, Lib.hid (RowI.nil _ _), Lib.hid HT.out, Lib.hid (gb_refl _ _)⟩
  case round =>
    obtain ⟨r, xs, kk, rfl, hrs, hkk, hxk, HGl, HRow, HTk, HG⟩ := hrel
    clear H0 HT
    by_cases hne : r.data.toList = []
    · have e1 : (r.toList == []) = true := by rw [ByteArray.toList_eq, hne]; rfl
      have e2 : (r.toList != []) = false := by rw [bne, e1]; rfl
      have hg := HGl.out
      rw [hne, glue_nil] at hg
      obtain ⟨a', n', c', hv, hI⟩ := HRow.out.done (by omega)
      subst hg
      subst hv
      have HI := Lib.hid hI
      clear HRd hI HRow HGl hne
      go_wp2
      go_ret
      exact ⟨a', n', c', rfl, HI.out, HTk.out, HG.out⟩
    · have e1 : (r.toList == []) = false := by rw [beq_eq_false_iff_ne, ByteArray.toList_eq]; exact hne
      have e2 : (r.toList != []) = true := by rw [bne, e1]; rfl
      have hrd := HRd.out r hrs around kk g ar wr HAR.out ha hkk HTk.out
      cases hrr : readL r.data.toList around kk with
      | error c =>
        rw [hrr] at hrd
        have HD : Hid (Calls Try.prog 29 #[.pointer (some ⟨g, 0, none⟩), .string r, .int .i64 ar] wr fun e w' => e = .panicked [errP c] ∧ wr.grownBy w' (some g)) := Lib.hid hrd
        have hg := HGl.out
        rw [glue_err hne hrr] at hg
        subst hg
        clear HRd hrd hrr HGl hne HRow
        go_wp2_with fail
        with_reducible refine HD.out.mono ?_
        rintro e w1 ⟨rfl, hg1⟩
        have HG1 := Lib.hid (gb_trans HG.out hg1)
        clear hg1
        go_wp2
        simp [bodyPost]
        exact ⟨rfl, HG1.out⟩
      | ok q =>
        obtain ⟨x, n, k2⟩ := q
        rw [hrr] at hrd
        have HD : Hid (Calls Try.prog 29 #[.pointer (some ⟨g, 0, none⟩), .string r, .int .i64 ar] wr fun e w' =>
          ∃ a nn cap, e = .returned (.tuple #[itV x a nn cap, .int .i64 n]) ∧ ItsIn wr.heap.size w' x.xs a nn cap ∧ Tal w' g k2 ∧ wr.grownBy w' (some g)) := Lib.hid hrd
        obtain ⟨p1, p2, p3, p4⟩ := (props r.data.toList.length).1 _ _ _ _ _ _ (Nat.le_refl _) hrr
        rw [← size_len] at p2
        have hg := HGl.out
        rw [glue_more hne p1 hrr] at hg
        have HGl2 := Lib.hid hg
        have hlv := HRow.out.lt
        have HOk : Hid (∀ j, u7.ownBlock = some j → w.heap.size ≤ j ∧ g ≠ j) := Lib.hid (fun j hj => ⟨(hlv j hj).1, by have := (hlv j hj).1; omega⟩)
        have HOl : Hid (∀ j, u7.ownBlock = some j → j < wr.heap.size) := Lib.hid (fun j hj => (hlv j hj).2)
        have hrb : r.size ≤ 9223372036854775807 := by omega
        clear HRd hrd hrr HGl hne hg hlv
        unfold itV at HD
        go_wp2_with fail
        with_reducible refine HD.out.mono ?_
        rintro e w1 ⟨A, N, C, rfl, hI, ht, hg1⟩
        have hz1 := hg1.size
        have hD : Below w1.heap.size w1 (w1.alloc (.cells #[.bool x.l, .string x.s, .slice A N C] 24)).drew := (al1 _ _).drew
        have HR1 := Lib.hid ((HRow.out.gb hg1 hgl).below' hD)
        have HI1 : Hid (ItsP (fun b => w.heap.size ≤ b ∧ u7.ownBlock ≠ some b) (w1.alloc (.cells #[.bool x.l, .string x.s, .slice A N C] 24)).drew x.xs A N C) := Lib.hid ((hI.to (fun b _ hb => ⟨Nat.le_trans HG.out.size hb, fun e => by have := HOl.out b e; omega⟩)).stays hD)
        have HT1 := Lib.hid (ht.below hD)
        have HG1 := Lib.hid (gb_trans (gb_trans HG.out hg1) (gb_of hD))
        have HZ1 : Hid (w.heap.size ≤ (w1.alloc (.cells #[.bool x.l, .string x.s, .slice A N C] 24)).drew.heap.size) := Lib.hid (Nat.le_trans HG.out.size (Nat.le_trans hz1 hD.size))
        have hOx : Rg.Own (w1.alloc (.cells #[.bool x.l, .string x.s, .slice A N C] 24)) w1.heap.size (itC x A N C) 24 := Rg.Own.new _ _ _
        have HOw : Hid (u7.ownBlock ≠ some w1.heap.size) := Lib.hid (fun e => by have := HOl.out _ e; omega)
        have HN : Hid (xs.length ≤ 4096) := Lib.hid (by omega)
        clear hI ht hg1 hz1 hD HD
        go_wp2_with fail
        refine wp_region_noPanic ?_
        refine wp_region_held_drew (S := fun w' => Rg.Own w' w1.heap.size (itC x A N C) 24) (by kernel_rfl) (hOx.drew) (fun hHeld => ?_)
        refine Rg.takeL (i := 0) (v := ?_) rfl (by kernel_rfl) (by kernel_rfl) (by kernel_rfl) (fun _ _ _ h => h) (Or.inl ⟨by rfl, ?_⟩) (by assumption) ?_
        rotate_left
        · (intro wz hSw; (try dsimp only at hSw); go_simp <;> with_reducible rfl)
        try simp only [Act.put, List.setIfInBounds_toArray, List.set_cons_zero, List.set_cons_succ]
        refine Rg.takeL (i := 1) (v := ?_) rfl (by kernel_rfl) (by kernel_rfl) (by kernel_rfl) (fun _ _ _ h => h) (Or.inl ⟨by rfl, ?_⟩) (by assumption) ?_
        rotate_left
        · (intro wz hSw; obtain ⟨z0, z1, z2⟩ := lies_row hSw.2; go_simp <;> with_reducible rfl)
        try simp only [Act.put, List.setIfInBounds_toArray, List.set_cons_zero, List.set_cons_succ]
        refine Rg.takeL (i := 4) (v := ?_) rfl (by kernel_rfl) (by kernel_rfl) (by kernel_rfl) (fun _ _ _ h => h) (Or.inl ⟨by rfl, ?_⟩) (by assumption) ?_
        rotate_left
        · (intro wz hSw; (try dsimp only at hSw); go_simp <;> with_reducible rfl)
        try simp only [Act.put, List.setIfInBounds_toArray, List.set_cons_zero, List.set_cons_succ]
        refine Rg.takeL (i := 5) (v := ?_) rfl (by kernel_rfl) (by kernel_rfl) (by kernel_rfl) (fun _ _ _ h => h) (Or.inl ⟨by rfl, ?_⟩) (by assumption) ?_
        rotate_left
        · (intro wz hSw; (try dsimp only at hSw); go_simp <;> with_reducible rfl)
        try simp only [Act.put, List.setIfInBounds_toArray, List.set_cons_zero, List.set_cons_succ]
        refine Rg.takeL (i := 6) (v := ?_) rfl (by kernel_rfl) (by kernel_rfl) (by kernel_rfl) (fun _ _ _ h => h) (Or.inl ⟨by rfl, ?_⟩) (by assumption) ?_
        rotate_left
        · (intro wz hSw; have hz6 : (n : Int) ≤ (r.size : Int) := (by omega); go_simp <;> with_reducible rfl)
        try simp only [Act.put, List.setIfInBounds_toArray, List.set_cons_zero, List.set_cons_succ]
        refine wpAnyH_ready (rs := [2]) (by kernel_rfl) (by simp) ?_
        refine Rg.readyL (i := 2) rfl (fun K hK => ?_)
        refine meetItem (x := x) (by rfl) ⟨_, rfl, rfl⟩ ?_
        rintro wv0 b2 h2 hbx
        have HR0 := Lib.hid (HR1.out.below' hbx)
        have HI0 := Lib.hid (HI1.out.stays hbx)
        have HT0 := Lib.hid (HT1.out.below hbx)
        have HG0 := Lib.hid (gb_trans HG1.out (gb_of hbx))
        have HZ0 := Lib.hid (Nat.le_trans HZ1.out hbx.size)
        refine hK.out _ _ ?_ (fun hHeld => ?_)
        · exact hHeld.below hbx
        clear hK K hbx
        try simp only [Act.put, List.setIfInBounds_toArray, List.set_cons_zero, List.set_cons_succ]
        refine wpAnyH_ready (rs := [3]) (by kernel_rfl) (by simp) ?_
        refine Rg.readyL (i := 3) rfl (fun K hK => ?_)
        refine meetPush (by rfl) ⟨_, _, rfl, rfl, rfl⟩ HR0.out h2 HI0.out HN.out HZ0.out ?_
        rintro v' wv9 hr9 hg9
        have HR9 := Lib.hid hr9
        have HT9 := Lib.hid (HT0.out.gb hg9 (fun k hk => (HOk.out k hk).2))
        have HG9 := Lib.hid (gb_up HG0.out hg9 (fun k hk => (HOk.out k hk).1))
        have hown := own_gb' hHeld hg9 (fun e => HOw.out e)
        refine hK.out _ _ ?_ (fun hHeld => ?_)
        · exact hown
        clear hK K hown hr9 hg9
        try simp only [Act.put, List.setIfInBounds_toArray, List.set_cons_zero, List.set_cons_succ]
        refine Rg.takeL (i := 7) (v := ?_) rfl (by kernel_rfl) (by kernel_rfl) (by kernel_rfl) (fun _ _ _ h => h) (Or.inl ⟨by rfl, ?_⟩) (by assumption) ?_
        rotate_left
        · (intro wz hSw; (try dsimp only at hSw); go_simp <;> with_reducible rfl)
        try simp only [Act.put, List.setIfInBounds_toArray, List.set_cons_zero, List.set_cons_succ]
        refine Rg.takeL (i := 8) (v := ?_) rfl (by kernel_rfl) (by kernel_rfl) (by kernel_rfl) (fun _ _ _ h => h) (Or.inl ⟨by rfl, ?_⟩) (by assumption) ?_
        rotate_left
        · (intro wz hSw; (try dsimp only at hSw); go_simp <;> with_reducible rfl)
        try simp only [Act.put, List.setIfInBounds_toArray, List.set_cons_zero, List.set_cons_succ]
        refine wpAnyH_done (by kernel_rfl) ?_ _
        refine NoPanic.normal ?_
        have HE : Hid ((r.extract n r.size).data.toList = r.data.toList.drop n) := Lib.hid (rest_bytes r n p2)
        have hes : (r.extract n r.size).size = r.size - n := by rw [ByteArray.size_extract]; omega
        obtain ⟨r2, hr2⟩ : ∃ r2, r.extract n r.size = r2 := ⟨_, rfl⟩
        rw [hr2] at HE hes
        simp only [hr2]
        clear hr2
        go_wp2
        go_roundw
        case rel => exact ⟨r2, xs ++ [x], k2, rfl, by omega, p4, by rw [List.length_append, List.length_singleton]; omega, Lib.hid (by rw [HE.out]; exact HGl2.out), Lib.hid HR9.out, Lib.hid HT9.out, Lib.hid HG9.out⟩
        case measure => simp [restSize]; omega
end Rl
end Go.Proofs.Ytmnihiagkmdepaa
