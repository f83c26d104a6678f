/-
  Layer 12: the contract of Epochs; what a store tells; what nil tells.
-/
import Derived.Test.YtlembfhdljmcoaaDoorMb7
import Derived.Test.YtlembfhdljmcoaaDoorMb6
import Derived.Test.YtlembfhdljmcoaaDoorMb9
set_option linter.unusedSimpArgs false
set_option linter.unusedVariables false
namespace Go.Proofs.YtlembfhdljmcoaaDoor
set_option maxRecDepth 20000
open Go.RowKit Go.Maps Go.Sort

namespace Bd
open Rf Sm
theorem keys_own {w : World} {b n : Nat} {D : DataW Value} (h : w.ownsMap Tryd.prog 3 heldE b n D) : (intKeys D).Nodup ∧ ∀ x, x ∈ intKeys D ↔ Maps.has D (.int .i64 x) = true := by
  obtain ⟨es, hD, hpw, _⟩ := h.entries (int_keyed Tryd.underlying3)
  obtain ⟨es', hD', hko⟩ := h.keysOf
  obtain rfl : es = es' := by rw [hD] at hD'; simpa using hD'
  subst hD
  have hk : ∀ p ∈ es, ∃ x : Int, p.1 = .int .i64 x := fun p hp => by
    obtain ⟨v, hv⟩ := hko p hp
    obtain ⟨x, _, hx, _⟩ := Maps.keyOf_i64 Tryd.underlying3 hv
    exact ⟨x, hx⟩
  refine ⟨?_, fun x => ?_⟩
  · refine List.pairwise_map.2 (hpw.imp_of_mem fun {p q} hp' hq' hne e => hne ?_)
    obtain ⟨a, ha⟩ := hk p hp'
    obtain ⟨b, hb⟩ := hk q hq'
    rw [ha, hb] at e ⊢
    exact congrArg _ e
  · rw [has_eq, List.any_eq_true]
    show x ∈ es.map (fun p => Go.intOf p.1) ↔ _
    rw [List.mem_map]
    constructor
    · rintro ⟨p, hp', rfl⟩
      obtain ⟨a, ha⟩ := hk p hp'
      exact ⟨p, hp', by rw [ha]; simp [Lit.sameKey, Go.intOf]⟩
    · rintro ⟨p, hp', hs⟩
      obtain ⟨a, ha⟩ := hk p hp'
      rw [ha] at hs
      exact ⟨p, hp', by rw [ha]; simpa [Lit.sameKey, Go.intOf] using hs⟩
theorem sorted_up {l : List Int} (h : l.Nodup) : (l.mergeSort fun x y => decide (x ≤ y)).Pairwise (· < ·) := by
  have tr : ∀ a b c : Int, decide (a ≤ b) = true → decide (b ≤ c) = true → decide (a ≤ c) = true := fun a b c h1 h2 => by simp only [decide_eq_true_eq] at *; omega
  have tt : ∀ a b : Int, (decide (a ≤ b) || decide (b ≤ a)) = true := fun a b => by simp only [Bool.or_eq_true, decide_eq_true_eq]; omega
  have hs := List.pairwise_mergeSort tr tt l
  have hn : (l.mergeSort fun x y => decide (x ≤ y)).Nodup := (List.mergeSort_perm l _).nodup_iff.2 h
  refine (hs.and hn).imp fun {a b} g => ?_
  have h1 := of_decide_eq_true g.1
  have h2 := g.2
  omega
theorem isIs_own {w : World} {B : Nat} {v : Value} {E : List Int} (h : w.ownsRow B 3 1 v E.length (E.map encZ)) : ∃ a c, v = .slice a E.length c ∧ IsIs w a E.length c E := by
  rcases h.2 with ⟨rfl, hz⟩ | ⟨g, cap, cur, rfl, hbg, hg, hnc, hcm, hcs, htake⟩
  · obtain rfl : E = [] := List.eq_nil_of_length_eq_zero hz
    exact ⟨none, 0, rfl, Nat.le_refl _, Nat.zero_le _, rfl, fun _ h => absurd h (Nat.not_lt_zero _)⟩
  · refine ⟨_, _, rfl, hnc, hcm, rfl, fun j hj => ⟨g, 0, rfl, (Array.getElem?_eq_some_iff.1 hg).1, ?_⟩⟩
    have := h.cells (g := g) rfl j (.int .i64 (E.getD j 0)) (by simp [hj, List.getD])
    rw [Addr.add_mid] at this
    exact this
set_option maxHeartbeats 2000000 in
theorem epochs_any {bb : Nat} {tm hm : Option Nat} {n : Int} {tw : Option (ByteArray × ByteArray)} {M : Int → Option Nat} {N : Nat} {w : World} (hO : Rg.Own w bb (objA tm hm n tw) 56) (hH : MoH w hm (hF M) N) (hN : N ≤ 1000) :
    Calls Tryd.prog 22 #[.pointer (some ⟨bb, 0, none⟩)] w fun e w' => ∃ a n c E, e = .returned (.slice a n c) ∧ IsIs w' a n c E ∧ Below w.heap.size w w' ∧ E.Pairwise (· < ·) ∧ ∀ x, x ∈ E ↔ W64 x ∧ M x ≠ none := by
  have q1 := ob1 hO
  have HK := Lib.hid (keys_made hm w)
  have HS : Hid (Calls Tryd.prog 30 #[.func (.func 44) #[] #[.pointer (some ⟨w.heap.size, 0, none⟩)]] (w.alloc (.cells #[.map hm] 54)) fun e w' => ∃ a n c E, e = .returned (.slice a n c) ∧ IsIs w' a n c E ∧ Below w.heap.size w w' ∧ E.Pairwise (· < ·) ∧ ∀ x, x ∈ E ↔ W64 x ∧ M x ≠ none) := Lib.hid (by
    obtain ⟨wA, hwA⟩ : ∃ wA, wA = w.alloc (.cells #[.map hm] 54) := ⟨_, rfl⟩
    have hA : Below w.heap.size w wA := by rw [hwA]; exact al1 _ _
    have hBx : Rg.Own wA w.heap.size #[.map hm] 54 := by rw [hwA]; exact Rg.Own.new _ _ _
    have hH' : MoH wA hm (hF M) N := hH.same fun b e => hA.block b (hH.lt e)
    rw [← hwA]
    cases hm with
    | none =>
      refine (sorted_nil w.heap.size wA hBx.1 (own_at hBx rfl)).mono ?_
      rintro e w' ⟨rfl, hb⟩
      refine ⟨none, 0, 0, [], rfl, ⟨Nat.le_refl _, Nat.zero_le _, rfl, fun _ h => absurd h (Nat.not_lt_zero _)⟩, hA.trans (hb.mono hA.size), List.Pairwise.nil, fun x => ⟨fun h => (by cases h), fun h => ?_⟩⟩
      have := hH.1 x h.1
      unfold hF at this
      cases hM : M x with
      | none => exact absurd hM h.2
      | some m => rw [hM] at this; cases this
    | some b =>
      obtain ⟨D, hD⟩ := hH'
      refine (sorted_keys b w.heap.size wA hD.own (by rw [hD.size]; exact hN) hBx.1 (own_at hBx rfl)).mono ?_
      rintro e w' ⟨v, ss, rfl, hp, hr, _, hb⟩
      have hl : (ss.mergeSort fun x y => decide (x ≤ y)).length = ss.length := List.length_mergeSort _
      obtain ⟨E, hE⟩ : ∃ E, (ss.mergeSort fun x y => decide (x ≤ y)) = E := ⟨_, rfl⟩
      have hk := keys_own hD.own
      have hsn : ss.Nodup := hp.nodup_iff.2 hk.1
      have hup := sorted_up hsn
      have hmem : ∀ x, x ∈ E ↔ x ∈ ss := fun x => by rw [← hE]; exact (List.mergeSort_perm ss _).mem_iff
      rw [hE] at hl hr hup
      rw [← hl] at hr
      obtain ⟨a, c, rfl, hI⟩ := isIs_own hr
      refine ⟨a, _, c, E, rfl, hI, hA.trans (hb.mono hA.size), hup, fun x => ?_⟩
      rw [hmem, hp.mem_iff, hk.2 x]
      constructor
      · intro h
        have hw : W64 x := intKeys_wf hD.own Tryd.underlying3 x ((hk.2 x).2 h)
        refine ⟨hw, fun g => ?_⟩
        have := hD.at_ x hw
        unfold hF at this
        rw [g] at this
        have h0 : Maps.has D (.int .i64 x) = false := this
        rw [h0] at h
        cases h
      · rintro ⟨hw, g⟩
        have := hD.at_ x hw
        unfold hF at this
        cases hM : M x with
        | none => exact absurd hM g
        | some m => rw [hM] at this; exact this.1)
  clear hO hH hN
  go_enter Tryd.func22, Tryd.ntmps22
  go_wp2_with fail
  refine HK.out.mono ?_
  rintro e w1 ⟨rfl, hw1⟩
  rw [← hw1] at HS
  clear hw1 HK
  go_wp2_with fail
  refine HS.out.mono ?_
  rintro e w2 ⟨a, n, c, E, rfl, hI, hb, h1, h2⟩
  have HR := Lib.hid (show ∃ a' n' c' E', (Ending.returned (.slice a n c)) = .returned (.slice a' n' c') ∧ IsIs w2 a' n' c' E' ∧ Below w.heap.size w w2 ∧ E'.Pairwise (· < ·) ∧ ∀ x, x ∈ E' ↔ W64 x ∧ M x ≠ none from ⟨a, n, c, E, rfl, hI, hb, h1, h2⟩)
  clear hI hb h1 h2 HS
  go_wp2
  go_ret
  exact HR.out
end Bd
end Go.Proofs.YtlembfhdljmcoaaDoor

/-
  Layer 12: what a store tells, by its rows; what nil tells.
-/
namespace Go.Proofs.YtlembfhdljmcoaaDoor
set_option maxRecDepth 20000
open Go.RowKit Go.Maps

namespace Bd
open Rf Sm
theorem sumT_size (t : ByteArray) : (sumT t).size = 32 := by
  have := sumB_length t
  show (sumB t).toArray.size = 32
  simpa using this
theorem sumT_list (t : ByteArray) : (sumT t).data.toList = sumB t := by simp [sumT]
theorem ex_none {bb : Nat} {tm hm : Option Nat} {M : Int → Option Nat} {ft : List UInt8 → Option Value} {Nt : Nat} {fi : Int → List UInt8 → Option Value} {Ni : Int → Nat} {Nh : Nat} {n : Int} {tw : Option (ByteArray × ByteArray)} {w : World} (h : Sg bb tm hm M ft Nt fi Ni Nh n tw w) {e : Int} (he : M e = none) : (∀ x, L32 x → fi e x = none) ∧ Ni e = 0 := by
  have := h.inn e
  rw [he] at this
  exact this
theorem obj_get {p : Option Addr} {l : List Rw} {tw : Option (ByteArray × ByteArray)} {K : Nat → Prop} {w : World} (h : obj p l tw K w) {x : List UInt8} (hx : L32 x) {s : ByteArray} {m : Nat} {f : Bool} (hV : (ftx l x).getD (bodyV eB 0) = bodyV s m) (hf : (ftx l x).isSome = f) :
    Calls Tryd.prog 18 #[.pointer p, .agg (kc x)] w fun e w' => e = .returned (.tuple #[.string s, .bool f]) ∧ Below w.heap.size w w' := by
  obtain ⟨bb, tm, hm, M, rfl, rfl, h⟩ := h
  obtain ⟨Nh, _, g⟩ := h.g
  exact get_any g.own g.tx hx hV hf
theorem obj_find {p : Option Addr} {l : List Rw} {tw : Option (ByteArray × ByteArray)} {K : Nat → Prop} {w : World} (h : obj p l tw K w) {r : ByteArray} (hr : r.size = 32) {s : ByteArray} {m : Nat} {f : Bool} (hV : (ftx l r.data.toList).getD (bodyV eB 0) = bodyV s m) (hf : (ftx l r.data.toList).isSome = f) :
    Calls Tryd.prog 19 #[.pointer p, .string r] w fun e w' => e = .returned (.tuple #[.string s, .bool f]) ∧ Below w.heap.size w w' := by
  have hX : L32 r.data.toList := by show r.data.toList.length = 32; simpa using hr
  have h' := h
  obtain ⟨bb, tm, hm, M, rfl, rfl, _⟩ := h'
  exact find_ok hr fun w' hb => obj_get (obj_keep h hb.size fun k hk => hb.block k (obj_lt h k hk)) hX hV hf
theorem obj_reads {p : Option Addr} {l : List Rw} {tw : Option (ByteArray × ByteArray)} {K : Nat → Prop} {w0 : World} (h0 : obj p l tw K w0) (hF : Bd.Fine 40 l) : Reads p (fun w => obj p l tw K w ∧ Tab w) l := by
  have ho : OneS l := by
    obtain ⟨bb, tm, hm, M, _, _, h⟩ := h0
    exact h.o
  refine ⟨fun w w' h hb => ⟨obj_keep h.1 hb.size fun k hk => hb.block k (obj_lt h.1 k hk), h.2.below hb h.2.pos⟩, fun w h t ht => ?_, fun w h t ht => ?_, fun w h r hr => ?_, fun w h => ?_, fun w h => ?_⟩
  · obtain ⟨r, hr, rfl⟩ := mem_texts.1 ht
    exact obj_get h.1 (sumB_length r.s) (m := epN l r.s) (by rw [ftx_some ho hr]; rfl) (by rw [ftx_some ho hr]; rfl)
  · obtain ⟨r, hr, rfl⟩ := mem_texts.1 ht
    exact obj_find h.1 (sumT_size _) (m := epN l r.s) (by rw [sumT_list, ftx_some ho hr]; rfl) (by rw [sumT_list, ftx_some ho hr]; rfl)
  · by_cases h32 : r.size = 32
    · have hn : ¬ r.size < 32 := by omega
      rcases ftx_cases ho r.data.toList with ⟨q, hq, hx, hf⟩ | ⟨_, hf⟩
      · refine (obj_find h.1 h32 (s := q.s) (m := epN l q.s) (f := true) (by rw [hf]; rfl) (by rw [hf]; rfl)).mono ?_
        rintro e w' ⟨rfl, hb⟩
        refine ⟨q.s, true, rfl, hb, fun _ h => absurd h hn, fun _ => ⟨by omega, by omega⟩, fun _ _ => ⟨?_, (hF.row q hq).2.2.1⟩⟩
        apply ByteArray.ext
        show (sumB q.s).toArray = r.data
        rw [hx]
      · refine (obj_find h.1 h32 (s := eB) (m := 0) (f := false) (by rw [hf]; rfl) (by rw [hf]; rfl)).mono ?_
        rintro e w' ⟨rfl, hb⟩
        exact ⟨eB, false, rfl, hb, fun _ h => absurd h hn, fun h => (by cases h), fun h => (by cases h)⟩
    · obtain ⟨bb, tm, hm, M, rfl, rfl, _⟩ := h.1
      by_cases h0 : r.size = 0
      · refine (find_zero w r h0).mono ?_
        rintro e w' ⟨rfl, hb⟩
        exact ⟨eB, false, rfl, hb, fun g => absurd g (by omega), fun h => (by cases h), fun h => (by cases h)⟩
      · by_cases hs : r.size < 32
        · refine (find_short w r (by omega) hs).mono ?_
          rintro e w' ⟨rfl, hb⟩
          exact ⟨r, true, rfl, hb, fun _ _ => ⟨rfl, rfl⟩, fun _ => ⟨by omega, by omega⟩, fun _ g => absurd hs g⟩
        · refine (find_long w r (by omega) hr).mono ?_
          rintro e w' ⟨rfl, hb⟩
          exact ⟨eB, false, rfl, hb, fun _ g => absurd g hs, fun h => (by cases h), fun h => (by cases h)⟩
  · obtain ⟨bb, tm, hm, M, rfl, rfl, hst⟩ := h.1
    obtain ⟨Nh, _, g⟩ := hst.g
    exact size_any g.own g.tx
  · obtain ⟨bb, tm, hm, M, rfl, rfl, hst⟩ := h.1
    obtain ⟨Nh, hN, g⟩ := hst.g
    refine (epochs_any g.own g.hd (by have := hF.len; have := epochs_le l; omega)).mono ?_
    rintro e w' ⟨a, n, c, E, rfl, hI, hb, h1, h2⟩
    refine ⟨a, n, c, E, rfl, hI, hb, h1, fun x => ?_⟩
    rw [h2, ← ex_pos]
    constructor
    · rintro ⟨_, hM⟩
      cases hMx : M x with
      | none => exact absurd hMx hM
      | some m => exact hst.full x m hMx
    · intro hx
      obtain ⟨r, hr, rfl⟩ := ex_pos.1 hx
      refine ⟨w64_in (hF.row r hr).2.2.2.1 (hF.row r hr).2.2.2.2, fun hM => ?_⟩
      have := (ex_none g hM).2
      omega
theorem theLooks : Looks obj := fun p l tw K w x h _ hF hx => by
  have ho : OneS l := by
    obtain ⟨bb, tm, hm, M, _, _, h⟩ := h
    exact h.o
  rcases ftx_cases ho x with ⟨q, hq, hs, hf⟩ | ⟨_, hf⟩
  · refine (obj_get h hx (s := q.s) (m := epN l q.s) (f := true) (by rw [hf]; rfl) (by rw [hf]; rfl)).mono ?_
    rintro e w' ⟨rfl, hb⟩
    exact ⟨q.s, true, rfl, hb, fun _ => ⟨hs, (hF.row q hq).2.2.1⟩, fun g => (by cases g)⟩
  · refine (obj_get h hx (s := eB) (m := 0) (f := false) (by rw [hf]; rfl) (by rw [hf]; rfl)).mono ?_
    rintro e w' ⟨rfl, hb⟩
    exact ⟨eB, false, rfl, hb, fun g => (by cases g), fun _ => rfl⟩
theorem nil_get (w : World) (x : List UInt8) (_ : x.length = 32) : Calls Tryd.prog 18 #[.pointer none, .agg (kc x)] w fun e w' => e = .returned (.tuple #[.string eB, .bool false]) ∧ Below w.heap.size w w' := by
  obtain ⟨k, hk⟩ : ∃ k, kc x = k := ⟨_, rfl⟩
  rw [hk]
  clear hk
  have HB := Lib.hid (al1 w (.cells k 43))
  go_enter Tryd.func18, Tryd.ntmps18
  go_wp2_with fail
  go_ret2
  exact ⟨rfl, HB.out⟩
theorem nil_find (w : World) (r : ByteArray) : Calls Tryd.prog 19 #[.pointer none, .string r] w fun e w' => e = .returned (.tuple #[.string eB, .bool false]) ∧ Below w.heap.size w w' := by
  go_enter Tryd.func19, Tryd.ntmps19
  go_wp2_with fail
  go_ret2
  exact ⟨rfl, Below.refl _ _⟩
theorem nil_twin (w : World) : Calls Tryd.prog 14 #[.pointer none] w fun e w' => e = .returned (.tuple #[.string eB, .string eB, .bool false]) ∧ Below w.heap.size w w' := by
  go_enter Tryd.func14, Tryd.ntmps14
  go_wp2_with fail
  go_ret3
  exact ⟨rfl, Below.refl _ _⟩
theorem nil_size (w : World) : Calls Tryd.prog 20 #[.pointer none] w fun e w' => e = .returned (.tuple #[.int .i64 0, .int .i64 0]) ∧ Below w.heap.size w w' := by
  go_enter Tryd.func20, Tryd.ntmps20
  go_wp2_with fail
  go_ret2
  exact ⟨rfl, Below.refl _ _⟩
theorem nil_drop (w : World) (x : Int) : Calls Tryd.prog 11 #[.pointer none, .int .i64 x] w fun e w' => e = .returned (.int .i64 0) ∧ Below w.heap.size w w' := by
  go_enter Tryd.func11, Tryd.ntmps11
  go_wp2_with fail
  go_ret
  exact ⟨rfl, Below.refl _ _⟩
theorem nil_epochs (w : World) : Calls Tryd.prog 22 #[.pointer none] w fun e w' => e = .returned (.slice none 0 0) ∧ Below w.heap.size w w' := by
  go_enter Tryd.func22, Tryd.ntmps22
  go_wp2_with fail
  go_ret
  exact ⟨rfl, Below.refl _ _⟩
theorem nil_put (w : World) (x : Int) (s : ByteArray) : Calls Tryd.prog 13 #[.pointer none, .int .i64 x, .string s] w fun e w' => e = .returned (.int .i64 1) ∧ Below w.heap.size w w' := by
  go_enter Tryd.func13, Tryd.ntmps13
  go_wp2_with fail
  go_ret
  exact ⟨rfl, Below.refl _ _⟩
theorem nil_free (w : World) (x : Int) (s : ByteArray) : Calls Tryd.prog 8 #[.pointer none, .int .i64 x, .string s] w fun e w' => e = .returned (.int .i64 1) ∧ Below w.heap.size w w' := by
  go_enter Tryd.func8, Tryd.ntmps8
  go_wp2_with fail
  go_ret
  exact ⟨rfl, Below.refl _ _⟩
theorem theNils : Nils := ⟨nil_get, nil_find, nil_twin, nil_size, nil_drop, fun w => (nil_epochs w).mono fun _ _ h => ⟨none, 0, h.1, h.2⟩, nil_put, nil_free⟩
end Bd
end Go.Proofs.YtlembfhdljmcoaaDoor

/-
  Layer 12: the operations that write: cells of the struct, maps, entries; frames.
-/
namespace Go.Proofs.YtlembfhdljmcoaaDoor
set_option maxRecDepth 20000
open Go.RowKit Go.Maps

namespace Bd
open Rf Sm
theorem runSk {P : Program} {w : World} {ops : Array Oper} {rest : List Oper} {o : Oper} {a : Go.Act} {Q : Exit → Go.Act → World → Prop} (hgd : o.guard = none) (w' : World)
    (hr : (execOp a.eval o).run P w = .ok .skip w') (h : wpList P ops Q rest (a.put o.dst undef) w') : wpList P ops Q (o :: rest) a w :=
  wpList_plain hgd fun K hK => by
    unfold Oper.wp
    rw [hr]
    exact hK _ _ h
theorem meetSk {P : Program} {o : Oper} {a : Go.Act} {w : World} {K : Go.Act → World → Prop} {Q : Exit → Go.Act → World → Prop} {ops : Array Oper} (hw : Region.wanted o (yielded ops a.tmps) = true) (w' : World)
    (hr : (execOp a.eval o).run P w = .ok .skip w') (h : K (a.put o.dst undef) w') : if Region.wanted o (yielded ops a.tmps) = true then Oper.wp P o a w K Q else K (a.put o.dst undef) w := by
  rw [if_pos hw]
  unfold Oper.wp
  rw [hr]
  exact h
section
variable {P : Program} {w : World} {ops : Array Oper} {rest : List Oper} {o : Oper} {a : Go.Act} {Q : Exit → Go.Act → World → Prop} {K : Go.Act → World → Prop} {v : Value}
theorem elimW {R : World → Prop} (hgd : o.guard = none) (hr : ∃ w', (execOp a.eval o).run P w = .ok .skip w' ∧ R w') (h : ∀ w', R w' → wpList P ops Q rest (a.put o.dst undef) w') : wpList P ops Q (o :: rest) a w := by
  obtain ⟨w', h1, h2⟩ := hr
  exact runSk hgd w' h1 (h w' h2)
theorem elimM {R : World → Prop} (hw : Region.wanted o (yielded ops a.tmps) = true) (hr : ∃ w', (execOp a.eval o).run P w = .ok .skip w' ∧ R w') (h : ∀ w', R w' → K (a.put o.dst undef) w') : if Region.wanted o (yielded ops a.tmps) = true then Oper.wp P o a w K Q else K (a.put o.dst undef) w := by
  obtain ⟨w', h1, h2⟩ := hr
  exact meetSk hw w' h1 (h w' h2)
theorem elimWv {R : World → Prop} (hgd : o.guard = none) (hr : ∃ w', (execOp a.eval o).run P w = .ok (.value v) w' ∧ R w') (h : ∀ w', R w' → wpList P ops Q rest (a.put o.dst v) w') : wpList P ops Q (o :: rest) a w := by
  obtain ⟨w', h1, h2⟩ := hr
  exact Rg.run hgd v w' h1 (h w' h2)
theorem elimMv {R : World → Prop} (hw : Region.wanted o (yielded ops a.tmps) = true) (hr : ∃ w', (execOp a.eval o).run P w = .ok (.value v) w' ∧ R w') (h : ∀ w', R w' → K (a.put o.dst v) w') : if Region.wanted o (yielded ops a.tmps) = true then Oper.wp P o a w K Q else K (a.put o.dst undef) w := by
  obtain ⟨w', h1, h2⟩ := hr
  exact Rg.meet hw v w' h1 (h w' h2)
theorem elimMe {V : Value} {R : World → Value → Prop} (hw : Region.wanted o (yielded ops a.tmps) = true) (hr : ∃ w' st, (execOp a.eval o).run P w = .ok (.value (.tuple #[V, st])) w' ∧ R w' st) (h : ∀ w' st, R w' st → K (a.put o.dst (.tuple #[V, st])) w') : if Region.wanted o (yielded ops a.tmps) = true then Oper.wp P o a w K Q else K (a.put o.dst undef) w := by
  obtain ⟨w', st, h1, h2⟩ := hr
  exact Rg.meet hw _ w' h1 (h w' st h2)
theorem upd_drew {b : Nat} {w' : World} (h : Rg.Upd w.drew b w') : Rg.Upd w b w' := ⟨h.os, h.tape, h.output, h.size, h.block⟩
/-- a value of several cells is boxed -/
theorem wpl_box {T : TypeId} {x : Operand} {cs : Array Value} (hgd : o.guard = none) (ho : o.op = .box T x) (hx : a.eval x = .agg cs) (hQ : ∀ w' b, b = w.heap.size → Rg.Own w' b cs T → Below w.heap.size w w' → wpList P ops Q rest (a.put o.dst (.pointer (some ⟨b, 0, none⟩))) w') : wpList P ops Q (o :: rest) a w := by
  refine Rg.run hgd (.pointer (some ⟨w.heap.size, 0, none⟩)) (w.alloc (.cells cs T)) ?_ (hQ _ _ rfl (Rg.Own.new _ _ _) (al1 _ _))
  unfold execOp
  simp only [ho, hx]
  rfl
end
namespace FrK
variable {K K' K'' : Nat → Prop} {w w' w'' : World}
theorem refl (K : Nat → Prop) (w : World) (h : ∀ k, K k → k < w.heap.size ∨ True) : FrK K K w w := ⟨rfl, rfl, rfl, Nat.le_refl _, fun _ _ _ => rfl, fun _ h => .inl h⟩
theorem start (K : Nat → Prop) (w : World) : FrK K K w w := ⟨rfl, rfl, rfl, Nat.le_refl _, fun _ _ _ => rfl, fun _ h => .inl h⟩
theorem more (f : FrK K K' w w') (hb : Below w'.heap.size w' w'') : FrK K K' w w'' := ⟨hb.os.trans f.os, hb.tape.trans f.tape, hb.output.trans f.output, Nat.le_trans f.size hb.size, fun k hk hn => (hb.block k (Nat.lt_of_lt_of_le hk f.size)).trans (f.block k hk hn), f.new⟩
theorem upd (f : FrK K K' w w') {b : Nat} (hu : Rg.Upd w' b w'') (hb : K b ∨ w.heap.size ≤ b) : FrK K K' w w'' := ⟨hu.os.trans f.os, hu.tape.trans f.tape, hu.output.trans f.output, Nat.le_trans f.size (Nat.le_of_eq hu.size.symm), fun k hk hn => (hu.block k fun e => by
  subst e
  rcases hb with h | h
  · exact hn h
  · omega).trans (f.block k hk hn), f.new⟩
theorem wide (f : FrK K K' w w') (h : ∀ k, K'' k → K' k ∨ w.heap.size ≤ k) : FrK K K'' w w' := ⟨f.os, f.tape, f.output, f.size, f.block, fun k hk => by
  rcases h k hk with h | h
  · exact f.new k h
  · exact .inr h⟩
theorem trans (f : FrK K K' w w') (g : FrK K' K'' w' w'') : FrK K K'' w w'' := ⟨g.os.trans f.os, g.tape.trans f.tape, g.output.trans f.output, Nat.le_trans f.size g.size, fun k hk hn => (g.block k (Nat.lt_of_lt_of_le hk f.size) fun h => by
  rcases f.new k h with h | h
  · exact hn h
  · omega).trans (f.block k hk hn), fun k hk => by
  rcases g.new k hk with h | h
  · exact f.new k h
  · exact .inr (Nat.le_trans f.size h)⟩
theorem own (f : FrK K K' w w') {b : Nat} {cs : Array Value} {T : TypeId} (h : Rg.Own w b cs T) (hb : ¬ K b) : Rg.Own w' b cs T := own_frk h f hb
end FrK
section
variable {ev : Operand → Value} {o : Oper} {w : World} {b off : Nat} {cs : Array Value} {t : TypeId}
theorem run_stM (h : Rg.Own w b cs t) (hof : off < cs.size) (m : Option Nat) (ho : ∃ p q, o.op = .store 53 p q ∧ ev p = .pointer (some ⟨b, off, none⟩) ∧ ev q = .map m) : (execOp ev o).run Tryd.prog w = .ok .skip (w.setCell ⟨b, off, none⟩ (.map m)) := by
  obtain ⟨p, q, ho, hp, hq⟩ := ho
  have hc : w.cell? ⟨b, off, none⟩ = some cs[off] := own_at h (Array.getElem?_eq_getElem hof)
  have hz : w.frozen? ⟨b, off, none⟩ = false := own_free h
  have hst : (Instr.storeAt 53 (.pointer (some ⟨b, off, none⟩)) (.map m)).run Tryd.prog w = .ok () (w.setCell ⟨b, off, none⟩ (.map m)) := by
    simp [go_sem, hc, hz]
  unfold execOp
  simp only [ho, hp, hq, Sem.run_bind, Sem.run_pure, Result.andThen_ok, hst]
theorem run_stH (h : Rg.Own w b cs t) (hof : off < cs.size) (m : Option Nat) (ho : ∃ p q, o.op = .store 54 p q ∧ ev p = .pointer (some ⟨b, off, none⟩) ∧ ev q = .map m) : (execOp ev o).run Tryd.prog w = .ok .skip (w.setCell ⟨b, off, none⟩ (.map m)) := by
  obtain ⟨p, q, ho, hp, hq⟩ := ho
  have hc : w.cell? ⟨b, off, none⟩ = some cs[off] := own_at h (Array.getElem?_eq_getElem hof)
  have hz : w.frozen? ⟨b, off, none⟩ = false := own_free h
  have hst : (Instr.storeAt 54 (.pointer (some ⟨b, off, none⟩)) (.map m)).run Tryd.prog w = .ok () (w.setCell ⟨b, off, none⟩ (.map m)) := by
    simp [go_sem, hc, hz]
  unfold execOp
  simp only [ho, hp, hq, Sem.run_bind, Sem.run_pure, Result.andThen_ok, hst]
theorem run_stI (h : Rg.Own w b cs t) (hof : off < cs.size) (x : Int) (ho : ∃ p q, o.op = .store 3 p q ∧ ev p = .pointer (some ⟨b, off, none⟩) ∧ ev q = .int .i64 x) : (execOp ev o).run Tryd.prog w = .ok .skip (w.setCell ⟨b, off, none⟩ (.int .i64 x)) := by
  obtain ⟨p, q, ho, hp, hq⟩ := ho
  have hc : w.cell? ⟨b, off, none⟩ = some cs[off] := own_at h (Array.getElem?_eq_getElem hof)
  have hz : w.frozen? ⟨b, off, none⟩ = false := own_free h
  have hst : (Instr.storeAt 3 (.pointer (some ⟨b, off, none⟩)) (.int .i64 x)).run Tryd.prog w = .ok () (w.setCell ⟨b, off, none⟩ (.int .i64 x)) := by
    simp [go_sem, hc, hz]
  unfold execOp
  simp only [ho, hp, hq, Sem.run_bind, Sem.run_pure, Result.andThen_ok, hst]
theorem run_stS (h : Rg.Own w b cs t) (hof : off < cs.size) (x : ByteArray) (ho : ∃ p q, o.op = .store 9 p q ∧ ev p = .pointer (some ⟨b, off, none⟩) ∧ ev q = .string x) : (execOp ev o).run Tryd.prog w = .ok .skip (w.setCell ⟨b, off, none⟩ (.string x)) := by
  obtain ⟨p, q, ho, hp, hq⟩ := ho
  have hc : w.cell? ⟨b, off, none⟩ = some cs[off] := own_at h (Array.getElem?_eq_getElem hof)
  have hz : w.frozen? ⟨b, off, none⟩ = false := own_free h
  have hst : (Instr.storeAt 9 (.pointer (some ⟨b, off, none⟩)) (.string x)).run Tryd.prog w = .ok () (w.setCell ⟨b, off, none⟩ (.string x)) := by
    simp [go_sem, hc, hz]
  unfold execOp
  simp only [ho, hp, hq, Sem.run_bind, Sem.run_pure, Result.andThen_ok, hst]
theorem run_stB (h : Rg.Own w b cs t) (hof : off < cs.size) (x : Bool) (ho : ∃ p q, o.op = .store 4 p q ∧ ev p = .pointer (some ⟨b, off, none⟩) ∧ ev q = .bool x) : (execOp ev o).run Tryd.prog w = .ok .skip (w.setCell ⟨b, off, none⟩ (.bool x)) := by
  obtain ⟨p, q, ho, hp, hq⟩ := ho
  have hc : w.cell? ⟨b, off, none⟩ = some cs[off] := own_at h (Array.getElem?_eq_getElem hof)
  have hz : w.frozen? ⟨b, off, none⟩ = false := own_free h
  have hst : (Instr.storeAt 4 (.pointer (some ⟨b, off, none⟩)) (.bool x)).run Tryd.prog w = .ok () (w.setCell ⟨b, off, none⟩ (.bool x)) := by
    simp [go_sem, hc, hz]
  unfold execOp
  simp only [ho, hp, hq, Sem.run_bind, Sem.run_pure, Result.andThen_ok, hst]
theorem run_upd {tt : TypeId} {m y v : Operand} {w' : World} (ho : o.op = .mapUpdate tt m y v) (h : (Instr.mapUpdate tt (ev m) (ev y) (ev v)).run Tryd.prog w = .ok () w') : (execOp ev o).run Tryd.prog w = .ok .skip w' := by
  unfold execOp
  simp only [ho, Sem.run_bind, Sem.run_pure, Result.andThen_ok, h]
theorem run_putT {f : List UInt8 → Option Value} {N : Nat} {x : List UInt8} {k : Array Value} (h : MoS w (some b) f N) (hN : N < maxLen) (hx : L32 x) (hk : kc x = k) (V : Value) (ho : ∃ m y v, o.op = .mapUpdate 53 m y v ∧ ev m = .map (some b) ∧ ev y = .agg k ∧ ev v = V) :
    ∃ w', (execOp ev o).run Tryd.prog w = .ok .skip w' ∧ MoS w' (some b) (setF f x (some V)) (more f x N) ∧ Rg.Upd w b w' := by
  obtain ⟨m, y, v, ho, hm, hy, hv⟩ := ho
  obtain ⟨D, h⟩ := h
  obtain ⟨w', h1, h2, h3⟩ := put_run KT h hN hx V
  exact ⟨w', run_upd ho (by rw [hm, hy, hv, ← hk]; exact h1), ⟨_, h2⟩, h3⟩
theorem run_putH {f : Int → Option Value} {N : Nat} {x : Int} (h : MoH w (some b) f N) (hN : N < maxLen) (hx : W64 x) (V : Value) (ho : ∃ m y v, o.op = .mapUpdate 54 m y v ∧ ev m = .map (some b) ∧ ev y = .int .i64 x ∧ ev v = V) :
    ∃ w', (execOp ev o).run Tryd.prog w = .ok .skip w' ∧ MoH w' (some b) (setF f x (some V)) (more f x N) ∧ Rg.Upd w b w' := by
  obtain ⟨m, y, v, ho, hm, hy, hv⟩ := ho
  obtain ⟨D, h⟩ := h
  obtain ⟨w', h1, h2, h3⟩ := put_run KH h hN hx V
  exact ⟨w', run_upd ho (by rw [hm, hy, hv]; exact h1), ⟨_, h2⟩, h3⟩
theorem run_del {tt kk : TypeId} {m y : Operand} {w' : World} {v : Value} (hop : o.op = Op.call { callee := Callee.builtin Builtin.delete, args := #[m, y], argTypes := #[tt, kk] }) (h : (Builtin.delete_ #[tt, kk] o.type #[ev m, ev y]).run Tryd.prog w = .ok v w') : (execOp ev o).run Tryd.prog w = .ok (.value v) w' := by
  simp [execOp, hop, resolve, invoke, builtin, h, Result.andThen]
theorem run_delT {f : List UInt8 → Option Value} {N : Nat} {x : List UInt8} {k : Array Value} (h : MoS w (some b) f N) (hx : L32 x) (hk : kc x = k) (ho : ∃ m y, o.op = Op.call { callee := Callee.builtin Builtin.delete, args := #[m, y], argTypes := #[53, 43] } ∧ ev m = .map (some b) ∧ ev y = .agg k) :
    ∃ w', (execOp ev o).run Tryd.prog w = .ok (.value (.tuple #[])) w' ∧ MoS w' (some b) (setF f x none) (fewer f x N) ∧ Rg.Upd w b w' := by
  obtain ⟨m, y, ho, hm, hy⟩ := ho
  obtain ⟨D, h⟩ := h
  obtain ⟨w', h1, h2, h3⟩ := del_run KT h hx o.type
  exact ⟨w', run_del ho (by rw [hm, hy, ← hk]; exact h1), ⟨_, h2⟩, h3⟩
/-- .. whatever its type's number is: the world behind it is one -/
theorem run_delI {f : List UInt8 → Option Value} {N : Nat} {x : List UInt8} {k : Array Value} (h : MoS w (some b) f N) (hx : L32 x) (hk : kc x = k) (ho : ∃ m y, o.op = Op.call { callee := Callee.builtin Builtin.delete, args := #[m, y], argTypes := #[62, 43] } ∧ ev m = .map (some b) ∧ ev y = .agg k) :
    ∃ w', (execOp ev o).run Tryd.prog w = .ok (.value (.tuple #[])) w' ∧ MoS w' (some b) (setF f x none) (fewer f x N) ∧ Rg.Upd w b w' ∧ (Builtin.delete_ #[62, 43] o.type #[.map (some b), kcV x]).run Tryd.prog w = .ok (.tuple #[]) w' := by
  obtain ⟨m, y, ho, hm, hy⟩ := ho
  obtain ⟨D, h⟩ := h
  obtain ⟨w', h1, h2, h3⟩ := del_run KI h hx o.type
  exact ⟨w', run_del ho (by rw [hm, hy, ← hk]; exact h1), ⟨_, h2⟩, h3, h1⟩
theorem run_delH {f : Int → Option Value} {N : Nat} {x : Int} (h : MoH w (some b) f N) (hx : W64 x) (ho : ∃ m y, o.op = Op.call { callee := Callee.builtin Builtin.delete, args := #[m, y], argTypes := #[54, 3] } ∧ ev m = .map (some b) ∧ ev y = .int .i64 x) :
    ∃ w', (execOp ev o).run Tryd.prog w = .ok (.value (.tuple #[])) w' ∧ MoH w' (some b) (setF f x none) (fewer f x N) ∧ Rg.Upd w b w' := by
  obtain ⟨m, y, ho, hm, hy⟩ := ho
  obtain ⟨D, h⟩ := h
  obtain ⟨w', h1, h2, h3⟩ := del_run KH h hx o.type
  exact ⟨w', run_del ho (by rw [hm, hy]; exact h1), ⟨_, h2⟩, h3⟩
/-- an entry was made: it may be stored into -/
def Pend (w1 : World) (b : Nat) (f : List UInt8 → Option Value) (x : List UInt8) (N : Nat) (st : Value) : Prop :=
  ∀ w2 v, w2.heap[b]? = w1.heap[b]? → ∃ w3, (Instr.entryStore 62 (.map (some b)) st v).run Tryd.prog w2 = .ok () w3 ∧ MoS w3 (some b) (setF f x (some v)) (more f x N) ∧ Rg.Upd w2 b w3
theorem run_entry {f : List UInt8 → Option Value} {N : Nat} {x : List UInt8} {k : Array Value} {V : Value} (h : MoS w (some b) f N) (hN : N < maxLen) (hx : L32 x) (hk : kc x = k) (hV : (f x).getD (.int .i64 0) = V) (ho : ∃ m y, o.op = .mapEntry 62 m y ∧ ev m = .map (some b) ∧ ev y = .agg k) :
    ∃ w1 st, (execOp ev o).run Tryd.prog w = .ok (.value (.tuple #[V, st])) w1 ∧ MoS w1 (some b) (setF f x (some V)) (more f x N) ∧ Rg.Upd w b w1 ∧ Pend w1 b f x N st := by
  obtain ⟨m, y, ho, hm, hy⟩ := ho
  obtain ⟨D, h⟩ := h
  obtain ⟨st, w1, D1, h1, h2, h3, h4⟩ := entry_run KI keyLaw h hN hx
  rw [hV] at h1 h2
  refine ⟨w1, goInt st, ?_, ⟨_, h2⟩, h3, fun w2 v hw => ?_⟩
  · unfold execOp
    have : (Instr.mapEntry 62 (ev m) (ev y)).run Tryd.prog w = .ok (.tuple #[V, goInt st]) w1 := by rw [hm, hy, ← hk]; exact h1
    simp only [ho, Sem.run_bind, Sem.run_pure, Result.andThen_ok, this]
  · obtain ⟨w3, D3, g1, g2, g3⟩ := h4 w2 v hw
    exact ⟨w3, g1, ⟨_, g2⟩, g3⟩
theorem run_estore {f : List UInt8 → Option Value} {N : Nat} {x : List UInt8} {w1 : World} {st : Value} (h : Pend w1 b f x N st) (hw : w.heap[b]? = w1.heap[b]?) (V : Value) (ho : ∃ m s v, o.op = .entryStore 62 m s v ∧ ev m = .map (some b) ∧ ev s = st ∧ ev v = V) :
    ∃ w', (execOp ev o).run Tryd.prog w = .ok .skip w' ∧ MoS w' (some b) (setF f x (some V)) (more f x N) ∧ Rg.Upd w b w' := by
  obtain ⟨m, s, v, ho, hm, hs, hv⟩ := ho
  obtain ⟨w3, g1, g2, g3⟩ := h w V hw
  refine ⟨w3, ?_, g2, g3⟩
  unfold execOp
  have : (Instr.entryStore 62 (ev m) (ev s) (ev v)).run Tryd.prog w = .ok () w3 := by rw [hm, hs, hv]; exact g1
  simp only [ho, Sem.run_bind, Sem.run_pure, Result.andThen_ok, this]
theorem op_lookI' {f : List UInt8 → Option Value} {N : Nat} {mo : Option Nat} {x : List UInt8} {k : Array Value} {V : Value} (h : MoS w mo f N) (hx : L32 x) (hk : kc x = k) (hV : (f x).getD (.int .i64 0) = V) (ho : ∃ m y, o.op = .lookup 62 m y false ∧ ev m = .map mo ∧ ev y = .agg k) : (execOp ev o).run Tryd.prog w = .ok (.value V) w := by
  rw [← hV]
  exact op_lookI h hx hk ho
theorem op_lookT' {f : List UInt8 → Option Value} {N : Nat} {mo : Option Nat} {x : List UInt8} {k : Array Value} {V : Value} (h : MoS w mo f N) (hx : L32 x) (hk : kc x = k) (hV : (f x).getD (bodyV eB 0) = V) (ho : ∃ m y, o.op = .lookup 53 m y false ∧ ev m = .map mo ∧ ev y = .agg k) : (execOp ev o).run Tryd.prog w = .ok (.value V) w := by
  rw [← hV]
  exact op_lookT h hx hk ho
theorem op_lookH' {M : Int → Option Nat} {N : Nat} {mo mi : Option Nat} {x : Int} (h : MoH w mo (hF M) N) (hx : W64 x) (hV : M x = mi) (ho : ∃ m y, o.op = .lookup 54 m y false ∧ ev m = .map mo ∧ ev y = .int .i64 x) : (execOp ev o).run Tryd.prog w = .ok (.value (.map mi)) w := by
  rw [← hV, ← hF_get]
  exact op_lookH h hx ho
theorem op_ldB {g : Nat} {s : ByteArray} {m : Nat} (hg : Rg.Own w g (bodyA s m) 68) (ho : ∃ y, o.op = .load 68 y ∧ ev y = .pointer (some ⟨g, 0, none⟩)) : (execOp ev o).run Tryd.prog w = .ok (.value (.agg (bodyA s m))) w := by
  obtain ⟨y, ho, hy⟩ := ho
  have hr := run_loadVar_row (P := Tryd.prog) w g 68 68 (bodyA s m) (0, 0) _ hg.2 Tryd.underlying68 rfl info_body
  unfold execOp
  simp only [ho, hy, Instr.loadAt, Instr.sureAddr, Sem.run_bind, Sem.run_pure, Result.andThen_ok, hr]
end
end Bd
end Go.Proofs.YtlembfhdljmcoaaDoor
