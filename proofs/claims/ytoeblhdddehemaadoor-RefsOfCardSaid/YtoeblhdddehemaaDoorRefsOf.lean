/-
  RefsOf: the reference of any text, the root, and which texts a reference is of, are what the plain answer gives; for every two texts and every list of texts (of more than 300 bytes each, or more than 12 texts: the law asks what comes at any rate). The table of the rounds' numbers holds what the program's text lays.
-/
import Derived.Test.YtoeblhdddehemaaDoorMg28
import Derived.Test.YtoeblhdddehemaaDoorMg6
import Derived.Test.YtoeblhdddehemaaDoorTie
import Derived.Test.YtoeblhdddehemaaDoorCards
import Derived.SevenTiedAt
import Derived.ChangeOld
import Derived.Below
namespace Go.Proofs.YtoeblhdddehemaaDoor.refsOf
open Go.ChangeShapes Go.WideShapes Go.ChangeAt Go.RowKit
open Go.ChangeMaps (open_string shut_string)
open Sh Sm Rf Rl Ni No

theorem own : ownKnob Tryd.prog.godebug = none := by kernel_rfl
theorem laidOut : laidOutB Tryd.prog = true := by kernel_rfl
theorem st_of {w : World} {a : Option Addr} {n cap : Nat} {xs : List ByteArray} (h : IsStrs w a n cap xs) : IsSt w a n cap xs ∧ ∀ j, j < n → (xs.getD j eB).size ≤ maxLen := by
  obtain ⟨h1, h2, h3, h4⟩ := h
  refine ⟨⟨h1, h2, h3, fun j hj => ?_⟩, fun j hj => ?_⟩
  · obtain ⟨b, off, e1, e2, e3, _⟩ := h4 j hj
    exact ⟨b, off, e1, e2, e3⟩
  · obtain ⟨b, off, _, _, _, e4⟩ := h4 j hj
    exact e4
/-- the first text behind a place that a reference is of -/
def AtFrom (r : ByteArray) (xs : List ByteArray) (c i : Int) : Prop :=
  (i = -1 ∧ ∀ j : Nat, c < j → j < xs.length → matchB r (xs.getD j eB) = false) ∨
    ∃ k : Nat, i = k ∧ c < k ∧ k < xs.length ∧ matchB r (xs.getD k eB) = true ∧ ∀ j : Nat, c < j → j < k → matchB r (xs.getD j eB) = false
theorem AtFrom.start {r : ByteArray} {xs : List ByteArray} {n : Nat} (h : xs.length = n) : AtFrom r xs ((n : Int) - 1) (-1) := .inl ⟨rfl, fun j h1 h2 => by omega⟩
theorem AtFrom.hit {r : ByteArray} {xs : List ByteArray} {q : Nat} {i : Int} (_ : AtFrom r xs q i) (hq : q < xs.length) (hm : matchB r (xs.getD q eB) = true) : AtFrom r xs ((q : Int) - 1) q :=
  .inr ⟨q, rfl, by omega, hq, hm, fun j h1 h2 => by omega⟩
theorem AtFrom.miss {r : ByteArray} {xs : List ByteArray} {q : Nat} {i : Int} (h : AtFrom r xs q i) (hm : matchB r (xs.getD q eB) = false) : AtFrom r xs ((q : Int) - 1) i := by
  rcases h with ⟨rfl, h⟩ | ⟨k, rfl, h1, h2, h3, h4⟩
  · refine .inl ⟨rfl, fun j h1 h2 => ?_⟩
    by_cases e : j = q
    · rw [e]; exact hm
    · exact h j (by omega) h2
  · refine .inr ⟨k, rfl, by omega, h2, h3, fun j g1 g2 => ?_⟩
    by_cases e : j = q
    · rw [e]; exact hm
    · exact h4 j (by omega) g2
theorem AtFrom.done {r : ByteArray} {xs : List ByteArray} {i : Int} (h : AtFrom r xs (-1) i) : AtOk r xs i := by
  rcases h with ⟨rfl, h⟩ | ⟨k, rfl, h1, h2, h3, h4⟩
  · exact .inl ⟨rfl, fun j hj => h j (by omega) hj⟩
  · exact .inr ⟨k, rfl, h2, h3, fun j hj => h4 j (by omega) hj⟩

set_option maxRecDepth 100000 in
set_option maxHeartbeats 16000000 in
theorem walk_none (s t : ByteArray) (a : Option Addr) (n cap : Nat) (xs : List ByteArray) (w : World) (hs : s.size ≤ 300) (ht : t.size ≤ 300) (h : IsSt w a n cap xs) (hm : ∀ j, j < n → (xs.getD j eB).size ≤ maxLen) (h12 : n ≤ 12) (h0' : s.size = 0) (hT : Tab w) :
    Calls Tryd.prog 3 #[.string s, .string t, .slice a n cap] w fun e w' => e = .returned (.bool true) ∧ Below w.heap.size w w' := by
  have h0 := hT.pos
  have hcm := h.2.1
  have hnc := h.1
  unfold maxLen at hcm
  have HT := Lib.hid hT
  have H := Lib.hid h
  have HM := Lib.hid hm
  have HL := Lib.hid h.len
  have HAw := Lib.hid rawake_any
  have HB0 : Hid (Below w.heap.size w w) := Lib.hid (Below.refl _ _)
  have HFo := Lib.hid (fun W (h : Tab W) => fof_any s (by omega) W h)
  have HRo := Lib.hid (fun W => r7of_any s (by omega) W)
  have HFr := Lib.hid (fun W (h : Tab W) => root_any s (by omega) W h)
  have HRr := Lib.hid (fun W => r7root_any s (by omega) W)
  have HMa := Lib.hid (fun W (h : Tab W) => fmatch_any t s (by omega) W h)
  have HKl := Lib.hid (rootP_length s)
  obtain ⟨K, hK⟩ : ∃ K, rootP s = K := ⟨_, rfl⟩
  rw [hK] at HFr HRr HKl
  obtain rfl := size_zero h0'
  have hF : matchB t eB = false := rfl
  have hG : ofP eB = eB := rfl
  rw [hF] at HMa
  rw [hG] at HFo HRo
  clear hF hG h0' hs
  clear h hm hT hK
  go_enter Tryd.func3, Tryd.ntmps3
  go_wp2_with fail
  go_loopw [7, 8] (fun v i wr => ∃ c p : Int, i = .int .i64 c ∧ v = .int .i64 p ∧ -1 ≤ c ∧ c < n ∧ Hid (AtFrom t xs c p) ∧ Hid (∀ q : Nat, c < q → q < n → (xs.getD q eB).size ≤ 300) ∧ Hid (Below w.heap.size w wr)) (fun _ i _ => (intOf i + 1).toNat)
  case atStart => exact ⟨(n : Int) - 1, -1, by go_num, rfl, by omega, by omega, Lib.hid (.start HL.out), Lib.hid (fun q h1 h2 => by omega), HB0⟩
  case round =>
    obtain ⟨c, p, rfl, rfl, hc1, hc2, HA, HQ, HBr⟩ := hrel
    by_cases hc0 : 0 ≤ c
    · obtain ⟨q, rfl⟩ : ∃ q : Nat, c = q := ⟨c.toNat, by omega⟩
      have hq : q < n := by omega
      obtain ⟨b, off, rfl, hbs, hcq⟩ := H.out.at' q hq
      have hmx := HM.out q hq
      have hcell := (Below.cell (p := ⟨b, off + q, none⟩) HBr.out hbs).trans hcq
      have HHit := Lib.hid (fun h => HA.out.hit (show q < xs.length by rw [HL.out]; exact hq) h)
      have HMis := Lib.hid (fun h => HA.out.miss (q := q) h)
      have hR := fun h => r7of_any (xs.getD q eB) h wr
      obtain ⟨x, hx⟩ : ∃ x, xs.getD q eB = x := ⟨_, rfl⟩
      rw [hx] at hcell hmx HHit HMis hR
      have HXX := Lib.hid hx
      have HR := Lib.hid hR
      clear hx hcq HA hR
      unfold maxLen at hmx
      by_cases hbig : 300 < x.size
      · go_wp2_with fail
        refine (HAw.out _ (HT.out.below HBr.out h0)).mono ?_
        rintro e w1 ⟨rfl, hb1⟩
        have HB1 := Lib.hid (below_step' HBr.out hb1)
        clear hb1
        go_wp2
        go_ret
        exact ⟨rfl, HB1.out⟩
      have HQ' : Hid (∀ q' : Nat, (q : Int) - 1 < q' → q' < n → (xs.getD q' eB).size ≤ 300) := Lib.hid (fun q' h1 h2 => by
        by_cases e : q' = q
        · subst e; rw [HXX.out]; omega
        · exact HQ.out q' (by omega) h2)
      have hw1 : IntKind.i64.wrap ((q : Int) - 1) = (q : Int) - 1 := IntWalk.i64_in _ (by omega)
      clear HQ
      by_cases hx0 : x.size = 0
      · obtain rfl := size_zero hx0
        have HA' := Lib.hid (HMis.out rfl)
        clear HHit HMis HR hbig hx0 hmx
        go_wp2_with fail
        go_roundw
        case rel => exact ⟨(q : Int) - 1, p, by first | rfl | (rw [hw1]), rfl, by omega, by omega, HA', HQ', HBr⟩
        case measure => simp [intOf]
      have hne := Ni.not_empty (s := x) (by omega)
      have HR' := Lib.hid (HR.out (by omega))
      have hmB : matchB t x = decide (ofP x = t) := by unfold matchB; rw [decide_eq_true (show x.size ≠ 0 from hx0)]; rfl
      rw [hmB] at HHit HMis
      obtain ⟨T, hTT⟩ : ∃ T, ofP x = T := ⟨_, rfl⟩
      rw [hTT] at HR' HHit HMis
      have hx300 : x.size ≤ 300 := by omega
      clear HR hTT hmB hbig hx0
      by_cases hTt : T = t
      · have HA' := Lib.hid (HHit.out (decide_eq_true hTt))
        have hs1 : (T.toList == t.toList) = true := by rw [str_eq, decide_eq_true hTt]
        clear HHit HMis hTt
        go_wp2_with fail
        refine HR'.out.mono ?_
        rintro e w1 ⟨rfl, hb1⟩
        have HB1 := Lib.hid (below_step' HBr.out hb1)
        clear hb1
        go_wp2
        go_roundw
        case rel => exact ⟨(q : Int) - 1, q, by first | rfl | (rw [hw1]), rfl, by omega, by omega, HA', HQ', HB1⟩
        case measure => simp [intOf]
      · have HA' := Lib.hid (HMis.out (decide_eq_false hTt))
        have hs1 : (T.toList == t.toList) = false := by rw [str_eq, decide_eq_false hTt]
        clear HHit HMis hTt
        go_wp2_with fail
        refine HR'.out.mono ?_
        rintro e w1 ⟨rfl, hb1⟩
        have HB1 := Lib.hid (below_step' HBr.out hb1)
        clear hb1
        go_wp2
        go_roundw
        case rel => exact ⟨(q : Int) - 1, p, by first | rfl | (rw [hw1]), rfl, by omega, by omega, HA', HQ', HB1⟩
        case measure => simp [intOf]
    · obtain rfl : c = -1 := by omega
      have hall : ∀ k ∈ xs, k.size ≤ 900000 := fun k hk => by
        obtain ⟨q, hq, rfl⟩ := List.getElem_of_mem hk
        have hq' : q < n := by rw [← HL.out]; exact hq
        have := HQ.out q (by omega) hq'
        have e : xs.getD q eB = xs[q] := by simp [List.getD, hq]
        rw [e] at this
        omega
      have hok := HA.out.done
      have HFi := Lib.hid (fun w' (hb : Below w.heap.size w w') => find_any t xs hall a n cap w' (H.out.below hb) (HT.out.below hb h0))
      clear hall HA HQ
      go_wp2_with fail
      refine (HFi.out _ HBr.out).mono ?_
      rintro e w2 ⟨i, rfl, hi, hb2⟩
      obtain rfl := hi.one hok
      have HB2 := Lib.hid (below_step' HBr.out hb2)
      clear hb2 hi HFi HBr
      rcases hok with ⟨rfl, _⟩ | ⟨k, rfl, hk, _, _⟩
      · have hV : findV xs (-1) = .tuple #[.string eB, .bool false] := rfl
        rw [hV]
        clear hV
        go_wp2_with fail
        refine (HAw.out _ (HT.out.below HB2.out h0)).mono ?_
        rintro e w20 ⟨rfl, hb⟩
        have HB20 := Lib.hid (below_step' HB2.out hb)
        clear hb
        go_wp2_with fail
        refine (HFo.out _ (HT.out.below HB20.out h0)).mono ?_
        rintro e w21 ⟨rfl, hb⟩
        have HB21 := Lib.hid (below_step' HB20.out hb)
        clear hb
        go_wp2_with fail
        refine (HRo.out _).mono ?_
        rintro e w22 ⟨rfl, hb⟩
        have HB22 := Lib.hid (below_step' HB21.out hb)
        clear hb
        go_wp2_with fail
        refine (HFr.out _ (HT.out.below HB22.out h0)).mono ?_
        rintro e w23 ⟨rfl, hb⟩
        have HB23 := Lib.hid (below_step' HB22.out hb)
        clear hb
        go_wp2_with fail
        refine (HRr.out _).mono ?_
        rintro e w24 ⟨rfl, hb⟩
        have HB24 := Lib.hid (below_step' HB23.out hb)
        clear hb
        go_wp2_with (refine Rg.runW (by rfl) _ _ (run_eql_op _ _ K HKl.out _ ⟨_, _, rfl, rfl, rfl⟩) ?_)
        refine (HMa.out _ (HT.out.below HB24.out h0)).mono ?_
        rintro e w25 ⟨rfl, hb⟩
        have HB25 := Lib.hid (below_step' HB24.out hb)
        clear hb
        go_wp2
        go_ret
        exact ⟨rfl, HB25.out⟩
      · rw [HL.out] at hk
        obtain ⟨b, off, rfl, hbs, hck⟩ := H.out.at' k hk
        have hcell := (Below.cell (p := ⟨b, off + k, none⟩) HB2.out hbs).trans hck
        obtain ⟨X, hX⟩ : ∃ X, xs.getD k eB = X := ⟨_, rfl⟩
        have hV : findV xs (k : Int) = .tuple #[.string (xs.getD k eB), .bool true] := by
          unfold findV
          rw [if_neg (by omega), Int.toNat_natCast, decide_eq_true (by omega)]
        rw [hX] at hcell hV
        rw [hV]
        clear hV hX hck
        go_wp2_with fail
        refine (HAw.out _ (HT.out.below HB2.out h0)).mono ?_
        rintro e w20 ⟨rfl, hb⟩
        have HB20 := Lib.hid (below_step' HB2.out hb)
        clear hb
        go_wp2_with fail
        refine (HFo.out _ (HT.out.below HB20.out h0)).mono ?_
        rintro e w21 ⟨rfl, hb⟩
        have HB21 := Lib.hid (below_step' HB20.out hb)
        clear hb
        go_wp2_with fail
        refine (HRo.out _).mono ?_
        rintro e w22 ⟨rfl, hb⟩
        have HB22 := Lib.hid (below_step' HB21.out hb)
        clear hb
        go_wp2_with fail
        refine (HFr.out _ (HT.out.below HB22.out h0)).mono ?_
        rintro e w23 ⟨rfl, hb⟩
        have HB23 := Lib.hid (below_step' HB22.out hb)
        clear hb
        go_wp2_with fail
        refine (HRr.out _).mono ?_
        rintro e w24 ⟨rfl, hb⟩
        have HB24 := Lib.hid (below_step' HB23.out hb)
        clear hb
        go_wp2_with (refine Rg.runW (by rfl) _ _ (run_eql_op _ _ K HKl.out _ ⟨_, _, rfl, rfl, rfl⟩) ?_)
        refine (HMa.out _ (HT.out.below HB24.out h0)).mono ?_
        rintro e w25 ⟨rfl, hb⟩
        have HB25 := Lib.hid (below_step' HB24.out hb)
        clear hb
        go_wp2
        go_ret
        exact ⟨rfl, HB25.out⟩
set_option maxRecDepth 100000 in
set_option maxHeartbeats 16000000 in
theorem walk_some (s t : ByteArray) (a : Option Addr) (n cap : Nat) (xs : List ByteArray) (w : World) (hs : s.size ≤ 300) (ht : t.size ≤ 300) (h : IsSt w a n cap xs) (hm : ∀ j, j < n → (xs.getD j eB).size ≤ maxLen) (h12 : n ≤ 12) (h0' : s.size ≠ 0) (hT : Tab w) :
    Calls Tryd.prog 3 #[.string s, .string t, .slice a n cap] w fun e w' => e = .returned (.bool true) ∧ Below w.heap.size w w' := by
  have h0 := hT.pos
  have hcm := h.2.1
  have hnc := h.1
  unfold maxLen at hcm
  have HT := Lib.hid hT
  have H := Lib.hid h
  have HM := Lib.hid hm
  have HL := Lib.hid h.len
  have HAw := Lib.hid rawake_any
  have HB0 : Hid (Below w.heap.size w w) := Lib.hid (Below.refl _ _)
  have HFo := Lib.hid (fun W (h : Tab W) => fof_any s (by omega) W h)
  have HRo := Lib.hid (fun W => r7of_any s (by omega) W)
  have HFr := Lib.hid (fun W (h : Tab W) => root_any s (by omega) W h)
  have HRr := Lib.hid (fun W => r7root_any s (by omega) W)
  have HMa := Lib.hid (fun W (h : Tab W) => fmatch_any t s (by omega) W h)
  have HKl := Lib.hid (rootP_length s)
  obtain ⟨K, hK⟩ : ∃ K, rootP s = K := ⟨_, rfl⟩
  rw [hK] at HFr HRr HKl
  have hne := Ni.not_empty (s := s) (by omega)
  have hF : matchB t s = ((ofP s).toList == t.toList) := by rw [str_eq]; unfold matchB; rw [decide_eq_true (show s.size ≠ 0 from h0')]; rfl
  rw [hF] at HMa
  obtain ⟨Rs, hRs⟩ : ∃ R, ofP s = R := ⟨_, rfl⟩
  rw [hRs] at HFo HRo HMa
  obtain ⟨B, hB⟩ : ∃ B, (Rs.toList == t.toList) = B := ⟨_, rfl⟩
  rw [hB] at HMa
  clear hF hRs h0'
  clear h hm hT hK
  go_enter Tryd.func3, Tryd.ntmps3
  go_wp2_with fail
  go_loopw [7, 8] (fun v i wr => ∃ c p : Int, i = .int .i64 c ∧ v = .int .i64 p ∧ -1 ≤ c ∧ c < n ∧ Hid (AtFrom t xs c p) ∧ Hid (∀ q : Nat, c < q → q < n → (xs.getD q eB).size ≤ 300) ∧ Hid (Below w.heap.size w wr)) (fun _ i _ => (intOf i + 1).toNat)
  case atStart => exact ⟨(n : Int) - 1, -1, by go_num, rfl, by omega, by omega, Lib.hid (.start HL.out), Lib.hid (fun q h1 h2 => by omega), HB0⟩
  case round =>
    obtain ⟨c, p, rfl, rfl, hc1, hc2, HA, HQ, HBr⟩ := hrel
    by_cases hc0 : 0 ≤ c
    · obtain ⟨q, rfl⟩ : ∃ q : Nat, c = q := ⟨c.toNat, by omega⟩
      have hq : q < n := by omega
      obtain ⟨b, off, rfl, hbs, hcq⟩ := H.out.at' q hq
      have hmx := HM.out q hq
      have hcell := (Below.cell (p := ⟨b, off + q, none⟩) HBr.out hbs).trans hcq
      have HHit := Lib.hid (fun h => HA.out.hit (show q < xs.length by rw [HL.out]; exact hq) h)
      have HMis := Lib.hid (fun h => HA.out.miss (q := q) h)
      have hR := fun h => r7of_any (xs.getD q eB) h wr
      obtain ⟨x, hx⟩ : ∃ x, xs.getD q eB = x := ⟨_, rfl⟩
      rw [hx] at hcell hmx HHit HMis hR
      have HXX := Lib.hid hx
      have HR := Lib.hid hR
      clear hx hcq HA hR
      unfold maxLen at hmx
      by_cases hbig : 300 < x.size
      · go_wp2_with fail
        refine (HAw.out _ (HT.out.below HBr.out h0)).mono ?_
        rintro e w1 ⟨rfl, hb1⟩
        have HB1 := Lib.hid (below_step' HBr.out hb1)
        clear hb1
        go_wp2
        go_ret
        exact ⟨rfl, HB1.out⟩
      have HQ' : Hid (∀ q' : Nat, (q : Int) - 1 < q' → q' < n → (xs.getD q' eB).size ≤ 300) := Lib.hid (fun q' h1 h2 => by
        by_cases e : q' = q
        · subst e; rw [HXX.out]; omega
        · exact HQ.out q' (by omega) h2)
      have hw1 : IntKind.i64.wrap ((q : Int) - 1) = (q : Int) - 1 := IntWalk.i64_in _ (by omega)
      clear HQ
      by_cases hx0 : x.size = 0
      · obtain rfl := size_zero hx0
        have HA' := Lib.hid (HMis.out rfl)
        clear HHit HMis HR hbig hx0 hmx
        go_wp2_with fail
        go_roundw
        case rel => exact ⟨(q : Int) - 1, p, by first | rfl | (rw [hw1]), rfl, by omega, by omega, HA', HQ', HBr⟩
        case measure => simp [intOf]
      have hne := Ni.not_empty (s := x) (by omega)
      have HR' := Lib.hid (HR.out (by omega))
      have hmB : matchB t x = decide (ofP x = t) := by unfold matchB; rw [decide_eq_true (show x.size ≠ 0 from hx0)]; rfl
      rw [hmB] at HHit HMis
      obtain ⟨T, hTT⟩ : ∃ T, ofP x = T := ⟨_, rfl⟩
      rw [hTT] at HR' HHit HMis
      have hx300 : x.size ≤ 300 := by omega
      clear HR hTT hmB hbig hx0
      by_cases hTt : T = t
      · have HA' := Lib.hid (HHit.out (decide_eq_true hTt))
        have hs1 : (T.toList == t.toList) = true := by rw [str_eq, decide_eq_true hTt]
        clear HHit HMis hTt
        go_wp2_with fail
        refine HR'.out.mono ?_
        rintro e w1 ⟨rfl, hb1⟩
        have HB1 := Lib.hid (below_step' HBr.out hb1)
        clear hb1
        go_wp2
        go_roundw
        case rel => exact ⟨(q : Int) - 1, q, by first | rfl | (rw [hw1]), rfl, by omega, by omega, HA', HQ', HB1⟩
        case measure => simp [intOf]
      · have HA' := Lib.hid (HMis.out (decide_eq_false hTt))
        have hs1 : (T.toList == t.toList) = false := by rw [str_eq, decide_eq_false hTt]
        clear HHit HMis hTt
        go_wp2_with fail
        refine HR'.out.mono ?_
        rintro e w1 ⟨rfl, hb1⟩
        have HB1 := Lib.hid (below_step' HBr.out hb1)
        clear hb1
        go_wp2
        go_roundw
        case rel => exact ⟨(q : Int) - 1, p, by first | rfl | (rw [hw1]), rfl, by omega, by omega, HA', HQ', HB1⟩
        case measure => simp [intOf]
    · obtain rfl : c = -1 := by omega
      have hall : ∀ k ∈ xs, k.size ≤ 900000 := fun k hk => by
        obtain ⟨q, hq, rfl⟩ := List.getElem_of_mem hk
        have hq' : q < n := by rw [← HL.out]; exact hq
        have := HQ.out q (by omega) hq'
        have e : xs.getD q eB = xs[q] := by simp [List.getD, hq]
        rw [e] at this
        omega
      have hok := HA.out.done
      have HFi := Lib.hid (fun w' (hb : Below w.heap.size w w') => find_any t xs hall a n cap w' (H.out.below hb) (HT.out.below hb h0))
      clear hall HA HQ
      go_wp2_with fail
      refine (HFi.out _ HBr.out).mono ?_
      rintro e w2 ⟨i, rfl, hi, hb2⟩
      obtain rfl := hi.one hok
      have HB2 := Lib.hid (below_step' HBr.out hb2)
      clear hb2 hi HFi HBr
      rcases hok with ⟨rfl, _⟩ | ⟨k, rfl, hk, _, _⟩
      · have hV : findV xs (-1) = .tuple #[.string eB, .bool false] := rfl
        rw [hV]
        clear hV
        go_wp2_with fail
        refine (HAw.out _ (HT.out.below HB2.out h0)).mono ?_
        rintro e w20 ⟨rfl, hb⟩
        have HB20 := Lib.hid (below_step' HB2.out hb)
        clear hb
        go_wp2_with fail
        refine (HFo.out _ (HT.out.below HB20.out h0)).mono ?_
        rintro e w21 ⟨rfl, hb⟩
        have HB21 := Lib.hid (below_step' HB20.out hb)
        clear hb
        go_wp2_with fail
        refine (HRo.out _).mono ?_
        rintro e w22 ⟨rfl, hb⟩
        have HB22 := Lib.hid (below_step' HB21.out hb)
        clear hb
        go_wp2_with fail
        refine (HFr.out _ (HT.out.below HB22.out h0)).mono ?_
        rintro e w23 ⟨rfl, hb⟩
        have HB23 := Lib.hid (below_step' HB22.out hb)
        clear hb
        go_wp2_with fail
        refine (HRr.out _).mono ?_
        rintro e w24 ⟨rfl, hb⟩
        have HB24 := Lib.hid (below_step' HB23.out hb)
        clear hb
        go_wp2_with (refine Rg.runW (by rfl) _ _ (run_eql_op _ _ K HKl.out _ ⟨_, _, rfl, rfl, rfl⟩) ?_)
        refine (HMa.out _ (HT.out.below HB24.out h0)).mono ?_
        rintro e w25 ⟨rfl, hb⟩
        have HB25 := Lib.hid (below_step' HB24.out hb)
        clear hb
        go_wp2_with fail
        refine (HRo.out _).mono ?_
        rintro e w26 ⟨rfl, hb⟩
        have HB26 := Lib.hid (below_step' HB25.out hb)
        clear hb
        go_wp2
        go_ret
        exact ⟨rfl, HB26.out⟩
      · rw [HL.out] at hk
        obtain ⟨b, off, rfl, hbs, hck⟩ := H.out.at' k hk
        have hcell := (Below.cell (p := ⟨b, off + k, none⟩) HB2.out hbs).trans hck
        obtain ⟨X, hX⟩ : ∃ X, xs.getD k eB = X := ⟨_, rfl⟩
        have hV : findV xs (k : Int) = .tuple #[.string (xs.getD k eB), .bool true] := by
          unfold findV
          rw [if_neg (by omega), Int.toNat_natCast, decide_eq_true (by omega)]
        rw [hX] at hcell hV
        rw [hV]
        clear hV hX hck
        go_wp2_with fail
        refine (HAw.out _ (HT.out.below HB2.out h0)).mono ?_
        rintro e w20 ⟨rfl, hb⟩
        have HB20 := Lib.hid (below_step' HB2.out hb)
        clear hb
        go_wp2_with fail
        refine (HFo.out _ (HT.out.below HB20.out h0)).mono ?_
        rintro e w21 ⟨rfl, hb⟩
        have HB21 := Lib.hid (below_step' HB20.out hb)
        clear hb
        go_wp2_with fail
        refine (HRo.out _).mono ?_
        rintro e w22 ⟨rfl, hb⟩
        have HB22 := Lib.hid (below_step' HB21.out hb)
        clear hb
        go_wp2_with fail
        refine (HFr.out _ (HT.out.below HB22.out h0)).mono ?_
        rintro e w23 ⟨rfl, hb⟩
        have HB23 := Lib.hid (below_step' HB22.out hb)
        clear hb
        go_wp2_with fail
        refine (HRr.out _).mono ?_
        rintro e w24 ⟨rfl, hb⟩
        have HB24 := Lib.hid (below_step' HB23.out hb)
        clear hb
        go_wp2_with (refine Rg.runW (by rfl) _ _ (run_eql_op _ _ K HKl.out _ ⟨_, _, rfl, rfl, rfl⟩) ?_)
        refine (HMa.out _ (HT.out.below HB24.out h0)).mono ?_
        rintro e w25 ⟨rfl, hb⟩
        have HB25 := Lib.hid (below_step' HB24.out hb)
        clear hb
        go_wp2_with fail
        refine (HRo.out _).mono ?_
        rintro e w26 ⟨rfl, hb⟩
        have HB26 := Lib.hid (below_step' HB25.out hb)
        clear hb
        go_wp2
        go_ret
        exact ⟨rfl, HB26.out⟩
theorem walk_big (s t : ByteArray) (a : Option Addr) (n cap : Nat) (xs : List ByteArray) (w : World) (hs : s.size ≤ maxLen) (ht : t.size ≤ maxLen) (h : IsSt w a n cap xs) (hb : 300 < s.size ∨ 300 < t.size ∨ 12 < n) (hT : Tab w) :
    Calls Tryd.prog 3 #[.string s, .string t, .slice a n cap] w fun e w' => e = .returned (.bool true) ∧ Below w.heap.size w w' := by
  have HA := Lib.hid (rawake_any w hT)
  have hcm := h.2.1
  have hnc := h.1
  unfold maxLen at hcm hs ht
  clear h hT
  by_cases h1 : 300 < s.size
  · clear hb
    go_enter Tryd.func3, Tryd.ntmps3
    go_wp2_with fail
    refine HA.out.mono ?_
    rintro e w1 ⟨rfl, hb1⟩
    go_wp2
    go_ret
    exact ⟨rfl, hb1⟩
  by_cases h2 : 300 < t.size
  · clear hb
    go_enter Tryd.func3, Tryd.ntmps3
    go_wp2_with fail
    refine HA.out.mono ?_
    rintro e w1 ⟨rfl, hb1⟩
    go_wp2
    go_ret
    exact ⟨rfl, hb1⟩
  · have h3 : 12 < n := by omega
    clear hb
    go_enter Tryd.func3, Tryd.ntmps3
    go_wp2_with fail
    refine HA.out.mono ?_
    rintro e w1 ⟨rfl, hb1⟩
    go_wp2
    go_ret
    exact ⟨rfl, hb1⟩
theorem walk (s t : ByteArray) (a : Option Addr) (n cap : Nat) (xs : List ByteArray) (w : World) (hs : s.size ≤ maxLen) (ht : t.size ≤ maxLen) (h : IsStrs w a n cap xs) (hT : Tab w) :
    Calls Tryd.prog 3 #[.string s, .string t, .slice a n cap] w fun e w' => e = .returned (.bool true) ∧ Below w.heap.size w w' := by
  obtain ⟨h1, h2⟩ := st_of h
  by_cases hb : 300 < s.size ∨ 300 < t.size ∨ 12 < n
  · exact walk_big s t a n cap xs w hs ht h1 hb hT
  by_cases h3 : s.size = 0
  · exact walk_none s t a n cap xs w (by omega) (by omega) h1 h2 (by omega) h3 hT
  · exact walk_some s t a n cap xs w (by omega) (by omega) h1 h2 (by omega) h3 hT

/-- the door's own heap meets the row's condition -/
theorem door_met (os : Os) (args : Array Value) : laidMetH Tryd.prog [("dormouse/sum.rounds", Rows.laid_dormouse_sum_rounds)] ((World.doorLaid Tryd.prog 400 os).forCall (fun _ _ => 0) ⟨#[], args, []⟩).memory :=
  laidMetH_of_parts3 (fuel := 8) (laidMet_of_run' 8 (by kernel_rfl) (by kernel_rfl)) (by kernel_rfl) (by kernel_rfl)

set_option maxRecDepth 100000 in
theorem lifted (os : Os) (started : os.Started) (H : Type) (enc : TypeId × Value → H) :
    ReturnsInHanded {} Tryd.checked os 3 .any (fun w args => (Rows.refsOfSpec.pre enc Tryd.prog Tryd.f3 [] false w args ∧ laidMetH Tryd.prog [("dormouse/sum.rounds", Rows.laid_dormouse_sum_rounds)] w) ∧ sizedMet enc Tryd.prog Tryd.f3 (OpenSpec.ofChange Rows.refsOfSpec) false w args)
      (Rows.refsOfSpec.post enc Tryd.prog Tryd.f3 false true false false) := by
  refine returnsInHanded_of_change_and (C := Tryd.checked) (X := fun w _ => laidMetH Tryd.prog [("dormouse/sum.rounds", Rows.laid_dormouse_sum_rounds)] w) (fun _ _ _ hh h => h.of_heap hh) own started (by kernel_rfl) Tryd.func3
    (ChangeSpec.witness_shaped (enc := enc) (C := Tryd.checked) (os := os) (X := fun w _ => laidMetH Tryd.prog [("dormouse/sum.rounds", Rows.laid_dormouse_sum_rounds)] w) false (World.doorLaid Tryd.prog 400 os) #[.string ⟨#[]⟩, .string ⟨#[]⟩, .slice none 0 0] 8 rfl (World.shaped_of_RefB (by kernel_rfl) (by kernel_rfl)) (by kernel_rfl) (by kernel_rfl) (by kernel_rfl) (door_met os _)) ?_
  intro W base args ds gs before hval0 hW _ _ hL _
  have hval : ∀ (j : Nat) t v, Tryd.f3.params[j]? = some t → args[j]? = some v → Value.okWide Tryd.prog W .any base t v := hval0
  have hW' := hW
  obtain ⟨p, q, hA0, hV, rfl, hfz, hnd⟩ := hW
  have hA : DataW.TrodAll enc Tryd.prog W 0 (fun _ => true) true Tryd.f3.params.toList args.toList ds p := hA0
  rw [Tryd.params3] at hA hval
  obtain ⟨v0, vs0, d0, ds0, p0, q0, hargs, rfl, rfl, h0, r0⟩ := trodAll_cons hA
  obtain ⟨v1, vs1, d1, ds1, p1, q1, rfl, rfl, rfl, h1, r1⟩ := trodAll_cons r0
  obtain ⟨v2, vs2, d2, ds2, p2, q2, rfl, rfl, rfl, h2, r2⟩ := trodAll_cons r1
  obtain ⟨rfl, rfl, rfl⟩ := trodAll_nil r2
  obtain rfl : args = #[v0, v1, v2] := by cases args; simp_all
  obtain ⟨rfl, rfl⟩ := trodVars_none hV
  have k0 := h0
  have lt0 : ∀ x ∈ p0, x.block < W.heap.size := by obtain ⟨m, hm⟩ := k0; exact DataW.trod_lt m _ _ _ hm
  obtain ⟨a0, rfl, hd0, hp0, w0⟩ := open_string Tryd.underlying9 (hval 0 9 v0 rfl rfl) h0
  have k1 := h1
  have lt1 : ∀ x ∈ p1, x.block < W.heap.size := by obtain ⟨m, hm⟩ := k1; exact DataW.trod_lt m _ _ _ hm
  obtain ⟨a1, rfl, hd1, hp1, w1⟩ := open_string Tryd.underlying9 (hval 1 9 v1 rfl rfl) h1
  have k2 := h2
  have lt2 : ∀ x ∈ p2, x.block < W.heap.size := by obtain ⟨m, hm⟩ := k2; exact DataW.trod_lt m _ _ _ hm
  obtain ⟨b2, len2, cap2, rfl⟩ := okWide_slice Tryd.underlying22 (hval 2 22 v2 rfl rfl)
  obtain ⟨xs2, hs2⟩ := isStrs_of Tryd.underlying22 Tryd.underlying9 (by kernel_rfl) h2
  clear hA0 hval0
  refine (walk a0 a1 b2 len2 cap2 xs2 W w0 w1 hs2 (tab_of_laid hL)).mono fun e W' ⟨he, bel⟩ => ?_
  subst he
  exact ⟨_, rfl, _, _, _, [], _, [], hW', trodAll_mk1 (shut_bool Tryd.underlying4 _), (trodAll_cons_mk (Below.trod laidOut (by kernel_rfl) (of_decide_eq_true (by kernel_rfl)) k0 bel lt0) (trodAll_cons_mk (Below.trod laidOut (by kernel_rfl) (of_decide_eq_true (by kernel_rfl)) k1 bel lt1) (trodAll_cons_mk (Below.trod laidOut (by kernel_rfl) (of_decide_eq_true (by kernel_rfl)) k2 bel lt2) trodAll_mk0))), rfl, bel.frame _, fun h => by cases h⟩

theorem over : Rows.refsOfRow.holds Tryd.pinned (OpenSpec.ofChange Rows.refsOfSpec) :=
  OpenClaim.holds_of_wide 3 Tryd.f3 rfl rfl rfl rfl rfl rfl rfl ⟨rfl, rfl, rfl, rfl, rfl⟩ rfl rfl rfl rfl rfl (by kernel_rfl) Tryd.func3 (by kernel_rfl)
    (of_decide_eq_true (by kernel_rfl)) (by unfold Func.isWrapper; first | (rw [if_pos (by decide +kernel)]; kernel_rfl) | (rw [if_neg (by decide +kernel)]; exact ⟨rfl, rfl⟩))
    (fun os started H enc _ => lifted os started H enc)

theorem proved : Rows.RefsOfCardSaid :=
  Claim7.holds_tied_plain_at .later [] [.data] true Rows.refsOfCard.stood.harness true
    over (fun _ h => by cases h) (by kernel_rfl) (fun _ h => by cases h) refsOf_row_tie rfl ⟨rfl, rfl⟩ (by kernel_rfl) rfl
    (fun f fn hf hfn => by
      obtain rfl : f = 3 := Option.some.inj ((show Tryd.prog.funcNamed "dormouse/dormouselaw07.RefsOf" = some 3 by kernel_rfl).symm.trans hf) |>.symm
      obtain rfl : fn = Tryd.f3 := (Option.some.inj (Tryd.func3.symm.trans hfn)).symm
      exact ⟨by kernel_rfl, fun j t ht => by
        rw [Tryd.params3] at ht
        have hm : t ∈ [9, 9, 22] := by simpa using Array.mem_of_getElem? ht
        have hall : ([9, 9, 22].all fun u => !Tryd.prog.wantsStandIn u) = true := by kernel_rfl
        exact (show Tryd.prog.wantsStandIn t = false by simpa using List.all_eq_true.1 hall t hm)⟩)
    (by kernel_rfl)

end Go.Proofs.YtoeblhdddehemaaDoor.refsOf
