/-
  What must come at any rate in layer 5: awake.
-/
import Derived.Test.YtmnihiagkmdepaaRr
namespace Go.Proofs.Ytmnihiagkmdepaa
open Go.RowKit

namespace Rl
open Pk
def cat : It := .mk false ⟨#[99, 97, 116]⟩ []
def dog : It := .mk false ⟨#[100, 111, 103]⟩ []
def pets : It := .mk true ⟨#[]⟩ [cat, dog]
theorem cat_bytes : cat.bytes = [131, 99, 97, 116] := by
  rw [It.bytes_eq]
  decide
theorem dog_bytes : dog.bytes = [131, 100, 111, 103] := by
  rw [It.bytes_eq]
  decide
theorem pets_bytes : pets.bytes = [200, 131, 99, 97, 116, 131, 100, 111, 103] := by
  have hi : pets.inner = [131, 99, 97, 116, 131, 100, 111, 103] := by
    show ([] : List UInt8) ++ ([cat, dog].map It.bytes).flatten = _
    rw [List.map_cons, List.map_cons, List.map_nil, cat_bytes, dog_bytes]
    rfl
  rw [It.bytes_eq, hi]
  decide
theorem pets_size : pets.size = 3 := by
  unfold pets cat dog
  rw [It.size_mk, List.map_cons, List.map_cons, List.map_nil, It.size_mk, It.size_mk]
  rfl
theorem pets_fits : Fits 0 pets := by
  refine .mk (by omega) (fun _ => rfl) (fun e => by cases e) (fun y hy => ?_)
  simp at hy
  rcases hy with rfl | rfl
  · exact .mk (by omega) (fun e => by cases e) (fun _ => rfl) (fun y hy => by simp at hy)
  · exact .mk (by omega) (fun e => by cases e) (fun _ => rfl) (fun y hy => by simp at hy)
theorem read_cat (k : Nat) (hk : k < 4096) : readL [131, 99, 97, 116, 131, 100, 111, 103] 1 k = .ok (cat, 4, k + 1) := by
  rw [readL, if_neg (by omega), if_neg (by omega)]
  have : headE [131, 99, 97, 116, 131, 100, 111, 103] = .ok (false, 1, 3) := by rfl
  rw [this]
  simp [cat]
theorem read_dog (k : Nat) (hk : k < 4096) : readL [131, 100, 111, 103] 1 k = .ok (dog, 4, k + 1) := by
  rw [readL, if_neg (by omega), if_neg (by omega)]
  have : headE [131, 100, 111, 103] = .ok (false, 1, 3) := by rfl
  rw [this]
  simp [dog]
theorem read_pets : readL [200, 131, 99, 97, 116, 131, 100, 111, 103] 0 0 = .ok (pets, 9, 3) := by
  rw [readL, if_neg (by omega), if_neg (by omega)]
  have : headE [200, 131, 99, 97, 116, 131, 100, 111, 103] = .ok (true, 1, 8) := by rfl
  rw [this]
  have hall : allL [131, 99, 97, 116, 131, 100, 111, 103] 1 1 = .ok ([cat, dog], 3) := by
    rw [allL, read_cat 1 (by omega)]
    have e : List.drop (4 - 1) ([99, 97, 116, 131, 100, 111, 103] : List UInt8) = [131, 100, 111, 103] := rfl
    dsimp only
    rw [e, allL, read_dog 2 (by omega)]
    have e2 : List.drop (4 - 1) ([100, 111, 103] : List UInt8) = [] := rfl
    dsimp only
    rw [e2, allL]
  have e : List.take 8 (List.drop (1 - 1) ([131, 99, 97, 116, 131, 100, 111, 103] : List UInt8)) = [131, 99, 97, 116, 131, 100, 111, 103] := rfl
  dsimp only
  rw [e, hall]
  rfl
theorem whole_pets : wholeL [200, 131, 99, 97, 116, 131, 100, 111, 103] = .ok pets := by
  unfold wholeL
  rw [read_pets]
  rfl
def aIt : It := .mk false ⟨#[97]⟩ []
theorem read_a : readL [97, 57] 0 0 = .ok (aIt, 1, 1) := by
  rw [readL, if_neg (by omega), if_neg (by omega)]
  have : headE [97, 57] = .ok (false, 0, 1) := by rfl
  rw [this]
  simp [aIt]
theorem head_56 : headS (clampH 56) false = ⟨#[184, 56]⟩ := by
  have h1 : clampH 56 = 56 := by decide
  have h2 : bigL 56 = [56] := by
    rw [bigL_pos (by omega), show 56 / 256 = 0 by omega, bigL_zero]
    rfl
  rw [h1, headS_big (by omega), h2]
  decide

/-- two items in a row -/
theorem two_its {w : World} {g : Nat} {x y : It} {A A2 : Option Addr} {N C N2 C2 : Nat} (hO : Rg.Own w g #[.bool x.l, .string x.s, .slice A N C, .bool y.l, .string y.s, .slice A2 N2 C2] 24)
    (hx : IsIts w x.xs A N C) (hy : IsIts w y.xs A2 N2 C2) : IsIts w [x, y] (some ⟨g, 0, none⟩) 2 2 := by
  have hc : ∀ i, w.cell? ⟨g, i, none⟩ = (#[.bool x.l, .string x.s, .slice A N C, .bool y.l, .string y.s, .slice A2 N2 C2] : Array Value)[i]? := fun i => by simp [World.cell?, hO.2]
  refine ItsP.mk (fun j => if j = 0 then A else A2) (fun j => if j = 0 then N else N2) (fun j => if j = 0 then C else C2) rfl (by omega) (by unfold maxLen; omega) (by omega) (fun e => by cases e) (fun j z hz => ?_) (fun j z hz => ?_)
  · match j, hz with
    | 0, hz =>
      cases hz
      exact ⟨g, 0, rfl, Nat.zero_le _, hO.1, (hc 0), (hc 1), (hc 2)⟩
    | 1, hz =>
      cases hz
      exact ⟨g, 0, rfl, Nat.zero_le _, hO.1, (hc 3), (hc 4), (hc 5)⟩
  · match j, hz with
    | 0, hz => cases hz; exact hx
    | 1, hz => cases hz; exact hy
theorem its_nil (w : World) (x : It) (h : x.xs = []) : IsIts w x.xs none 0 0 := by rw [h]; exact ItsIn.nil _ _

set_option maxRecDepth 100000 in
set_option maxHeartbeats 8000000 in
theorem awake_any (w : World) : Calls Try.prog 5 #[] w fun e w' => e = .returned (.bool true) ∧ Below w.heap.size w w' := by
  have HTc := Lib.hid (fun w => text_any ⟨#[99, 97, 116]⟩ w)
  have HTd := Lib.hid (fun w => text_any ⟨#[100, 111, 103]⟩ w)
  unfold itV at HTc HTd
  dsimp only [It.l, It.s] at HTc HTd
  go_enter Try.func5, Try.ntmps5
  go_wp2_with fail
  with_reducible refine (HTc.out _).mono ?_
  rintro e w1 ⟨rfl, hb1⟩
  go_wp2_with fail
  with_reducible refine (HTd.out _).mono ?_
  rintro e w2 ⟨rfl, hb2⟩
  have HB2 := Lib.hid (below_step' hb1 hb2)
  clear hb1 hb2 HTc HTd
  have HL : Hid (Calls Try.prog 13 #[.slice (some ⟨w2.heap.size, 0, none⟩) 2 2] (w2.alloc (.cells #[.bool false, .string ⟨#[99, 97, 116]⟩, .slice none 0 0, .bool false, .string ⟨#[100, 111, 103]⟩, .slice none 0 0] 24)) (GotIt (w2.alloc (.cells #[.bool false, .string ⟨#[99, 97, 116]⟩, .slice none 0 0, .bool false, .string ⟨#[100, 111, 103]⟩, .slice none 0 0] 24)) pets)) :=
    Lib.hid (list_any [cat, dog] _ _ _ _ (two_its (Rg.Own.new _ _ _) (its_nil _ cat rfl) (its_nil _ dog rfl)))
  go_wp2_with fail
  with_reducible refine HL.out.mono ?_
  rintro e w3 ⟨a, n, cap, rfl, hI3, hb3⟩
  have HB3 := Lib.hid (below_step' HB2.out (below_step' (al1 _ _) hb3))
  obtain ⟨p1, p2⟩ : pets.l = true ∧ pets.s = ⟨#[]⟩ := ⟨rfl, rfl⟩
  have hO4 : Rg.Own (w3.alloc (.cells #[.bool true, .string ⟨#[]⟩, .slice a n cap] 24)) w3.heap.size (itC pets a n cap) 24 := Rg.Own.new _ _ _
  have HI3 := Lib.hid (ItsIn.weak (B' := 0) hI3 (Nat.zero_le _))
  have HP := Lib.hid (put_any pets (w3.alloc (.cells #[.bool true, .string ⟨#[]⟩, .slice a n cap] 24)) (itV pets a n cap) ⟨a, n, cap, rfl, HI3.out.alloc _⟩ pets_fits (by rw [pets_size]; omega) (by rw [pets_bytes]; decide))
  rw [pets_bytes] at HP
  have HO4 := Lib.hid hO4
  unfold itV at HP
  simp only [p1, p2] at HP
  unfold itV
  simp only [p1, p2]
  clear hb3 HL HB2 hO4 hI3
  go_wp2_with fail
  with_reducible refine HP.out.mono ?_
  rintro e w5 ⟨rfl, hb5⟩
  have HO5 := Lib.hid (HO4.out.below hb5)
  have HB5 := Lib.hid (below_step' (below_step' HB3.out (al1 _ _)) hb5)
  have HI5 := Lib.hid (HI3.out.stays ((al1 _ _).trans (hb5.mono (by simp))))
  have hw := whole_any ⟨#[200, 131, 99, 97, 116, 131, 100, 111, 103]⟩ (by decide) w5
  rw [show wholeL (ByteArray.data ⟨#[200, 131, 99, 97, 116, 131, 100, 111, 103]⟩).toList = .ok pets from whole_pets] at hw
  have HW : Hid (Calls Try.prog 16 #[.string ⟨#[200, 131, 99, 97, 116, 131, 100, 111, 103]⟩] w5 fun e w' => ∃ a nn cap, e = .returned (.tuple #[itV pets a nn cap, .int .i64 0]) ∧ ItsIn w5.heap.size w' pets.xs a nn cap ∧ Below w5.heap.size w5 w') := Lib.hid hw
  clear hw hb5 HP HI3 HO4 HB3
  go_wp2_with fail
  with_reducible refine HW.out.mono ?_
  rintro e w6 ⟨a2, n2, c2, rfl, hI6, hb6⟩
  have HO6 := Lib.hid (HO5.out.below hb6)
  have HB6 := Lib.hid (below_step' HB5.out hb6)
  have HI6 := Lib.hid (HI5.out.stays hb6)
  have HJ6 := Lib.hid (ItsIn.weak (B' := 0) hI6 (Nat.zero_le _))
  unfold itV
  simp only [p1, p2]
  have hO7 : Rg.Own (w6.alloc (.cells #[.bool true, .string ⟨#[]⟩, .slice a2 n2 c2] 24)) w6.heap.size (itC pets a2 n2 c2) 24 := Rg.Own.new _ _ _
  have HO7 := Lib.hid hO7
  have hg := get_any ⟨#[97, 57]⟩ (by decide) (w6.alloc (.cells #[.bool true, .string ⟨#[]⟩, .slice a2 n2 c2] 24))
  rw [show readL (ByteArray.data ⟨#[97, 57]⟩).toList 0 0 = .ok (aIt, 1, 1) from read_a] at hg
  have HG : Hid (Calls Try.prog 17 #[.string ⟨#[97, 57]⟩] (w6.alloc (.cells #[.bool true, .string ⟨#[]⟩, .slice a2 n2 c2] 24)) fun e w' => ∃ a nn cap, e = .returned (.tuple #[itV aIt a nn cap, .int .i64 (1 : Nat), .int .i64 0]) ∧
    ItsIn (w6.alloc (.cells #[.bool true, .string ⟨#[]⟩, .slice a2 n2 c2] 24)).heap.size w' aIt.xs a nn cap ∧ Below (w6.alloc (.cells #[.bool true, .string ⟨#[]⟩, .slice a2 n2 c2] 24)).heap.size (w6.alloc (.cells #[.bool true, .string ⟨#[]⟩, .slice a2 n2 c2] 24)) w') := Lib.hid hg
  clear hg hI6 hb6 hO7 HW HB5 HI5 HO5
  go_wp2_with fail
  with_reducible refine HG.out.mono ?_
  rintro e w8 ⟨a3, n3, c3, rfl, _, hb8⟩
  obtain ⟨q1, q2⟩ : aIt.l = false ∧ aIt.s = ⟨#[97]⟩ := ⟨rfl, rfl⟩
  unfold itV
  simp only [q1, q2]
  have hD := below_step' hb8 (al1 w8 (.cells #[.bool false, .string ⟨#[97]⟩, .slice a3 n3 c3] 24))
  have HB9 := Lib.hid (below_step' (below_step' HB6.out (al1 w6 _)) hD)
  have hOa := (HO6.out.below (al1 w6 (.cells #[.bool true, .string ⟨#[]⟩, .slice a2 n2 c2] 24))).below hD
  have hOb := HO7.out.below hD
  have hIa := (HI6.out.alloc (.cells #[.bool true, .string ⟨#[]⟩, .slice a2 n2 c2] 24)).stays hD
  have hIb := (HJ6.out.alloc (.cells #[.bool true, .string ⟨#[]⟩, .slice a2 n2 c2] 24)).stays hD
  have HIa := Lib.hid hIa
  have HIb := Lib.hid hIb
  have HOa := Lib.hid hOa
  have HOb := Lib.hid hOb
  obtain ⟨d0, d1, d2⟩ := lies_row hOa.2
  obtain ⟨f0, f1, f2⟩ := lies_row hOb.2
  simp only [p1, p2] at d0 d1 f0 f1
  have hsm := same_any pets pets (w8.alloc (.cells #[.bool false, .string ⟨#[97]⟩, .slice a3 n3 c3] 24)) (itV pets a n cap) (itV pets a2 n2 c2) ⟨a, n, cap, rfl, hIa⟩ ⟨a2, n2, c2, rfl, hIb⟩
  rw [sameB_true rfl] at hsm
  unfold itV at hsm
  simp only [p1, p2] at hsm
  have HSm := Lib.hid hsm
  have HHd := Lib.hid (fun w => head_any 56 (by omega) false w)
  rw [head_56] at HHd
  clear hb8 hD hOa hOb hIa hIb hsm HG HO6 HO7 HI6 HJ6 HB6
  go_wp2_with fail
  with_reducible refine HSm.out.mono ?_
  rintro e w10 ⟨rfl, hb10⟩
  have hIa := HIa.out.stays hb10
  have hcn := count_any pets w10 (itV pets a n cap) ⟨a, n, cap, rfl, hIa⟩
  rw [pets_size, show wrap64 ((3 : Nat) : Int) = 3 by simp only [wrap64]; omega] at hcn
  unfold itV at hcn
  simp only [p1, p2] at hcn
  have HCn := Lib.hid hcn
  obtain ⟨g0, g1, g2⟩ := lies_row (HOa.out.below hb10).2
  simp only [p1, p2] at g0 g1
  have HB10 := Lib.hid (below_step' HB9.out hb10)
  clear hcn hIa hb10 HSm d0 d1 d2 f0 f1 f2
  go_wp2_with fail
  with_reducible refine HCn.out.mono ?_
  rintro e w11 ⟨rfl, hb11⟩
  have HB11 := Lib.hid (below_step' HB10.out hb11)
  clear hb11 HCn g0 g1 g2
  go_wp2_with fail
  with_reducible refine (HHd.out _).mono ?_
  rintro e w12 ⟨rfl, hb12⟩
  have HB12 := Lib.hid (below_step' HB11.out hb12)
  clear hb12
  go_wp2
  go_ret
  exact ⟨rfl, HB12.out⟩
end Rl
end Go.Proofs.Ytmnihiagkmdepaa
