/-
  The contract of node.Get, of any bytes that are not far too many.
-/
import Derived.Test.YtoeblhdddehemaaDoorMg19
import Derived.Test.YtoeblhdddehemaaDoorMg10
namespace Go.Proofs.YtoeblhdddehemaaDoor
set_option maxRecDepth 100000
open Go.RowKit

namespace No
open Rl Ni
/-- items that were read out of not far too many bytes -/
theorem good_of {s : List UInt8} {x : It} (hs : s.length ≤ 1000000) (h : wholeL s = .ok x) : ∀ y ∈ x.xs, Good y := by
  obtain ⟨g1, g2, g3⟩ := whole_back (by omega) h
  intro y hy
  have h1 := in_less g2 (by rw [g1]; omega) hy
  rw [g1] at h1
  have h2 := fits_mono y (fits_in g2 hy) (Nat.zero_le _)
  obtain ⟨i, hi⟩ := List.getElem?_of_mem hy
  have h3 := sum_le x.xs i y hi
  have h4 : x.size = 1 + (x.xs.map It.size).sum := by cases x; exact It.size_mk _ _ _
  have h5 := inner_le y
  have h6 : y.s.size ≤ y.inner.length := by
    unfold It.inner
    rw [List.length_append, len_s]
    omega
  exact ⟨h2, by omega, by omega, by omega⟩
theorem whole_code {s : List UInt8} {c : Int} (h : wholeL s = .error c) : c ≠ 0 := by
  unfold wholeL at h
  split at h
  · rename_i c' hr
    cases h
    have := (codes s.length).1 _ _ _ _ (Nat.le_refl _) hr
    omega
  · split at h
    · cases h; decide
    · cases h
theorem readP_v {xs : List It} {N : Nd} (hG : ∀ x ∈ xs, Good x) (h : readP xs = some N) : N.v.size ≤ 1000000 := by
  unfold readP at h
  by_cases h2 : xs.length = 2
  · rw [if_pos h2] at h
    have h1 := hG _ (getD_mem' (xs := xs) (i := 1) (by omega))
    unfold readPathP at h
    split at h
    · cases h
    · split at h
      · obtain rfl := Option.some.inj h
        exact h1.2.2.2
      · obtain ⟨k, hk, rfl⟩ := Option.map_eq_some_iff.1 h
        exact Nat.zero_le _
  · rw [if_neg h2] at h
    split at h
    · unfold readBranchP at h
      split at h
      · cases h
      · split at h
        · obtain rfl := Option.some.inj h
          exact Nat.zero_le _
        · cases h
    · cases h

abbrev Zit2 : Array Value := #[.bool false, .string ⟨#[]⟩, .slice none 0 0]
set_option maxHeartbeats 8000000 in
theorem get_step (s : ByteArray) (hs : s.size ≤ 1000000) (ih : ∀ k : ByteArray, k.size < 32 → k.size < s.size → GetC k) : GetC s := by
  intro w
  have hsl := len_s s
  obtain ⟨w2, hw2⟩ : ∃ w2, w2 = w.alloc (.cells (ndC nd0 none 0 0) 45) := ⟨_, rfl⟩
  have hO : OwnN w2 w.heap.size nd0 none 0 0 := by rw [hw2]; exact Rg.Own.new _ _ _
  have hB2 : Below w.heap.size w w2 := by rw [hw2]; exact al1 _ _
  have HO := Lib.hid hO
  have HB2 := Lib.hid hB2
  have hW := whole_any s (by omega) w2
  have hgt := getP_eq s.data.toList (by omega)
  cases hr : wholeL s.data.toList with
  | error c =>
    rw [hr] at hW hgt
    have HW : Hid (Calls Tryd.prog 50 #[.string s] w2 fun e w' => e = .returned (.tuple #[itV it0 none 0 0, .int .i64 c]) ∧ Below w2.heap.size w2 w') := Lib.hid hW
    unfold itV at HW
    dsimp only [it0, It.l, It.s] at HW
    have hne : (c != 0) = true := by simp; exact whole_code hr
    have HC := Lib.hid (whole_code hr)
    have HG : Hid (getP s.data.toList = none) := Lib.hid hgt
    rw [HG.out]
    clear hO hB2 hr hgt ih hW
    subst hw2
    go_enter Tryd.func30, Tryd.ntmps30
    go_wp2_with (refine Rg.run rfl _ _ (run_alloc_nd _ _ _ w.heap.size rfl rfl) ?_)
    with_reducible refine HW.out.mono ?_
    rintro e w3 ⟨rfl, hb3⟩
    have HO3 := Lib.hid ((HO.out.below hb3).below (al1 w3 (.cells #[.bool false, .string ⟨#[]⟩, .slice none 0 0] 63)))
    have HB3 := Lib.hid (below_step' (below_step' HB2.out hb3) (al1 w3 (.cells #[.bool false, .string ⟨#[]⟩, .slice none 0 0] 63)))
    clear hb3 HW
    go_wp2_with (first
      | (refine Rg.run rfl _ _ (op_build built0 ?_) ?_; · exact ⟨_, rfl, rfl⟩)
      | (refine wpl_store_nd HO3.out rfl nd0 none 0 0 rfl rfl _ _ rfl rfl rfl rfl ?_))
    exact bodyPost_ret (res_nd1 rfl _ rfl (own_rowN HO3.out) rfl) rfl ⟨nd0, none, 0, 0, c, rfl, .inr ⟨HC.out, rfl, rfl⟩, BsF.nil _ _, rfl, below_rowN HB3.out (Nat.le_refl _) _⟩
  | ok x =>
    have hG := good_of (by omega) hr
    rw [hr] at hW hgt
    dsimp only at hgt
    have HW : Hid (Calls Tryd.prog 50 #[.string s] w2 fun e w' => ∃ a nn cap, e = .returned (.tuple #[itV x a nn cap, .int .i64 0]) ∧ ItsIn w2.heap.size w' x.xs a nn cap ∧ Below w2.heap.size w2 w') := Lib.hid hW
    unfold itV at HW
    have HRd := Lib.hid (fun w a n cap h => read_any x.xs a n cap w h hG)
    have HGt := Lib.hid hgt
    have HKs : Hid (∀ N, readP x.xs = some N → N.v.size ≤ maxLen ∧ ∀ k ∈ N.ks, RefC k) := Lib.hid (fun N hN => by
      have h1 := readP_v hG hN
      obtain ⟨_, h2⟩ := kid_less (by omega) hr hN
      refine ⟨Nat.le_trans h1 (by unfold maxLen; omega), fun k hk => ?_⟩
      have hs0 : 0 < s.size := by
        have hb := whole_back (by omega) hr
        have := bytes_pos hb.2.1 (by rw [hb.1]; omega)
        rw [hb.1] at this
        have := List.length_pos_iff.2 this
        omega
      rcases h2 k hk with hp | ⟨h3, h4⟩
      · have hp := of_decide_eq_true hp
        exact ref_of k (by omega) (fun h => ih k h (by omega))
      · exact ref_of k (by omega) (fun h => ih k h (by omega)))
    obtain ⟨r, hrr⟩ : ∃ r, readP x.xs = r := ⟨_, rfl⟩
    obtain ⟨G, hGG⟩ : ∃ G, getP s.data.toList = G := ⟨_, rfl⟩
    rw [hrr] at HGt HRd HKs
    rw [hGG] at HGt
    rw [hGG]
    clear hO hB2 hr hgt ih hW hG hrr hGG
    subst hw2
    go_enter Tryd.func30, Tryd.ntmps30
    go_wp2_with (refine Rg.run rfl _ _ (run_alloc_nd _ _ _ w.heap.size rfl rfl) ?_)
    with_reducible refine HW.out.mono ?_
    rintro e w3 ⟨a3, n3, c3, rfl, hI3, hb3⟩
    obtain ⟨w4, hw4⟩ : ∃ w4, w4 = w3.alloc (.cells #[.bool x.l, .string x.s, .slice a3 n3 c3] 63) := ⟨_, rfl⟩
    have hb4 : Below w3.heap.size w3 w4 := by rw [hw4]; exact al1 _ _
    have hO4 := (HO.out.below hb3).below hb4
    have hB4 := below_step' (below_step' HB2.out hb3) hb4
    have HR4 := Lib.hid (HRd.out w4 a3 n3 c3 (ItsIn.weak (hI3.stays hb4) (Nat.zero_le _)))
    have HO4 := Lib.hid hO4
    have HB4 := Lib.hid hB4
    clear hb3 hb4 hI3 hO4 hB4 HW HRd
    subst hw4
    go_wp2_with fail
    with_reducible refine HR4.out.mono ?_
    rintro e w5 ⟨N, a5, n5, c5, b5, rfl, hr5, hx5, hl5, hb5⟩
    have hge5 := hb5.size
    have hO5 := HO4.out.below hb5
    have hB5 := below_step' HB4.out hb5
    obtain ⟨w6, hw6⟩ : ∃ w6, w6 = w5.alloc (.cells (ndC N a5 n5 c5) 45) := ⟨_, rfl⟩
    have HN5 : Hid (OwnN (w5.alloc (.cells (ndC nd0 none 0 0) 45)) w5.heap.size nd0 none 0 0) := Lib.hid (Rg.Own.new _ _ _)
    have HN6 : Hid (OwnN ((w5.alloc (.cells (ndC nd0 none 0 0) 45)).setRow w5.heap.size (ndC N a5 n5 c5)) w5.heap.size N a5 n5 c5) := Lib.hid (own_rowN HN5.out)
    have hB6 : Below w5.heap.size w5 ((w5.alloc (.cells (ndC nd0 none 0 0) 45)).setRow w5.heap.size (ndC N a5 n5 c5)) := below_rowN (al1 _ _) (Nat.le_refl _) _
    have HO6 := Lib.hid (hO5.below hB6)
    have HB6 := Lib.hid (below_step' hB5 hB6)
    have HX6 := Lib.hid (hx5.below hB6)
    have HL5 := Lib.hid hl5
    have hw0 := HO4.out.1
    clear hO5 hB5 hx5 hl5 hb5 hB6 HR4 HO4 HB4 hw6 w6
    rcases hr5 with ⟨rfl, rfl⟩ | ⟨rfl, rfl⟩
    · have hck := check_any N a5 n5 c5 HL5.out ((w5.alloc (.cells (ndC nd0 none 0 0) 45)).setRow w5.heap.size (ndC N a5 n5 c5)) HX6.out.1 (HKs.out N rfl).1 (HKs.out N rfl).2
      obtain ⟨M, hM⟩ : ∃ M, mayW refP N = M := ⟨_, rfl⟩
      have HG : Hid (G = if M = true then some N else none) := Lib.hid (by rw [HGt.out, ← hM])
      rw [hM] at hck
      have HC := Lib.hid hck
      clear hM HGt HKs hck
      go_wp2_with (first
        | (refine Rg.run rfl _ _ (run_alloc_nd _ _ _ w5.heap.size rfl rfl) ?_)
        | (refine wpl_store_nd HN5.out rfl N a5 n5 c5 HL5.out rfl _ _ rfl rfl rfl rfl ?_)
        | (refine Rg.runW (by rfl) _ _ (op_load_nd HN6.out HL5.out ?_) ?_; · exact ⟨_, rfl, rfl⟩))
      refine HC.out.mono ?_
      rintro e w7 ⟨rfl, hb7⟩
      have hs7 := hb7.size
      have HN7 := Lib.hid (HN6.out.below hb7)
      have HO7 := Lib.hid (HO6.out.below hb7)
      have HB7 := Lib.hid (below_step' HB6.out hb7)
      have HX7 := Lib.hid (HX6.out.below hb7)
      clear hb7 HC HO6 HB6 HX6
      cases M with
      | true =>
        go_wp2_with (first
          | (refine Rg.run rfl _ _ (op_load_nd HN7.out HL5.out ?_) ?_; · exact ⟨_, rfl, rfl⟩)
          | (refine wpl_store_nd HO7.out rfl N a5 n5 c5 HL5.out rfl _ _ rfl rfl rfl rfl ?_))
        exact bodyPost_ret (res_nd1 rfl _ rfl (own_rowN HO7.out) HL5.out) rfl ⟨N, a5, n5, c5, 0, rfl, .inl ⟨rfl, HG.out⟩, (HX7.out.row (by omega) _).weak (by omega), HL5.out, below_rowN HB7.out (Nat.le_refl _) _⟩
      | false =>
        go_wp2_with (first
          | (refine Rg.run rfl _ _ (op_build built0 ?_) ?_; · exact ⟨_, rfl, rfl⟩)
          | (refine wpl_store_nd HO7.out rfl nd0 none 0 0 rfl rfl _ _ rfl rfl rfl rfl ?_))
        exact bodyPost_ret (res_nd1 rfl _ rfl (own_rowN HO7.out) rfl) rfl ⟨nd0, none, 0, 0, 6, rfl, .inr ⟨by decide, rfl, HG.out⟩, BsF.nil _ _, rfl, below_rowN HB7.out (Nat.le_refl _) _⟩
    · have HG : Hid (G = none) := HGt
      go_wp2_with (first
        | (refine Rg.run rfl _ _ (run_alloc_nd _ _ _ w5.heap.size rfl rfl) ?_)
        | (refine wpl_store_nd HN5.out rfl N a5 n5 c5 HL5.out rfl _ _ rfl rfl rfl rfl ?_)
        | (refine Rg.run rfl _ _ (op_build built0 ?_) ?_; · exact ⟨_, rfl, rfl⟩)
        | (refine wpl_store_nd HO6.out rfl nd0 none 0 0 rfl rfl _ _ rfl rfl rfl rfl ?_))
      exact bodyPost_ret (res_nd1 rfl _ rfl (own_rowN HO6.out) rfl) rfl ⟨nd0, none, 0, 0, 6, rfl, .inr ⟨by decide, rfl, HG.out⟩, BsF.nil _ _, rfl, below_rowN HB6.out (Nat.le_refl _) _⟩
theorem get_upto (N : Nat) (hN : N ≤ 1000000) : ∀ s : ByteArray, s.size ≤ N → GetC s := by
  induction N using Nat.strongRecOn with
  | ind N ih => exact fun s hs => get_step s (by omega) (fun k _ hk => ih k.size (by omega) (by omega) k (Nat.le_refl _))
/-- Get of any bytes that are not far too many -/
theorem nget_any (s : ByteArray) (hs : s.size ≤ 1000000) : GetC s := get_upto s.size hs s (Nat.le_refl _)
/-- Reference of any text -/
theorem ref_any (k : ByteArray) (hk : k.size ≤ 9223372036854775807) : RefC k := ref_of k hk (fun h => nget_any k (by omega))
end No
end Go.Proofs.YtoeblhdddehemaaDoor

/-
  What must come at any rate in layer 5: awake.
-/
namespace Go.Proofs.YtoeblhdddehemaaDoor
open Go.RowKit

namespace Rl
open Pk
def cat : It := .mk false ⟨#[99, 97, 116]⟩ []
def dog : It := .mk false ⟨#[100, 111, 103]⟩ []
def pets : It := .mk true ⟨#[]⟩ [cat, dog]
theorem cat_bytes : cat.bytes = [131, 99, 97, 116] := by
  rw [It.bytes_eq]
  decide
theorem dog_bytes : dog.bytes = [131, 100, 111, 103] := by
  rw [It.bytes_eq]
  decide
theorem pets_bytes : pets.bytes = [200, 131, 99, 97, 116, 131, 100, 111, 103] := by
  have hi : pets.inner = [131, 99, 97, 116, 131, 100, 111, 103] := by
    show ([] : List UInt8) ++ ([cat, dog].map It.bytes).flatten = _
    rw [List.map_cons, List.map_cons, List.map_nil, cat_bytes, dog_bytes]
    rfl
  rw [It.bytes_eq, hi]
  decide
theorem pets_size : pets.size = 3 := by
  unfold pets cat dog
  rw [It.size_mk, List.map_cons, List.map_cons, List.map_nil, It.size_mk, It.size_mk]
  rfl
theorem pets_fits : Fits 0 pets := by
  refine .mk (by omega) (fun _ => rfl) (fun e => by cases e) (fun y hy => ?_)
  simp at hy
  rcases hy with rfl | rfl
  · exact .mk (by omega) (fun e => by cases e) (fun _ => rfl) (fun y hy => by simp at hy)
  · exact .mk (by omega) (fun e => by cases e) (fun _ => rfl) (fun y hy => by simp at hy)
theorem read_cat (k : Nat) (hk : k < 4096) : readL [131, 99, 97, 116, 131, 100, 111, 103] 1 k = .ok (cat, 4, k + 1) := by
  rw [readL, if_neg (by omega), if_neg (by omega)]
  have : headE [131, 99, 97, 116, 131, 100, 111, 103] = .ok (false, 1, 3) := by rfl
  rw [this]
  simp [cat]
theorem read_dog (k : Nat) (hk : k < 4096) : readL [131, 100, 111, 103] 1 k = .ok (dog, 4, k + 1) := by
  rw [readL, if_neg (by omega), if_neg (by omega)]
  have : headE [131, 100, 111, 103] = .ok (false, 1, 3) := by rfl
  rw [this]
  simp [dog]
theorem read_pets : readL [200, 131, 99, 97, 116, 131, 100, 111, 103] 0 0 = .ok (pets, 9, 3) := by
  rw [readL, if_neg (by omega), if_neg (by omega)]
  have : headE [200, 131, 99, 97, 116, 131, 100, 111, 103] = .ok (true, 1, 8) := by rfl
  rw [this]
  have hall : allL [131, 99, 97, 116, 131, 100, 111, 103] 1 1 = .ok ([cat, dog], 3) := by
    rw [allL, read_cat 1 (by omega)]
    have e : List.drop (4 - 1) ([99, 97, 116, 131, 100, 111, 103] : List UInt8) = [131, 100, 111, 103] := rfl
    dsimp only
    rw [e, allL, read_dog 2 (by omega)]
    have e2 : List.drop (4 - 1) ([100, 111, 103] : List UInt8) = [] := rfl
    dsimp only
    rw [e2, allL]
  have e : List.take 8 (List.drop (1 - 1) ([131, 99, 97, 116, 131, 100, 111, 103] : List UInt8)) = [131, 99, 97, 116, 131, 100, 111, 103] := rfl
  dsimp only
  rw [e, hall]
  rfl
theorem whole_pets : wholeL [200, 131, 99, 97, 116, 131, 100, 111, 103] = .ok pets := by
  unfold wholeL
  rw [read_pets]
  rfl
def aIt : It := .mk false ⟨#[97]⟩ []
theorem read_a : readL [97, 57] 0 0 = .ok (aIt, 1, 1) := by
  rw [readL, if_neg (by omega), if_neg (by omega)]
  have : headE [97, 57] = .ok (false, 0, 1) := by rfl
  rw [this]
  simp [aIt]
theorem head_56 : headS (clampH 56) false = ⟨#[184, 56]⟩ := by
  have h1 : clampH 56 = 56 := by decide
  have h2 : bigL 56 = [56] := by
    rw [bigL_pos (by omega), show 56 / 256 = 0 by omega, bigL_zero]
    rfl
  rw [h1, headS_big (by omega), h2]
  decide

/-- two items in a row -/
theorem two_its {w : World} {g : Nat} {x y : It} {A A2 : Option Addr} {N C N2 C2 : Nat} (hO : Rg.Own w g #[.bool x.l, .string x.s, .slice A N C, .bool y.l, .string y.s, .slice A2 N2 C2] 63)
    (hx : IsIts w x.xs A N C) (hy : IsIts w y.xs A2 N2 C2) : IsIts w [x, y] (some ⟨g, 0, none⟩) 2 2 := by
  have hc : ∀ i, w.cell? ⟨g, i, none⟩ = (#[.bool x.l, .string x.s, .slice A N C, .bool y.l, .string y.s, .slice A2 N2 C2] : Array Value)[i]? := fun i => by simp [World.cell?, hO.2]
  refine ItsP.mk (fun j => if j = 0 then A else A2) (fun j => if j = 0 then N else N2) (fun j => if j = 0 then C else C2) rfl (by omega) (by unfold maxLen; omega) (by omega) (fun e => by cases e) (fun j z hz => ?_) (fun j z hz => ?_)
  · match j, hz with
    | 0, hz =>
      cases hz
      exact ⟨g, 0, rfl, Nat.zero_le _, hO.1, (hc 0), (hc 1), (hc 2)⟩
    | 1, hz =>
      cases hz
      exact ⟨g, 0, rfl, Nat.zero_le _, hO.1, (hc 3), (hc 4), (hc 5)⟩
  · match j, hz with
    | 0, hz => cases hz; exact hx
    | 1, hz => cases hz; exact hy
theorem its_nil (w : World) (x : It) (h : x.xs = []) : IsIts w x.xs none 0 0 := by rw [h]; exact ItsIn.nil _ _

end Rl
end Go.Proofs.YtoeblhdddehemaaDoor
