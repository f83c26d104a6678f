/-
  Contract of gauge.Sort: the same numbers, in the order of all, in memory of the call's own.
-/
import Derived.Test.YtcefohebnngfnaaFsIn
import Derived.Test.YtcefohebnngfnaaGf
import Derived.Laws.AppendOwnNone
import Derived.Lib.AppendZeros
import Derived.Shelf.SlSortCmp.NoneTotal
namespace Go.Proofs.Ytcefohebnngfnaa
open Go.RowKit Go.Shelf

namespace Fw
open Fl
theorem one_cell : OneCell encF := fun _ => rfl
def cfF (x y : UInt64) : Int := cmpK x.toNat y.toNat
theorem lt_cf (x y : UInt64) : ltOf cfF x y = lessK x.toNat y.toNat := cmpK_less _ _
theorem swo : Go.Sort.SWO (ltOf cfF) where
  irrefl x := by rw [lt_cf]; unfold lessK; simp
  trans x y z h1 h2 := by rw [lt_cf] at *; unfold lessK at *; simp at *; omega
  ntrans x y z h1 h2 := by rw [lt_cf] at *; unfold lessK at *; simp at *; omega
/-- in the order of all -/
def Rising (s : List UInt64) : Prop := s.Pairwise fun x y => key x.toNat ≤ key y.toNat
theorem below_sortWorld {B : Nat} {w w1 : World} (h : Below B w w1) (g n : Nat) (d : Array UInt64) (os : Array Obj) (hg : B ≤ g) (hB : B ≤ w1.heap.size) : Below B w (sortWorld encF w1 g 0 n d os) := by
  refine ⟨h.os, h.tape, h.output, ?_, fun k hk => ?_⟩
  · have := h.size
    unfold sortWorld
    rw [Go.Sort.size_grow, size_putRow]
    show w.heap.size ≤ w1.heap.size + _
    omega
  · refine Eq.trans ?_ (h.block k hk)
    unfold sortWorld
    rw [Go.Sort.heap_grow_old _ _ (by rw [size_putRow]; exact Nat.lt_of_lt_of_le hk hB)]
    show (w1.heap.modify g _)[k]? = _
    rw [Array.getElem?_modify, if_neg (by omega)]
theorem sortFunc_any (g B n cap : Nat) (d : Array UInt64) (w : World) (hH : Go.Sort.Holds encF w g 0 d) (hn : d.size = n) (h60 : n ≤ 60) (hg : g < w.heap.size) (hB : w.cell? ⟨B, 0, none⟩ = some (.func (Fn.func 30) #[] #[])) (hBl : B < w.heap.size) (hne : B ≠ g) :
    Calls Try.prog 34 #[.slice (some ⟨g, 0, none⟩) n cap, .func (Fn.func 39) #[] #[.pointer (some ⟨B, 0, none⟩)]] w fun e w' =>
      e = .returned (.tuple #[]) ∧ ∃ (d' : Array UInt64) (m : Nat) (os : Array Obj), d'.size = n ∧ d'.toList.Perm d.toList ∧ Rising d'.toList ∧ w' = sortWorld encF w g 0 m d' os := by
  subst hn
  have eg : ∀ args w, (callFunc 39 args).run Try.prog w = .ok (.enter 39 args) w := enters_of Try.func39 (by kernel_rfl) rfl
  have hcmp : CmpReads Try.prog 39 #[.pointer (some ⟨B, 0, none⟩)] encF cfF g 0 d.size w := by
    intro m os dk hs x y
    refine order1_any x.toNat y.toNat B (lt64 x) (lt64 y) _ ?_
    unfold sortWorld
    rw [Go.Sort.cell?_grow _ _ _ (by rw [size_putRow]; exact hBl), Go.Sort.cell?_putRow_other _ _ _ _ _ _ (.inl hne)]
    exact hB
  have hcon := Any.slices_SortFunc sortLays encF one_cell cfF swo 39 #[.pointer (some ⟨B, 0, none⟩)] g 0 cap d w eg hcmp.lays hH hg (by omega)
  change Calls Try.prog 34 _ _ _ at hcon
  refine hcon.mono ?_
  rintro e w' ⟨rfl, d', m, os, ⟨hs, _, hp⟩, hsort, rfl⟩
  refine ⟨rfl, d', m, os, hs, ?_, ?_, rfl⟩
  · have e1 : (d'.extract 0 d.size).toList = d'.toList := by rw [← hs]; simp
    have e2 : (d.extract 0 d.size).toList = d.toList := by simp
    rw [e1, e2] at hp
    exact hp
  · unfold Rising
    rw [List.pairwise_iff_getElem]
    intro i j hi hj hij
    have hi' : i < d'.size := by simpa using hi
    have hj' : j < d'.size := by simpa using hj
    have := hsort i j (Nat.zero_le _) hij (by omega)
    rw [lt_cf, getElem!_pos d' i hi', getElem!_pos d' j hj'] at this
    unfold lessK at this
    have := of_decide_eq_false this
    simp only [Array.getElem_toList]
    omega

theorem info_f : (Try.prog.info? 23).map (fun i => (i.zero, i.size, i.bytes)) = some (some (.float .f64 0), 1, 8) := by kernel_rfl
theorem news_cells {w : World} {a : Option Addr} {n cap : Nat} {l : List UInt64} (h : IsFs w a n cap l) (ad : Addr) (he : a = some ad) : ∀ j u, (l.map encF)[j]? = some u → w.cell? (ad.add j) = some u := by
  intro j u hu
  have hj : j < l.length := by
    rcases Nat.lt_or_ge j l.length with h' | h'
    · exact h'
    · rw [List.getElem?_eq_none (by simpa using h')] at hu; cases hu
  obtain ⟨b, off, e, _, hc⟩ := h.at' j (by rw [← h.len]; exact hj)
  rw [he] at e
  injection e with e
  subst e
  rw [addr_add, hc]
  simp only [List.getElem?_map] at hu
  rw [List.getElem?_eq_getElem hj] at hu
  simp only [Option.map_some] at hu
  rw [← hu]
  simp [List.getD, hj, encF]
/-- append: to a row of the call's own, numbers from wherever -/
theorem app_run (base : Nat) (v : Value) (n : Nat) (xs : List Value) (w : World) (hown : w.ownsRow base 23 1 v n xs) (a : Option Addr) (m c : Nat) (l : List UInt64) (hl : IsFs w a m c l) (hnm : n + m ≤ 1000) (hb : base ≤ w.heap.size) (ty : TypeId) :
    ∃ v' w', (Builtin.append_ #[30, 30] ty #[v, .slice a m c]).run Try.prog w = .ok v' w' ∧ w'.ownsRow base 23 1 v' (n + m) (xs ++ l.map encF) ∧ w.grownBy w' v.ownBlock ∧ (v = .slice none 0 0 → m = 0 → v' = .slice none 0 0) := by
  obtain ⟨i0, hi, hz0, hz1, hz2⟩ := info_parts info_f
  have hlen := hl.len
  have hcap := hl.2.2.2.1
  have hnc := hl.1
  rcases a with _ | ad
  · have hc0 := hcap rfl
    obtain rfl : m = 0 := by omega
    subst hc0
    have e : l = [] := List.eq_nil_of_length_eq_zero hlen
    subst e
    refine ⟨v, w, run_append_owned_none (P := Try.prog) w base 30 ty 23 i0 1 Try.underlying30 hi v n xs hown, by simpa using hown, World.grownBy.refl w _, fun h _ => h⟩
  · obtain ⟨v', w', h1, h2, h3, h4⟩ := run_append_own (P := Try.prog) w base 30 ty 23 i0 (.float .f64 0) 1 8 Try.underlying30 hi hz0 hz1 hz2 rfl (by decide) v n xs hown ad m c (l.map encF) (by rw [List.length_map, Nat.mul_one]; exact hlen) (news_cells hl ad rfl)
      (by intro u hu; simp at hu; obtain ⟨_, _, rfl⟩ := hu; rfl) (by unfold maxLen; omega) (by omega) hb
    exact ⟨v', w', h1, h2, h3, fun a b => h4.2 ⟨a, b⟩⟩
theorem below_grown {B : Nat} {w0 w w' : World} {row : Option Nat} (h : Below B w0 w) (hg : w.grownBy w' row) (hB : B ≤ w.heap.size) (hr : ∀ g, row = some g → B ≤ g) : Below B w0 w' := h.grown hg hB hr
/-- a row of the call's own, as a slice of numbers -/
theorem IsFs.ofOwn {w : World} {B : Nat} {v : Value} {n : Nat} {l : List UInt64} (h : w.ownsRow B 23 1 v n (l.map encF)) : ∃ a cap, v = .slice a n cap ∧ IsFs w a n cap l := by
  have hl : l.length = n := by simpa using h.1
  rcases h.2 with ⟨rfl, hz⟩ | ⟨g, cap, cur, rfl, hbg, hg, hnc, hcm, hcs, htake⟩
  · have e : l = [] := List.eq_nil_of_length_eq_zero (by rw [hl]; exact hz)
    subst e
    subst hz
    exact ⟨none, 0, rfl, IsFs.nil w⟩
  · refine ⟨_, _, rfl, hnc, hcm, hl, fun e => (by cases e), fun j hj => ⟨g, 0, rfl, (Array.getElem?_eq_some_iff.1 hg).1, ?_⟩⟩
    have := h.cells (g := g) rfl j (.float .f64 (l.getD j 0).toNat) (by simp [List.getD, hl, hj, encF])
    rw [addr_add] at this
    exact this
/-- .. as the sort takes it -/
theorem holds_own {w : World} {B g cap n : Nat} {l : List UInt64} (h : w.ownsRow B 23 1 (.slice (some ⟨g, 0, none⟩) n cap) n (l.map encF)) : Go.Sort.Holds encF w g 0 l.toArray := by
  have hl : l.length = n := by simpa using h.1
  intro j hj
  have hj' : j < l.length := by simpa using hj
  refine ⟨?_, by rw [Nat.zero_add]; exact h.frozenAt j⟩
  rw [Nat.zero_add, h.cellAt j (by omega)]
  simp [hj']

/-- the same numbers, in the order of all -/
def GotSorted (w : World) (n : Nat) (l : List UInt64) (e : Ending) (w' : World) : Prop := ∃ a cap s, e = .returned (.slice a n cap) ∧ IsFs w' a n cap s ∧ s.Perm l ∧ Rising s ∧ Below w.heap.size w w'
set_option maxHeartbeats 4000000 in
theorem sort_some (a : Option Addr) (n cap : Nat) (l : List UInt64) (hn : 0 < n) (h60 : n ≤ 60) (w : World) (h : IsFs w a n cap l) :
    Calls Try.prog 17 #[.slice a n cap] w (GotSorted w n l) := by
  obtain ⟨v', w1, hrun, hown, hgrow, _⟩ := app_run w.heap.size (.slice none 0 0) 0 [] w (World.ownsRow_nil w _ _ _) a n cap l h (by omega) (Nat.le_refl _) 30
  rw [Nat.zero_add, List.nil_append] at hown
  have hb1 : Below w.heap.size w w1 := (Below.refl _ _).grown hgrow (Nat.le_refl _) (fun g hg => by cases hg)
  rcases hown.2 with ⟨_, hz⟩ | ⟨g, cap', cur, rfl, hbg, hg, hnc, hcm, _⟩
  · omega
  have hlen : l.length = n := h.len
  have hgl : g < w1.heap.size := (Array.getElem?_eq_some_iff.1 hg).1
  have HS := Lib.hid (sortFunc_any g w1.heap.size n cap' l.toArray (w1.alloc (.cells #[.func (Fn.func 30) #[] #[]] 42)) (holds_own (hown.alloc _)) (by simpa using hlen) h60 (by simp; omega) (by simp) (by simp) (by omega))
  have HB := Lib.hid (hb1.alloc hb1.size (.cells #[.func (Fn.func 30) #[] #[]] 42))
  have HO := Lib.hid (holds_own (hown.alloc (.cells #[.func (Fn.func 30) #[] #[]] 42)))
  have HX := Lib.hid (And.intro hbg (And.intro hgl (And.intro hnc (And.intro hcm hlen))))
  have HR := Lib.hid hrun
  clear hown hgrow hb1 hbg hg hnc hcm hgl h hlen hrun
  go_enter Try.func17, Try.ntmps17
  go_wp2_with (at_builtin; refine Lib.wpList_append_run _ rfl _ _ _ _ rfl _ _ rfl rfl _ _ HR.out ?_)
  go_wp2_with fail
  refine (order_any _).mono ?_
  rintro e w2 ⟨rfl, rfl⟩
  go_wp2_with fail
  refine HS.out.mono ?_
  rintro e w3 ⟨rfl, d', m, os, hd, hp, hr, rfl⟩
  have HD := Lib.hid (And.intro hd (And.intro hp hr))
  clear hd hp hr
  go_wp2
  go_ret
  obtain ⟨hbg, hgl, hnc, hcm, hlen⟩ := HX.out
  obtain ⟨hd, hp, hr⟩ := HD.out
  have hsz : d'.size = l.toArray.size := by rw [hd]; simpa using hlen.symm
  have hw := holds_sortWorld encF _ g 0 m l.toArray d' os (by simp; omega) HO.out hsz
  refine ⟨_, _, d'.toList, rfl, ⟨hnc, hcm, by simpa using hd, fun e => (by cases e), fun j hj => ⟨g, 0, rfl, ?_, ?_⟩⟩, by simpa using hp, hr, below_sortWorld HB.out g m d' os hbg HB.out.size⟩
  · unfold sortWorld
    rw [Go.Sort.size_grow, size_putRow]
    show g < (w1.alloc _).heap.size + _
    simp; omega
  · have hj' : j < d'.size := by omega
    rw [(hw j hj').1, getElem!_pos d' j hj']
    simp [List.getD, hj', encF]
set_option maxHeartbeats 2000000 in
theorem sort_none (a : Option Addr) (cap : Nat) (l : List UInt64) (w : World) (h : IsFs w a 0 cap l) :
    Calls Try.prog 17 #[.slice a 0 cap] w (GotSorted w 0 l) := by
  obtain ⟨v', w1, hrun, hown, hgrow, hv⟩ := app_run w.heap.size (.slice none 0 0) 0 [] w (World.ownsRow_nil w _ _ _) a 0 cap l h (by omega) (Nat.le_refl _) 30
  obtain rfl := hv rfl rfl
  have hb1 : Below w.heap.size w w1 := (Below.refl _ _).grown hgrow (Nat.le_refl _) (fun g hg => by cases hg)
  have hl : l = [] := List.eq_nil_of_length_eq_zero h.len
  have HS := Lib.hid (fun fv wx => AnyF.slices_SortFunc_none (P := Try.prog) (ρ := sortRen) { sortLays with } none 0 fv wx)
  change Hid (∀ fv wx, Calls Try.prog 34 _ _ _) at HS
  have HR := Lib.hid hrun
  have HB := Lib.hid (hb1.alloc hb1.size (.cells #[.func (Fn.func 30) #[] #[]] 42))
  clear hown hgrow hb1 hrun h
  go_enter Try.func17, Try.ntmps17
  go_wp2_with (at_builtin; refine Lib.wpList_append_run _ rfl _ _ _ _ rfl _ _ rfl rfl _ _ HR.out ?_)
  go_wp2_with fail
  refine (order_any _).mono ?_
  rintro e w2 ⟨rfl, rfl⟩
  go_wp2_with fail
  refine (HS.out _ _).mono ?_
  rintro e w3 ⟨rfl, rfl⟩
  go_wp2
  go_ret
  exact ⟨none, 0, [], rfl, IsFs.nil _, by rw [hl], List.Pairwise.nil, HB.out⟩
theorem sort_any (a : Option Addr) (n cap : Nat) (l : List UInt64) (h60 : n ≤ 60) (w : World) (h : IsFs w a n cap l) :
    Calls Try.prog 17 #[.slice a n cap] w (GotSorted w n l) := by
  by_cases hn : n = 0
  · subst hn; exact sort_none a cap l w h
  · exact sort_some a n cap l (by omega) h60 w h
end Fw
end Go.Proofs.Ytcefohebnngfnaa
