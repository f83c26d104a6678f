/-
 The plain answer's Get: bytes that are no item of 2 or 17.
-/
import Derived.Test.YtgolhnfkmmajpaaGreatDoorMb27
import Derived.Deep.DeepCutAuto
import Derived.Test.YtgolhnfkmmajpaaGreatDoorMb29
import Derived.Test.YtgolhnfkmmajpaaGreatDoorMb25
import Derived.Test.YtgolhnfkmmajpaaGreatDoorMb23
import Derived.Test.YtgolhnfkmmajpaaGreatDoorMb16
open Go.Lib (hid)
set_option linter.unusedSimpArgs false
set_option linter.unusedVariables false
set_option maxHeartbeats 40000000
set_option maxRecDepth 100000
namespace Go.Proofs.YtgolhnfkmmajpaaGreatDoor
section
open Go.RowKit
namespace No
open Rl Ni
end No
end
section
open Go.RowKit
namespace No
open Rl Ni
end No
end
section
open Go.RowKit
namespace Tm
open Tr Ni Pk Ky No Rf Rl
open Sm (Tab)
theorem mem_kidsOf {ks : Fin 16 → T} {s : T} (h : s ∈ (kidsOf ks).map ks) : ∃ i, s = ks i ∧ ks i ≠ .nil := by
 obtain ⟨i, hi, rfl⟩ := List.mem_map.1 h
 refine ⟨i, rfl, fun e => ?_⟩
 have := (List.mem_filter.1 hi).2
 rw [isNil_iff.2 e] at this
 cases this
theorem kids_good {t : T} {L : Nat} (g : Tr.Good t L) (f : Fine t) : ∀ s ∈ kidsT t, s ≠ .nil ∧ Fine s ∧ (Tr.Full t → Tr.Full s) ∧ ∃ L', L' < L ∧ Tr.Good s L' := by
 intro s hs
 cases t with
 | nil => cases hs
 | leaf p v => cases hs
 | stub r => cases hs
 | ext q u =>
  obtain rfl : s = u := by
   have : s ∈ [u] := hs
   simpa using this
  obtain ⟨g1, _, g3, g4, g5⟩ := g
  have hq : 0 < q.length := List.length_pos_iff.2 g1
  exact ⟨isBr_ne g4, f, fun h => h, L - q.length, by omega, g5⟩
 | br ks =>
  obtain ⟨i, rfl, hn⟩ := mem_kidsOf hs
  obtain ⟨g1, _, g3⟩ := g
  exact ⟨hn, f i, fun h => h i, L - 1, by omega, g3 i⟩
theorem kind_node {t : T} (hs : ¬ IsStub t) : kindT t = (nodeT t).kd ∧ valT t = (nodeT t).v ∧ pathT t = (nodeT t).p := by
 cases t with
 | stub r => exact absurd trivial hs
 | _ => exact ⟨rfl, rfl, rfl⟩
theorem mk_of {t : T} {L : Nat} (g : Tr.Good t L) (hL : L ≤ 64) (f : Fine t) (hn : t ≠ .nil) (hs : ¬ IsStub t) {ts : List T} (hr : ts.map ref = (kidsT t).map ref) (hf : ∀ s ∈ ts, ∃ L, Tr.Good s L ∧ L ≤ 64 ∧ Fine s)
  (hk : ∀ q s, t = .ext q s → ∀ u ∈ ts, kindT u ≠ 1 ∧ kindT u ≠ 2) {t' : T} (hm : makeT (nodeT t) ts = t') (hx : nodeT t' = nodeT t) (hs' : ¬ IsStub t') (hn' : t' ≠ .nil) : Mk (nodeT t) ts := by
 obtain ⟨h1, _, _, h4, h5, h6⟩ := tree_node g hL f hn hs
 have hrf : kidsL (nodeT t).ks = ts.map ref := by rw [hr]; exact kids_refs g hL f
 have hlen : ts.length = (kidsT t).length := by have := congrArg List.length hr; simpa using this
 obtain ⟨k1, k2, k3⟩ := kind_node hs'
 refine ⟨nodeT_length t, h1, h4, h5, h6, hf, hrf, ?_, by rw [hm, k1, hx], by rw [hm, k2, hx], by rw [hm, k3, hx], by rw [hm]; exact hs', by rw [hm]; exact hn'⟩
 cases t with
 | nil => exact absurd rfl hn
 | stub r => exact absurd trivial hs
 | leaf p v => exact .inl ⟨rfl, List.eq_nil_of_length_eq_zero hlen⟩
 | ext q u =>
  have h1 : ts.length = 1 := hlen
  obtain ⟨s, rfl⟩ := List.length_eq_one_iff.1 h1
  exact .inr (.inl ⟨rfl, s, rfl, hk q u rfl s (by simp)⟩)
 | br ks => exact .inr (.inr ⟨rfl, by rw [hrf, List.length_map]⟩)
theorem drop_stub' {t : T} (hs : ¬ IsStub t) (k : Nat) : ¬ IsStub (dropT t k) := by
 cases t with
 | stub r => exact absurd trivial hs
 | _ => exact fun h => h
theorem drop_ne {t : T} (hn : t ≠ .nil) (k : Nat) : dropT t k ≠ .nil := by
 cases t with
 | nil => exact absurd rfl hn
 | _ => intro e; cases e
theorem map_set_ref (l : List T) (k : Nat) : (l.set k (.stub (ref (l.getD k .nil)))).map ref = l.map ref := by
 rw [List.map_set]
 apply List.ext_getElem
 ·simp
 ·intro i h1 h2
  rw [List.getElem_set]
  split
  ·rename_i e
   subst e
   have h3 : k < l.length := by simpa using h2
   show ref (l.getD k .nil) = _
   simp [List.getD, h3]
  ·rfl
theorem mk_drop {t : T} {L : Nat} (g : Tr.Good t L) (hL : L ≤ 64) (f : Fine t) (hn : t ≠ .nil) (hs : ¬ IsStub t) (k : Nat) (hk : k < (kidsT t).length) : Mk (nodeT t) ((kidsT t).set k (.stub (ref ((kidsT t).getD k .nil)))) := by
 have hmem : (kidsT t).getD k .nil ∈ kidsT t := by
  rw [List.getD_eq_getElem?_getD, List.getElem?_eq_getElem hk]
  exact List.getElem_mem _
 obtain ⟨hne, hfi, _, L', hl, hg⟩ := kids_good g f _ hmem
 obtain ⟨_, r1, r2⟩ := may_tree _ L' hg (by omega) hfi hne
 refine mk_of g hL f hn hs (map_set_ref _ k) (fun s h => ?_) (fun q s e u hu => ?_) (make_drop g hL f k hk) (node_drop t k) (drop_stub' hs k) (drop_ne hn k)
 ·rcases List.mem_or_eq_of_mem_set h with h | rfl
  ·obtain ⟨_, hf, _, L', hl, hg⟩ := kids_good g f s h
   exact ⟨L', hg, by omega, hf⟩
  ·exact ⟨0, trivial, by omega, r1, r2⟩
 ·subst e
  have h0 : k = 0 := by have : k < 1 := hk; omega
  subst h0
  obtain rfl : u = .stub (ref s) := by
   have : u ∈ [T.stub (ref s)] := hu
   simpa using this
  exact ⟨by show (-1 : Int) ≠ 1; decide, by show (-1 : Int) ≠ 2; decide⟩
theorem kids_len (t : T) : (kidsT t).length ≤ 16 := by
 cases t with
 | ext q s => show 1 ≤ 16; omega
 | br ks =>
  show ((kidsOf ks).map ks).length ≤ 16
  rw [List.length_map]
  exact Nat.le_trans (List.length_filter_le _ _) (by simp)
 | _ => exact Nat.zero_le _
structure Op1 (w0 : World) (M : Mp) (w : World) (bk bt : Nat) (K : List UInt8) (p : Option Addr) (t : T) : Prop where
 l : Lw w0 M w
 u : IsT M p t
 x : Bx M w bt #[.pointer p] 25
 kb : Rg.Own w bk (kc K) 28
 kl : K.length = 32
 gt : w0.heap.size ≤ bt
 ne : bk ≠ bt
namespace Op1
variable {w0 : World} {M M' : Mp} {w w' : World} {bk bt : Nat} {K : List UInt8} {p p' : Option Addr} {t t' : T}
theorem below (h : Op1 w0 M w bk bt K p t) (hb : Below w.heap.size w w') : Op1 w0 M w' bk bt K p t := ⟨h.l.below hb, h.u, h.x.below hb, h.kb.below hb, h.kl, h.gt, h.ne⟩
theorem fr (h : Op1 w0 M w bk bt K p t) (hl : Lw w0 M' w') (f : Fr M M' w w') : Op1 w0 M' w' bk bt K p t := ⟨hl, h.u.mono f.mono, h.x.frm h.l.i f, own_byte_fr h.kb (kc_byte h.kl) h.l.i f, h.kl, h.gt, h.ne⟩
end Op1
structure Op2 (w0 : World) (M : Mp) (w : World) (bk bt : Nat) (K : List UInt8) (p : Option Addr) (t : T) (bn : Nat) (N : Nd) (a : Option Addr) (n c : Nat) (ka : Option Addr) (kc' : Nat) (ps : List (Option Addr)) : Prop where
 o : Op1 w0 M w bk bt K p t
 nb : Bx M w bn (ndC N a n c) 58
 pb : IsBs w a n c N.p
 ks : Ptrs w ka ps.length kc' ps
 are : Are M ps (kidsT t)
namespace Op2
variable {w0 : World} {M M' : Mp} {w w' : World} {bk bt : Nat} {K : List UInt8} {p : Option Addr} {t : T} {bn : Nat} {N : Nd} {a : Option Addr} {n c : Nat} {ka : Option Addr} {kc' : Nat} {ps : List (Option Addr)}
theorem below (h : Op2 w0 M w bk bt K p t bn N a n c ka kc' ps) (hb : Below w.heap.size w w') : Op2 w0 M w' bk bt K p t bn N a n c ka kc' ps := ⟨h.o.below hb, h.nb.below hb, h.pb.below hb, h.ks.below hb, h.are⟩
theorem fr (h : Op2 w0 M w bk bt K p t bn N a n c ka kc' ps) (hl : Lw w0 M' w') (f : Fr M M' w w') : Op2 w0 M' w' bk bt K p t bn N a n c ka kc' ps := ⟨h.o.fr hl f, h.nb.frm h.o.l.i f, isBs_fr h.o.l.i h.pb f, h.ks.frm h.o.l.i f, h.are.mono f.mono⟩
end Op2
end Tm
end
section
open Go.RowKit
namespace Tm
open Tr Ni Pk Ky No Rf Rl
open Sm (Tab)
theorem read_x : readL [120] 0 0 = .ok (.mk false ⟨#[120]⟩ [], 1, 1) := by
 rw [readL, if_neg (by omega), if_neg (by omega)]
 have : headE [120] = .ok (false, 0, 1) := by rfl
 rw [this]
 simp
theorem kind_x : kindP sx = 3 := by
 have h : getP [120] = none := get_few (by decide) (whole_is read_x (by decide)) (by decide) (by decide)
 have h2 : refP sx = false := by
  unfold refP
  rw [show (ByteArray.data sx).toList = [120] from rfl, h]
  rfl
 unfold kindP
 rw [h2]
 rfl
theorem kind_e : kindP eB = 0 := rfl
theorem in_ext (q P : Pa) (s : T) (i : Nat) : inPart (.ext q s) i P = decide (commonN q P = q.length) := by
 show decide (q <+: P) = _
 rw [cp_common]
 by_cases h : q <+: P
 ·rw [decide_eq_true h, decide_eq_true (cp_pre h)]
 ·have := cp_not h
  rw [decide_eq_false h, decide_eq_false (by omega)]
theorem br_refs {ks : Fin 16 → T} {L : Nat} (g : Tr.Good (.br ks) L) (hL : L ≤ 64) (f : Fine (.br ks)) : ∀ i, (ref (ks i)).size ≠ 0 ↔ ks i ≠ .nil := fun i => ref_size (g.2.2 i) (by omega) (f i)
theorem at_rank {ks : Fin 16 → T} {L : Nat} (g : Tr.Good (.br ks) L) (hL : L ≤ 64) (f : Fine (.br ks)) (i : Fin 16) : (kidsL ((nodeT (.br ks)).ks.take i.val)).length = rank ks i := by
 show (kidsL ((kids16 fun i => ref (ks i)).take i.val)).length = _
 rw [kids16_take, kidsL_kids (br_refs g hL f), List.length_map]
 rfl
theorem in_br {ks : Fin 16 → T} {L : Nat} (g : Tr.Good (.br ks) L) (hL : L ≤ 64) (f : Fine (.br ks)) (i : Nat) (hi : i < (kidsT (.br ks)).length) (c : UInt8) (r : Pa) (hc : c.toNat < 16) :
  inPart (.br ks) i (c :: r) = (decide ((nodeT (.br ks)).ks.getD c.toNat eB = ref ((kidsT (.br ks)).getD i .nil)) && decide ((kidsL ((nodeT (.br ks)).ks.take c.toNat)).length = i)) := by
 have hv : (nb c).val = c.toNat := by show c.toNat % 16 = _; omega
 have h1 : (nodeT (.br ks)).ks.getD c.toNat eB = ref (ks (nb c)) := by
  rw [← hv]
  exact kids16_getD (fun i => ref (ks i)) (nb c)
 have h2 : (kidsL ((nodeT (.br ks)).ks.take c.toNat)).length = rank ks (nb c) := by
  rw [← hv]
  exact at_rank g hL f (nb c)
 rw [h1, h2]
 show (!isNil (ks (nb c)) && decide (rank ks (nb c) = i)) = _
 have hmem : (kidsT (.br ks)).getD i .nil ∈ kidsT (.br ks) := by
  rw [List.getD_eq_getElem?_getD, List.getElem?_eq_getElem hi]
  exact List.getElem_mem _
 obtain ⟨hne, hfi, _, L', hl, hg⟩ := kids_good g f _ hmem
 have hs := (ref_size hg (by omega) hfi).2 hne
 cases hn : isNil (ks (nb c)) with
 | true =>
  rw [isNil_iff.1 hn]
  have : ¬ ref T.nil = ref ((kidsT (.br ks)).getD i .nil) := fun e => hs (by rw [← e]; rfl)
  rw [decide_eq_false this]
  rfl
 | false =>
  have hnn : ks (nb c) ≠ .nil := fun e => by rw [isNil_iff.2 e] at hn; cases hn
  by_cases hr : rank ks (nb c) = i
  ·have h3 : (kidsT (.br ks)).getD i .nil = ks (nb c) := by
    show ((kidsOf ks).map ks).getD i .nil = _
    rw [← hr, List.getD_eq_getElem?_getD, List.getElem?_map, kids_rank hnn]
    rfl
   rw [h3, decide_eq_true rfl]
   rfl
  ·rw [decide_eq_false hr, Bool.and_false, Bool.and_false]
theorem at_any (N : Nd) (hl : N.ks.length = 16) (a : Option Addr) (n c : Nat) (P : List UInt8) (pa : Option Addr) (pn pc C : Nat) (hC : (P.getD 0 0).toNat = C) (h16 : C < 16) (hp : 0 < P.length) (w : World) (h : IsBs w pa pn pc P) :
  Calls Tryz.prog 29 #[.agg (ndC N a n c), .slice pa pn pc] w fun e w' => e = .returned (.int .i64 ((kidsL (N.ks.take C)).length : Nat)) ∧ Below w.heap.size w w' := by
 obtain ⟨w1, hw1, hO1, hb1⟩ : ∃ w1, w1 = w.alloc (.cells (ndC N a n c) 58) ∧ OwnN w1 w.heap.size N a n c ∧ Below w.heap.size w w1 := ⟨_, rfl, Rg.Own.new _ _ _, al1 _ _⟩
 obtain ⟨b, off, rfl, hlt, hcell⟩ := h.at' 0 (by rw [← h.len]; exact hp)
 have hpn : 0 < pn := by rw [← h.len]; exact hp
 have hc0 := cell_on hb1 hcell
 rw [hC, Nat.add_zero] at hc0
 have HK := hid (fun j hj => nd_kid hO1 hl j hj)
 have HS := hid (fun q (h : q < N.ks.length) => kidsL_snoc N.ks q h)
 have HL := hid hl
 have HB := hid hb1
 have HW : Hid (_ = _) := hid hw1
 have i0 : (0 : Int) < (pn : Int) := by omega
 have hle : ∀ q, (kidsL (N.ks.take q)).length ≤ q := fun q => by
  unfold kidsL
  exact Nat.le_trans (List.length_filter_le _ _) (by rw [List.length_take]; omega)
 have HLe := hid hle
 clear h hO1 hb1 hlt hcell hC hp hl hle
 subst hw1
 go_enter Tryz.func29, Tryz.ntmps29
 go_wp2_with fail
 go_loopw [5, 6] (fun k i wr => ∃ j : Nat, j ≤ C ∧ i = .int .i64 j ∧ k = .int .i64 ((kidsL (N.ks.take j)).length : Nat) ∧ w.alloc (.cells (ndC N a n c) 58) = wr) (fun _ i _ => C - (intOf i).toNat)
 case atStart => exact ⟨0, Nat.zero_le _, rfl, rfl, rfl⟩
 case round =>
  obtain ⟨j, hj, rfl, rfl, rfl⟩ := hrel
  have hq := HLe.out j
  by_cases hlt : j < C
  ·have i1 : (j : Int) < (C : Int) := by omega
   have i2 : (j : Int) < 16 := by omega
   have hk := HK.out j (by omega)
   have hsn := HS.out j (by rw [HL.out]; omega)
   by_cases hz : (N.ks.getD j eB).size = 0
   ·rw [if_neg (by omega), List.append_nil] at hsn
    have hE := size_zero hz
    rw [hE] at hk
    have HSn := hid hsn
    clear hz hE hsn
    go_wp2
    go_roundw
    case rel => exact ⟨j + 1, by omega, by go_num, by rw [HSn.out], trivial⟩
    case measure => simp [intOf]; omega
   ·rw [if_pos hz] at hsn
    have hne := Ni.not_empty (s := N.ks.getD j eB) (by omega)
    obtain ⟨K, hK⟩ : ∃ K, N.ks.getD j eB = K := ⟨_, rfl⟩
    rw [hK] at hk hne hsn
    have HSn : Hid ((kidsL (N.ks.take (j + 1))).length = (kidsL (N.ks.take j)).length + 1) := hid (by rw [hsn, List.length_append, List.length_singleton])
    clear hz hK hsn
    go_wp2
    go_roundw
    case rel => exact ⟨j + 1, by omega, by go_num, by rw [HSn.out]; go_num, trivial⟩
    case measure => simp [intOf]; omega
  ·obtain rfl : j = C := by omega
   go_wp2
   go_ret
   exact ⟨rfl, HB.out⟩
theorem isBs_ne {w w' : World} {g : Nat} {a : Option Addr} {n c : Nat} {l : List UInt8} (h : IsBs w a n c l) (hu : Rg.Upd w g w') (hne : ∀ ad, a = some ad → 0 < n → ad.block ≠ g) : IsBs w' a n c l := by
 refine ⟨h.1, h.2.1, h.2.2.1, h.2.2.2.1, fun j hj => ?_⟩
 obtain ⟨b, off, e, hlt, hc⟩ := h.at' j hj
 exact ⟨b, off, e, by rw [hu.size]; exact hlt, by rw [World.cell?_of_block (hu.block b (hne _ e (by omega)))]; exact hc⟩
theorem Op2.updB {w0 : World} {M : Mp} {w w' : World} {bk bt : Nat} {K : List UInt8} {p : Option Addr} {t : T} {bn : Nat} {N : Nd} {a : Option Addr} {n c : Nat} {ka : Option Addr} {kc' : Nat} {ps : List (Option Addr)} {g : Nat}
  (h : Op2 w0 M w bk bt K p t bn N a n c ka kc' ps) (hu : Rg.Upd w g w') (hg : w0.heap.size ≤ g) (hn : ¬ M.ft g) (h1 : bk ≠ g) (h2 : bt ≠ g) (h3 : bn ≠ g) (ha : ∀ ad, a = some ad → 0 < n → ad.block ≠ g) (hk : ∀ ad, ka = some ad → ad.block ≠ g) : Op2 w0 M w' bk bt K p t bn N a n c ka kc' ps :=
 ⟨⟨h.o.l.upd hu hg hn, h.o.u, h.o.x.upd hu h2, h.o.kb.upd hu h1, h.o.kl, h.o.gt, h.o.ne⟩, h.nb.upd hu h3, isBs_ne h.pb hu ha, h.ks.upd hu hk, h.are⟩
theorem RowK.fr {M M' : Mp} {w w' : World} {g cap : Nat} {ps : List (Option Addr)} (h : RowK w g cap ps) (f : Fr M M' w w') (hm : M.at_ g = none) : RowK w' g cap ps := by
 obtain ⟨cur, hO, h1⟩ := h
 exact ⟨cur, own_fr hO f hm, h1⟩
structure Op3 (w0 : World) (M : Mp) (w : World) (bk bt : Nat) (K : List UInt8) (p : Option Addr) (t : T) (bn : Nat) (N : Nd) (a : Option Addr) (n c : Nat) (ka : Option Addr) (kc' : Nat) (ps : List (Option Addr)) (bu : Nat) (pu : Option Addr) (u : T) (g cp : Nat) (ps2 : List (Option Addr)) (ts2 : List T) : Prop where
 o : Op2 w0 M w bk bt K p t bn N a n c ka kc' ps
 ub : Bx M w bu #[.pointer pu] 25
 u : IsT M pu u
 pk : Ptrs w (some ⟨g, 0, none⟩) ps.length cp ps2
 pare : Are M ps2 ts2
namespace Op3
variable {w0 : World} {M M' : Mp} {w w' : World} {bk bt : Nat} {K : List UInt8} {p : Option Addr} {t : T} {bn : Nat} {N : Nd} {a : Option Addr} {n c : Nat} {ka : Option Addr} {kc' : Nat} {ps : List (Option Addr)} {bu : Nat} {pu : Option Addr} {u : T} {g cp : Nat} {ps2 : List (Option Addr)} {ts2 : List T}
theorem below (h : Op3 w0 M w bk bt K p t bn N a n c ka kc' ps bu pu u g cp ps2 ts2) (hb : Below w.heap.size w w') : Op3 w0 M w' bk bt K p t bn N a n c ka kc' ps bu pu u g cp ps2 ts2 := ⟨h.o.below hb, h.ub.below hb, h.u, h.pk.below hb, h.pare⟩
theorem fr (h : Op3 w0 M w bk bt K p t bn N a n c ka kc' ps bu pu u g cp ps2 ts2) (hl : Lw w0 M' w') (f : Fr M M' w w') : Op3 w0 M' w' bk bt K p t bn N a n c ka kc' ps bu pu u g cp ps2 ts2 := ⟨h.o.fr hl f, h.ub.frm h.o.o.l.i f, h.u.mono f.mono, h.pk.frm h.o.o.l.i f, h.pare.mono f.mono⟩
theorem tell (h : Op3 w0 M w bk bt K p t bn N a n c ka kc' ps bu pu u g cp ps2 ts2) {s : ByteArray} {e : Ending} (ht : TellP M w s e w') : e = .returned (.string s) ∧ Op3 w0 M w' bk bt K p t bn N a n c ka kc' ps bu pu u g cp ps2 ts2 := by
 obtain ⟨he, hl, f⟩ := h.o.o.l.tell ht
 exact ⟨he, h.fr hl f⟩
end Op3
def Sees (bt bu kb ko g i : Nat) (p pu q r : Option Addr) (w : World) : Prop := w.cell? ⟨bt, 0, none⟩ = some (.pointer p) ∧ w.cell? ⟨bu, 0, none⟩ = some (.pointer pu) ∧ w.cell? ⟨kb, ko + i, none⟩ = some (.pointer q) ∧ w.cell? ⟨g, i, none⟩ = some (.pointer r)
theorem Op3.sees {w0 : World} {M : Mp} {w : World} {bk bt : Nat} {K : List UInt8} {p : Option Addr} {t : T} {bn : Nat} {N : Nd} {a : Option Addr} {n c : Nat} {kb ko : Nat} {kc' : Nat} {ps : List (Option Addr)} {bu : Nat} {pu : Option Addr} {u : T} {g cp : Nat} {ps2 : List (Option Addr)} {ts2 : List T} {i : Nat}
  (h : Op3 w0 M w bk bt K p t bn N a n c (some ⟨kb, ko, none⟩) kc' ps bu pu u g cp ps2 ts2) (hi : i < ps.length) : Sees bt bu kb ko g i p pu (ps.getD i none) (ps2.getD i none) w := by
 refine ⟨own_cell (j := 0) h.o.o.x.o rfl, own_cell (j := 0) h.ub.o rfl, ?_, ?_⟩
 ·obtain ⟨b, off, e, _, hc⟩ := h.o.ks.2.2.2.2 i hi
  cases e
  exact hc
 ·obtain ⟨b, off, e, _, hc⟩ := h.pk.2.2.2.2 i hi
  cases e
  rw [Nat.zero_add] at hc
  exact hc
end Tm
end
section
open Go.RowKit
namespace Tm
open Tr Ni Pk Ky No Rf Rl
open Sm (Tab)
theorem make_any (M : Mp) (N : Nd) (ts : List T) (hM : Mk N ts) (pa : Option Addr) (pn pc : Nat) (ps : List (Option Addr)) (hA : Are M ps ts) (ka : Option Addr) (kn kc : Nat) (hn : kn ≤ 1000000) (w : World) (hi : Inv M w) (hT : Tab w) (hB : IsBs w pa pn pc N.p) (hP : Ptrs w ka kn kc ps) :
  Calls Tryz.prog 24 #[.agg (ndC N pa pn pc), .slice ka kn kc] w (MakeP M w (makeT N ts) 0) := by
 obtain ⟨w2, hw2, hN, hX, hb2⟩ : ∃ w2, w2 = (w.alloc (.cells (ndC N pa pn pc) 58)).alloc (.cells #[.pointer none] 25) ∧ OwnN w2 w.heap.size N pa pn pc ∧ Rg.Own w2 (w.heap.size + 1) #[.pointer none] 25 ∧ Below w.heap.size w w2 := by
  refine ⟨_, rfl, (Rg.Own.new _ _ _).below (al1 _ _), ?_, al2 _ _ _⟩
  have := Rg.Own.new (w.alloc (.cells (ndC N pa pn pc) 58)) #[.pointer none] 25
  simpa using this
 have hkn : (kidsL N.ks).length = kn := by rw [hM.refs, List.length_map, ← hA.1]; exact hP.2.2.1
 have hpn : pn ≤ 1000000 := by have := hB.len; have := hM.pl; omega
 have HN := hid hN
 have HX := hid hX
 have HB := hid hb2
 have HBs := hid (hB.below hb2)
 have HP := hid (hP.below hb2)
 have HI := hid (hi.below hb2)
 have HIz := HI
 have HTb := hid (hT.below hb2 hT.pos)
 have HL := hid hM.ks
 have HW : Hid (_ = _) := hid hw2
 have HKd := hid (kids_new N pa pn pc hM.ks w2)
 have HCk := hid (fun wz hz => check_may hM.ks hM.may hM.v hM.few pa pn pc wz hz)
 have HEnd : Hid (∀ w5 w8 e, Fr M M w2 w5 → Tab w5 → GotT M w5 (makeT N ts) e w8 → ∃ p, e = .returned (tv p) ∧ ∀ w9, Rg.Upd w8 (w.heap.size + 1) w9 → MakeP M w (makeT N ts) 0 (.returned (.tuple #[tv p, .int .i64 0])) w9) := hid (fun w5 w8 e f t g => make_end hi hT.pos hb2 hX (Nat.le_succ _) f t g)
 have HPl : Hid (∀ w5, Ptrs w5 ka kn kc ps → ∀ wz, Below w5.heap.size w5 wz → Calls Tryz.prog 58 #[.agg (ndC N pa pn pc), .slice ka kn kc] wz fun e w' => ∃ va vn vc, e = .returned (.slice va vn vc) ∧ Ks0 M w5.heap.size w' va vn vc (partsT (makeT N ts)) ∧ Below wz.heap.size wz w') := hid (fun w5 hp wz hb => by
  refine (placed_any M N hM.ks pa pn pc ps ts hA hM.kd' ka kn kc wz (hp.below hb) hn).mono ?_
  rintro e w' ⟨va, vn, vc, he, hk, hb'⟩
  exact ⟨va, vn, vc, he, hk.lo hb.size, hb'⟩)
 have HBu := hid (built_make (makeT N ts) N.kd N.v hM.k hM.mv hM.ms)
 have HPt := hid hM.mp
 have HNe := hid hM.mn
 have HAt : Hid (M.at_ w.heap.size = none ∧ M.at_ (w.heap.size + 1) = none) := hid ⟨hi.out (Nat.le_refl _), hi.out (by omega)⟩
 have HM := hid hM
 have HA := hid hA
 obtain ⟨TT, hTT⟩ : ∃ TT, makeT N ts = TT := ⟨_, rfl⟩
 rw [hTT] at HEnd HPl HBu HPt HNe ⊢
 obtain ⟨gN, hgN⟩ : ∃ g, w.heap.size = g := ⟨_, rfl⟩
 obtain ⟨gT, hgT⟩ : ∃ g, w.heap.size + 1 = g := ⟨_, rfl⟩
 have hgg : gN ≠ gT := by omega
 have HGT : Hid (gT = w.heap.size + 1) := hid hgT.symm
 rw [hgT] at HX HEnd HAt
 rw [hgN] at HN HAt
 have HGN : Hid (_ = _) := hid hgN
 have HKn := hid hkn
 clear hN hX hb2 hB hP hi hT hM hA hw2 hTT hkn hgT hgN
 have hgo : Calls Tryz.prog 24 #[.agg (ndC N pa pn pc), .slice ka kn kc] w (MakeP M w TT 0) := by
  go_enter Tryz.func24, Tryz.ntmps24
  go_wp2_with (first
   | (refine Rg.run rfl _ _ (run_alloc_tree _ _ _ gT (by rw [HGT.out]; simp) rfl) ?_; rw [← HW.out, HGN.out])
   | (refine Rg.run rfl _ _ (op_load_nd HN.out HL.out ⟨_, rfl, rfl⟩) ?_))
  refine HKd.out.mono ?_
  rintro e w3 ⟨a3, n3, c3, rfl, hS3, hn3, hb3⟩
  obtain rfl : kn = n3 := by rw [← hS3.2.2.1]; exact HKn.out.symm
  have HN3 := hid (HN.out.below hb3)
  have HX3 := hid (HX.out.below hb3)
  have HB3 := hid (hb3)
  have HBs3 := hid (HBs.out.below hb3)
  have HS3 := hid hS3
  have HN3' : Hid (∀ b off, a3 = some ⟨b, off, none⟩ → M.at_ b = none) := hid (fun b off e => HI.out.out (hn3 b off e))
  clear hS3 hn3 hb3 HKd HX HBs HW
  go_wp2_with (first
   | (refine Rg.run rfl _ _ (op_load_nd HN3.out HL.out ⟨_, rfl, rfl⟩) ?_))
  refine (HCk.out w3 HBs3.out).mono ?_
  rintro e w4 ⟨rfl, hb4⟩
  have HN4 := hid (HN3.out.below hb4)
  have HX4 := hid (HX3.out.below hb4)
  have HBs4 := hid (HBs3.out.below hb4)
  have HB4 := hid (bst HB3.out hb4)
  have HS4 := hid (HS3.out.below hb4)
  have HP4 := hid (HP.out.below HB4.out)
  have HI4 := hid (HI.out.below HB4.out)
  have HT4 := hid (HTb.out.below HB4.out HTb.out.pos)
  have c0 := (nd_cells HN4.out).1
  clear hb4 HN3 HX3 HB3 HBs3 HS3 HCk HP HI HTb
  go_upto_region 4 with fail
  go_cut [36] (fun v wx => v = .bool false ∧ Hid (Below w4.heap.size w4 wx))
  case first =>
   rcases HM.out.kd with ⟨h1, h2⟩ | ⟨h1, s, hts, hs1, hs2⟩ | ⟨h1, h2⟩
   ·rw [h1] at c0
    clear h1 h2
    go_wp2_with fail
    go_meet
    exact ⟨rfl, hid (Below.refl _ _)⟩
   ·rw [h1] at c0
    have hps : ps.length = 1 := by rw [HA.out.1, hts]; rfl
    have hk1 : kn = 1 := by rw [← HP4.out.2.2.1]; exact hps
    obtain ⟨b, off, hka, hlt, hc⟩ := HP4.out.2.2.2.2 0 (by omega)
    have ht := HA.out.2 0 (by omega)
    rw [hts] at ht
    have ht' : IsT M (ps.getD 0 none) s := ht
    have hKd := fun wz (hb : Below w4.heap.size w4 wz) => Tm.kind_any M (ps.getD 0 none) s wz (HI4.out.below hb) ht'
    obtain ⟨p, hp⟩ : ∃ p, ps.getD 0 none = p := ⟨_, rfl⟩
    rw [hp] at hc hKd
    have HKd := hid hKd
    obtain ⟨K, hK⟩ : ∃ K, kindT s = K := ⟨_, rfl⟩
    rw [hK] at HKd hs1 hs2
    have k1 : (K == 1) = false := by rw [beq_eq_false_iff_ne]; exact hs1
    have k2 : (K == 2) = false := by rw [beq_eq_false_iff_ne]; exact hs2
    have k1' : decide (K = 1) = false := decide_eq_false hs1
    have k2' : decide (K = 2) = false := decide_eq_false hs2
    rw [Nat.add_zero] at hc
    have HC := hid hc
    clear h1 hps ht ht' hKd hp hK hts
    subst hk1
    subst hka
    go_wp2_with (first
     | (refine Rg.run rfl _ _ (op_load_tree HC.out ⟨_, rfl, rfl⟩) ?_)
     | (refine Rg.runW ?hw _ _ (op_load_tree HC.out ⟨_, rfl, rfl⟩) ?_; case hw => rfl))
    refine (HKd.out w4 (Below.refl _ _)).mono ?_
    rintro e w5 ⟨rfl, hb5⟩
    have HC5 := hid ((Below.cell (p := ⟨b, off, none⟩) hb5 hlt).trans HC.out)
    have HB5 := hid hb5
    clear hb5
    go_wp2_with (first
     | (refine Rg.run rfl _ _ (op_load_tree HC5.out ⟨_, rfl, rfl⟩) ?_)
     | (refine Rg.runW ?hw _ _ (op_load_tree HC5.out ⟨_, rfl, rfl⟩) ?_; case hw => rfl))
    refine (HKd.out w5 HB5.out).mono ?_
    rintro e w6 ⟨rfl, hb6⟩
    have HB6 := hid (bst HB5.out hb6)
    clear hb6
    go_wp2_with fail
    go_meet
    exact ⟨rfl, HB6⟩
   ·rw [h1] at c0
    clear h1 h2
    go_wp2_with fail
    go_meet
    exact ⟨rfl, hid (Below.refl _ _)⟩
  case rest =>
  obtain ⟨rfl, HB5⟩ := hcut
  obtain ⟨wd, hwd⟩ : ∃ wd, wd = wc := ⟨_, rfl⟩
  subst hwd
  have HNd := hid (HN4.out.below HB5.out)
  have HXd := hid (HX4.out.below HB5.out)
  have HBsd := hid (HBs4.out.below HB5.out)
  have HSd := hid (HS4.out.below HB5.out)
  have HPd := hid (HP4.out.below HB5.out)
  have HId := hid (HI4.out.below HB5.out)
  have HTd := hid (HT4.out.below HB5.out HT4.out.pos)
  have HF2d : Hid (Fr M M w2 wd) := hid (Fr.below M (bst HB4.out HB5.out))
  have HEq := hid (equal_any M ps ts ka kn kc a3 kn c3 wd HPd.out HA.out HM.out.fine (by rw [← HM.out.refs]; exact HSd.out) HN3'.out hn HId.out HTd.out)
  clear HN4 HX4 HBs4 HS4 HP4 HI4 HT4 HB5 HB4 HSd c0
  go_wp2_with fail
  refine HEq.out.mono ?_
  rintro e w5 ⟨rfl, hf5, hi5, hT5⟩
  have HN5 : Hid (OwnN w5 gN N pa pn pc) := hid (own_fr HNd.out hf5 HAt.out.1)
  have HX5 := hid (own_fr HXd.out hf5 HAt.out.2)
  have HBs5 := hid (isBs_fr HId.out HBsd.out hf5)
  have HP5 := hid (HPd.out.frm HId.out hf5)
  have HI5 := hid hi5
  replace HEnd := hid (fun w8 e g => HEnd.out w5 w8 e (HF2d.out.trans HIz.out hf5) hT5 g)
  replace HPl := hid (HPl.out w5 HP5.out)
  have HCl : Hid (∀ wz, Below w5.heap.size w5 wz → Calls Tryz.prog 57 #[.slice pa pn pc] wz (GotBsF wz N.p)) := hid (fun wz hb => cloneB_any pa pn pc N.p hpn wz (HBs5.out.below hb))
  clear hf5 hi5 hT5 HEq HNd HXd HBsd HPd HId HTd HF2d
  go_wp2_with fail
  have HBel : Hid (Below w5.heap.size w5 w5.drew) := hid (Below.refl _ _).drew
  refine wp_region_noPanic ?_
  refine wp_region_held_drew (S := fun w' => OwnN w' gN N pa pn pc) (by kernel_rfl) (HN5.out.drew) (fun hld => ?_)
  refine Rg.tk (i := 0) rfl ?_
  try simp only [Act.put, Rg.s]
  refine Rg.tk (i := 1) rfl ?_ (hy := by intro wz hSw; (have q0 := (nd_cells hSw).1; go_simp <;> with_reducible rfl))
  try simp only [Act.put, Rg.s]
  refine Rg.tk (i := 2) rfl ?_
  try simp only [Act.put, Rg.s]
  refine Rg.tk (i := 3) rfl ?_ (hy := by intro wz hSw; (have q0 := (nd_cells hSw).2.1; go_simp <;> with_reducible rfl))
  try simp only [Act.put, Rg.s]
  refine Rg.tk (i := 5) rfl ?_
  try simp only [Act.put, Rg.s]
  refine Rg.tk (i := 6) rfl ?_ (hy := by intro wz hSw; (have q0 := (nd_cells hSw).2.2; go_simp <;> with_reducible rfl))
  try simp only [Act.put, Rg.s]
  refine Rg.tk (i := 7) rfl ?_ (hy := by intro wz hSw; (refine op_load_nd hSw HL.out ?_; exact ⟨_, rfl, rfl⟩))
  try simp only [Act.put, Rg.s]
  refine Rg.tk (i := 8) rfl ?_
  try simp only [Act.put, Rg.s]
  refine Rg.rd (i := 4) rfl fun K hK => ?_
  go_simp
  go_at_call 57
  (with_reducible refine (HCl.out _ HBel.out).mono ?_)
  rintro e wv0 ⟨a7, n7, c7, rfl, hB7, hbx⟩
  have HB7 := hid (hB7.weak HBel.out.size)
  replace HBel := hid (bst HBel.out hbx)
  clear hB7
  refine hK.out _ _ ?_ (fun hld => ?_)
  ·exact hld.below hbx
  clear hK K hbx
  try simp only [Act.put, Rg.s]
  refine Rg.rd (i := 9) rfl fun K hK => ?_
  go_simp
  go_at_call 58
  (with_reducible refine (HPl.out _ HBel.out).mono ?_)
  rintro e wv1 ⟨va, vn, vc, rfl, hks, hbx⟩
  have HKs := hid hks
  replace HB7 := hid (HB7.out.below hbx)
  replace HBel := hid (bst HBel.out hbx)
  clear hks
  refine hK.out _ _ ?_ (fun hld => ?_)
  ·exact hld.below hbx
  clear hK K hbx
  try simp only [Act.put, Rg.s]
  refine Rg.tk (i := 10) rfl ?_ (hy := by intro wz hSw; (refine op_build (HBu.out a7 n7 c7 va vn vc) ?_; exact ⟨_, rfl, rfl⟩))
  try simp only [Act.put, Rg.s]
  refine Rg.rd (i := 11) rfl fun K hK => ?_
  refine Rg.meetAlloc (by rfl) (op_box_part (t := TT) ⟨_, rfl, rfl⟩) ?_
  rintro wv2 b11 he11 h11 hbx
  have ge11 : w5.heap.size ≤ b11 := by rw [he11]; exact HBel.out.size
  replace HB7 := hid (HB7.out.below hbx)
  replace HKs := hid (HKs.out.below hbx)
  replace HBel := hid (bst HBel.out hbx)
  obtain ⟨p11, he12, hE⟩ := HEnd.out _ _ (got_part HI5.out HBel.out ge11 HNe.out h11.2 (by rw [HPt.out]; exact HB7.out.1) (fun ad e _ => Or.inr (HB7.out.2 ad e)) HKs.out)
  obtain rfl : p11 = some ⟨b11, 0, none⟩ := by cases he12; rfl
  have HE := hid hE
  clear hE he12 he11
  refine hK.out _ _ ?_ (fun hld => ?_)
  ·exact hld.below hbx
  clear hK K hbx
  try simp only [Act.put, Rg.s]
  refine Rg.tk (i := 12) rfl ?_
  try simp only [Act.put, Rg.s]
  refine Rg.rd (i := 13) rfl fun K hK => ?_
  refine meet_store_tree (by rfl) (HX5.out.below HBel.out) (off := 0) (by simp) (some ⟨b11, 0, none⟩) ⟨_, _, rfl, rfl, rfl⟩ ?_
  rintro wv3 hn hu
  have HX9 : Hid (Rg.Own wv3 gT #[.pointer (some ⟨b11, 0, none⟩)] 25) := hid hn
  have HP9 := hid (HE.out _ hu)
  refine hK.out _ _ ?_ (fun hld => ?_)
  ·exact hld.upd hu hgg
  clear hK K hn hu
  try simp only [Act.put, Rg.s]
  refine Rg.tk (i := 14) rfl ?_
  try simp only [Act.put, Rg.s]
  refine wpAnyH_done (by kernel_rfl) ?_ _
  refine NoPanic.normal ?_
  clear hld
  go_wp2
  exact bodyPost_ret (res_tree1 (q := 4) (u := 5) rfl _ rfl HX9.out) rfl HP9.out
 exact hgo
end Tm
end
end Go.Proofs.YtgolhnfkmmajpaaGreatDoor
