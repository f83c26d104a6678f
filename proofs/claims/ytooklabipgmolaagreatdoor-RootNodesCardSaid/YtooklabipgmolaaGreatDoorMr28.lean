/-
 All bodies on the way are read: root.shelf's read.
-/
import Derived.Test.YtooklabipgmolaaGreatDoorMr27
import Derived.Deep.LoopGhost
import Derived.Test.YtooklabipgmolaaGreatDoorMr17
open Go.Lib (hid)
set_option linter.unusedSimpArgs false
set_option linter.unusedVariables false
set_option maxHeartbeats 40000000
set_option maxRecDepth 100000
namespace Go.Proofs.YtooklabipgmolaaGreatDoor
section
open Go.RowKit
namespace Tm
open Tr Ni Pk Ky No Rf Rl
open Sm (Tab)
def Chain (fe : Fs) : Nat → Fs → List ByteArray → Prop
 | 0, f, wl => wl = [] ∧ f = fe
 | k + 1, f, wl => ∃ wl0 t, wl = wl0 ++ [ref t] ∧ f (ref t) = some (encT t, .nil, 0) ∧ Whl t ∧ t ≠ .nil ∧ (ref t).size ≤ 1000 ∧ Read f t ∧ Chain fe k (setF f (ref t) (encT t, t, maxl f (kidsT t) + 1)) wl0
theorem Read.gone {f : Fs} {t : T} (h : Read f t) : ∀ u ∈ kidsT t, gone f (ref u) = true := fun u hu => by
 obtain ⟨lv, e, h1, _⟩ := h u hu
 unfold Tm.gone
 rw [e]
 exact decide_eq_true h1
theorem owns_cut {w : World} {B g n cap : Nat} {e : TypeId} {xs : List Value} {x : Value} (h : w.ownsRow B e 1 (.slice (some ⟨g, 0, none⟩) (n + 1) cap) (n + 1) (xs ++ [x])) : w.ownsRow B e 1 (.slice (some ⟨g, 0, none⟩) n cap) n xs := by
 obtain ⟨h1, h2⟩ := h
 have hl : xs.length = n := by simpa using h1
 rcases h2 with ⟨h2, _⟩ | ⟨g', cap', cur, e, hg, hh, hnc, hcm, hsz, htk⟩
 ·cases h2
 ·injection e with e1 e2 e3
  injection e1 with e1
  injection e1 with e1
  subst e1 e3
  refine ⟨by omega, .inr ⟨g, cap, cur, rfl, hg, hh, by omega, hcm, hsz, ?_⟩⟩
  have h3 := congrArg (List.take n) htk
  rw [List.take_take, List.take_left' hl] at h3
  rw [Nat.mul_one, ← h3]
  congr 1
  omega
theorem strs_last {w : World} {B : Nat} {v : Value} {wl0 : List ByteArray} {s : ByteArray} (h : w.ownsRow B 9 1 v (wl0 ++ [s]).length ((wl0 ++ [s]).map Value.string)) : ∃ g cap, v = .slice (some ⟨g, 0, none⟩) (wl0.length + 1) cap ∧ w.cell? ⟨g, wl0.length, none⟩ = some (.string s) ∧ wl0.length + 1 ≤ cap ∧ cap ≤ maxLen ∧ w.ownsRow B 9 1 (.slice (some ⟨g, 0, none⟩) wl0.length cap) wl0.length (wl0.map Value.string) := by
 have h' := h
 rcases h.2 with ⟨_, h2⟩ | ⟨g, cap, cur, rfl, hg, hh, hnc, hcm, hsz, htk⟩
 ·rw [List.length_append] at h2
  simp at h2
 ·have hl : (wl0 ++ [s]).length = wl0.length + 1 := by simp
  rw [hl] at hnc htk h' ⊢
  refine ⟨g, cap, rfl, ?_, hnc, hcm, owns_cut (x := .string s) (by simpa using h')⟩
  rw [cell_of_row w g _ _ _ _ hh, ← Array.getElem?_toList]
  have h3 := congrArg (fun l : List Value => l[wl0.length]?) htk
  simp only [List.getElem?_take_of_lt (show wl0.length < (wl0.length + 1) * 1 by omega)] at h3
  rw [h3]
  simp
def Kp (M0 : Mp) (w0 : World) (b : Nat) (M : Mp) (w : World) : Prop := ∀ k, k < w0.heap.size → M0.at_ k = none → k ≠ b → w.heap[k]? = w0.heap[k]? ∧ M.at_ k = none ∧ (¬ M0.ft k → ¬ HasByte w0 k → ¬ M.ft k)
theorem Kp.refl (M : Mp) (w : World) (b : Nat) : Kp M w b M w := fun _ _ hm _ => ⟨rfl, hm, fun h _ => h⟩
theorem Kp.off {M0 M : Mp} {w0 w w' : World} {b : Nat} (h : Kp M0 w0 b M w) (hk : ∀ k, k < w0.heap.size → k ≠ b → w'.heap[k]? = w.heap[k]?) : Kp M0 w0 b M w' := fun k hl hm hb => ⟨(hk k hl hb).trans (h k hl hm hb).1, (h k hl hm hb).2⟩
theorem Kp.grew {M0 M M' : Mp} {w0 w w' : World} {b n : Nat} {f : Fs} {D : DataW Value} (h : Kp M0 w0 b M w) (hs : w0.heap.size ≤ w.heap.size) (g : GrewP M w b f n M' w' D) : Kp M0 w0 b M' w' := fun k hl hm hb => by
 obtain ⟨h1, h2, h3⟩ := h k hl hm hb
 obtain ⟨g1, g2⟩ := g.block k (by omega) h2 hb
 refine ⟨g1.trans h1, g2, fun n1 n2 => g.foot k (by omega) (h3 n1 n2) fun ⟨j, x, hc⟩ => n2 ⟨j, x, ?_⟩⟩
 rw [← hc]
 exact (World.cell?_of_block h1).symm
structure Rd (M0 : Mp) (w0 : World) (Ms : Mp) (ws : World) (B b : Nat) (M : Mp) (w : World) (f : Fs) (n : Nat) (D : DataW Value) (wl : List ByteArray) (v : Value) : Prop where
 fr : Fr Ms M ws w
 i : Inv M w
 t : Tab w
 s : ShS M w b f n D
 row : w.ownsRow (B + 1) 9 1 v wl.length (wl.map Value.string)
 ra : ∀ k, v.ownBlock = some k → M.at_ k = none ∧ k ≠ b
 bx : Rg.Own w B (bodyA eB none 0) 76
 bn : ¬ M.ft B
 ba : M.at_ B = none
 kp : Kp M0 w0 b M w
 sz : w0.heap.size ≤ B
theorem Rd.below {M0 : Mp} {w0 : World} {Ms : Mp} {ws : World} {B b : Nat} {M : Mp} {w w' : World} {f : Fs} {n : Nat} {D : DataW Value} {wl : List ByteArray} {v : Value} (h : Rd M0 w0 Ms ws B b M w f n D wl v) (hws : Inv Ms ws) (hb : Below w.heap.size w w') : Rd M0 w0 Ms ws B b M w' f n D wl v :=
 ⟨h.fr.trans hws (Fr.below M hb), h.i.below hb, h.t.below hb h.t.pos, h.s.below hb h.s.lt, row_keep h.row hb, h.ra, h.bx.below hb, h.bn, h.ba, h.kp.off fun k hl _ => hb.block k (by have := h.bx.1; have := h.sz; omega), h.sz⟩
theorem Rd.grew {M0 : Mp} {w0 : World} {Ms : Mp} {ws : World} {B b : Nat} {M M' : Mp} {w w' : World} {f f' : Fs} {n n' : Nat} {D D' : DataW Value} {wl : List ByteArray} {v : Value} (h : Rd M0 w0 Ms ws B b M w f n D wl v) (hws : Inv Ms ws) (hle : ws.heap.size ≤ b) (hB : B ≠ b) (g : GrewP M w b f' n' M' w' D') : Rd M0 w0 Ms ws B b M' w' f' n' D' wl v := by
 have hbl := g.block B h.bx.1 h.ba hB
 refine ⟨g.fr Ms ws hws h.fr hle, g.i, g.t, g.s, owns_same h.row fun k e => (g.block k (h.row.lt k e).2 (h.ra k e).1 (h.ra k e).2).1, fun k e => ⟨(g.block k (h.row.lt k e).2 (h.ra k e).1 (h.ra k e).2).2, (h.ra k e).2⟩, ⟨Nat.lt_of_lt_of_le h.bx.1 g.size, hbl.1.trans h.bx.2⟩, g.foot B h.bx.1 h.bn (no_byte h.bx (body_no _ _ _)), hbl.2, h.kp.grew (by have := h.bx.1; have := h.sz; omega) g, h.sz⟩
theorem Rd.push {M0 : Mp} {w0 : World} {Ms : Mp} {ws : World} {B b : Nat} {M : Mp} {w w' : World} {f : Fs} {n : Nat} {D : DataW Value} {wl ys : List ByteArray} {v v' : Value} (h : Rd M0 w0 Ms ws B b M w f n D wl v) (hws : ws.heap.size ≤ B) (hn : ∀ k, v.ownBlock = some k → ¬ M.ft k) (hr : w'.ownsRow (B + 1) 9 1 v' (wl ++ ys).length ((wl ++ ys).map Value.string)) (hg : w.grownBy w' v.ownBlock) (hl : v'.ownBlock = v.ownBlock ∨ v'.ownBlock = some w.heap.size) : Rd M0 w0 Ms ws B b M w' f n D (wl ++ ys) v' := by
 have hbn : ∀ k, v.ownBlock = some k → B < k ∧ k < w.heap.size := fun k e => by have := h.row.lt k e; omega
 refine ⟨?_, h.i.keep hg.size fun k hk => hg.block k (h.i.lt_ k hk) fun e => hn k e.symm hk, fun i hi => ?_, h.s.same (hg.block b h.s.lt fun e => (h.ra b e.symm).2 rfl) (fun _ _ h => h) h.s.nf, hr, fun k e => ?_, ⟨Nat.lt_of_lt_of_le h.bx.1 hg.size, (hg.block B h.bx.1 fun e => by have := hbn B e.symm; omega).trans h.bx.2⟩, h.bn, h.ba, h.kp.off fun k hl _ => hg.block k (by have := h.bx.1; have := h.sz; omega) (fun e => by have := hbn k e.symm; have := h.sz; omega), h.sz⟩
 ·exact ⟨hg.os.trans h.fr.os, hg.tape.trans h.fr.tape, hg.output.trans h.fr.output, Nat.le_trans h.fr.size hg.size, fun k hk hm => (hg.block k (Nat.lt_of_lt_of_le hk h.fr.size) fun e => by have := hbn k e.symm; omega).trans (h.fr.block k hk hm), h.fr.mono, h.fr.fresh, h.fr.grow, h.fr.foot⟩
 ·rw [World.cell?_of_block (hg.block 0 h.t.pos fun e => by have := hbn 0 e.symm; omega)]
  exact h.t i hi
 ·rcases hl with e2 | e2
  ·exact h.ra k (by rw [← e2]; exact e)
  ·rw [e2] at e
   obtain rfl := Option.some.inj e
   exact ⟨h.i.out (Nat.le_refl _), fun e => by have := h.s.lt; omega⟩
def ReadP (M0 : Mp) (w0 : World) (b : Nat) (Ms : Mp) (ws : World) (t : T) (lv : Nat) (e : Ending) (w' : World) : Prop := ∃ p M', e = .returned (.tuple #[.agg (bodyA (encT t) p lv), .int .i64 0]) ∧ IsT M' p t ∧ Fr Ms M' ws w' ∧ Inv M' w' ∧ Tab w' ∧ Kp M0 w0 b M' w'
theorem read_any {Ms : Mp} {ws : World} (hws : Inv Ms ws) {M : Mp} {w : World} {b n : Nat} {f : Fs} {D : DataW Value} (hfr : Fr Ms M ws w) (hle : ws.heap.size ≤ b) (hS : ShS M w b f n D) (hi : Inv M w) (hT : Tab w) {t : T} (hx : Whl t) (hn : t ≠ .nil) (hsz : (ref t).size ≤ 1000) (hf : f (ref t) = some (encT t, .nil, 0))
  (hk0 : kidsT t ≠ []) (hku : ∀ u ∈ kidsT t, gone f (ref u) = false) {k0 : Nat} {fe : Fs} (hch : Chain fe k0 f (ref t :: (kidsT t).map ref)) (hnn : n + k0 ≤ 900) {lv : Nat} (hfe : fe (ref t) = some (encT t, t, lv)) :
  Calls Tryz.prog 48 #[.map (some b), .string (ref t)] w (ReadP M w b Ms ws t lv) := by
 have hlt := hS.lt
 have hs0 := hfr.size
 obtain ⟨w1, hw1⟩ : ∃ w1, w1 = (w.alloc (.cells (bodyA eB none 0) 76)).alloc (.cells #[.string (ref t)] 9) := ⟨_, rfl⟩
 have hb1 : Below w.heap.size w w1 := by rw [hw1]; exact al2 _ _ _
 have hO1 : Rg.Own w1 w.heap.size (bodyA eB none 0) 76 := by rw [hw1]; exact (Rg.Own.new _ _ _).below (al1 _ _)
 have hR1 : w1.ownsRow (w.heap.size + 1) 9 1 (.slice (some ⟨w.heap.size + 1, 0, none⟩) 1 1) [ref t].length ([ref t].map Value.string) := by
  have := World.ownsRow_lit (e := 9) (size := 1) (base := w.heap.size + 1) (w.alloc (.cells (bodyA eB none 0) 76)) #[.string (ref t)] 1 (by simp) (by unfold maxLen; decide) rfl
  rw [hw1]
  simpa using this
 have hRd : Rd M w Ms ws w.heap.size b M w1 f n D [ref t] (.slice (some ⟨w.heap.size + 1, 0, none⟩) 1 1) := ⟨hfr.trans hws (Fr.below M hb1), hi.below hb1, hT.below hb1 hT.pos, hS.below hb1 hlt, hR1, fun k e => by
  have e' : w.heap.size + 1 = k := Option.some.inj e
  exact ⟨hi.out (by omega), by omega⟩, hO1, hi.free (Nat.le_refl _), hi.out (Nat.le_refl _), (Kp.refl M w b).off fun k hl _ => hb1.block k hl, Nat.le_refl _⟩
 have HRd := hid hRd
 have HNf : Hid (∀ k, (Value.slice (some ⟨w.heap.size + 1, 0, none⟩) 1 1).ownBlock = some k → ¬ M.ft k) := hid (fun k e => by
  have e' : w.heap.size + 1 = k := Option.some.inj e
  exact hi.free (by omega))
 have HWs := hid hws
 have HPos := hid hT.pos
 have HLe : Hid (ws.heap.size ≤ b ∧ w.heap.size ≠ b ∧ ws.heap.size ≤ w.heap.size) := hid ⟨hle, by omega, hs0⟩
 have HW : Hid (_ = _) := hid hw1
 have HX := hid hx
 have HN := hid hn
 have HSz := hid hsz
 have HFt := hid hf
 have HKu := hid hku
 have HK0 := hid hk0
 have HCh := hid hch
 have HFe := hid hfe
 have hNw : w1.heap.size = w.heap.size + 2 := by rw [hw1]; simp
 clear hw1 hb1 hO1 hR1 hRd hlt hs0 hfr hle hS hi hT hx hn hsz hf hk0 hku hch hfe hws hNw
 obtain ⟨s0, hs0⟩ : ∃ s0, ref t = s0 := ⟨_, rfl⟩
 have HS0 := hid hs0
 rw [hs0] at HRd HSz HFt HCh HFe HW ⊢
 clear hs0
 go_enter Tryz.func48, Tryz.ntmps48
 go_wp2_with (first
  | (refine Rg.run rfl _ _ (run_alloc_body _ _ _ w.heap.size rfl rfl) ?_)
  | (rw [← HW.out]))
 go_loopg [6] (k0 + 1) (fun k v0 wr => ∃ (v : Value) (M' : Mp) (f' : Fs) (n' : Nat) (D' : DataW Value) (wl : List ByteArray), v = v0 ∧ n' + k ≤ 901 ∧ Hid (Rd M w Ms ws w.heap.size b M' wr f' n' D' wl v) ∧ Hid ((k = k0 + 1 ∧ f' = f ∧ wl = [s0] ∧ ∀ q, v.ownBlock = some q → ¬ M'.ft q) ∨ (k ≤ k0 ∧ wl.length ≤ 100 ∧ Chain fe k f' wl)))
 case atStart => exact ⟨_, M, f, n, D, [s0], rfl, by omega, HRd, hid (.inl ⟨rfl, rfl, rfl, HNf.out⟩)⟩
 case round =>
  obtain ⟨v, M', f', n', D', wl, hv, hnk, HR, HC⟩ := hrel
  subst hv
  clear HRd HNf HW
  rcases HC.out with ⟨hgk, hff, hwl, hnf⟩ | ⟨hgk, hwll, hc⟩
  ·subst hff
   have HNf := hid hnf
   have HRow := HR
   have hR2 := HR.out
   rw [hwl] at hR2
   obtain ⟨g, cap, rfl, hcell, hcap, hcm, _⟩ := strs_last (wl0 := []) (s := s0) hR2.row
   obtain ⟨_, p0, hp0, hat⟩ := hR2.s.some_ s0 _ _ _ (by have := HSz.out; unfold maxLen; omega) HFt.out
   obtain rfl : p0 = none := hp0.nil_iff.2 rfl
   have HA := hid hat
   have HOw := hid hR2.s.own
   have HR2 := hid hR2
   have hs' : s0.size ≤ maxLen := by have := HSz.out; unfold maxLen; omega
   have HUn := hid (unread_any hR2.s HX.out HN.out (.inl HKu.out))
   have HFl : Hid ((((kidsT t).map ref).filter fun s => !gone f' s) = (kidsT t).map ref) := hid (List.filter_eq_self.2 fun s hs => by
    obtain ⟨u, hu, rfl⟩ := List.mem_map.1 hs
    rw [HKu.out u hu]; rfl)
   rw [HFl.out] at HUn
   obtain ⟨xs, hxs⟩ : ∃ xs, (kidsT t).map ref = xs := ⟨_, rfl⟩
   have hx0 : xs.length ≠ 0 := by
    rw [← hxs, List.length_map]
    exact fun e => HK0.out (List.length_eq_zero_iff.1 e)
   have hx16 : xs.length ≤ 16 := by rw [← hxs, List.length_map]; exact kids_len t
   rw [hxs] at HUn HCh
   obtain ⟨E, hE⟩ : ∃ E, encT t = E := ⟨_, rfl⟩
   rw [hE] at HUn HA
   simp only [List.length_nil] at hcell hcap hR2
   have hi0 : (0 : Int) < (xs.length : Int) := by omega
   unfold maxLen at hcm
   clear hwl hnf hR2 hp0 hat hxs hE HC HRow HR
   go_wp2_with (first
    | (refine Rg.run rfl _ _ (op_look1 HOw.out hs' HA.out ⟨_, _, rfl, rfl, rfl⟩) ?_)
    | (refine Rg.run rfl _ _ (op_field_body ⟨_, rfl, rfl⟩) ?_))
   refine HUn.out.mono ?_
   rintro e w6 ⟨v6, rfl, h6, hb6⟩
   obtain ⟨a6, c6, rfl⟩ := owns_slice h6
   have HV6 := hid h6
   have HR6 := hid (HR2.out.below HWs.out hb6)
   have hsz6 : w.heap.size + 1 ≤ w6.heap.size := HR6.out.bx.1
   have hxl : [s0].length + xs.length ≤ 1000000 := by simp only [List.length_cons, List.length_nil]; omega
   have HRr := hid HR6.out.row
   clear h6 hb6 HUn HA HOw HR2
   go_wp2_with (first
    | (at_builtin; refine wpl_append_texts (xs := [s0]) (ys := xs) (B := w.heap.size + 1) rfl _ _ rfl rfl rfl HRr.out HV6.out hxl hsz6 ?_))
   intro v' w7 h7 hg7 hl7
   have HR7 := hid (HR6.out.push HLe.out.2.2 HNf.out h7 hg7 hl7)
   clear h7 hg7 hl7
   go_wp2
   go_roundg k0
   case measure => omega
   case rel => exact ⟨v', M', f', n', D', _, rfl, by omega, HR7, hid (.inr ⟨Nat.le_refl _, by simp only [List.length_append, List.length_cons, List.length_nil]; omega, HCh.out⟩)⟩
  ·cases gk with
   | zero =>
    obtain ⟨hwl, hff⟩ := hc
    subst hwl hff
    obtain ⟨a, cc, rfl⟩ := owns_slice HR.out.row
    have hs' : s0.size ≤ maxLen := by have := HSz.out; unfold maxLen; omega
    obtain ⟨_, p, hp, hat⟩ := HR.out.s.some_ s0 _ _ _ hs' HFe.out
    have HA := hid hat
    have HOw := hid HR.out.s.own
    have HP := hid hp
    have HBx := hid HR.out.bx
    have HFin : Hid (∀ w9, Rg.Upd wr w.heap.size w9 → Fr Ms M' ws w9 ∧ Inv M' w9 ∧ Tab w9 ∧ Kp M w b M' w9) := hid (fun w9 hu => ⟨HR.out.fr.upd hu HLe.out.2.2, HR.out.i.upd hu HR.out.bn, Tab.upd HR.out.t hu HPos.out, HR.out.kp.off fun k hl _ => hu.block k (by omega)⟩)
    obtain ⟨E, hE⟩ : ∃ E, encT t = E := ⟨_, rfl⟩
    have HE := hid hE
    rw [hE] at HA
    clear hat hp hE HC HR
    go_wp2_with (first
     | (refine Rg.run rfl _ _ (op_look1 HOw.out hs' HA.out ⟨_, _, rfl, rfl, rfl⟩) ?_)
     | (refine wpl_store_body HBx.out rfl E p lv rfl _ _ rfl rfl rfl rfl ?_; intro w9 hO9 hu9; have HO9 := hid hO9; have HF9 := hid (HFin.out w9 hu9); clear hO9 hu9))
    exact bodyPost_ret (res_body (q := 4) (u := 5) rfl _ rfl HO9.out) rfl ⟨p, M', by rw [HE.out]; rfl, HP.out, HF9.out⟩
   | succ k =>
    obtain ⟨wl0, u, rfl, hfu, hxu, hnu, hszu, hru, hcn⟩ := hc
    obtain ⟨g, cap, rfl, hcell, hcap, hcm, hcut⟩ := strs_last HR.out.row
    have hs' : (ref u).size ≤ maxLen := by unfold maxLen; omega
    obtain ⟨_, p0, hp0, hat⟩ := HR.out.s.some_ (ref u) _ _ _ hs' hfu
    obtain rfl : p0 = none := hp0.nil_iff.2 rfl
    have HA := hid hat
    have HOw := hid HR.out.s.own
    have HUn := hid (unread_any HR.out.s hxu hnu (.inr hru.gone))
    have HFl : Hid ((((kidsT u).map ref).filter fun s => !gone f' s) = []) := hid (List.filter_eq_nil_iff.2 fun s hs => by
     obtain ⟨z, hz, rfl⟩ := List.mem_map.1 hs
     rw [hru.gone z hz]; decide)
    rw [HFl.out] at HUn
    have HGr : Hid (∀ w6, Below wr.heap.size wr w6 → Calls Tryz.prog 69 #[.map (some b), .string (ref u)] w6 fun e w' => e = .returned (.int .i64 0) ∧ ∃ M2 D2, GrewP M' w6 b (setF f' (ref u) (encT u, u, maxl f' (kidsT u) + 1)) (n' + 1) M2 w' D2) := hid (fun w6 hb6 => by
     have h6 := HR.out.below HWs.out hb6
     exact grow_any h6.s (by omega) h6.i h6.t hxu hnu hru (by omega) hfu)
    have HCn := hid hcn
    obtain ⟨E, hE⟩ : ∃ E, encT u = E := ⟨_, rfl⟩
    obtain ⟨s, hs⟩ : ∃ s, ref u = s := ⟨_, rfl⟩
    have hcapm := hcm
    unfold maxLen at hcapm
    rw [hE] at HUn HA HGr HCn
    rw [hs] at HA HGr HCn hcell hs' HR
    obtain ⟨m, hm⟩ : ∃ m, wl0.length = m := ⟨_, rfl⟩
    have HMl := hid hm
    have hm99 : m + 1 ≤ 100 := by
     rw [List.length_append] at hwll
     simp only [List.length_cons, List.length_nil] at hwll
     omega
    rw [hm] at hcell hcap
    rw [hm]
    have hi1 : (0 : Int) < ((m + 1 : Nat) : Int) := by omega
    have hni : (m : Int) < ((m + 1 : Nat) : Int) := by omega
    have hw1 : IntKind.i64.wrap (((m + 1 : Nat) : Int) - 1) = (m : Int) := by
     rw [show ((m + 1 : Nat) : Int) - 1 = (m : Int) by omega]
     exact IntWalk.i64_in _ (by omega)
    clear hcut hat hp0 hfu hxu hnu hszu hru hcn hE hs hcm hwll hm HC
    go_wp2_with (first
     | (refine Rg.run rfl _ _ (op_look1 HOw.out hs' HA.out ⟨_, _, rfl, rfl, rfl⟩) ?_)
     | (refine Rg.run rfl _ _ (op_field_body ⟨_, rfl, rfl⟩) ?_))
    refine HUn.out.mono ?_
    rintro e w6 ⟨v6, rfl, h6, hb6⟩
    obtain ⟨a6, c6, rfl⟩ := owns_slice h6
    have HG6 := hid (HGr.out w6 hb6)
    have HR6 := hid (HR.out.below HWs.out hb6)
    clear h6 hb6 HUn HA HOw HR HGr hcell
    go_wp2_with fail
    refine HG6.out.mono ?_
    rintro e w7 ⟨rfl, M2, D2, hg7⟩
    have HR7 := hid (HR6.out.grew HWs.out HLe.out.1 HLe.out.2.1 hg7)
    have HR8 : Hid (Rd M w Ms ws w.heap.size b M2 w7 (setF f' s (E, u, maxl f' (kidsT u) + 1)) (n' + 1) D2 wl0 (.slice (some ⟨g, 0, none⟩) m cap)) := hid (by
     have h := HR7.out
     have hrow := h.row
     rw [← HMl.out]
     have hc2 : w7.ownsRow (w.heap.size + 1) 9 1 (.slice (some ⟨g, 0, none⟩) wl0.length cap) wl0.length (wl0.map Value.string) := owns_cut (x := .string s) (by simpa using hrow)
     exact ⟨h.fr, h.i, h.t, h.s, hc2, fun k e => h.ra k e, h.bx, h.bn, h.ba, h.kp, h.sz⟩)
    clear hg7 HG6 HR6 HR7
    go_wp2_with (first
     | (refine Rg.run rfl _ _ (op_upto (j := m) under_strs size_str (by omega) ⟨_, _, rfl, rfl, rfl⟩) ?_))
    go_roundg k
    case measure => omega
    case rel => exact ⟨_, M2, _, n' + 1, D2, wl0, rfl, by omega, HR8, hid (.inr ⟨by omega, by rw [HMl.out]; omega, HCn.out⟩)⟩
end Tm
end
section
open Go.RowKit Go.Maps
namespace Tm
open Tr Ni Pk Ky No Rf Rl
open Sm (Tab)
theorem equal_sums {k l : List UInt8} (hk : k.length = 32) (hl : l.length = 32) (w : World) : (Op.equalIn 10000 35 (.agg (Sm.kc k)) (.agg (Sm.kc l))).run Tryz.prog w = .ok (decide (k = l)) w := by
 obtain ⟨i0, hi, _⟩ := info_parts Cc.info_u8
 rw [show (10000 : Nat) = 9999 + 1 from rfl, run_equalIn_array w 9999 (Sm.kc k) (Sm.kc l) Tryz.underlying35 hi, cells_u8]
 have := items_two k l w 9998 (List.range 32) (fun i h => by rw [hk, hl]; have := List.mem_range.1 h; omega)
 rw [keys_all hk hl] at this
 exact this
theorem eql_sums {k l : List UInt8} (hk : k.length = 32) (hl : l.length = 32) (w : World) : (binOp .eql 35 (.agg (Sm.kc k)) (.agg (Sm.kc l))).run Tryz.prog w = .ok (.bool (decide (k = l))) w := by
 rw [run_eql_struct, equal_sums hk hl w]
 rfl
theorem op_eql_sums {ev : Operand → Value} {o : Oper} {w : World} {k l : List UInt8} (hk : k.length = 32) (hl : l.length = 32) (ho : ∃ x y tt, o.op = .binOp .eql 35 x y tt ∧ ev x = .agg (Sm.kc k) ∧ ev y = .agg (Sm.kc l)) :
  (execOp ev o).run Tryz.prog w = .ok (.value (.bool (decide (k = l)))) w := by
 obtain ⟨x, y, tt, ho, hx, hy⟩ := ho
 unfold execOp
 have hg := Sm.guard_sum
 simp [ho, hx, hy, run_eqGuard_agg, hg, eql_sums hk hl, Result.andThen]
theorem load1_any (c : Nat) (r : List UInt8) (hr : r.length = 32) (w : World) (hO : Rg.Own w c (Sm.kc r) 35) (hT : Tab w) (s : ByteArray) (hs : s.size ≤ 900000) :
  Calls Tryz.prog 46 #[.string s, .pointer (some ⟨c, 0, none⟩)] w fun e w' => e = .returned (.bool (decide (rootP s = r))) ∧ Below w.heap.size w w' := by
 have HRt : Hid (∀ wz, Below w.heap.size w wz → Calls Tryz.prog 28 #[.string s] wz fun e w' => e = .returned (.agg (Sm.kc (rootP s))) ∧ Below wz.heap.size wz w') := hid (fun wz hb => root_any s hs wz (hT.below hb hT.pos))
 have HKl := hid (rootP_length s)
 have HRl := hid hr
 have HO := hid hO
 obtain ⟨K, hK⟩ : ∃ K, rootP s = K := ⟨_, rfl⟩
 rw [hK] at HRt HKl ⊢
 clear hK hr hO hT hs
 go_enter Tryz.func46, Tryz.ntmps46
 go_wp2_with fail
 refine wp_region_noPanic ?_
 refine wp_region_held_drew (S := fun w' => Below w.heap.size w w') (by kernel_rfl) ((Below.refl _ _).drew) (fun hld => ?_)
 refine Rg.tk (i := 0) rfl ?_
 try simp only [Act.put, Rg.s]
 refine Rg.tk (i := 2) rfl ?_ (hy := by intro wz hSw; (refine Sm.run_load_sum _ _ _ c r HRl.out ?_ (HO.out.below hSw); exact ⟨_, rfl, rfl⟩))
 try simp only [Act.put, Rg.s]
 refine Rg.rd (i := 1) rfl fun K hK => ?_
 go_simp
 go_at_call 28
 (with_reducible refine (HRt.out _ hld).mono ?_)
 rintro e wv0 ⟨rfl, hbx⟩
 refine hK.out _ _ ?_ (fun hld => ?_)
 ·exact Below.trans hld (hbx.mono hld.size)
 clear hK K
 try simp only [Act.put, Rg.s]
 refine Rg.tk (i := 3) rfl ?_ (hy := by intro wz hSw; (refine op_eql_sums HKl.out HRl.out ?_; exact ⟨_, _, _, rfl, rfl, rfl⟩))
 try simp only [Act.put, Rg.s]
 refine Rg.tk (i := 4) rfl ?_
 try simp only [Act.put, Rg.s]
 refine wpAnyH_done (by kernel_rfl) ?_ _
 refine NoPanic.normal ?_
 go_wp2
 go_ret
 exact ⟨rfl, hld⟩
def shelfF (xs : List ByteArray) : Fs := xs.foldl (fun f s => if (f (ofP s)).isSome then f else setF f (ofP s) (s, .nil, 0)) fun _ => none
theorem shelf_step (xs : List ByteArray) (j : Nat) (hj : j < xs.length) : shelfF (xs.take (j + 1)) = if (shelfF (xs.take j) (ofP (xs.getD j eB))).isSome then shelfF (xs.take j) else setF (shelfF (xs.take j)) (ofP (xs.getD j eB)) (xs.getD j eB, .nil, 0) := by
 unfold shelfF
 rw [List.take_add_one, List.getElem?_eq_getElem hj, List.foldl_append]
 simp [List.getD, hj]
theorem ofP_few (s : ByteArray) : (ofP s).size ≤ 32 := by
 unfold ofP
 split
 ·omega
 ·show (sumB s).toArray.size ≤ 32
  rw [List.size_toArray, sumB_length]
  exact Nat.le_refl _
theorem shelve_any {M : Mp} (xs : List ByteArray) (hx : ∀ s ∈ xs, s.size ≤ 900000) (a : Option Addr) (n c : Nat) (w : World) (h : IsSt w a n c xs) (hn : n ≤ 100) (hi : Inv M w) (hT : Tab w) :
  Calls Tryz.prog 47 #[.slice a n c] w fun e w' => e = .returned (.map (some w.heap.size)) ∧ (∃ D, ShS M w' w.heap.size (shelfF xs) n D) ∧ Below w.heap.size w w' := by
 have hmm := @run_makeMap Tryz.prog
 have hl := h.len
 have hnc := h.1
 have hcm := h.2.1
 unfold maxLen at hcm
 have H := hid h
 have HL := hid hl
 have HX := hid hx
 have HT := hid hT
 have HS0 : Hid (ShS M (w.alloc (.map #[] 0)) w.heap.size (shelfF (xs.take 0)) 0 (.map [])) := hid ⟨World.ownsMap_made _ _ _ _, fun s _ _ => by rw [Maps.has_eq]; rfl, fun s e t lv _ he => (by cases he), hi.free (Nat.le_refl _)⟩
 clear h hl hx hi hT
 go_enter Tryz.func47, Tryz.ntmps47
 go_wp2
 go_loopw [12] (fun i wr => ∃ (j : Nat) (D : DataW Value), j ≤ n ∧ i = .int .i64 j ∧ Hid (ShS M wr w.heap.size (shelfF (xs.take j)) j D) ∧ Hid (Below w.heap.size w wr)) (fun i _ => n - (intOf i).toNat)
 case atStart => exact ⟨0, .map [], Nat.zero_le _, rfl, HS0, hid (al1 _ _)⟩
 case round =>
  obtain ⟨j, D, hj, rfl, HS, HB⟩ := hrel
  clear HS0
  by_cases hlt : j < n
  ·obtain ⟨b, off, rfl, hblt, hcj⟩ := H.out.at' j hlt
   have hc' := (Below.cell (p := ⟨b, off + j, none⟩) HB.out hblt).trans hcj
   have hm : xs.getD j eB ∈ xs := str_mem (by rw [HL.out]; exact hlt)
   have HOf := hid (fof_any (xs.getD j eB) (HX.out _ hm) wr (HT.out.below HB.out HT.out.pos))
   have HSt := hid (shelf_step xs j (by rw [HL.out]; exact hlt))
   have hof := ofP_few (xs.getD j eB)
   have hs' : (ofP (xs.getD j eB)).size ≤ maxLen := by unfold maxLen; omega
   obtain ⟨F, hF⟩ : ∃ F, shelfF (xs.take j) = F := ⟨_, rfl⟩
   rw [hF] at HSt HS
   obtain ⟨K, hK⟩ : ∃ K, xs.getD j eB = K := ⟨_, rfl⟩
   rw [hK] at HOf hc' HSt hs'
   obtain ⟨R, hR⟩ : ∃ R, ofP K = R := ⟨_, rfl⟩
   rw [hR] at HOf HSt hs'
   clear hcj hm hof hF hK hR
   go_wp2_with fail
   refine HOf.out.mono ?_
   rintro e w5 ⟨rfl, hb5⟩
   have HB5 := hid (bst HB.out hb5)
   have HS5 := hid (HS.out.below hb5 HS.out.lt)
   have HOw := hid HS5.out.own
   have HN := hid (own_bodyA w5 w5.heap.size rfl)
   have hlt5 := HS5.out.lt
   have hblt5 : w.heap.size ≤ w5.heap.size := HB5.out.size
   clear hb5 HOf HS HB
   cases hf : F R with
   | none =>
    have HH := hid (HS5.out.none_ R hs' hf)
    have HSt' : Hid (shelfF (xs.take (j + 1)) = setF F R (K, .nil, 0)) := hid (by rw [HSt.out, hf]; rfl)
    clear hf HSt
    go_wp2_with (first
     | (refine Rg.run rfl _ _ (op_look0 HOw.out hs' HH.out ⟨_, _, rfl, rfl, rfl⟩) ?_)
     | (refine Rg.run rfl _ _ (run_alloc_body _ _ _ w5.heap.size rfl rfl) ?_)
     | (refine wpl_store_body HN.out rfl eB none 0 rfl _ _ rfl rfl rfl rfl ?_; intro w6 hO6 hu6; have HB6 : Hid (Below w5.heap.size w5 w6) := hid (hu6.below (al1 _ _) (Nat.le_refl _)); have HS6 := hid (HS5.out.below HB6.out hlt5); have HOw6 := hid HS6.out.own; clear hO6 hu6)
     | (refine Rg.run rfl _ _ (op_build (built_body K) ?_) ?_; · exact ⟨_, rfl, rfl⟩)
     | (refine wpl_lay HOw6.out (by unfold maxLen; omega) hs' (.agg (bodyA K none 0)) rfl _ _ _ rfl rfl rfl rfl ?_; intro w7 hO7 hg7))
    have HS7 : Hid (ShS M w7 w.heap.size (shelfF (xs.take (j + 1))) (j + 1) (D.put (keyL R) (.held (.agg (bodyA K none 0))))) := hid (by rw [HSt'.out]; exact HS6.out.put hs' hO7 (IsT.zero M))
    have HB7 : Hid (Below w.heap.size w w7) := hid ((bst HB5.out HB6.out).grown hg7 (bst HB5.out HB6.out).size (fun k hk => by cases hk; exact Nat.le_refl _))
    clear hO7 hg7
    go_roundw
    case rel => exact ⟨j + 1, _, by omega, by go_num, HS7, HB7⟩
    case measure => simp [intOf]; omega
   | some x =>
    obtain ⟨e, t, lv⟩ := x
    obtain ⟨hh, p, _, hat⟩ := HS5.out.some_ R e t lv hs' hf
    have HH := hid hh
    have HA := hid hat
    have HSt' : Hid (shelfF (xs.take (j + 1)) = F) := hid (by rw [HSt.out, hf]; rfl)
    clear hf HSt hh hat
    go_wp2_with (first
     | (refine Rg.run rfl _ _ (op_look2 HOw.out hs' HH.out HA.out ⟨_, _, rfl, rfl, rfl⟩) ?_)
     | (refine Rg.run rfl _ _ (run_alloc_body _ _ _ w5.heap.size rfl rfl) ?_)
     | (refine wpl_store_body HN.out rfl e p lv rfl _ _ rfl rfl rfl rfl ?_; intro w6 hO6 hu6; have HB6 : Hid (Below w5.heap.size w5 w6) := hid (hu6.below (al1 _ _) (Nat.le_refl _)); have HS6 := hid (HS5.out.below HB6.out hlt5); clear hO6 hu6))
    have HS7 : Hid (ShS M w6 w.heap.size (shelfF (xs.take (j + 1))) (j + 1) D) := hid (by
     rw [HSt'.out]
     have h := HS6.out
     exact ⟨h.own.mono (Nat.le_succ _), h.none_, h.some_, h.nf⟩)
    have HB7 := hid (bst HB5.out HB6.out)
    go_roundw
    case rel => exact ⟨j + 1, D, by omega, by go_num, HS7, HB7⟩
    case measure => simp [intOf]; omega
  ·obtain rfl : j = n := by omega
   have HE : Hid ((∃ D, ShS M wr w.heap.size (shelfF xs) j D) ∧ Below w.heap.size w wr) := hid (by
    have h := HS.out
    rw [List.take_of_length_le (by rw [HL.out]; exact Nat.le_refl _)] at h
    exact ⟨⟨D, h⟩, HB.out⟩)
   go_wp2
   go_ret
   exact ⟨rfl, HE.out⟩
end Tm
end
section
open Go.RowKit
namespace Tm
open Tr Ni Pk Ky No Rf Rl
open Sm (Tab)
def LoadP (M : Mp) (w : World) (t : T) (e : Ending) (w' : World) : Prop := ∃ p M', e = .returned (.tuple #[tv p, .int .i64 0]) ∧ IsT M' p t ∧ Fr M M' w w' ∧ Inv M' w' ∧ Tab w'
theorem op_eql_sumsB {ev : Operand → Value} {o : Oper} {w : World} {k l : List UInt8} {g : Bool} (hk : k.length = 32) (hl : l.length = 32) (hd : decide (k = l) = g) (ho : ∃ x y tt, o.op = .binOp .eql 35 x y tt ∧ ev x = .agg (Sm.kc k) ∧ ev y = .agg (Sm.kc l)) :
  (execOp ev o).run Tryz.prog w = .ok (.value (.bool g)) w := by
 rw [← hd]
 exact op_eql_sums hk hl ho
theorem enter_load (w : World) (r : List UInt8) : ∃ w1, w1 = (w.alloc (.cells (Sm.kc r) 35)).alloc (.cells #[.pointer none] 26) ∧ Rg.Own w1 w.heap.size (Sm.kc r) 35 ∧ Rg.Own w1 (w.heap.size + 1) #[.pointer none] 26 ∧ Below w.heap.size w w1 ∧ w1.heap.size = w.heap.size + 2 := by
 refine ⟨_, rfl, (Rg.Own.new _ _ _).below (al1 _ _), ?_, al2 _ _ _, by simp⟩
 have := Rg.Own.new (w.alloc (.cells (Sm.kc r) 35)) #[.pointer none] 26
 simpa using this
theorem load_none (M : Mp) (a : Option Addr) (n c : Nat) (w : World) (hi : Inv M w) (hT : Tab w) : Calls Tryz.prog 25 #[.agg (Sm.kc (rootP eB)), .slice a n c] w (LoadP M w .nil) := by
 obtain ⟨w1, hw1, hO2, hO4, hb1, hs1⟩ := enter_load w (rootP eB)
 have HRt0 : Hid (∀ wz, Below w1.heap.size w1 wz → Calls Tryz.prog 28 #[.string eB] wz fun e w' => e = .returned (.agg (Sm.kc (rootP eB))) ∧ Below wz.heap.size wz w') := hid (fun wz hb => root_any eB (Nat.zero_le _) wz ((hT.below hb1 hT.pos).below hb (hT.below hb1 hT.pos).pos))
 have HRl := hid (rootP_length eB)
 have HZl := hid (rootP_length eB)
 have HO2 := hid hO2
 have HFin : Hid (∀ W W', Below w1.heap.size w1 W → Rg.Upd W (w.heap.size + 1) W' → Fr M M w W' ∧ Inv M W' ∧ Tab W') := hid (fun W W' hb hu => by
  have h0 : Below w.heap.size w W := hb1.trans (hb.mono hb1.size)
  have h2 : Below w.heap.size w W' := hu.below h0 (by omega)
  exact ⟨Fr.below M h2, hi.below h2, hT.below h2 hT.pos⟩)
 have HOt : Hid (∀ W, Below w1.heap.size w1 W → Rg.Own W (w.heap.size + 1) #[.pointer none] 26) := hid (fun W hb => hO4.below hb)
 have HW : Hid (_ = _) := hid hw1
 obtain ⟨r, hr⟩ : ∃ r, rootP eB = r := ⟨_, rfl⟩
 rw [hr] at HRt0 HRl HZl HO2 HW ⊢
 clear hr hi hT hO2 hO4 hb1 hs1 hw1
 go_enter Tryz.func25, Tryz.ntmps25
 go_wp2_with (first
  | (refine Rg.run rfl _ _ (run_alloc_tree _ _ _ (w.heap.size + 1) (by simp) rfl) ?_; rw [← HW.out]))
 refine wp_region_noPanic ?_
 refine wp_region_held_drew (S := fun w' => Below w1.heap.size w1 w') (by kernel_rfl) ((Below.refl _ _).drew) (fun hld => ?_)
 refine Rg.tk (i := 0) rfl ?_ (hy := by intro wz hSw; (refine Sm.run_load_sum _ _ _ w.heap.size r HRl.out ?_ (HO2.out.below hSw); exact ⟨_, rfl, rfl⟩))
 try simp only [Act.put, Rg.s]
 refine Rg.rd (i := 1) rfl fun K hK => ?_
 go_simp
 go_at_call 28
 (with_reducible refine (HRt0.out _ hld).mono ?_)
 rintro e wv0 ⟨rfl, hbx⟩
 refine hK.out _ _ ?_ (fun hld => ?_)
 ·exact Below.trans hld (hbx.mono hld.size)
 clear hK K
 try simp only [Act.put, Rg.s]
 refine Rg.tk (i := 2) rfl ?_ (hy := by intro wz hSw; (refine op_eql_sumsB HRl.out HZl.out (decide_eq_true rfl) ?_; exact ⟨_, _, _, rfl, rfl, rfl⟩))
 try simp only [Act.put, Rg.s]
 refine wpAnyH_done (by kernel_rfl) ?_ _
 refine NoPanic.normal ?_
 have HT0 := hid (HOt.out _ hld)
 have HB0 := hid hld
 clear hld
 go_wp2_with (first
  | (refine Rg.run rfl _ _ (op_build built_nil ⟨_, rfl, rfl⟩) ?_)
  | (refine wpl_store_tree HT0.out (by decide) none rfl _ _ rfl rfl rfl ?_; intro w9 hO9 hu9; have HO9 : Hid (Rg.Own w9 (w.heap.size + 1) #[.pointer none] 26) := hid hO9; have HF9 := hid (HFin.out _ w9 HB0.out hu9); clear hO9 hu9))
 exact bodyPost_ret (res_tree1 (q := 4) (u := 5) rfl _ rfl HO9.out) rfl ⟨none, M, rfl, IsT.zero M, HF9.out⟩
theorem load_any {M : Mp} {w : World} (hi : Inv M w) (hT : Tab w) (xs : List ByteArray) (hx : ∀ s ∈ xs, s.size ≤ 900000) (a : Option Addr) (n c : Nat) (h : IsSt w a n c xs) (hn : n ≤ 100) (hn0 : 0 < n) (hrow : ∀ b off, a = some ⟨b, off, none⟩ → M.at_ b = none) {t : T} (ht : Whl t) (htn : t ≠ .nil)
  (hx0 : xs.getD 0 eB = encT t) (hne : rootP (encT t) ≠ rootP eB) (hf : shelfF xs (ref t) = some (encT t, .nil, 0)) (hk0 : kidsT t ≠ []) (hku : ∀ u ∈ kidsT t, gone (shelfF xs) (ref u) = false) {k0 : Nat} {fe : Fs} (hch : Chain fe k0 (shelfF xs) (ref t :: (kidsT t).map ref)) (hnn : n + k0 ≤ 900) {lv : Nat} (hfe : fe (ref t) = some (encT t, t, lv)) (hlv : lv ≤ 65) :
  Calls Tryz.prog 25 #[.agg (Sm.kc (rootP (encT t))), .slice a n c] w (LoadP M w t) := by
 have hmf : ∀ (fn : Fn) (first cap : Array Value) (w : World), (Instr.makeFunc fn first cap).run Tryz.prog w = .ok (.func fn first cap) w := fun _ _ _ _ => rfl
 obtain ⟨w1, hw1, hO2, hO4, hb1, hs1⟩ := enter_load w (rootP (encT t))
 have hi1 := hi.below hb1
 have hT1 := hT.below hb1 hT.pos
 have hl := h.len
 have hrr : ref t = ofP (encT t) := ref_enc ht.ns
 have hsz := ofP_few (encT t)
 rw [← hrr] at hsz
 obtain ⟨rb, ro, ha, hrblt, hcell⟩ := h.at' 0 hn0
 subst ha
 rw [Nat.add_zero, hx0] at hcell
 have hrm := hrow rb ro rfl
 have HSc : Hid (∀ W M', Fr M M' w1 W → W.cell? ⟨rb, ro, none⟩ = some (.string (encT t))) := hid (fun W M' f => by
  have h1 := cell_on hb1 hcell
  rw [f.cell (World.block_lt_of_cell? w1 _ h1) hrm]
  exact h1)
 have HRt0 : Hid (∀ wz, Below w1.heap.size w1 wz → Calls Tryz.prog 28 #[.string eB] wz fun e w' => e = .returned (.agg (Sm.kc (rootP eB))) ∧ Below wz.heap.size wz w') := hid (fun wz hb => root_any eB (Nat.zero_le _) wz (hT1.below hb hT1.pos))
 have HIx : Hid (∀ W, Below w1.heap.size w1 W → Calls Tryz.prog 45 #[.slice (some ⟨rb, ro, none⟩) n c, .func (Fn.func 46) #[] #[.pointer (some ⟨w.heap.size, 0, none⟩)]] W fun e w' => e = .returned (.int .i64 0) ∧ Below W.heap.size W w') := hid (fun W hb => by
  refine (index_load (fun s => decide (rootP s = rootP (encT t))) w.heap.size xs (some ⟨rb, ro, none⟩) n c W ((h.below hb1).below hb) (fun s hs wz hbz => ?_)).mono ?_
  ·have hbw : Below w1.heap.size w1 wz := bst hb hbz
   exact load1_any w.heap.size _ (rootP_length _) wz (hO2.below hbw) (hT1.below hbw hT1.pos) s (hx s hs)
  ·rintro e w' ⟨i, rfl, hP, hb'⟩
   refine ⟨?_, hb'⟩
   rcases hP with ⟨_, hno⟩ | ⟨k, rfl, hk, _, hno⟩
   ·have := hno 0 (by rw [hl]; exact hn0)
    rw [hx0] at this
    exact absurd rfl (of_decide_eq_false this)
   ·by_cases hk0 : k = 0
    ·rw [hk0]; rfl
    ·have := hno 0 (by omega)
     rw [hx0] at this
     exact absurd rfl (of_decide_eq_false this))
 have HShv : Hid (∀ W, Below w1.heap.size w1 W → Calls Tryz.prog 47 #[.slice (some ⟨rb, ro, none⟩) n c] W fun e w' => e = .returned (.map (some W.heap.size)) ∧ (∃ D, ShS M w' W.heap.size (shelfF xs) n D) ∧ Below W.heap.size W w') := hid (fun W hb => shelve_any xs hx _ n c W ((h.below hb1).below hb) hn (hi1.below hb) (hT1.below hb hT1.pos))
 have HOf : Hid (∀ W, Below w1.heap.size w1 W → Calls Tryz.prog 49 #[.string (encT t)] W fun e w' => e = .returned (.string (ref t)) ∧ Below W.heap.size W w') := hid (fun W hb => by
  rw [hrr]
  exact fof_any (encT t) ht.size W (hT1.below hb hT1.pos))
 have HRd : Hid (∀ W b D, Below w1.heap.size w1 W → w1.heap.size ≤ b → ShS M W b (shelfF xs) n D → Calls Tryz.prog 48 #[.map (some b), .string (ref t)] W (ReadP M W b M w1 t lv)) := hid (fun W b D hb hle hS => read_any hi1 (Fr.below M hb) hle hS (hi1.below hb) (hT1.below hb hT1.pos) ht htn (by omega) hf hk0 hku hch hnn hfe)
 have HFin : Hid (∀ M' W W' b11, Fr M M' w1 W → Inv M' W → Tab W → w1.heap.size ≤ b11 → ¬ M'.ft b11 → Rg.Upd W b11 W' → Rg.Own W' (w.heap.size + 1) #[.pointer none] 26 ∧ W'.cell? ⟨rb, ro, none⟩ = some (.string (encT t)) ∧ ∀ W'', Rg.Upd W' (w.heap.size + 1) W'' → Fr M M' w W'' ∧ Inv M' W'' ∧ Tab W'') := hid (fun M' W W' b11 f i tt hge hnf hu => by
  have hg0 : M.at_ (w.heap.size + 1) = none := hi.out (by omega)
  have hOW := own_fr hO4 f hg0
  have hnf4 : ¬ M'.ft (w.heap.size + 1) := f.box (hi.free (by omega)) hO4.1 (no_byte hO4 (one_no _))
  have hp0 := hT.pos
  have hc1 := cell_on hb1 hcell
  refine ⟨hOW.upd hu (by omega), ?_, fun W'' hu2 => ⟨((((Fr.below M hb1).trans hi f).upd hu (by omega)).upd hu2 (by omega)), (i.upd hu hnf).upd hu2 hnf4, Tab.upd (Tab.upd tt hu (by omega)) hu2 (by omega)⟩⟩
  have hrl := World.block_lt_of_cell? w1 _ hc1
  rw [World.cell?_of_block (hu.block rb (by show rb ≠ b11; have : rb < w1.heap.size := hrl; omega)), f.cell hrl hrm]
  exact hc1)
 have HM : Hid (∀ k, w1.heap.size ≤ k → M.at_ k = none ∧ ¬ M.ft k) := hid (fun k hk => ⟨hi1.out hk, hi1.free hk⟩)
 have HI1 := hid hi1
 have HRl := hid (rootP_length (encT t))
 have HZl := hid (rootP_length eB)
 have HO2 := hid hO2
 have HW : Hid (_ = _) := hid hw1
 have hnc := h.1
 have hcm := h.2.1
 unfold maxLen at hcm
 have d1 : decide ((65 : Int) < (lv : Int)) = false := decide_eq_false (by omega)
 have d2 : decide (65 < lv) = false := decide_eq_false (by omega)
 obtain ⟨r, hr⟩ : ∃ r, rootP (encT t) = r := ⟨_, rfl⟩
 obtain ⟨z, hz⟩ : ∃ z, rootP eB = z := ⟨_, rfl⟩
 obtain ⟨R, hR⟩ : ∃ R, ref t = R := ⟨_, rfl⟩
 rw [hr] at HRl HO2 HW hne ⊢
 rw [hz] at HRt0 HZl hne
 rw [hR] at HOf HRd
 unfold ReadP at HRd
 obtain ⟨E, hE⟩ : ∃ E, encT t = E := ⟨_, rfl⟩
 rw [hE] at HSc HOf HRd HFin
 have HD : Hid (decide (r = z) = false) := hid (decide_eq_false hne)
 have hn0' : (0 : Int) < (n : Int) := by omega
 clear hr hz hR hE hw1 hO2 hO4 hb1 hs1 hi1 hT1 hl hrr hsz hrblt hcell hrm hi hT hx h hrow ht htn hx0 hne hf hk0 hku hch hnn hfe hlv
 go_enter Tryz.func25, Tryz.ntmps25
 go_wp2_with (first
  | (refine Rg.run rfl _ _ (run_alloc_tree _ _ _ (w.heap.size + 1) (by simp) rfl) ?_; rw [← HW.out]))
 refine wp_region_noPanic ?_
 refine wp_region_held_drew (S := fun w' => Below w1.heap.size w1 w') (by kernel_rfl) ((Below.refl _ _).drew) (fun hld => ?_)
 refine Rg.tk (i := 0) rfl ?_ (hy := by intro wz hSw; (refine Sm.run_load_sum _ _ _ w.heap.size r HRl.out ?_ (HO2.out.below hSw); exact ⟨_, rfl, rfl⟩))
 try simp only [Act.put, Rg.s]
 refine Rg.rd (i := 1) rfl fun K hK => ?_
 go_simp
 go_at_call 28
 (with_reducible refine (HRt0.out _ hld).mono ?_)
 rintro e wv0 ⟨rfl, hbx⟩
 refine hK.out _ _ ?_ (fun hld => ?_)
 ·exact Below.trans hld (hbx.mono hld.size)
 clear hK K
 try simp only [Act.put, Rg.s]
 refine Rg.tk (i := 2) rfl ?_ (hy := by intro wz hSw; (refine op_eql_sumsB HRl.out HZl.out HD.out ?_; exact ⟨_, _, _, rfl, rfl, rfl⟩))
 try simp only [Act.put, Rg.s]
 refine wpAnyH_done (by kernel_rfl) ?_ _
 refine NoPanic.normal ?_
 have HB0 := hid hld
 clear hld
 go_wp2_with fail
 refine (HIx.out _ HB0.out).mono ?_
 rintro e w5 ⟨rfl, hb5⟩
 have HB : Hid (Below w1.heap.size w1 w5.drew) := hid (below_drewN (bst HB0.out hb5) 1)
 clear hb5 HB0 HIx HRt0
 go_wp2_with fail
 refine wp_region_noPanic ?_
 refine wp_region_held_drew (S := fun w' => w'.cell? ⟨rb, ro, none⟩ = some (.string E)) (by kernel_rfl) (HSc.out _ M (Fr.below M HB.out)) (fun hld => ?_)
 refine Rg.tk (i := 0) rfl ?_
 try simp only [Act.put, Rg.s]
 refine Rg.tk (i := 2) rfl ?_
 try simp only [Act.put, Rg.s]
 refine Rg.tk (i := 3) rfl ?_
 try simp only [Act.put, Rg.s]
 refine Rg.tk (i := 4) rfl ?_ (hy := by intro wz hSw; have q0 := hn0; (try dsimp only at hSw); go_simp <;> with_reducible rfl)
 try simp only [Act.put, Rg.s]
 refine Rg.tk (i := 5) rfl ?_ (hy := by intro wz hSw; have hcc := hSw; (try dsimp only at hSw); go_simp <;> with_reducible rfl)
 try simp only [Act.put, Rg.s]
 refine wpAnyH_ready (rs := [1, 11]) (by kernel_rfl) (by simp) ?_
 refine Rg.readyC (i := 1) rfl (fun K hK => ?_) (Rg.readyL (i := 11) rfl (fun K hK => ?_))
 ·go_simp
  go_at_call 47
  (with_reducible refine (HShv.out _ HB.out).mono ?_)
  rintro e y1 ⟨rfl, ⟨D, hs⟩, hbx⟩
  obtain ⟨bS, hbS0⟩ : ∃ bS, (w5.drew).heap.size = bS := ⟨_, rfl⟩
  have hbS : w1.heap.size ≤ bS := by rw [← hbS0]; exact HB.out.size
  replace HB := hid (bst HB.out hbx)
  first | rw [hbS0] at hs ⊢ | (simp only [World.heap_drew] at hbS0; rw [hbS0] at hs ⊢)
  have HSh := hid hs
  clear hs hbx hbS0
  refine hK.out _ _ ?_ (fun hld => ?_)
  ·exact HSc.out _ M (Fr.below M HB.out)
  clear hK K
  try simp only [Act.put, Rg.s]
  refine wpAnyH_ready (rs := [6, 11]) (by kernel_rfl) (by simp) ?_
  refine Rg.readyC (i := 6) rfl (fun K hK => ?_) (Rg.readyL (i := 11) rfl (fun K hK => ?_))
  ·go_simp
   go_at_call 49
   (with_reducible refine (HOf.out _ HB.out).mono ?_)
   rintro e y2 ⟨rfl, hbx⟩
   replace HSh := hid (HSh.out.below hbx HSh.out.lt)
   replace HB := hid (bst HB.out hbx)
   clear hbx
   refine hK.out _ _ ?_ (fun hld => ?_)
   ·exact HSc.out _ M (Fr.below M HB.out)
   clear hK K
   try simp only [Act.put, Rg.s]
   refine wpAnyH_ready (rs := [7, 11]) (by kernel_rfl) (by simp) ?_
   refine Rg.readyC (i := 7) rfl (fun K hK => ?_) (Rg.readyL (i := 11) rfl (fun K hK => ?_))
   ·go_simp
    go_at_call 48
    (with_reducible refine (HRd.out _ bS D HB.out hbS HSh.out).mono ?_)
    rintro e y3 ⟨p, M', rfl, ht, f3, i3, t3, kp⟩
    have HTp := hid ht
    have H3 : Hid (Fr M M' w1 y3 ∧ Inv M' y3 ∧ Tab y3) := hid ⟨f3, i3, t3⟩
    clear ht f3 i3 t3 kp HB HSh hbS
    refine hK.out _ _ ?_ (fun hld => ?_)
    ·exact HSc.out _ _ H3.out.1
    clear hK K
    try simp only [Act.put, Rg.s]
    refine Rg.tk (i := 8) rfl ?_
    try simp only [Act.put, Rg.s]
    refine Rg.tk (i := 9) rfl ?_
    try simp only [Act.put, Rg.s]
    refine Rg.tk (i := 10) rfl ?_
    try simp only [Act.put, Rg.s]
    refine Rg.rd (i := 11) rfl fun K hK => ?_
    refine Rg.meetAlloc (by rfl) (run_alloc_body _ _ _ _ rfl rfl) ?_
    rintro y4 b11 he11 h11 hbx
    have ge11 : w1.heap.size ≤ b11 := by rw [he11]; exact H3.out.1.size
    have nf11 : ¬ M'.ft b11 := H3.out.2.1.free (by rw [he11]; exact Nat.le_refl _)
    replace H3 : Hid (Fr M M' w1 y4 ∧ Inv M' y4 ∧ Tab y4) := hid ⟨H3.out.1.trans HI1.out (Fr.below M' hbx), H3.out.2.1.below hbx, H3.out.2.2.below hbx H3.out.2.2.pos⟩
    clear he11 hbx
    refine hK.out _ _ ?_ (fun hld => ?_)
    ·exact HSc.out _ _ H3.out.1
    clear hK K
    try simp only [Act.put, Rg.s]
    refine Rg.rd (i := 12) rfl fun K hK => ?_
    refine Rg.meetStore (by rfl) h11 76 (bodyA E p lv) ⟨_, _, rfl, rfl, rfl⟩ info_body rfl (bodyA_one _ _ _) ?_
    rintro y5 hn hu
    obtain ⟨hO4, hSc4, hF4⟩ := HFin.out M' _ y5 b11 H3.out.1 H3.out.2.1 H3.out.2.2 ge11 nf11 hu
    have HO4 := hid hO4
    have HF4 := hid hF4
    have c1 : (y5).cell? ⟨b11, 1, none⟩ = some (.pointer p) := own_cell (j := 1) hn rfl
    have c2 : (y5).cell? ⟨b11, 2, none⟩ = some (.int .i64 lv) := own_cell (j := 2) hn rfl
    clear hn hu h11 hO4 hF4 H3 ge11 nf11
    refine hK.out _ _ ?_ (fun hld => ?_)
    ·exact hSc4
    clear hK K hSc4
    try simp only [Act.put]
    refine Rg.tk (i := 13) rfl ?_
    try simp only [Act.put, Rg.s]
    refine wpAnyH_done (by kernel_rfl) ?_ _
    refine NoPanic.normal ?_
    go_wp2_with (first
     | (refine Rg.run rfl _ _ (op_load_tree (off := 1) c1 ⟨_, rfl, rfl⟩) ?_)
     | (refine wpl_store_tree HO4.out (by decide) p rfl _ _ rfl rfl rfl ?_; intro w9 hO9 hu9; have HO9 : Hid (Rg.Own w9 (w.heap.size + 1) #[.pointer p] 26) := hid hO9; have HF9 := hid (HF4.out w9 hu9); clear hO9 hu9))
    exact bodyPost_ret (res_tree1 (q := 4) (u := 5) rfl _ rfl HO9.out) rfl ⟨p, M', rfl, HTp.out, HF9.out⟩
   ·refine Rg.meetAlloc (by rfl) (run_alloc_body _ _ _ _ rfl rfl) ?_
    rintro y3 b11 he11 h11 hbx
    have ge11 : w1.heap.size ≤ b11 := by rw [he11]; exact HB.out.size
    have ne11 : b11 ≠ bS := by have := HSh.out.lt; omega
    replace HSh := hid (HSh.out.below hbx HSh.out.lt)
    replace HB := hid (bst HB.out hbx)
    clear he11 hbx
    refine hK.out _ _ ?_ (fun hld => ?_)
    ·exact HSc.out _ M (Fr.below M HB.out)
    clear hK K
    try simp only [Act.put, Rg.s]
    refine Rg.rd (i := 7) rfl fun K hK => ?_
    go_simp
    go_at_call 48
    (with_reducible refine (HRd.out _ bS D HB.out hbS HSh.out).mono ?_)
    rintro e y4 ⟨p, M', rfl, ht, f3, i3, t3, kp⟩
    obtain ⟨k1, _, k3⟩ := kp b11 h11.1 (HM.out b11 ge11).1 ne11
    have nf11 : ¬ M'.ft b11 := k3 (HM.out b11 ge11).2 (no_byte h11 (body_no _ _ _))
    replace h11 : Rg.Own y4 b11 (bodyA eB none 0) 76 := ⟨(Array.getElem?_eq_some_iff.1 (k1.trans h11.2)).1, k1.trans h11.2⟩
    clear k1 k3
    have HTp := hid ht
    have H3 : Hid (Fr M M' w1 y4 ∧ Inv M' y4 ∧ Tab y4) := hid ⟨f3, i3, t3⟩
    clear ht f3 i3 t3 kp HB HSh hbS
    refine hK.out _ _ ?_ (fun hld => ?_)
    ·exact HSc.out _ _ H3.out.1
    clear hK K
    try simp only [Act.put, Rg.s]
    refine Rg.tk (i := 8) rfl ?_
    try simp only [Act.put, Rg.s]
    refine Rg.tk (i := 9) rfl ?_
    try simp only [Act.put, Rg.s]
    refine Rg.tk (i := 10) rfl ?_
    try simp only [Act.put, Rg.s]
    refine Rg.rd (i := 12) rfl fun K hK => ?_
    refine Rg.meetStore (by rfl) h11 76 (bodyA E p lv) ⟨_, _, rfl, rfl, rfl⟩ info_body rfl (bodyA_one _ _ _) ?_
    rintro y5 hn hu
    obtain ⟨hO4, hSc4, hF4⟩ := HFin.out M' _ y5 b11 H3.out.1 H3.out.2.1 H3.out.2.2 ge11 nf11 hu
    have HO4 := hid hO4
    have HF4 := hid hF4
    have c1 : (y5).cell? ⟨b11, 1, none⟩ = some (.pointer p) := own_cell (j := 1) hn rfl
    have c2 : (y5).cell? ⟨b11, 2, none⟩ = some (.int .i64 lv) := own_cell (j := 2) hn rfl
    clear hn hu h11 hO4 hF4 H3 ge11 nf11
    refine hK.out _ _ ?_ (fun hld => ?_)
    ·exact hSc4
    clear hK K hSc4
    try simp only [Act.put]
    refine Rg.tk (i := 13) rfl ?_
    try simp only [Act.put, Rg.s]
    refine wpAnyH_done (by kernel_rfl) ?_ _
    refine NoPanic.normal ?_
    go_wp2_with (first
     | (refine Rg.run rfl _ _ (op_load_tree (off := 1) c1 ⟨_, rfl, rfl⟩) ?_)
     | (refine wpl_store_tree HO4.out (by decide) p rfl _ _ rfl rfl rfl ?_; intro w9 hO9 hu9; have HO9 : Hid (Rg.Own w9 (w.heap.size + 1) #[.pointer p] 26) := hid hO9; have HF9 := hid (HF4.out w9 hu9); clear hO9 hu9))
    exact bodyPost_ret (res_tree1 (q := 4) (u := 5) rfl _ rfl HO9.out) rfl ⟨p, M', rfl, HTp.out, HF9.out⟩
  ·refine Rg.meetAlloc (by rfl) (run_alloc_body _ _ _ _ rfl rfl) ?_
   rintro y2 b11 he11 h11 hbx
   have ge11 : w1.heap.size ≤ b11 := by rw [he11]; exact HB.out.size
   have ne11 : b11 ≠ bS := by have := HSh.out.lt; omega
   replace HSh := hid (HSh.out.below hbx HSh.out.lt)
   replace HB := hid (bst HB.out hbx)
   clear he11 hbx
   refine hK.out _ _ ?_ (fun hld => ?_)
   ·exact HSc.out _ M (Fr.below M HB.out)
   clear hK K
   try simp only [Act.put, Rg.s]
   refine Rg.rd (i := 6) rfl fun K hK => ?_
   go_simp
   go_at_call 49
   (with_reducible refine (HOf.out _ HB.out).mono ?_)
   rintro e y3 ⟨rfl, hbx⟩
   replace h11 := h11.below hbx
   replace HSh := hid (HSh.out.below hbx HSh.out.lt)
   replace HB := hid (bst HB.out hbx)
   clear hbx
   refine hK.out _ _ ?_ (fun hld => ?_)
   ·exact HSc.out _ M (Fr.below M HB.out)
   clear hK K
   try simp only [Act.put, Rg.s]
   refine Rg.rd (i := 7) rfl fun K hK => ?_
   go_simp
   go_at_call 48
   (with_reducible refine (HRd.out _ bS D HB.out hbS HSh.out).mono ?_)
   rintro e y4 ⟨p, M', rfl, ht, f3, i3, t3, kp⟩
   obtain ⟨k1, _, k3⟩ := kp b11 h11.1 (HM.out b11 ge11).1 ne11
   have nf11 : ¬ M'.ft b11 := k3 (HM.out b11 ge11).2 (no_byte h11 (body_no _ _ _))
   replace h11 : Rg.Own y4 b11 (bodyA eB none 0) 76 := ⟨(Array.getElem?_eq_some_iff.1 (k1.trans h11.2)).1, k1.trans h11.2⟩
   clear k1 k3
   have HTp := hid ht
   have H3 : Hid (Fr M M' w1 y4 ∧ Inv M' y4 ∧ Tab y4) := hid ⟨f3, i3, t3⟩
   clear ht f3 i3 t3 kp HB HSh hbS
   refine hK.out _ _ ?_ (fun hld => ?_)
   ·exact HSc.out _ _ H3.out.1
   clear hK K
   try simp only [Act.put, Rg.s]
   refine Rg.tk (i := 8) rfl ?_
   try simp only [Act.put, Rg.s]
   refine Rg.tk (i := 9) rfl ?_
   try simp only [Act.put, Rg.s]
   refine Rg.tk (i := 10) rfl ?_
   try simp only [Act.put, Rg.s]
   refine Rg.rd (i := 12) rfl fun K hK => ?_
   refine Rg.meetStore (by rfl) h11 76 (bodyA E p lv) ⟨_, _, rfl, rfl, rfl⟩ info_body rfl (bodyA_one _ _ _) ?_
   rintro y5 hn hu
   obtain ⟨hO4, hSc4, hF4⟩ := HFin.out M' _ y5 b11 H3.out.1 H3.out.2.1 H3.out.2.2 ge11 nf11 hu
   have HO4 := hid hO4
   have HF4 := hid hF4
   have c1 : (y5).cell? ⟨b11, 1, none⟩ = some (.pointer p) := own_cell (j := 1) hn rfl
   have c2 : (y5).cell? ⟨b11, 2, none⟩ = some (.int .i64 lv) := own_cell (j := 2) hn rfl
   clear hn hu h11 hO4 hF4 H3 ge11 nf11
   refine hK.out _ _ ?_ (fun hld => ?_)
   ·exact hSc4
   clear hK K hSc4
   try simp only [Act.put]
   refine Rg.tk (i := 13) rfl ?_
   try simp only [Act.put, Rg.s]
   refine wpAnyH_done (by kernel_rfl) ?_ _
   refine NoPanic.normal ?_
   go_wp2_with (first
    | (refine Rg.run rfl _ _ (op_load_tree (off := 1) c1 ⟨_, rfl, rfl⟩) ?_)
    | (refine wpl_store_tree HO4.out (by decide) p rfl _ _ rfl rfl rfl ?_; intro w9 hO9 hu9; have HO9 : Hid (Rg.Own w9 (w.heap.size + 1) #[.pointer p] 26) := hid hO9; have HF9 := hid (HF4.out w9 hu9); clear hO9 hu9))
   exact bodyPost_ret (res_tree1 (q := 4) (u := 5) rfl _ rfl HO9.out) rfl ⟨p, M', rfl, HTp.out, HF9.out⟩
 ·refine Rg.meetAlloc (by rfl) (run_alloc_body _ _ _ _ rfl rfl) ?_
  rintro y1 b11 he11 h11 hbx
  have ge11 : w1.heap.size ≤ b11 := by rw [he11]; exact HB.out.size
  replace HB := hid (bst HB.out hbx)
  clear he11 hbx
  refine hK.out _ _ ?_ (fun hld => ?_)
  ·exact HSc.out _ M (Fr.below M HB.out)
  clear hK K
  try simp only [Act.put, Rg.s]
  refine Rg.rd (i := 1) rfl fun K hK => ?_
  go_simp
  go_at_call 47
  (with_reducible refine (HShv.out _ HB.out).mono ?_)
  rintro e y2 ⟨rfl, ⟨D, hs⟩, hbx⟩
  obtain ⟨bS, hbS0⟩ : ∃ bS, (y1).heap.size = bS := ⟨_, rfl⟩
  have hbS : w1.heap.size ≤ bS := by rw [← hbS0]; exact HB.out.size
  have ne11 : b11 ≠ bS := by have := h11.1; omega
  replace h11 := h11.below hbx
  replace HB := hid (bst HB.out hbx)
  first | rw [hbS0] at hs ⊢ | (simp only [World.heap_drew] at hbS0; rw [hbS0] at hs ⊢)
  have HSh := hid hs
  clear hs hbx hbS0
  refine hK.out _ _ ?_ (fun hld => ?_)
  ·exact HSc.out _ M (Fr.below M HB.out)
  clear hK K
  try simp only [Act.put, Rg.s]
  refine Rg.rd (i := 6) rfl fun K hK => ?_
  go_simp
  go_at_call 49
  (with_reducible refine (HOf.out _ HB.out).mono ?_)
  rintro e y3 ⟨rfl, hbx⟩
  replace h11 := h11.below hbx
  replace HSh := hid (HSh.out.below hbx HSh.out.lt)
  replace HB := hid (bst HB.out hbx)
  clear hbx
  refine hK.out _ _ ?_ (fun hld => ?_)
  ·exact HSc.out _ M (Fr.below M HB.out)
  clear hK K
  try simp only [Act.put, Rg.s]
  refine Rg.rd (i := 7) rfl fun K hK => ?_
  go_simp
  go_at_call 48
  (with_reducible refine (HRd.out _ bS D HB.out hbS HSh.out).mono ?_)
  rintro e y4 ⟨p, M', rfl, ht, f3, i3, t3, kp⟩
  obtain ⟨k1, _, k3⟩ := kp b11 h11.1 (HM.out b11 ge11).1 ne11
  have nf11 : ¬ M'.ft b11 := k3 (HM.out b11 ge11).2 (no_byte h11 (body_no _ _ _))
  replace h11 : Rg.Own y4 b11 (bodyA eB none 0) 76 := ⟨(Array.getElem?_eq_some_iff.1 (k1.trans h11.2)).1, k1.trans h11.2⟩
  clear k1 k3
  have HTp := hid ht
  have H3 : Hid (Fr M M' w1 y4 ∧ Inv M' y4 ∧ Tab y4) := hid ⟨f3, i3, t3⟩
  clear ht f3 i3 t3 kp HB HSh hbS
  refine hK.out _ _ ?_ (fun hld => ?_)
  ·exact HSc.out _ _ H3.out.1
  clear hK K
  try simp only [Act.put, Rg.s]
  refine Rg.tk (i := 8) rfl ?_
  try simp only [Act.put, Rg.s]
  refine Rg.tk (i := 9) rfl ?_
  try simp only [Act.put, Rg.s]
  refine Rg.tk (i := 10) rfl ?_
  try simp only [Act.put, Rg.s]
  refine Rg.rd (i := 12) rfl fun K hK => ?_
  refine Rg.meetStore (by rfl) h11 76 (bodyA E p lv) ⟨_, _, rfl, rfl, rfl⟩ info_body rfl (bodyA_one _ _ _) ?_
  rintro y5 hn hu
  obtain ⟨hO4, hSc4, hF4⟩ := HFin.out M' _ y5 b11 H3.out.1 H3.out.2.1 H3.out.2.2 ge11 nf11 hu
  have HO4 := hid hO4
  have HF4 := hid hF4
  have c1 : (y5).cell? ⟨b11, 1, none⟩ = some (.pointer p) := own_cell (j := 1) hn rfl
  have c2 : (y5).cell? ⟨b11, 2, none⟩ = some (.int .i64 lv) := own_cell (j := 2) hn rfl
  clear hn hu h11 hO4 hF4 H3 ge11 nf11
  refine hK.out _ _ ?_ (fun hld => ?_)
  ·exact hSc4
  clear hK K hSc4
  try simp only [Act.put]
  refine Rg.tk (i := 13) rfl ?_
  try simp only [Act.put, Rg.s]
  refine wpAnyH_done (by kernel_rfl) ?_ _
  refine NoPanic.normal ?_
  go_wp2_with (first
   | (refine Rg.run rfl _ _ (op_load_tree (off := 1) c1 ⟨_, rfl, rfl⟩) ?_)
   | (refine wpl_store_tree HO4.out (by decide) p rfl _ _ rfl rfl rfl ?_; intro w9 hO9 hu9; have HO9 : Hid (Rg.Own w9 (w.heap.size + 1) #[.pointer p] 26) := hid hO9; have HF9 := hid (HF4.out w9 hu9); clear hO9 hu9))
  exact bodyPost_ret (res_tree1 (q := 4) (u := 5) rfl _ rfl HO9.out) rfl ⟨p, M', rfl, HTp.out, HF9.out⟩
end Tm
end
end Go.Proofs.YtooklabipgmolaaGreatDoor
