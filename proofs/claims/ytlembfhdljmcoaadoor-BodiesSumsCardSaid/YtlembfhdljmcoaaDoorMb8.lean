/-
  Layer 12: BodiesDo's walk, of any store.
-/
import Derived.Test.YtlembfhdljmcoaaDoorMb7
set_option linter.unusedSimpArgs false
set_option linter.unusedVariables false
namespace Go.Proofs.YtlembfhdljmcoaaDoor
set_option maxRecDepth 20000
open Go.RowKit

namespace Bd
open Rf Sm
set_option maxHeartbeats 16000000 in
theorem do_walk {Obj : ObjT} (S : Store Obj) (L : List Rw) (a : Option Addr) (n c : Nat) (ask : ByteArray) (w : World) (hT : Tab w) (h : IsRw w a n c L) (hwf : ∀ j, j < n → (Lit.int .i64 (L.getD j rw0).n).wf = true) :
    Calls Tryd.prog 3 #[.slice a n c, .string ask] w fun e w' => e = .returned (.bool true) ∧ Below w.heap.size w w' := by
  have hm := h.2.1
  have hnc := h.1
  unfold maxLen at hm
  have H := Lib.hid h
  have HT := Lib.hid hT
  have HN := Lib.hid (S.new w)
  have HS := Lib.hid S
  have hz := hT.pos
  have HTb : Hid (∀ w', Below w.heap.size w w' → Tab w') := Lib.hid fun w' hb => hT.below hb hz
  have HWf := Lib.hid hwf
  clear h hT S hz hwf
  go_enter Tryd.func3, Tryd.ntmps3
  go_wp2_with fail
  refine HN.out.mono ?_
  rintro e w1 ⟨bb, K1, rfl, hO, hb1, hK⟩
  have HK0 : Hid (Keeps Obj (some ⟨bb, 0, none⟩) w [] [] none K1 none 0 w1) := Lib.hid ⟨IsRw.nil w1, hO, hK, fun _ _ e => (by cases e), HTb.out w1 hb1, hb1⟩
  have HA1 := Lib.hid (awake_any HS.out w1 (HTb.out w1 hb1))
  have HB1 := Lib.hid hb1
  clear hO hb1 hK HN
  by_cases ha : ask.size > 100
  · have a1 : decide (((ask.size : Nat) : Int) > 100) = true := decide_eq_true (by omega)
    have a2 : decide ((100 : Int) < ((ask.size : Nat) : Int)) = true := decide_eq_true (by omega)
    have a3 : decide (100 < ask.size) = true := decide_eq_true ha
    go_wp2_with fail
    refine HA1.out.mono ?_
    rintro e w2 ⟨rfl, hb2⟩
    have HB2 := Lib.hid (below_step' HB1.out hb2)
    clear hb2
    go_wp2_with fail
    go_ret
    exact ⟨rfl, HB2.out⟩
  · have a1 : decide (((ask.size : Nat) : Int) > 100) = false := decide_eq_false (by omega)
    have a2 : decide ((100 : Int) < ((ask.size : Nat) : Int)) = false := decide_eq_false (by omega)
    have a3 : decide (100 < ask.size) = false := decide_eq_false ha
    have ha : ask.size ≤ 100 := by omega
    go_wp2_with fail
    refine HA1.out.mono ?_
    rintro e w2 ⟨rfl, hb2⟩
    have HKs := Lib.hid (HK0.out.below HS.out hb2)
    clear hb2 HK0 HA1 HB1
    go_wp2_with fail
    go_loopw [6, 7] (fun v i wr => ∃ (j : Nat) (wl : List Rw) (tw : Option (ByteArray × ByteArray)) (K : Nat → Prop) (wa : Option Addr) (wc : Nat), j ≤ n ∧ j ≤ 40 ∧ i = .int .i64 j ∧ v = .slice wa wl.length wc ∧ Hid (Keeps Obj (some ⟨bb, 0, none⟩) w wl wl tw K wa wc wr) ∧ Hid (Fine j wl)) (fun _ i _ => n - (intOf i).toNat)
    case atStart => exact ⟨0, [], none, K1, none, 0, Nat.zero_le _, Nat.zero_le _, rfl, rfl, HKs, Lib.hid Fine.nil⟩
    case round =>
      clear HKs
      obtain ⟨j, wl, tw, K, wa, wc, hj, hj40, rfl, rfl, HKp, HF⟩ := hrel
      by_cases hlt : j < n
      · by_cases h40 : j < 40
        · obtain ⟨b, off, rfl, hblt, c0, c1, c2⟩ := (H.out.below HKp.out.bel).at' j hlt
          have j1 : decide ((j : Int) < 40) = true := decide_eq_true (by omega)
          have j2 : decide (j < 40) = true := decide_eq_true h40
          obtain ⟨x, hx⟩ : ∃ x, L.getD j rw0 = x := ⟨_, rfl⟩
          have HW := Lib.hid (HWf.out j hlt)
          rw [hx] at c0 c1 c2 HW
          have H0 := Lib.hid c0
          have H1 := Lib.hid c1
          have H2 := Lib.hid c2
          have HOz := Lib.hid (Rg.Own.new wr (rwA rw0) 28)
          have HBz : Hid (Below wr.heap.size wr (wr.alloc (.cells (rwA rw0) 28))) := Lib.hid (al1 _ _)
          have HKg : Hid (¬ K wr.heap.size) := Lib.hid fun hk => by have := HS.out.lt HKp.out.obj _ hk; omega
          clear c0 c1 c2 hx
          have hwl40 := HF.out.len
          have wm1 := HKp.out.rows.1
          have wm2 := HKp.out.rows.2.1
          unfold maxLen at wm2
          by_cases h200 : x.s.size > 200
          · have s1 : decide (((x.s.size : Nat) : Int) > 200) = true := decide_eq_true (by omega)
            have s2 : decide ((200 : Int) < ((x.s.size : Nat) : Int)) = true := decide_eq_true (by omega)
            have s3 : decide (200 < x.s.size) = true := decide_eq_true h200
            go_wp2_with (first
              | (refine Rg.run rfl _ _ (op_load_ac (x := x) H0.out H1.out H2.out ⟨_, rfl, rfl⟩) ?_)
              | (refine Rg.run rfl _ _ (run_alloc_ac _ _ _ wr.heap.size rfl rfl) ?_)
              | (refine wpl_store_ac HOz.out x rfl _ _ rfl rfl rfl rfl ?_; intro w2 hO2 hU2; have hb2 := hU2.below HBz.out (Nat.le_refl _); have HX2 : Hid (Box w2 wr.heap.size x) := Lib.hid ⟨hO2⟩; have HK2 := Lib.hid (HKp.out.below HS.out hb2); have d0 : w2.cell? ⟨wr.heap.size, 0, none⟩ = some (.int .i64 x.e) := (by have := HX2.out.c0; skip; exact this); have d1 := HX2.out.c1; have d2 := HX2.out.c2; clear hO2 hU2 hb2))
            go_ret
            exact ⟨rfl, HK2.out.bel⟩
          · have s1 : decide (((x.s.size : Nat) : Int) > 200) = false := decide_eq_false (by omega)
            have s2 : decide ((200 : Int) < ((x.s.size : Nat) : Int)) = false := decide_eq_false (by omega)
            have s3 : decide (200 < x.s.size) = false := decide_eq_false h200
            by_cases k2 : x.e = 2
            · go_wp2_with (first
                | (refine Rg.run rfl _ _ (op_load_ac (x := x) H0.out H1.out H2.out ⟨_, rfl, rfl⟩) ?_)
                | (refine Rg.run rfl _ _ (run_alloc_ac _ _ _ wr.heap.size rfl rfl) ?_)
                | (refine wpl_store_ac HOz.out x rfl _ _ rfl rfl rfl rfl ?_; intro w2 hO2 hU2; have hb2 := hU2.below HBz.out (Nat.le_refl _); have HX2 : Hid (Box w2 wr.heap.size x) := Lib.hid ⟨hO2⟩; have HK2 := Lib.hid (HKp.out.below HS.out hb2); have d0 : w2.cell? ⟨wr.heap.size, 0, none⟩ = some (.int .i64 2) := (by have := HX2.out.c0; rw [k2] at this; exact this); have d1 := HX2.out.c1; have d2 := HX2.out.c2; clear hO2 hU2 hb2))
              have HFi := Lib.hid (rfind_any wl wa wl.length wc x.n x.s w2 HK2.out.rows)
              refine HFi.out.mono ?_
              rintro e w3 ⟨rfl, rfl⟩
              have HFr := Lib.hid (HS.out.free x.n x.s HW.out HK2.out.obj HK2.out.tab (HF.out.mono (by omega)) (by omega))
              clear HFi
              have hol : (if findR wl x.n x.s < 0 then wl else freeR wl x.n x.s) = freeR wl x.n x.s := by
                by_cases g : findR wl x.n x.s < 0
                · rw [if_pos g, free_none HF.out.ok g]
                · rw [if_neg g]
              obtain ⟨fr, hfr⟩ : ∃ fr, findR wl x.n x.s = fr := ⟨_, rfl⟩
              rw [hfr] at HFr hol
              rw [hol] at HFr
              rw [hfr]
              clear hfr hol
              go_wp2_with fail
              refine HFr.out.mono ?_
              rintro e w3 ⟨K3, rfl, hO3, hf3⟩
              have HK3 := Lib.hid (HK2.out.turn HT.out hO3 hf3)
              have HX3 := Lib.hid (HX2.out.frk hf3 HKg.out)
              have HFe := Lib.hid (rfree_any wl wa wl.length wc x.n x.s w3 HK3.out.rows (by have := HF.out.len; omega) (HF.out.n (by omega)))
              clear hO3 hf3 HFr HK2 HX2 d0 d1 d2
              have f1 := HX3.out.c1
              have f2 := HX3.out.c2
              by_cases g : fr < 0
              · have g1 : decide (fr < 0) = true := decide_eq_true g
                have g2 : decide (fr ≥ 0) = false := decide_eq_false (by omega)
                have g3 : decide (0 ≤ fr) = false := decide_eq_false (by omega)
                rw [if_pos g]
                go_wp2_with fail
                refine HFe.out.mono ?_
                rintro e w4 ⟨a4, c4, rfl, hI4, hb4, hn4⟩
                have HK4 := Lib.hid (HK3.out.swap HS.out hI4 hb4 hn4)
                have HSm := Lib.hid (HK4.out.same HS.out (HF.out.free x.n x.s) (by omega) ask ha)
                clear hI4 hb4 hn4 HFe f1 f2 HX3 HK3
                go_wp2_with fail
                refine HSm.out.mono ?_
                rintro e w5 ⟨rfl, hb5⟩
                have HK5 := Lib.hid (HK4.out.below HS.out hb5)
                clear hb5 HSm HK4
                go_wp2_with fail
                go_roundw
                case rel => exact ⟨j + 1, _, tw, K3, a4, c4, by omega, by omega, by go_num, rfl, HK5, Lib.hid ((HF.out.free x.n x.s).mono (by omega))⟩
                case measure => simp [intOf]; omega
              · have g1 : decide (fr < 0) = false := decide_eq_false g
                have g2 : decide (fr ≥ 0) = true := decide_eq_true (by omega)
                have g3 : decide (0 ≤ fr) = true := decide_eq_true (by omega)
                have g4 : 0 ≤ fr := by omega
                rw [if_neg g]
                go_wp2_with fail
                refine HFe.out.mono ?_
                rintro e w4 ⟨a4, c4, rfl, hI4, hb4, hn4⟩
                have HK4 := Lib.hid (HK3.out.swap HS.out hI4 hb4 hn4)
                have HSm := Lib.hid (HK4.out.same HS.out (HF.out.free x.n x.s) (by omega) ask ha)
                clear hI4 hb4 hn4 HFe f1 f2 HX3 HK3
                go_wp2_with fail
                refine HSm.out.mono ?_
                rintro e w5 ⟨rfl, hb5⟩
                have HK5 := Lib.hid (HK4.out.below HS.out hb5)
                clear hb5 HSm HK4
                go_wp2_with fail
                go_roundw
                case rel => exact ⟨j + 1, _, tw, K3, a4, c4, by omega, by omega, by go_num, rfl, HK5, Lib.hid ((HF.out.free x.n x.s).mono (by omega))⟩
                case measure => simp [intOf]; omega
            · by_cases k3 : x.e = 3
              · go_wp2_with (first
                  | (refine Rg.run rfl _ _ (op_load_ac (x := x) H0.out H1.out H2.out ⟨_, rfl, rfl⟩) ?_)
                  | (refine Rg.run rfl _ _ (run_alloc_ac _ _ _ wr.heap.size rfl rfl) ?_)
                  | (refine wpl_store_ac HOz.out x rfl _ _ rfl rfl rfl rfl ?_; intro w2 hO2 hU2; have hb2 := hU2.below HBz.out (Nat.le_refl _); have HX2 : Hid (Box w2 wr.heap.size x) := Lib.hid ⟨hO2⟩; have HK2 := Lib.hid (HKp.out.below HS.out hb2); have d0 : w2.cell? ⟨wr.heap.size, 0, none⟩ = some (.int .i64 3) := (by have := HX2.out.c0; rw [k3] at this; exact this); have d1 := HX2.out.c1; have d2 := HX2.out.c2; clear hO2 hU2 hb2))
                have HDp := Lib.hid (rdrop_any wl wa wl.length wc x.n w2 HK2.out.rows (by have := HF.out.len; omega))
                refine HDp.out.mono ?_
                rintro e w3 ⟨a3, c3, rfl, hI3, hb3, hn3⟩
                have HKa := Lib.hid (HK2.out.below HS.out hb3)
                have HKb := Lib.hid (HK2.out.swap HS.out hI3 hb3 hn3)
                have HX3 := Lib.hid (HX2.out.below hb3)
                have HDo := Lib.hid (HS.out.drop x.n HW.out HKa.out.obj HKa.out.tab (HF.out.mono (by omega)))
                have f1 := HX3.out.c1
                clear hI3 hb3 hn3 HDp HK2 HX2 d0 d1 d2
                go_wp2_with fail
                refine HDo.out.mono ?_
                rintro e w4 ⟨K4, rfl, hO4, hf4⟩
                have HKc := Lib.hid (HKa.out.turn HT.out hO4 hf4)
                have HKd := Lib.hid (HKb.out.turn HT.out hO4 hf4)
                have HTa := Lib.hid (rtexts_any wl wa wl.length wc w4 HKc.out.rows (by have := HF.out.len; omega))
                have hl1 : (textsR wl).length ≤ 40 := by
                  have := texts_len wl wl.length (Nat.le_refl _)
                  rw [List.take_of_length_le (Nat.le_refl _)] at this
                  have := HF.out.len
                  omega
                have hl2 : (textsR (dropR wl x.n)).length ≤ 40 := by
                  have h1 := texts_len (dropR wl x.n) (dropR wl x.n).length (Nat.le_refl _)
                  rw [List.take_of_length_le (Nat.le_refl _)] at h1
                  have := HF.out.len
                  have := drop_len wl x.n
                  omega
                have HTd : Hid (∀ w', Below w4.heap.size w4 w' → Calls Tryd.prog 12 #[.slice a3 (dropR wl x.n).length c3] w' (GotTx w' (textsR (dropR wl x.n)))) := Lib.hid fun w' hb => rtexts_any (dropR wl x.n) a3 _ c3 w' (HKd.out.rows.below hb) (by have := HF.out.len; have := drop_len wl x.n; omega)
                obtain ⟨T1, hT1⟩ : ∃ T1, textsR wl = T1 := ⟨_, rfl⟩
                obtain ⟨T2, hT2⟩ : ∃ T2, textsR (dropR wl x.n) = T2 := ⟨_, rfl⟩
                rw [hT1] at HTa hl1
                rw [hT2] at HTd hl2
                rw [hT1, hT2]
                clear hT1 hT2 hO4 hf4 HDo HKa HKb HX3 f1
                have hw1 : IntKind.i64.wrap ((T1.length : Int) - (T2.length : Int)) = (T1.length : Int) - (T2.length : Int) := by simp only [IntKind.wrap_i64, wrap64]; omega
                go_wp2_with fail
                refine HTa.out.mono ?_
                rintro e w5 ⟨a5, c5, rfl, _, hb5⟩
                have HB5 := Lib.hid hb5
                have HTe := Lib.hid (HTd.out w5 hb5)
                clear hb5 HTa HTd
                go_wp2_with fail
                refine HTe.out.mono ?_
                rintro e w6 ⟨a6, c6, rfl, _, hb6⟩
                have HKe := Lib.hid (HKd.out.below HS.out (below_step' HB5.out hb6))
                have HSm := Lib.hid (HKe.out.same HS.out (HF.out.drop x.n) (by omega) ask ha)
                clear hb6 HTe HB5 HKc HKd
                go_wp2_with fail
                refine HSm.out.mono ?_
                rintro e w7 ⟨rfl, hb7⟩
                have HK7 := Lib.hid (HKe.out.below HS.out hb7)
                clear hb7 HSm HKe
                go_wp2_with fail
                go_roundw
                case rel => exact ⟨j + 1, _, tw, K4, a3, c3, by omega, by omega, by go_num, rfl, HK7, Lib.hid ((HF.out.drop x.n).mono (by omega))⟩
                case measure => simp [intOf]; omega
              · have q1 : (x.e == 2) = false := by simpa using k2
                have q2 : decide (x.e = 2) = false := decide_eq_false k2
                have q3 : (x.e == 3) = false := by simpa using k3
                have q4 : decide (x.e = 3) = false := decide_eq_false k3
                go_wp2_with (first
                  | (refine Rg.run rfl _ _ (op_load_ac (x := x) H0.out H1.out H2.out ⟨_, rfl, rfl⟩) ?_)
                  | (refine Rg.run rfl _ _ (run_alloc_ac _ _ _ wr.heap.size rfl rfl) ?_)
                  | (refine wpl_store_ac HOz.out x rfl _ _ rfl rfl rfl rfl ?_; intro w2 hO2 hU2; have hb2 := hU2.below HBz.out (Nat.le_refl _); have HX2 : Hid (Box w2 wr.heap.size x) := Lib.hid ⟨hO2⟩; have HK2 := Lib.hid (HKp.out.below HS.out hb2); have d0 : w2.cell? ⟨wr.heap.size, 0, none⟩ = some (.int .i64 x.e) := (by have := HX2.out.c0; skip; exact this); have d1 := HX2.out.c1; have d2 := HX2.out.c2; clear hO2 hU2 hb2))
                have HPt := Lib.hid (HS.out.put x.n x.s HK2.out.obj HK2.out.tab (HF.out.mono (by omega)) (by omega))
                refine HPt.out.mono ?_
                rintro e w3 ⟨en, l', tw', K3, rfl, hp, hO3, hf3⟩
                have HK3 := Lib.hid (HK2.out.turn HT.out hO3 hf3)
                have HX3 := Lib.hid (HX2.out.frk hf3 HKg.out)
                clear hO3 hf3 HPt HK2 HX2 d0 d1 d2
                have f1 := HX3.out.c1
                have f2 := HX3.out.c2
                rcases hp with ⟨g, rfl, rfl, rfl⟩ | ⟨g, g2, rfl, rfl, rfl⟩ | ⟨g, g2, rfl, rfl, xx, hxx, hne, hsm, rfl⟩ | ⟨g, g2, g3, rfl, rfl, rfl⟩
                · by_cases gn : x.n < 0
                  · have n1 : decide (x.n < 0) = true := decide_eq_true gn
                    obtain ⟨ep, hep⟩ : ∃ ep, x.n = ep := ⟨_, rfl⟩
                    rw [hep] at f1 n1 gn
                    clear g hep
                    go_wp2_with fail
                    go_roundw
                    case rel => exact ⟨j + 1, _, _, K3, wa, wc, by omega, by omega, by go_num, rfl, HK3, Lib.hid (HF.out.mono (by omega))⟩
                    case measure => simp [intOf]; omega
                  · have n1 : decide (x.n < 0) = false := decide_eq_false gn
                    have n2 : decide (x.n > 1048576) = true := decide_eq_true (by omega)
                    have n3 : decide (1048576 < x.n) = true := decide_eq_true (by omega)
                    have n4 : 1048576 < x.n := by omega
                    obtain ⟨ep, hep⟩ : ∃ ep, x.n = ep := ⟨_, rfl⟩
                    rw [hep] at f1 n1 n2 n3 n4 gn
                    clear g hep
                    go_wp2_with fail
                    go_roundw
                    case rel => exact ⟨j + 1, _, _, K3, wa, wc, by omega, by omega, by go_num, rfl, HK3, Lib.hid (HF.out.mono (by omega))⟩
                    case measure => simp [intOf]; omega
                · have n1 : decide (x.n < 0) = false := decide_eq_false (by omega)
                  have n2 : decide (x.n > 1048576) = false := decide_eq_false (by omega)
                  have n3 : decide (1048576 < x.n) = false := decide_eq_false (by omega)
                  have m1 : decide (((x.s.size : Nat) : Int) < 32) = true := decide_eq_true (by omega)
                  have m2 : decide (x.s.size < 32) = true := decide_eq_true g2
                  obtain ⟨ep, hep⟩ : ∃ ep, x.n = ep := ⟨_, rfl⟩
                  rw [hep] at f1 n1 n2 n3 g
                  clear hep
                  obtain ⟨g5, g6⟩ := g
                  go_wp2_with fail
                  go_roundw
                  case rel => exact ⟨j + 1, _, _, K3, wa, wc, by omega, by omega, by go_num, rfl, HK3, Lib.hid (HF.out.mono (by omega))⟩
                  case measure => simp [intOf]; omega
                · have hxs : xx.size ≤ 200 := by
                    obtain ⟨r, hr, rfl⟩ := mem_texts.1 hxx
                    exact (HF.out.row r hr).2.2.1
                  have q1 : (xx.toList == x.s.toList) = false := by rw [str_eq, decide_eq_false hne]
                  have q2 : (x.s.toList != x.s.toList) = false := by simp
                  have hst : sumT xx = sumT x.s := by unfold sumT; rw [hsm]
                  have HTw := Lib.hid (HS.out.twin HK3.out.obj)
                  obtain ⟨s, hs⟩ : ∃ s, x.s = s := ⟨_, rfl⟩
                  have hsz : s.size ≤ 200 := by rw [← hs]; omega
                  rw [hs] at f2 q1 q2 hst HTw HK3
                  clear g g2 hxx hne hsm f1
                  go_wp2_with fail
                  refine HTw.out.mono ?_
                  rintro e w4 ⟨rfl, hb4⟩
                  have HK4 := Lib.hid (HK3.out.below HS.out hb4)
                  have HX4 := Lib.hid (HX3.out.below hb4)
                  have h2 := HX4.out.c2
                  rw [hs] at h2
                  have HOa := Lib.hid (rofT xx (by omega) w4)
                  clear hb4 HTw HX3 f2
                  unfold twinV
                  go_wp2_with fail
                  refine HOa.out.mono ?_
                  rintro e w5 ⟨rfl, hb5⟩
                  have HK5 := Lib.hid (HK4.out.below HS.out hb5)
                  have HOb := Lib.hid (rofT s (by omega) w5)
                  clear hb5 HOa HX4 h2 HK4
                  rw [hst]
                  have q3 : ((sumT s).toList != (sumT s).toList) = false := by simp
                  obtain ⟨ts, hts⟩ : ∃ ts, sumT s = ts := ⟨_, rfl⟩
                  rw [hts] at HOb q3 ⊢
                  clear hts hst
                  go_wp2_with fail
                  refine HOb.out.mono ?_
                  rintro e w6 ⟨rfl, hb6⟩
                  have HK6 := Lib.hid (HK5.out.below HS.out hb6)
                  clear hb6 HOb HK5
                  go_wp2_with fail
                  go_roundw
                  case rel => exact ⟨j + 1, _, _, K3, wa, wc, by omega, by omega, by go_num, rfl, HK6, Lib.hid (HF.out.mono (by omega))⟩
                  case measure => simp [intOf]; omega
                · have n1 : decide (x.n < 0) = false := decide_eq_false (by omega)
                  have n2 : decide (x.n > 1048576) = false := decide_eq_false (by omega)
                  have n3 : decide (1048576 < x.n) = false := decide_eq_false (by omega)
                  have m1 : decide (((x.s.size : Nat) : Int) < 32) = false := decide_eq_false (by omega)
                  have m2 : decide (x.s.size < 32) = false := decide_eq_false (by omega)
                  have HFp := Lib.hid (HF.out.put (e := x.n) g2 (by omega) g.1 g.2)
                  have HPu := Lib.hid (rput_any wl wa wl.length wc x.n x.s w3 HK3.out.rows (by have := HF.out.len; omega) (HF.out.n (by omega)))
                  obtain ⟨wl', hwl⟩ : ∃ wl', putR wl x.n x.s = wl' := ⟨_, rfl⟩
                  rw [hwl] at HK3 HFp HPu
                  obtain ⟨ep, hep⟩ : ∃ ep, x.n = ep := ⟨_, rfl⟩
                  rw [hep] at f1 n1 n2 n3 HPu g
                  clear hep hwl g3
                  obtain ⟨g5, g6⟩ := g
                  go_wp2_with fail
                  refine HPu.out.mono ?_
                  rintro e w4 ⟨a4, c4, rfl, hI4, hb4, hn4⟩
                  have HK4 := Lib.hid (HK3.out.swap HS.out hI4 hb4 hn4)
                  have HSm := Lib.hid (HK4.out.same HS.out HFp.out (by omega) ask ha)
                  clear hI4 hb4 hn4 HPu f1 f2 HX3 HK3
                  go_wp2_with fail
                  refine HSm.out.mono ?_
                  rintro e w5 ⟨rfl, hb5⟩
                  have HK5 := Lib.hid (HK4.out.below HS.out hb5)
                  clear hb5 HSm HK4
                  go_wp2_with fail
                  go_roundw
                  case rel => exact ⟨j + 1, _, _, K3, a4, c4, by omega, by omega, by go_num, rfl, HK5, HFp⟩
                  case measure => simp [intOf]; omega
        · obtain rfl : j = 40 := by omega
          have j1 : decide (((40 : Nat) : Int) < 40) = false := by decide
          go_wp2_with fail
          go_ret
          exact ⟨rfl, HKp.out.bel⟩
      · obtain rfl : j = n := by omega
        go_wp2_with fail
        go_ret
        exact ⟨rfl, HKp.out.bel⟩
end Bd
end Go.Proofs.YtlembfhdljmcoaaDoor
