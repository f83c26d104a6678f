/-
  WideCuts: any text of at most 300 bytes, cut in any steps (of which 60 are looked at): each cut answers what stands there, what is left is what it ought to be, and so is the error; of none there is nothing. (A longer text: the law asks what comes at any rate.)
-/
import Derived.Test.YtkhfbefaokefmaaAwake
import Derived.Test.YtkhfbefaokefmaaCutSt
import Derived.Test.YtkhfbefaokefmaaStrs
import Derived.ProofKit
import Derived.Deep.SlicePairs
import Derived.Deep.DeepCutAuto
import Derived.Deep.RegionWith
import Derived.Deep.QuietTactic
import Derived.BigQuiet
import Derived.OpenShut
import Derived.ShutString
import Derived.ChangeOld
import Derived.Below
namespace Go.Proofs.Ytkhfbefaokefmaa.wideCuts
open Go.ChangeShapes Go.WideShapes Go.ChangeAt Go.RowKit Go.Deep
open Go.ChangeMaps (open_string shut_string)
open WideP

theorem own : ownKnob Try.prog.godebug = none := by kernel_rfl
theorem laidOut : laidOutB Try.prog = true := by kernel_rfl

/-- a slice of steps that came in -/
def IsSteps (w : World) (a : Option Addr) (len cap : Nat) (K M : Nat → Int) : Prop :=
  len ≤ cap ∧ cap ≤ maxLen ∧ ∀ j, j < len → ∃ b off, a = some ⟨b, off, none⟩ ∧ b < w.heap.size ∧ w.cell? ⟨b, off + j * 2, none⟩ = some (.int .i64 (K j)) ∧ w.cell? ⟨b, off + j * 2 + 1, none⟩ = some (.int .i64 (M j)) ∧ (Lit.int .i64 (M j)).wf = true

/-- the cut behind some steps: at a place of the text, or failed -/
def St (c : Nat) (s : ByteArray) (i : Nat) (bad : Bool) (w : World) : Prop :=
  if bad then Cu.At c ByteArray.empty 5 w else Cu.At c (s.extract i s.size) 0 w

set_option maxRecDepth 100000 in
set_option maxHeartbeats 8000000 in
theorem walk (s : ByteArray) (a : Option Addr) (len cap : Nat) (K M : Nat → Int) (hs : s.size ≤ maxLen) (w : World) (hl : IsSteps w a len cap K M) :
    Calls Try.prog 4 #[.string s, .slice a len cap] w fun e w' => e = .returned (.bool true) ∧ Below w.heap.size w w' := by
  obtain ⟨hlc, hcm, hcell⟩ := hl
  unfold maxLen at hcm hs
  have HC := Lib.hid hcell
  clear hcell
  by_cases hbig : 300 < s.size
  · go_enter Try.func4, Try.ntmps4
    go_wp2_with fail
    refine (Aw.awake_any _).mono ?_
    rintro e w1 ⟨rfl, hb⟩
    go_wp2
    go_ret
    exact ⟨rfl, hb⟩
  have hs3 : s.size ≤ 300 := by omega
  clear hbig hs
  have HS0 : Hid (s.extract 0 s.size = s) := Lib.hid (by
    apply Cs.ba_ext
    rw [Lib.extract_data, List.drop_zero, Nat.sub_zero]
    exact List.take_of_length_le (by simp))
  go_enter Try.func4, Try.ntmps4
  go_wp2_with fail
  refine (Cu.on_any _ _).mono ?_
  rintro e w3 ⟨rfl, rfl⟩
  have hA : Cu.At w.heap.size s 0 (w.alloc (.cells #[.string s, .int .i64 0] 46)) := Tx.heap_new _ _
  have hw3 : Below w.heap.size w (w.alloc (.cells #[.string s, .int .i64 0] 46)) := (Below.refl _ _).alloc (Nat.le_refl _) _
  have hle : w.heap.size ≤ w.heap.size := Nat.le_refl _
  obtain ⟨cc, hcc⟩ : ∃ cc, w.heap.size = cc := ⟨_, rfl⟩
  obtain ⟨w3, hw⟩ : ∃ w3, w.alloc (.cells #[.string s, .int .i64 0] 46) = w3 := ⟨_, rfl⟩
  rw [hw] at hA hw3
  have hle : w.heap.size ≤ cc := by omega
  rw [hcc] at hA
  rw [hw]
  rw [show Value.pointer (some ⟨w.heap.size, 0, none⟩) = Value.pointer (some ⟨cc, 0, none⟩) by rw [hcc]]
  clear hw hcc
  go_wp2_with fail
  go_loopw [6, 7, 8] (fun vi vb vj wr => ∃ (i j : Nat) (bad : Bool), i ≤ s.size ∧ j ≤ len ∧ j ≤ 60 ∧ vi = .int .i64 i ∧ vb = .bool bad ∧ vj = .int .i64 j ∧ St cc s i bad wr ∧ Below w.heap.size w wr) (fun _ _ vj _ => 60 - (intOf vj).toNat)
  case atStart => exact ⟨0, 0, false, Nat.zero_le _, Nat.zero_le _, Nat.zero_le _, rfl, rfl, rfl, by unfold St; rw [HS0.out]; exact hA, hw3⟩
  case round =>
    obtain ⟨i, j, bad, hi, hj, hj60, rfl, rfl, rfl, hSt, hb⟩ := hrel
    clear hA hw3
    by_cases hlt : j < len ∧ j < 60
    · obtain ⟨hjl, hj6⟩ := hlt
      obtain ⟨b, off, rfl, hbs, hk0, hm0, hwf⟩ := HC.out j hjl
      have hkc : wr.cell? ⟨b, off + j * 2, none⟩ = some (.int .i64 (K j)) := by rw [hb.cell (p := ⟨b, off + j * 2, none⟩) hbs]; exact hk0
      have hmc : wr.cell? ⟨b, off + j * 2 + 1, none⟩ = some (.int .i64 (M j)) := by rw [hb.cell (p := ⟨b, off + j * 2 + 1, none⟩) hbs]; exact hm0
      obtain ⟨kk, hkk⟩ : ∃ kk, K j = kk := ⟨_, rfl⟩
      obtain ⟨mm, hmm⟩ : ∃ mm, M j = mm := ⟨_, rfl⟩
      rw [hkk] at hkc
      rw [hmm] at hmc hwf
      clear hk0 hm0 hkk hmm HC
      cases bad with
      | true =>
        have hA : Cu.At cc ByteArray.empty 5 wr := hSt
        clear hSt
        by_cases h0 : kk = 0
        · subst h0
          go_wp2_with fail
          go_quiet (fail)
          go_wp2_with fail
          refine (Cs.num_e cc _ mm (by exact hA)).mono ?_
          rintro e w5 ⟨rfl, hA5, hg5⟩
          have hb5 : Below w.heap.size w w5 := (below_drewN hb _).grown hg5 hb.size (fun k hk => by cases hk; exact hle)
          clear hg5
          go_wp2_with fail
          refine (Cs.rval_e _).mono ?_
          rintro e w4 ⟨rfl, rfl⟩
          go_upto_region 29 with fail
          go_quiet (first | (go_at_call 17; exact Calls.quiet_of_same (Cs.rest_q cc ⟨#[]⟩ _ 5 _ hA5)) | (go_at_call 18; exact Calls.quiet_of_same (Cs.err_q cc ⟨#[]⟩ _ 5 _ hA5)))
          go_wp2
          go_roundw
          case rel => exact ⟨i, j + 1, true, by omega, by omega, by omega, rfl, rfl, by go_num, hA5, below_drewN hb5 _⟩
          case measure => simp [intOf]; omega
        · by_cases h2 : kk = 2
          · subst h2
            go_wp2_with fail
            go_quiet (fail)
            go_wp2_with fail
            refine (Cs.rval_e _).mono ?_
            rintro e w4 ⟨rfl, rfl⟩
            go_wp2_with fail
            refine (Cs.text_e cc _ (by exact hA)).mono ?_
            rintro e w5 ⟨rfl, hA5, hg5⟩
            have hb5 : Below w.heap.size w w5 := (below_drewN hb _).grown hg5 hb.size (fun k hk => by cases hk; exact hle)
            clear hg5
            go_upto_region 29 with fail
            go_quiet (first | (go_at_call 17; exact Calls.quiet_of_same (Cs.rest_q cc ⟨#[]⟩ _ 5 _ hA5)) | (go_at_call 18; exact Calls.quiet_of_same (Cs.err_q cc ⟨#[]⟩ _ 5 _ hA5)))
            go_wp2
            go_roundw
            case rel => exact ⟨i, j + 1, true, by omega, by omega, by omega, rfl, rfl, by go_num, hA5, below_drewN hb5 _⟩
            case measure => simp [intOf]; omega
          · have k0 : (kk == 0) = false := by simp; omega
            have k0' : (kk != 0) = true := by simp; omega
            have k2 : (kk == 2) = false := by simp; omega
            have k2' : (kk != 2) = true := by simp; omega
            clear h0 h2
            go_wp2_with fail
            go_quiet (fail)
            go_wp2_with fail
            refine (Cs.take_e cc _ mm (by exact hA)).mono ?_
            rintro e w5 ⟨rfl, hA5, hg5⟩
            have hb5 : Below w.heap.size w w5 := (below_drewN hb _).grown hg5 hb.size (fun k hk => by cases hk; exact hle)
            clear hg5
            go_upto_region 29 with fail
            go_quiet (first | (go_at_call 17; exact Calls.quiet_of_same (Cs.rest_q cc ⟨#[]⟩ _ 5 _ hA5)) | (go_at_call 18; exact Calls.quiet_of_same (Cs.err_q cc ⟨#[]⟩ _ 5 _ hA5)))
            go_wp2
            go_roundw
            case rel => exact ⟨i, j + 1, true, by omega, by omega, by omega, rfl, rfl, by go_num, hA5, below_drewN hb5 _⟩
            case measure => simp [intOf]; omega
      | false =>
        have hA : Cu.At cc (s.extract i s.size) 0 wr := hSt
        clear hSt
        by_cases h0 : kk = 0
        · subst h0
          by_cases h1 : mm < 1
          · have ho : Cu.widN mm < 0 ∨ (s.size : Int) < i + Cu.widN mm := by unfold Cu.widN; rw [if_neg (by omega)]; omega
            go_wp2_with fail
            go_quiet (fail)
            go_wp2_with fail
            refine (Cs.num_out cc s i _ mm ho hi hs3 (by exact hA)).mono ?_
            rintro e w5 ⟨rfl, hA5, hg5⟩
            have hb5 : Below w.heap.size w w5 := (below_drewN hb _).grown hg5 hb.size (fun k hk => by cases hk; exact hle)
            clear hg5
            go_wp2_with fail
            refine (Cs.rval_e _).mono ?_
            rintro e w4 ⟨rfl, rfl⟩
            go_upto_region 29 with fail
            go_quiet (first | (go_at_call 17; exact Calls.quiet_of_same (Cs.rest_q cc ⟨#[]⟩ _ 5 _ hA5)) | (go_at_call 18; exact Calls.quiet_of_same (Cs.err_q cc ⟨#[]⟩ _ 5 _ hA5)))
            go_wp2
            go_roundw
            case rel => exact ⟨i, j + 1, true, by omega, by omega, by omega, rfl, rfl, by go_num, hA5, below_drewN hb5 _⟩
            case measure => simp [intOf]; omega
          · have h1' : 1 ≤ mm := by omega
            clear h1
            by_cases h8 : 8 < mm
            · have ho : Cu.widN mm < 0 ∨ (s.size : Int) < i + Cu.widN mm := by unfold Cu.widN; rw [if_neg (by omega)]; omega
              go_wp2_with fail
              go_quiet (fail)
              go_wp2_with fail
              refine (Cs.num_out cc s i _ mm ho hi hs3 (by exact hA)).mono ?_
              rintro e w5 ⟨rfl, hA5, hg5⟩
              have hb5 : Below w.heap.size w w5 := (below_drewN hb _).grown hg5 hb.size (fun k hk => by cases hk; exact hle)
              clear hg5
              go_wp2_with fail
              refine (Cs.rval_e _).mono ?_
              rintro e w4 ⟨rfl, rfl⟩
              go_upto_region 29 with fail
              go_quiet (first | (go_at_call 17; exact Calls.quiet_of_same (Cs.rest_q cc ⟨#[]⟩ _ 5 _ hA5)) | (go_at_call 18; exact Calls.quiet_of_same (Cs.err_q cc ⟨#[]⟩ _ 5 _ hA5)))
              go_wp2
              go_roundw
              case rel => exact ⟨i, j + 1, true, by omega, by omega, by omega, rfl, rfl, by go_num, hA5, below_drewN hb5 _⟩
              case measure => simp [intOf]; omega
            · have h8' : mm ≤ 8 := by omega
              clear h8
              by_cases hb3 : (s.size : Int) - i < mm
              · have ho : Cu.widN mm < 0 ∨ (s.size : Int) < i + Cu.widN mm := by unfold Cu.widN; rw [if_pos (by omega)]; omega
                go_wp2_with fail
                go_quiet (fail)
                go_wp2_with fail
                refine (Cs.num_out cc s i _ mm ho hi hs3 (by exact hA)).mono ?_
                rintro e w5 ⟨rfl, hA5, hg5⟩
                have hb5 : Below w.heap.size w w5 := (below_drewN hb _).grown hg5 hb.size (fun k hk => by cases hk; exact hle)
                clear hg5
                go_wp2_with fail
                refine (Cs.rval_e _).mono ?_
                rintro e w4 ⟨rfl, rfl⟩
                go_upto_region 29 with fail
                go_quiet (first | (go_at_call 17; exact Calls.quiet_of_same (Cs.rest_q cc ⟨#[]⟩ _ 5 _ hA5)) | (go_at_call 18; exact Calls.quiet_of_same (Cs.err_q cc ⟨#[]⟩ _ 5 _ hA5)))
                go_wp2
                go_roundw
                case rel => exact ⟨i, j + 1, true, by omega, by omega, by omega, rfl, rfl, by go_num, hA5, below_drewN hb5 _⟩
                case measure => simp [intOf]; omega
              · obtain ⟨m, rfl⟩ := Int.eq_ofNat_of_zero_le (show 0 ≤ mm by omega)
                have hin : i + m ≤ s.size := by omega
                have hin' : (m : Int) ≤ s.size - i := by omega
                clear hb3
                have t1 : decide ((m : Int) < 1) = false := by simp; omega
                have t2 : decide (8 < (m : Int)) = false := by simp; omega
                have t3 : decide ((m : Int) < 0) = false := by simp
                have t4 : decide ((s.size : Int) - i < m) = false := by simp; omega
                go_wp2_with fail
                go_quiet (fail)
                go_wp2_with fail
                refine (Cs.num_in cc s i _ m (by omega) (by omega) hin hs3 (by exact hA)).mono ?_
                rintro e w5 ⟨rfl, hA5, hg5⟩
                have hb5 : Below w.heap.size w w5 := (below_drewN hb _).grown hg5 hb.size (fun k hk => by cases hk; exact hle)
                clear hg5
                go_wp2_with fail
                refine (Cs.rval_in s i _ m hs3).mono ?_
                rintro e w4 ⟨rfl, rfl⟩
                go_upto_region 29 with fail
                have q1 : ((i : Int) + m).toNat = i + m := by omega
                have q2 : (0 : Int) ≤ (i : Int) + m := by omega
                have q3 : (i : Int) + m ≤ s.size := by omega
                go_quiet (first | (go_at_call 17; exact Calls.quiet_of_same (Cs.rest_q cc (s.extract (i + m) s.size) _ 0 _ hA5)) | (go_at_call 18; exact Calls.quiet_of_same (Cs.err_q cc (s.extract (i + m) s.size) _ 0 _ hA5)))
                go_wp2
                go_roundw
                case rel => exact ⟨i + m, j + 1, false, by omega, by omega, by omega, by go_num, rfl, by go_num, hA5, below_drewN hb5 _⟩
                case measure => simp [intOf]; omega
        · by_cases h2 : kk = 2
          · subst h2
            by_cases h4 : s.size < i + 4
            · have t4 : decide ((s.size : Int) - i < 4) = true := by simp; omega
              go_wp2_with fail
              go_quiet (fail)
              go_wp2_with fail
              refine (Cs.rval_e _).mono ?_
              rintro e w4 ⟨rfl, rfl⟩
              go_wp2_with fail
              refine (Cs.text_out1 cc s i _ h4 hi hs3 (by exact hA)).mono ?_
              rintro e w5 ⟨rfl, hA5, hg5⟩
              have hb5 : Below w.heap.size w w5 := (below_drewN hb _).grown hg5 hb.size (fun k hk => by cases hk; exact hle)
              clear hg5
              go_upto_region 29 with fail
              go_quiet (first | (go_at_call 17; exact Calls.quiet_of_same (Cs.rest_q cc ⟨#[]⟩ _ 5 _ hA5)) | (go_at_call 18; exact Calls.quiet_of_same (Cs.err_q cc ⟨#[]⟩ _ 5 _ hA5)))
              go_wp2
              go_roundw
              case rel => exact ⟨i, j + 1, true, by omega, by omega, by omega, rfl, rfl, by go_num, hA5, below_drewN hb5 _⟩
              case measure => simp [intOf]; omega
            · have hin : i + 4 ≤ s.size := by omega
              have t4 : decide ((s.size : Int) - i < 4) = false := by simp; omega
              clear h4
              by_cases hm4 : s.size < i + 4 + Cs.numAt s i 4
              · have t5 : decide ((s.size : Int) - (i + 4) < (Cs.numAt s i 4 : Nat)) = true := by simp; omega
                go_wp2_with fail
                go_quiet (fail)
                go_wp2_with fail
                refine (Cs.rval_in s i _ 4 hs3).mono ?_
                rintro e w4 ⟨rfl, rfl⟩
                go_wp2_with fail
                refine (Cs.text_out2 cc s i _ hin hm4 hs3 (by exact hA)).mono ?_
                rintro e w5 ⟨rfl, hA5, hg5⟩
                have hb5 : Below w.heap.size w w5 := (below_drewN hb _).grown hg5 hb.size (fun k hk => by cases hk; exact hle)
                clear hg5
                go_upto_region 29 with fail
                go_quiet (first | (go_at_call 17; exact Calls.quiet_of_same (Cs.rest_q cc ⟨#[]⟩ _ 5 _ hA5)) | (go_at_call 18; exact Calls.quiet_of_same (Cs.err_q cc ⟨#[]⟩ _ 5 _ hA5)))
                go_wp2
                go_roundw
                case rel => exact ⟨i + 4, j + 1, true, by omega, by omega, by omega, by go_num, rfl, by go_num, hA5, below_drewN hb5 _⟩
                case measure => simp [intOf]; omega
              · have hmi : i + 4 + Cs.numAt s i 4 ≤ s.size := by omega
                clear hm4
                have t5 : decide ((s.size : Int) - (i + 4) < (Cs.numAt s i 4 : Nat)) = false := by simp; omega
                go_wp2_with fail
                go_quiet (fail)
                go_wp2_with fail
                refine (Cs.rval_in s i _ 4 hs3).mono ?_
                rintro e w4 ⟨rfl, rfl⟩
                go_wp2_with fail
                refine (Cs.text_in cc s i _ hin hmi hs3 (by exact hA)).mono ?_
                rintro e w5 ⟨rfl, hA5, hg5⟩
                have hb5 : Below w.heap.size w w5 := (below_drewN hb _).grown hg5 hb.size (fun k hk => by cases hk; exact hle)
                clear hg5
                go_upto_region 29 with fail
                have q1 : ((i : Int) + 4 + (Cs.numAt s i 4 : Nat)).toNat = i + 4 + Cs.numAt s i 4 := by omega
                have q2 : (0 : Int) ≤ (i : Int) + 4 + (Cs.numAt s i 4 : Nat) := by omega
                have q3 : (i : Int) + 4 + (Cs.numAt s i 4 : Nat) ≤ s.size := by omega
                go_quiet (first | (go_at_call 17; exact Calls.quiet_of_same (Cs.rest_q cc (s.extract (i + 4 + Cs.numAt s i 4) s.size) _ 0 _ hA5)) | (go_at_call 18; exact Calls.quiet_of_same (Cs.err_q cc (s.extract (i + 4 + Cs.numAt s i 4) s.size) _ 0 _ hA5)))
                go_wp2
                go_roundw
                case rel => exact ⟨i + 4 + Cs.numAt s i 4, j + 1, false, by omega, by omega, by omega, by go_num, rfl, by go_num, hA5, below_drewN hb5 _⟩
                case measure => simp [intOf]; omega
          · have k0 : (kk == 0) = false := by simp; omega
            have k0' : (kk != 0) = true := by simp; omega
            have k2 : (kk == 2) = false := by simp; omega
            have k2' : (kk != 2) = true := by simp; omega
            clear h0 h2
            by_cases hn : mm < 0
            · have t3 : decide (mm < 0) = true := by simp; omega
              go_wp2_with fail
              go_quiet (fail)
              go_wp2_with fail
              refine (Cs.take_out cc s i _ mm (Or.inl hn) hi (by exact hA)).mono ?_
              rintro e w5 ⟨rfl, hA5, hg5⟩
              have hb5 : Below w.heap.size w w5 := (below_drewN hb _).grown hg5 hb.size (fun k hk => by cases hk; exact hle)
              clear hg5
              go_upto_region 29 with fail
              go_quiet (first | (go_at_call 17; exact Calls.quiet_of_same (Cs.rest_q cc ⟨#[]⟩ _ 5 _ hA5)) | (go_at_call 18; exact Calls.quiet_of_same (Cs.err_q cc ⟨#[]⟩ _ 5 _ hA5)))
              go_wp2
              go_roundw
              case rel => exact ⟨i, j + 1, true, by omega, by omega, by omega, rfl, rfl, by go_num, hA5, below_drewN hb5 _⟩
              case measure => simp [intOf]; omega
            · have t3 : decide (mm < 0) = false := by simp; omega
              have hn' : 0 ≤ mm := by omega
              by_cases hb3 : (s.size : Int) - i < mm
              · have t4 : decide ((s.size : Int) - i < mm) = true := by simp; omega
                have ho : mm < 0 ∨ (s.size : Int) < i + mm := by omega
                go_wp2_with fail
                go_quiet (fail)
                go_wp2_with fail
                refine (Cs.take_out cc s i _ mm ho hi (by exact hA)).mono ?_
                rintro e w5 ⟨rfl, hA5, hg5⟩
                have hb5 : Below w.heap.size w w5 := (below_drewN hb _).grown hg5 hb.size (fun k hk => by cases hk; exact hle)
                clear hg5
                go_upto_region 29 with fail
                go_quiet (first | (go_at_call 17; exact Calls.quiet_of_same (Cs.rest_q cc ⟨#[]⟩ _ 5 _ hA5)) | (go_at_call 18; exact Calls.quiet_of_same (Cs.err_q cc ⟨#[]⟩ _ 5 _ hA5)))
                go_wp2
                go_roundw
                case rel => exact ⟨i, j + 1, true, by omega, by omega, by omega, rfl, rfl, by go_num, hA5, below_drewN hb5 _⟩
                case measure => simp [intOf]; omega
              · obtain ⟨m, rfl⟩ := Int.eq_ofNat_of_zero_le hn'
                have hin : i + m ≤ s.size := by omega
                have hin' : (m : Int) ≤ s.size - i := by omega
                have t4 : decide ((s.size : Int) - i < m) = false := by simp; omega
                clear hb3 hn hn'
                go_wp2_with fail
                go_quiet (fail)
                go_wp2_with fail
                refine (Cs.take_in cc s i _ m hin (by exact hA)).mono ?_
                rintro e w5 ⟨rfl, hA5, hg5⟩
                have hb5 : Below w.heap.size w w5 := (below_drewN hb _).grown hg5 hb.size (fun k hk => by cases hk; exact hle)
                clear hg5
                go_upto_region 29 with fail
                have q1 : ((i : Int) + m).toNat = i + m := by omega
                have q2 : (0 : Int) ≤ (i : Int) + m := by omega
                have q3 : (i : Int) + m ≤ s.size := by omega
                go_quiet (first | (go_at_call 17; exact Calls.quiet_of_same (Cs.rest_q cc (s.extract (i + m) s.size) _ 0 _ hA5)) | (go_at_call 18; exact Calls.quiet_of_same (Cs.err_q cc (s.extract (i + m) s.size) _ 0 _ hA5)))
                go_wp2
                go_roundw
                case rel => exact ⟨i + m, j + 1, false, by omega, by omega, by omega, by go_num, rfl, by go_num, hA5, below_drewN hb5 _⟩
                case measure => simp [intOf]; omega
    · by_cases hjl : j < len
      · have hj6 : ¬ j < 60 := by omega
        clear hlt hSt HC
        go_wp2_with fail
        refine (Aw.awake_any _).mono ?_
        rintro e w4 ⟨rfl, hb4⟩
        have hbw4 := hb.trans (hb4.mono hb.size)
        clear hb hb4
        go_wp2_with fail
        refine (Cu.num_nil 1 _ (by omega) (by omega)).mono ?_
        rintro e w5 ⟨rfl, rfl⟩
        go_wp2_with fail
        refine (Cu.text_nil _).mono ?_
        rintro e w5 ⟨rfl, rfl⟩
        go_wp2_with fail
        refine (Cu.rest_nil _).mono ?_
        rintro e w5 ⟨rfl, rfl⟩
        go_wp2_with fail
        refine (Cu.err_nil _).mono ?_
        rintro e w5 ⟨rfl, rfl⟩
        go_wp2
        go_ret
        exact ⟨rfl, hbw4⟩
      · clear hlt hSt HC
        go_wp2_with fail
        refine (Aw.awake_any _).mono ?_
        rintro e w4 ⟨rfl, hb4⟩
        have hbw4 := hb.trans (hb4.mono hb.size)
        clear hb hb4
        go_wp2_with fail
        refine (Cu.num_nil 1 _ (by omega) (by omega)).mono ?_
        rintro e w5 ⟨rfl, rfl⟩
        go_wp2_with fail
        refine (Cu.text_nil _).mono ?_
        rintro e w5 ⟨rfl, rfl⟩
        go_wp2_with fail
        refine (Cu.rest_nil _).mono ?_
        rintro e w5 ⟨rfl, rfl⟩
        go_wp2_with fail
        refine (Cu.err_nil _).mono ?_
        rintro e w5 ⟨rfl, rfl⟩
        go_wp2
        go_ret
        exact ⟨rfl, hbw4⟩

theorem isSteps_of {H : Type} {enc : TypeId × Value → H} {P : Program} {w : World} {t e : TypeId} {f0 f1 : Field} {a : Option Addr} {len cap : Nat} {d : DataW H} {p : List MemPlace}
    (ht : P.underlying t = some (.slice e)) (he : P.underlying e = some (.struct #[f0, f1])) (ce : P.cellsOf e = 2) (o0 : f0.offset = 0) (o1 : f1.offset = 1)
    (c0 : P.cellsOf f0.type = 1) (c1 : P.cellsOf f1.type = 1) (u0 : P.underlying f0.type = some (.int .i64)) (u1 : P.underlying f1.type = some (.int .i64))
    (h : DataW.Trod enc P w 0 (fun _ => true) true t (.slice a len cap) d p) : ∃ K M, IsSteps w a len cap K M := by
  obtain ⟨fuel, hf⟩ := h
  rcases open_slice_pairs ht he ce o0 o1 c0 c1 hf with ⟨hcs, _⟩ | ⟨x, l, c, m, n, V0, V1, D0, D1, P0, P1, hcs, _, hl, hm, hmm, _, hx⟩
  · simp [Value.cells] at hcs
    obtain ⟨rfl, rfl, rfl⟩ := hcs
    exact ⟨fun _ => 0, fun _ => 0, Nat.le_refl _, Nat.zero_le _, fun j hj => absurd hj (Nat.not_lt_zero _)⟩
  · simp [Value.cells] at hcs
    obtain ⟨rfl, rfl, rfl⟩ := hcs
    have hm' : m = cap := by simpa using hmm
    refine ⟨fun j => intOf (V0 j), fun j => intOf (V1 j), hl, hm, fun j hj => ?_⟩
    obtain ⟨hc0, hc1, r0, r1⟩ := hx j (by omega)
    obtain ⟨x0, e0, _, _⟩ := DataW.trod_int u0 r0
    obtain ⟨x1, e1, _, hw1⟩ := DataW.trod_int u1 r1
    simp at e0 e1
    obtain ⟨b, off, spot⟩ := x
    have hspot : spot = none := by
      have := World.cell?_spot (hx 0 (by omega)).1
      simpa [Addr.add] using this
    subst hspot
    have ea : ∀ k, (⟨b, off, none⟩ : Addr).add k = ⟨b, off + k, none⟩ := fun k => by unfold Addr.add; split <;> simp_all
    rw [ea] at hc0 hc1
    rw [e0] at hc0
    rw [e1] at hc1
    refine ⟨b, off, rfl, lt_of_cell hc0, ?_, ?_, ?_⟩
    · show w.cell? ⟨b, off + j * 2, none⟩ = some (.int .i64 (intOf (V0 j)))
      rw [hc0, e0]; rfl
    · show w.cell? ⟨b, off + j * 2 + 1, none⟩ = some (.int .i64 (intOf (V1 j)))
      rw [Nat.add_assoc, hc1, e1]; rfl
    · show (Lit.int .i64 (intOf (V1 j))).wf = true
      rw [e1]; exact hw1

set_option maxRecDepth 100000 in
theorem lifted (os : Os) (started : os.Started) (H : Type) (enc : TypeId × Value → H) :
    ReturnsInHanded {} Try.checked os 4 .any (Rows.wideCutsSpec.pre6 enc Try.prog Try.f4 Rows.wideCutsRow.domain false) (Rows.wideCutsSpec.post enc Try.prog Try.f4 false true false false) := by
  refine returnsInHanded_of_change (C := Try.checked) own started (by kernel_rfl) Try.func4
    (ChangeSpec.witness6 (enc := enc) (C := Try.checked) false ⟨#[], #[.string ByteArray.empty, .slice none 0 0], []⟩ 8 (by kernel_rfl) (by kernel_rfl) (by kernel_rfl) (by kernel_rfl)) ?_
  intro W base args ds gs before hval0 hW _ _
  have hval : ∀ (j : Nat) t v, Try.f4.params[j]? = some t → args[j]? = some v → Value.okWide Try.prog W .any base t v := hval0
  have hW' := hW
  obtain ⟨p, q, hA0, hV, rfl, hfz, hnd⟩ := hW
  have hA : DataW.TrodAll enc Try.prog W 0 (fun _ => true) true Try.f4.params.toList args.toList ds p := hA0
  rw [Try.params4] at hA hval
  obtain ⟨v0, vs0, d0, ds0, p0, q0, hargs, rfl, rfl, h0, r0⟩ := trodAll_cons hA
  obtain ⟨v1, vs1, d1, ds1, p1, q1, rfl, rfl, rfl, h1, r1⟩ := trodAll_cons r0
  obtain ⟨rfl, rfl, rfl⟩ := trodAll_nil r1
  obtain rfl : args = #[v0, v1] := by cases args; simp_all
  obtain ⟨rfl, rfl⟩ := trodVars_none hV
  have k0 := h0
  have lt0 : ∀ x ∈ p0, x.block < W.heap.size := by obtain ⟨m, hm⟩ := k0; exact DataW.trod_lt m _ _ _ hm
  obtain ⟨a0, rfl, hd0, hp0, w0⟩ := open_string Try.underlying9 (hval 0 9 v0 rfl rfl) h0
  have k1 := h1
  have lt1 : ∀ x ∈ p1, x.block < W.heap.size := by obtain ⟨m, hm⟩ := k1; exact DataW.trod_lt m _ _ _ hm
  obtain ⟨b1, len1, cap1, rfl⟩ := okWide_slice Try.underlying36 (hval 1 36 v1 rfl rfl)
  obtain ⟨K1, M1, hs1⟩ := isSteps_of Try.underlying36 Try.underlying38 (by kernel_rfl) rfl rfl (by kernel_rfl) (by kernel_rfl) Try.underlying3 Try.underlying3 h1
  clear hA0 hval0
  refine (walk a0 b1 len1 cap1 K1 M1 w0 W hs1).mono fun e W' ⟨he, bel⟩ => ?_
  subst he
  exact ⟨_, rfl, _, _, _, [], _, [], hW', trodAll_mk1 (shut_bool Try.underlying4 _), (trodAll_cons_mk (Below.trod laidOut (by kernel_rfl) (of_decide_eq_true (by kernel_rfl)) k0 bel lt0) (trodAll_cons_mk (Below.trod laidOut (by kernel_rfl) (of_decide_eq_true (by kernel_rfl)) k1 bel lt1) trodAll_mk0)), rfl, bel.frame _, fun h => by cases h⟩

theorem over : Rows.wideCutsRow.holds Try.pinned (OpenSpec.ofChange Rows.wideCutsSpec) :=
  OpenClaim.holds_of_wide 4 Try.f4 rfl rfl rfl rfl rfl rfl rfl ⟨rfl, rfl, rfl, rfl, rfl⟩ rfl rfl rfl rfl rfl (by kernel_rfl) Try.func4 (by kernel_rfl)
    (of_decide_eq_true (by kernel_rfl)) (by unfold Func.isWrapper; first | (rw [if_pos (by decide +kernel)]; kernel_rfl) | (rw [if_neg (by decide +kernel)]; exact ⟨rfl, rfl⟩))
    (fun os started H enc _ => lifted os started H enc)

theorem proved : Rows.WideCutsSaid := over

end Go.Proofs.Ytkhfbefaokefmaa.wideCuts
