/-
 WalkPairs: its walk.
-/
import Derived.Test.YtnecijeakeklaaaGreatDoorMw23
import Derived.Test.YtnecijeakeklaaaGreatDoorMw24
import Derived.Test.YtnecijeakeklaaaGreatDoorMw19
import Derived.Deep.CutBlock
open Go.Lib (hid)
set_option linter.unusedSimpArgs false
set_option linter.unusedVariables false
set_option maxHeartbeats 40000000
set_option maxRecDepth 100000
namespace Go.Proofs.YtnecijeakeklaaaGreatDoor
section
open Go.RowKit
namespace Tm
open Tr Ni Pk Ky No Rf Rl Rf2
open Sm (Tab)
theorem pairA_byte {z : Tr.Pair} (hk : z.1.length = 32) : (pairA z)[0]? = some (.int .u8 (z.1.getD 0 0).toNat) := by
 obtain ⟨k, v⟩ := z;cases k with
 | nil => cases hk
 | cons a k => simp [pairA, pairC]
structure Wk (w0 : World) (M : Mp) (w : World) (bf bt b7 : Nat) (p : Option Addr) (t : T) (F O : List UInt8) (S : List Tr.Pair) (sa : Option Addr) (sn sc : Nat) (P : List Tr.Pair) (pa : Option Addr) (pn pc : Nat) : Prop where
 l : Lw w0 M w
 kf : Rg.Own w bf (kc F) 24
 kt : Rg.Own w bt (kc O) 24
 fl : F.length = 32
 ol : O.length = 32
 bT : Bx M w b7 #[.pointer p] 28
 hT : IsT M p t
 s : IsPs w sa sn sc S
 q : IsPs w pa pn pc P
namespace Wk
variable {w0 : World} {M : Mp} {w w' : World} {bf bt b7 : Nat} {p : Option Addr} {t : T} {F O : List UInt8} {S : List Tr.Pair} {sa : Option Addr} {sn sc : Nat} {P : List Tr.Pair} {pa : Option Addr} {pn pc : Nat}
theorem below (h : Wk w0 M w bf bt b7 p t F O S sa sn sc P pa pn pc) (hb : Below w.heap.size w w') : Wk w0 M w' bf bt b7 p t F O S sa sn sc P pa pn pc := ⟨h.l.below hb, h.kf.below hb, h.kt.below hb, h.fl, h.ol, h.bT.below hb, h.hT, h.s.below hb, h.q.below hb⟩
theorem fr (h : Wk w0 M w bf bt b7 p t F O S sa sn sc P pa pn pc) (f : Fr M M w w') (i : Inv M w') (tt : Tab w') : Wk w0 M w' bf bt b7 p t F O S sa sn sc P pa pn pc := ⟨h.l.fr f i tt, own_byte_fr h.kf (kc_byte h.fl) h.l.i f, own_byte_fr h.kt (kc_byte h.ol) h.l.i f, h.fl, h.ol, h.bT.frm h.l.i f, h.hT, h.s.frm h.l.i f, h.q.frm h.l.i f⟩
theorem say {v : Value} {e : Ending} (h : Wk w0 M w bf bt b7 p t F O S sa sn sc P pa pn pc) (g : TellV M w v e w') : e = .returned v ∧ Wk w0 M w' bf bt b7 p t F O S sa sn sc P pa pn pc ∧ Fr M M w w' := ⟨g.1, h.fr g.2.1 g.2.2.1 g.2.2.2, g.2.1⟩
theorem c (h : Wk w0 M w bf bt b7 p t F O S sa sn sc P pa pn pc) : w.cell? ⟨b7, 0, none⟩ = some (.pointer p) := own_cell (j := 0) h.bT.o rfl
end Wk
structure Lq (B : Nat) (w : World) (v : Value) (X : List Tr.Pair) (u : Value) (Y : List Tr.Pair) : Prop where
 r : RowPr B w v X
 s : RowPr B w u Y
 ne : ∀ k, v.ownBlock = some k → u.ownBlock ≠ some k
theorem Lq.below {B : Nat} {w w' : World} {v u : Value} {X Y : List Tr.Pair} (h : Lq B w v X u Y) (hb : Below w.heap.size w w') : Lq B w' v X u Y := ⟨owns_same h.r fun k e => hb.block k (h.r.lt k e).2, owns_same h.s fun k e => hb.block k (h.s.lt k e).2, h.ne⟩
theorem Lq.swap {B : Nat} {w : World} {v u : Value} {X Y : List Tr.Pair} (h : Lq B w v X u Y) : Lq B w u Y v X := ⟨h.s, h.r, fun k e e2 => h.ne k e2 e⟩
theorem Lq.push {B : Nat} {w w' : World} {v u v' : Value} {X Y : List Tr.Pair} {x : Tr.Pair} (h : Lq B w v X u Y) (hr : RowPr B w' v' (X ++ [x])) (hg : w.grownBy w' v.ownBlock) (hl : v'.ownBlock = v.ownBlock ∨ v'.ownBlock = some w.heap.size) : Lq B w' v' (X ++ [x]) u Y := by
 refine ⟨hr, owns_same h.s fun k e => hg.block k (h.s.lt k e).2 fun e2 => h.ne k e2.symm e, fun k e e2 => ?_⟩;rcases hl with e3 | e3
 ·exact h.ne k (by rw [← e3]; exact e) e2
 ·rw [e3] at e;have := Option.some.inj e;have := (h.s.lt k e2).2;omega
theorem op_neq_same {ev : Operand → Value} {o : Oper} {w : World} {x : Tr.Pair} (hx : x.1.length = 32) (ho : ∃ p q tt, o.op = .binOp .neq 33 p q tt ∧ ev p = .agg (pairA x) ∧ ev q = .agg (pairA x)) :
  (execOp ev o).run Tryz.prog w = .ok (.value (.bool false)) w := by
 have h := op_neq_pairs hx hx ho (w := w);rw [h];simp
theorem pairAt0 {w : World} {b o : Nat} {x : Tr.Pair} (h : PairAt w b (o + 0 * 33) x) : PairAt w b o x := by simpa using h
theorem pairs_walk (l : List Tr.Pair) (la : Option Addr) (ln lc : Nat) (F O : List UInt8) (w : World) (h : IsPs w la ln lc l) (hF : F.length = 32) (hO : O.length = 32) (hT : Tab w) :
  Calls Tryz.prog 3 #[.slice la ln lc, .agg (kc F), .agg (kc O)] w fun e w' => e = .returned (.bool true) ∧ Below w.heap.size w w' := by
 obtain ⟨w1, hw1⟩ : ∃ w1, w1 = (w.alloc (.cells (kc F) 24)).alloc (.cells (kc O) 24) := ⟨_, rfl⟩
 have hb1 : Below w.heap.size w w1 := by rw [hw1]; exact al2 _ _ _
 have hA : Rg.Own w1 w.heap.size (kc F) 24 := by rw [hw1]; exact (Rg.Own.new _ _ _).below (al1 _ _)
 have hB : Rg.Own w1 (w.heap.size + 1) (kc O) 24 := by
  have := Rg.Own.new (w.alloc (.cells (kc F) 24)) (kc O) 24;rw [hw1];simpa using this
 have HL1 := hid ((Lw.start hT).below hb1);have HA1 := hid hA;have HB1 := hid hB;have HP := hid (pairs_any l la ln lc w1 (h.below hb1));have hok : OkPs (pairsL l) := pairs_ok h.keys;have hlen := pairs_len l;have HFl := hid hF;have HOl := hid hO;obtain ⟨P, hP⟩ : ∃ P, pairsL l = P := ⟨_, rfl⟩
 rw [hP] at HP hok hlen;have HOk := hid hok;have hhas := hok.has;have hcnt : cntT (putAll .nil P) ≤ 200000 := cnt_few hhas hok.1 hok.2 hlen;have HSl := hid (Nat.le_trans (sortlen P) hlen);have HIl := hid (Nat.le_trans (ins_len P) hlen);have HSk := hid (sort32 hok.1);have HPs : Hid (∀ (M : Mp) (W : World) p, Inv M W → IsT M p (putAll .nil P) → Tab W → Calls Tryz.prog 15 #[tv p] W (GotPr M W (sortL P))) := hid (fun M W p hi ht h => by
  have := wPairs_any M p _ hhas.good hhas.fine hcnt W hi ht h;rw [all_sorted hhas hok.1] at this;exact this)
 have HNx : Hid (∀ (M : Mp) (W : World) p, Inv M W → IsT M p (putAll .nil P) → Tab W → Calls Tryz.prog 11 #[tv p, .agg (kc F)] W (TellV M W (.tuple #[.agg (pairA (headL (wantL F (sortL P))).1), .bool (headL (wantL F (sortL P))).2]))) := hid (fun M W p hi ht h => by
  have := wnext_any M p _ F hF hhas.good hhas.fine hcnt W hi ht h;rw [next_want hhas hok.1] at this;exact this)
 have HFi : Hid (∀ (M : Mp) (W : World) p, Inv M W → IsT M p (putAll .nil P) → Tab W → Calls Tryz.prog 10 #[tv p] W (TellV M W (.tuple #[.agg (pairA (headL (sortL P)).1), .bool (headL (sortL P)).2]))) := hid (fun M W p hi ht h => by
  have := wfirst_any M p _ hhas.good hhas.fine hcnt W hi ht h;rw [first_head hhas hok.1] at this;exact this)
 have HCo : Hid (∀ (M : Mp) (W : World) p, Inv M W → IsT M p (putAll .nil P) → Tab W → Calls Tryz.prog 9 #[tv p] W (TellV M W (.tuple #[.int .i64 (sortL P).length, .int .i64 0]))) := hid (fun M W p hi ht h => by
  have := count_any M p _ hhas.good hhas.fine hcnt W hi ht h;rw [len_sorted hhas hok.1, stubs_full _ hhas.full] at this;exact this)
 have HDe : Hid (∀ (M : Mp) (W : World) p, Inv M W → IsT M p (putAll .nil P) → Tab W → Calls Tryz.prog 16 #[tv p] W (TellV M W (.int .i64 (depthT (putAll .nil P))))) := hid (fun M W p hi ht h => depth_any M p _ hhas.good hhas.fine hcnt W hi ht h);have HRg : Hid (∀ (M : Mp) (W : World) p, Inv M W → IsT M p (putAll .nil P) → Tab W → Calls Tryz.prog 19 #[tv p, .agg (kc F), .agg (kc O)] W (GotPr M W (midL F O (sortL P)))) := hid (fun M W p hi ht h => by
  have := wrange_any M p _ F hF O hO hhas.good hhas.fine hcnt W hi ht h;rw [range_mid hhas hok.1] at this;exact this)
 have HRd : Hid (∀ (W : World) ia in_ ic, IsIns W ia in_ ic (insL P) → in_ ≤ 1000 → Calls Tryz.prog 17 #[.slice ia in_ ic] W fun e w' => e = .returned (.int .i64 (depthT (putAll .nil P) : Nat)) ∧ Below W.heap.size W w') := hid (fun W ia in_ ic hI hn => by
  have := rdepth_any 64 (Nat.le_refl _) (insL P) (ok_ins hok.1) ia in_ ic W hI hn;rw [← hhas.built hok.1 hok.2] at this;exact this)
 have hdep := depth_le (putAll .nil P) 64 hhas.good;clear hA hB hb1 h hok hhas hcnt hF hO hT hP;have HW : Hid (_ = _) := hid hw1;clear hw1;obtain ⟨t, ht⟩ : ∃ t, putAll .nil P = t := ⟨_, rfl⟩
 have HTt := hid ht;rw [ht] at HPs HNx HFi HCo HDe HRg HRd hdep;obtain ⟨CF, hCF⟩ : ∃ C, kc F = C := ⟨_, rfl⟩
 obtain ⟨CO, hCO⟩ : ∃ C, kc O = C := ⟨_, rfl⟩
 have HCF := hid hCF;have HCO := hid hCO;rw [hCF, hCO];rw [hCF, hCO] at HW;clear ht hCF hCO;go_enter Tryz.func3, Tryz.ntmps3;go_wp2_with fail
 rw [← HW.out];refine HP.out.mono ?_;rintro e w2 ⟨pa, pn, pc, rfl, hps, hb2⟩;have hpn : pn ≤ 24 := by rw [← hps.len]; exact hlen
 have HL2 := hid (HL1.out.below hb2);have HPp := hid hps;have HA2 := hid (HA1.out.below hb2);have HB2 := hid (HB1.out.below hb2);clear hps hb2 HL1 HA1 HB1 HP HW;go_wp2_with fail
 refine (of_any M0 pa pn pc P HOk.out w2 HL2.out.i HPp.out (by omega)).mono ?_;intro e w3 hG;obtain ⟨p3, M3, rfl, hT3, hL3, hf3, hb3⟩ := HL2.out.got hG;rw [HTt.out] at hT3;have HT3 := hid hT3;have HL3 := hid hL3;have HPp3 := hid (HPp.out.below hb3);have HA3 := hid (HA2.out.below hb3);have HB3 := hid (HB2.out.below hb3);have HN := hid (Rg.Own.new w3 #[.pointer none] 28);have HFr3 := hid (hL3.i.free (Nat.le_refl _));have hz3 := hL3.b.size;clear hG hT3 hL3 hf3 hb3 HPp HL2 HA2 HB2;go_wp2_with (first
  | (refine Rg.run rfl _ _ (run_alloc_tree _ _ _ w3.heap.size rfl rfl) ?_)
  | (refine wpl_store_tree HN.out (by decide) p3 rfl _ _ rfl rfl rfl ?_; intro w4 hO4 hu4; have HB4 := hid (hu4.below (al1 w3 (.cells #[.pointer none] 28)) (Nat.le_refl _)); have HBx : Hid (Bx M3 w4 w3.heap.size #[.pointer p3] 28) := hid ⟨hO4, HFr3.out, one_no p3⟩; have HL4 := hid ((HL3.out.below (al1 _ _)).upd hu4 hz3 HFr3.out); clear hO4 hu4))
 obtain ⟨b7, hb7⟩ : ∃ b, w3.heap.size = b := ⟨_, rfl⟩
 rw [hb7] at HBx;rw [hb7];have HPp4 := hid (HPp3.out.below HB4.out);refine (rsort_own P pa pn pc w4 HPp4.out (by omega)).mono ?_;rintro e w5 ⟨v5, rfl, hr5, hb5⟩;obtain ⟨sn, hsn⟩ : ∃ n, (sortL P).length = n := ⟨_, rfl⟩
 have hsn24 : sn ≤ 24 := by rw [← hsn]; exact HSl.out
 obtain ⟨sa, sc, rfl, hs5⟩ := IsPs.ofOwn HSk.out hsn (by rw [← hsn]; exact hr5);obtain ⟨S, hS⟩ : ∃ S, sortL P = S := ⟨_, rfl⟩
 rw [hS] at hs5 HPs HNx HFi HCo HRg HSk;have hb35 := bst HB4.out hb5;have HK5 : Hid (Wk w M3 w5 w.heap.size (w.heap.size + 1) b7 p3 t F O S sa sn sc P pa pn pc) := hid ⟨HL4.out.below hb5, HA3.out.below hb35, HB3.out.below hb35, HFl.out, HOl.out, HBx.out.below hb5, HT3.out, hs5, HPp4.out.below hb5⟩;have hSn : S.length = sn := by rw [← hS]; exact hsn
 have HSn := hid hSn;rw [hSn] at HCo;clear hsn hSn hS hr5 hs5 hb5 hb35 HN HL3 HT3 HFr3 hz3 hb7 HPp3 HPp4 HA3 HB3 HB4 HBx HL4 HTt HSl;go_wp2_with (first
  | (refine Rg.run rfl _ _ (op_load_tree HK5.out.c ⟨_, rfl, rfl⟩) ?_))
 refine (HCo.out M3 w5 p3 HK5.out.l.i HK5.out.hT HK5.out.l.t).mono ?_;intro e w6 hG;obtain ⟨rfl, hA6, _⟩ := HK5.out.say hG;have HK6 := hid hA6;clear hG hA6 HK5 HCo;go_wp2_with (first
  | (refine Rg.run rfl _ _ (op_load_tree HK6.out.c ⟨_, rfl, rfl⟩) ?_))
 refine (HFi.out M3 w6 p3 HK6.out.l.i HK6.out.hT HK6.out.l.t).mono ?_;intro e w7 hG;obtain ⟨rfl, hA7, _⟩ := HK6.out.say hG;have HK7 := hid hA7;have hh : (headL S).1.1.length = 32 := by
  unfold headL;cases S with
  | nil => exact pr0_len
  | cons x r => exact HSk.out x List.mem_cons_self
 have Hh := hid hh;obtain ⟨z11, hz11⟩ : ∃ z, (headL S).1 = z := ⟨_, rfl⟩
 obtain ⟨i12, hi12⟩ : ∃ z, (headL S).2 = z := ⟨_, rfl⟩
 have HZ11 := hid (And.intro hz11 hi12);rw [hz11] at Hh;rw [hz11, hi12];have hal7 := al1 w7 (.cells (pairA pr0) 33);have HP7 := hid (Rg.Own.new w7 (pairA pr0) 33);clear hG hA7 HK6 HFi hh hz11 hi12;go_wp2_with (first
  | (refine Rg.run rfl _ _ (run_alloc_pair _ _ _ w7.heap.size rfl rfl) ?_)
  | (refine wpl_store_pair HP7.out pr0_len z11 Hh.out rfl _ _ rfl rfl rfl rfl ?_; intro w8 hO8 hu8; have hb8 := hu8.below hal7 (Nat.le_refl _); have HK8 := hid (HK7.out.below hb8); have HX8 := hid hO8; clear hO8 hu8 hb8)
  | (refine Rg.run rfl _ _ (op_load_tree HK8.out.c ⟨_, rfl, rfl⟩) ?_)
  | (refine Rg.run rfl (.agg CF) _ (by rw [← HCF.out]; exact op_load_key HFl.out HK8.out.kf.2 ⟨_, rfl, rfl⟩) ?_))
 obtain ⟨b11, hb11⟩ : ∃ b, w7.heap.size = b := ⟨_, rfl⟩
 rw [hb11] at HX8;rw [hb11];clear hb11 HK7 HP7 hal7;rw [← HCF.out];refine (HNx.out M3 w8 p3 HK8.out.l.i HK8.out.hT HK8.out.l.t).mono ?_;intro e w9 hG;obtain ⟨rfl, hA9, hf9⟩ := HK8.out.say hG;have HK9 := hid hA9;have HX9 := hid (own_byte_fr HX8.out (pairA_byte Hh.out) HK8.out.l.i hf9);have hh : (headL (wantL F S)).1.1.length = 32 := by
  unfold headL;cases e : wantL F S with
  | nil => exact pr0_len
  | cons x r => exact HSk.out x (List.mem_filter.1 (by have := List.mem_cons_self (a := x) (l := r); rw [← e] at this; exact this)).1
 have Hh2 := hid hh;obtain ⟨z13, hz13⟩ : ∃ z, (headL (wantL F S)).1 = z := ⟨_, rfl⟩
 obtain ⟨i14, hi14⟩ : ∃ z, (headL (wantL F S)).2 = z := ⟨_, rfl⟩
 have HZ13 := hid (And.intro hz13 hi14);rw [hz13] at Hh2;rw [hz13, hi14];have hal9 := al1 w9 (.cells (pairA pr0) 33);have HP9 := hid (Rg.Own.new w9 (pairA pr0) 33);clear hG hA9 hf9 HK8 HX8 HNx hh hz13 hi14;rw [HCF.out];go_wp2_with (first
  | (refine Rg.run rfl _ _ (run_alloc_pair _ _ _ w9.heap.size rfl rfl) ?_)
  | (refine wpl_store_pair HP9.out pr0_len z13 Hh2.out rfl _ _ rfl rfl rfl rfl ?_; intro wB hOB huB; have hbB := huB.below hal9 (Nat.le_refl _); have HKB := hid (HK9.out.below hbB); have HX := hid (And.intro (HX9.out.below hbB) hOB); clear hOB huB hbB))
 obtain ⟨b13, hb13⟩ : ∃ b, w9.heap.size = b := ⟨_, rfl⟩
 rw [hb13] at HX;rw [hb13];clear hb13 HK9 HP9 hal9 HX9;go_loopw [15, 16, 17] (fun v u i wr => ∃ j : Nat, j ≤ sn ∧ i = .int .i64 j ∧ Hid (Lq wB.heap.size wr v (wantL F (S.take j)) u (midL F O (S.take j))) ∧ Hid (Below wB.heap.size wB wr)) (fun _ _ i _ => sn - (intOf i).toNat)
 case atStart => exact ⟨0, Nat.zero_le _, rfl, hid ⟨World.ownsRow_nil _ _ _ _, World.ownsRow_nil _ _ _ _, fun k e => (by simp [Value.ownBlock] at e)⟩, hid (Below.refl _ _)⟩
 case round =>
  obtain ⟨j, hj, rfl, HQ, HB⟩ := hrel;have HK := hid (HKB.out.below HB.out);by_cases hlt : j < sn
  ·obtain ⟨b1, o1, rfl, hb1, hpx, hkx⟩ := HKB.out.s.at' j hlt;have hji : (j : Int) < sn := by omega
   have hjS : j < S.length := by rw [HSn.out]; exact hlt
   have HTk : Hid (S.take (j + 1) = S.take j ++ [S.getD j ([], eB)]) := hid (take_at hjS);have hSl : S.length ≤ 24 := by rw [HSn.out]; exact hsn24
   have HPB := hid hpx;have HPx := hid (hpx.below HB.out);have HKx := hid hkx;generalize S.getD j ([], eB) = x at *
   have HLf : Hid (∀ w, Calls Tryz.prog 12 #[.agg (kc F), .agg (kc x.1)] w fun e w' => e = .returned (.bool (ltP F x.1)) ∧ Below w.heap.size w w') := hid fun w => rless_any F x.1 HFl.out HKx.out w;have HLg : Hid (∀ w, Calls Tryz.prog 12 #[.agg (kc x.1), .agg (kc F)] w fun e w' => e = .returned (.bool (ltP x.1 F)) ∧ Below w.heap.size w w') := hid fun w => rless_any x.1 F HKx.out HFl.out w
   have HLo : Hid (∀ w, Calls Tryz.prog 12 #[.agg (kc x.1), .agg (kc O)] w fun e w' => e = .returned (.bool (ltP x.1 O)) ∧ Below w.heap.size w w') := hid fun w => rless_any x.1 O HKx.out HOl.out w;clear hpx hkx hb1 hjS;obtain ⟨f1, hf1⟩ : ∃ f, ltP F x.1 = f := ⟨_, rfl⟩
   obtain ⟨f2, hf2⟩ : ∃ f, ltP x.1 F = f := ⟨_, rfl⟩
   obtain ⟨f3, hf3⟩ : ∃ f, ltP x.1 O = f := ⟨_, rfl⟩
   rw [hf1] at HLf;rw [hf2] at HLg;rw [hf3] at HLo;have HF1 := hid hf1;have HF2 := hid hf2;have HF3 := hid hf3;clear hf1 hf2 hf3;go_wp2_with fail
   refine wp_region_noPanic ?_;refine wp_region_held_drew (S := fun w' => Below wr.heap.size wr w') (by kernel_rfl) ((below_drewN (Below.refl _ _) 1)) (fun hld => ?_);refine Rg.tk (i := 0) rfl ?_ (hy := by intro wz hSw; (refine op_load_key HFl.out (HK.out.kf.below hSw).2 ?_; exact ⟨_, rfl, rfl⟩));try simp only [Act.put, Rg.s]
   refine Rg.tk (i := 1) rfl ?_;try simp only [Act.put, Rg.s]
   refine Rg.tk (i := 2) rfl ?_;try simp only [Act.put, Rg.s]
   refine Rg.tk (i := 3) rfl ?_ (hy := by intro wz hSw; (have q0 := hji; have q1 := hlt; go_simp <;> with_reducible rfl));try simp only [Act.put, Rg.s]
   refine Rg.tk (i := 4) rfl ?_;try simp only [Act.put, Rg.s]
   refine Rg.tk (i := 5) rfl ?_ (hy := by intro wz hSw; (refine op_load_key_mid HKx.out (HPx.out.below hSw).key ?_; exact ⟨_, rfl, rfl⟩));try simp only [Act.put, Rg.s]
   refine Rg.rd (i := 6) rfl fun K hK => ?_;go_simp;go_at_call 12
   (with_reducible refine (HLf.out _).mono ?_)
   rintro e wa ⟨rfl, hbx⟩;refine hK.out _ _ ?_ (fun hld => ?_)
   ·exact Below.trans hld (hbx.mono hld.size)
   clear hK K;try simp only [Act.put, Rg.s]
   refine wpAnyH_done (by kernel_rfl) ?_ _;refine NoPanic.normal ?_;have HBa : Hid (Below wr.heap.size wr wa) := hid hld;clear hld hbx;have HKa := hid (HK.out.below HBa.out);have HPa := hid (HPx.out.below HBa.out);have HQa := hid (HQ.out.below HBa.out);have HBB := hid (bst HB.out HBa.out);clear HBa HK HPx HQ HB HLf;cases f1 with
   | true =>
    have hBs := HBB.out.size;have hal6 := al1 wa (.cells (pairA x) 33);have HO6 := hid (Rg.Own.new wa (pairA x) 33);have HQ6 := hid (HQa.out.below hal6);have hB6 : wB.heap.size ≤ (wa.alloc (.cells (pairA x) 33)).heap.size := Nat.le_trans hBs hal6.size;have HB6 := hid (HBB.out.trans (hal6.mono hBs));have hln : (wantL F (S.take j)).length ≤ 1000000 := Nat.le_trans (List.length_filter_le _ _) (by rw [List.length_take]; omega);clear hal6;go_wp2_with (first
     | (refine Rg.run rfl _ _ (op_load_pair HKx.out (HPa.out) ⟨_, rfl, rfl⟩) ?_)
     | (refine Rg.run rfl _ _ (op_lit_pair HKx.out wa.heap.size rfl ⟨_, rfl, rfl⟩) ?_)
     | (refine wpl_push_pr HQ6.out.r HO6.out HKx.out hln hB6 rfl ⟨_, _, rfl, rfl, rfl⟩ ?_; intro v1 wc hrN hgN hlN; have HQc := hid (HQ6.out.push hrN hgN hlN); have HBc := hid (HB6.out.grown hgN hB6 (fun k e => (HQ6.out.r.lt k e).1)); clear hrN hgN hlN))
    have HKc := hid (HKB.out.below HBc.out);have HPc := hid (HPB.out.below HBc.out);clear HKa HPa HQa HBB HO6 HQ6 HB6 hB6 hln hBs;cases f2 with
    | true =>
     refine wp_region_noPanic ?_;refine wp_region_held_drew (S := fun w' => Below wc.heap.size wc w') (by kernel_rfl) ((below_drewN (Below.refl _ _) 1)) (fun hld => ?_);refine Rg.tk (i := 0) rfl ?_;try simp only [Act.put, Rg.s]
     refine Rg.tk (i := 1) rfl ?_;try simp only [Act.put, Rg.s]
     refine Rg.tk (i := 2) rfl ?_ (hy := by intro wz hSw; (have q0 := hji; have q1 := hlt; go_simp <;> with_reducible rfl));try simp only [Act.put, Rg.s]
     refine Rg.tk (i := 3) rfl ?_;try simp only [Act.put, Rg.s]
     refine Rg.tk (i := 4) rfl ?_ (hy := by intro wz hSw; (refine op_load_key_mid HKx.out (HPc.out.below hSw).key ?_; exact ⟨_, rfl, rfl⟩));try simp only [Act.put, Rg.s]
     refine Rg.tk (i := 5) rfl ?_ (hy := by intro wz hSw; (refine op_load_key HFl.out (HKc.out.kf.below hSw).2 ?_; exact ⟨_, rfl, rfl⟩));try simp only [Act.put, Rg.s]
     refine Rg.rd (i := 6) rfl fun K hK => ?_;go_simp;go_at_call 12
     (with_reducible refine (HLg.out _).mono ?_)
     rintro e wd ⟨rfl, hbx⟩;refine hK.out _ _ ?_ (fun hld => ?_)
     ·exact Below.trans hld (hbx.mono hld.size)
     clear hK K;try simp only [Act.put, Rg.s]
     refine Rg.tk (i := 7) rfl ?_;try simp only [Act.put, Rg.s]
     refine Rg.tk (i := 8) rfl ?_;try simp only [Act.put, Rg.s]
     refine Rg.takeL (i := 9) (v := undef) rfl (by kernel_rfl) (by kernel_rfl) (by kernel_rfl) (fun _ _ _ h => h) (Or.inr ⟨by rfl, rfl⟩) (by assumption) ?_;try simp only [Act.put, Rg.s]
     refine Rg.takeL (i := 10) (v := undef) rfl (by kernel_rfl) (by kernel_rfl) (by kernel_rfl) (fun _ _ _ h => h) (Or.inr ⟨by rfl, rfl⟩) (by assumption) ?_;try simp only [Act.put, Rg.s]
     refine Rg.takeL (i := 11) (v := undef) rfl (by kernel_rfl) (by kernel_rfl) (by kernel_rfl) (fun _ _ _ h => h) (Or.inr ⟨by rfl, rfl⟩) (by assumption) ?_;try simp only [Act.put, Rg.s]
     refine Rg.takeL (i := 12) (v := undef) rfl (by kernel_rfl) (by kernel_rfl) (by kernel_rfl) (fun _ _ _ h => h) (Or.inr ⟨by rfl, rfl⟩) (by assumption) ?_;try simp only [Act.put, Rg.s]
     refine Rg.takeL (i := 13) (v := undef) rfl (by kernel_rfl) (by kernel_rfl) (by kernel_rfl) (fun _ _ _ h => h) (Or.inr ⟨by rfl, rfl⟩) (by assumption) ?_;try simp only [Act.put, Rg.s]
     refine Rg.takeL (i := 14) (v := undef) rfl (by kernel_rfl) (by kernel_rfl) (by kernel_rfl) (fun _ _ _ h => h) (Or.inr ⟨by rfl, rfl⟩) (by assumption) ?_;try simp only [Act.put, Rg.s]
     refine Rg.takeL (i := 15) (v := undef) rfl (by kernel_rfl) (by kernel_rfl) (by kernel_rfl) (fun _ _ _ h => h) (Or.inr ⟨by rfl, rfl⟩) (by assumption) ?_;try simp only [Act.put, Rg.s]
     refine Rg.tk (i := 16) rfl ?_;try simp only [Act.put, Rg.s]
     refine wpAnyH_done (by kernel_rfl) ?_ _;refine NoPanic.normal ?_;have HBd : Hid (Below wc.heap.size wc wd) := hid hld;clear hld hbx;have HQd := hid (HQc.out.below HBd.out);have HBD := hid (bst HBc.out HBd.out);go_wp2;go_roundw
     case rel => exact ⟨j + 1, by omega, by go_num, hid (by rw [HTk.out, want_snoc, mid_snoc]; rw [HF1.out, if_pos rfl, HF2.out]; exact (by simpa using HQd.out)), HBD⟩
     case measure => simp [intOf]; omega
    | false =>
     cases f3 with
     | false =>
      refine wp_region_noPanic ?_;refine wp_region_held_drew (S := fun w' => Below wc.heap.size wc w') (by kernel_rfl) ((below_drewN (Below.refl _ _) 1)) (fun hld => ?_);refine Rg.tk (i := 0) rfl ?_;try simp only [Act.put, Rg.s]
      refine Rg.tk (i := 1) rfl ?_;try simp only [Act.put, Rg.s]
      refine Rg.tk (i := 2) rfl ?_ (hy := by intro wz hSw; (have q0 := hji; have q1 := hlt; go_simp <;> with_reducible rfl));try simp only [Act.put, Rg.s]
      refine Rg.tk (i := 3) rfl ?_;try simp only [Act.put, Rg.s]
      refine Rg.tk (i := 4) rfl ?_ (hy := by intro wz hSw; (refine op_load_key_mid HKx.out (HPc.out.below hSw).key ?_; exact ⟨_, rfl, rfl⟩));try simp only [Act.put, Rg.s]
      refine Rg.tk (i := 5) rfl ?_ (hy := by intro wz hSw; (refine op_load_key HFl.out (HKc.out.kf.below hSw).2 ?_; exact ⟨_, rfl, rfl⟩));try simp only [Act.put, Rg.s]
      refine Rg.rd (i := 6) rfl fun K hK => ?_;go_simp;go_at_call 12
      (with_reducible refine (HLg.out _).mono ?_)
      rintro e wv0 ⟨rfl, hbx⟩;refine hK.out _ _ ?_ (fun hld => ?_)
      ·exact Below.trans hld (hbx.mono hld.size)
      clear hK K;try simp only [Act.put, Rg.s]
      refine Rg.tk (i := 7) rfl ?_;try simp only [Act.put, Rg.s]
      refine Rg.tk (i := 8) rfl ?_;try simp only [Act.put, Rg.s]
      refine Rg.tk (i := 9) rfl ?_;try simp only [Act.put, Rg.s]
      refine Rg.tk (i := 10) rfl ?_;try simp only [Act.put, Rg.s]
      refine Rg.tk (i := 11) rfl ?_ (hy := by intro wz hSw; (have q0 := hji; have q1 := hlt; go_simp <;> with_reducible rfl));try simp only [Act.put, Rg.s]
      refine Rg.tk (i := 12) rfl ?_;try simp only [Act.put, Rg.s]
      refine Rg.tk (i := 13) rfl ?_ (hy := by intro wz hSw; (refine op_load_key_mid HKx.out (HPc.out.below hSw).key ?_; exact ⟨_, rfl, rfl⟩));try simp only [Act.put, Rg.s]
      refine Rg.tk (i := 14) rfl ?_ (hy := by intro wz hSw; (refine op_load_key HOl.out (HKc.out.kt.below hSw).2 ?_; exact ⟨_, rfl, rfl⟩));try simp only [Act.put, Rg.s]
      refine Rg.rd (i := 15) rfl fun K hK => ?_;go_simp;go_at_call 12
      (with_reducible refine (HLo.out _).mono ?_)
      rintro e wd ⟨rfl, hbx⟩;refine hK.out _ _ ?_ (fun hld => ?_)
      ·exact Below.trans hld (hbx.mono hld.size)
      clear hK K;try simp only [Act.put, Rg.s]
      refine Rg.tk (i := 16) rfl ?_;try simp only [Act.put, Rg.s]
      refine wpAnyH_done (by kernel_rfl) ?_ _;refine NoPanic.normal ?_;have HBd : Hid (Below wc.heap.size wc wd) := hid hld;clear hld hbx;have HQd := hid (HQc.out.below HBd.out);have HBD := hid (bst HBc.out HBd.out);go_wp2;go_roundw
      case rel => exact ⟨j + 1, by omega, by go_num, hid (by rw [HTk.out, want_snoc, mid_snoc]; rw [HF1.out, if_pos rfl, HF2.out, HF3.out]; exact (by simpa using HQd.out)), HBD⟩
      case measure => simp [intOf]; omega
     | true =>
      refine wp_region_noPanic ?_;refine wp_region_held_drew (S := fun w' => Below wc.heap.size wc w') (by kernel_rfl) ((below_drewN (Below.refl _ _) 1)) (fun hld => ?_);refine Rg.tk (i := 0) rfl ?_;try simp only [Act.put, Rg.s]
      refine Rg.tk (i := 1) rfl ?_;try simp only [Act.put, Rg.s]
      refine Rg.tk (i := 2) rfl ?_ (hy := by intro wz hSw; (have q0 := hji; have q1 := hlt; go_simp <;> with_reducible rfl));try simp only [Act.put, Rg.s]
      refine Rg.tk (i := 3) rfl ?_;try simp only [Act.put, Rg.s]
      refine Rg.tk (i := 4) rfl ?_ (hy := by intro wz hSw; (refine op_load_key_mid HKx.out (HPc.out.below hSw).key ?_; exact ⟨_, rfl, rfl⟩));try simp only [Act.put, Rg.s]
      refine Rg.tk (i := 5) rfl ?_ (hy := by intro wz hSw; (refine op_load_key HFl.out (HKc.out.kf.below hSw).2 ?_; exact ⟨_, rfl, rfl⟩));try simp only [Act.put, Rg.s]
      refine Rg.rd (i := 6) rfl fun K hK => ?_;go_simp;go_at_call 12
      (with_reducible refine (HLg.out _).mono ?_)
      rintro e wv0 ⟨rfl, hbx⟩;refine hK.out _ _ ?_ (fun hld => ?_)
      ·exact Below.trans hld (hbx.mono hld.size)
      clear hK K;try simp only [Act.put, Rg.s]
      refine Rg.tk (i := 7) rfl ?_;try simp only [Act.put, Rg.s]
      refine Rg.tk (i := 8) rfl ?_;try simp only [Act.put, Rg.s]
      refine Rg.tk (i := 9) rfl ?_;try simp only [Act.put, Rg.s]
      refine Rg.tk (i := 10) rfl ?_;try simp only [Act.put, Rg.s]
      refine Rg.tk (i := 11) rfl ?_ (hy := by intro wz hSw; (have q0 := hji; have q1 := hlt; go_simp <;> with_reducible rfl));try simp only [Act.put, Rg.s]
      refine Rg.tk (i := 12) rfl ?_;try simp only [Act.put, Rg.s]
      refine Rg.tk (i := 13) rfl ?_ (hy := by intro wz hSw; (refine op_load_key_mid HKx.out (HPc.out.below hSw).key ?_; exact ⟨_, rfl, rfl⟩));try simp only [Act.put, Rg.s]
      refine Rg.tk (i := 14) rfl ?_ (hy := by intro wz hSw; (refine op_load_key HOl.out (HKc.out.kt.below hSw).2 ?_; exact ⟨_, rfl, rfl⟩));try simp only [Act.put, Rg.s]
      refine Rg.rd (i := 15) rfl fun K hK => ?_;go_simp;go_at_call 12
      (with_reducible refine (HLo.out _).mono ?_)
      rintro e wd ⟨rfl, hbx⟩;refine hK.out _ _ ?_ (fun hld => ?_)
      ·exact Below.trans hld (hbx.mono hld.size)
      clear hK K;try simp only [Act.put, Rg.s]
      refine Rg.tk (i := 16) rfl ?_;try simp only [Act.put, Rg.s]
      refine wpAnyH_done (by kernel_rfl) ?_ _;refine NoPanic.normal ?_;have HBd : Hid (Below wc.heap.size wc wd) := hid hld;clear hld hbx;have HQd := hid (HQc.out.below HBd.out);have HBD := hid (bst HBc.out HBd.out);have HKd := hid (HKB.out.below HBD.out);have HPd := hid (HPB.out.below HBD.out);have hBs := HBD.out.size;have hal6 := al1 wd (.cells (pairA x) 33);have HO6 := hid (Rg.Own.new wd (pairA x) 33);have HQ6 := hid (HQd.out.swap.below hal6);have hB6 : wB.heap.size ≤ (wd.alloc (.cells (pairA x) 33)).heap.size := Nat.le_trans hBs hal6.size
      have HB6 := hid (HBD.out.trans (hal6.mono hBs));have hln : (midL F O (S.take j)).length ≤ 1000000 := Nat.le_trans (List.length_filter_le _ _) (by rw [List.length_take]; omega);clear hal6;go_wp2_with (first
       | (refine Rg.run rfl _ _ (op_load_pair HKx.out (HPd.out) ⟨_, rfl, rfl⟩) ?_)
       | (refine Rg.run rfl _ _ (op_lit_pair HKx.out wd.heap.size rfl ⟨_, rfl, rfl⟩) ?_)
       | (refine wpl_push_pr HQ6.out.r HO6.out HKx.out hln hB6 rfl ⟨_, _, rfl, rfl, rfl⟩ ?_; intro v2 we hrN hgN hlN; have HQe := hid (HQ6.out.push hrN hgN hlN); have HBe := hid (HB6.out.grown hgN hB6 (fun k e => (HQ6.out.r.lt k e).1)); clear hrN hgN hlN))
      go_wp2;go_roundw
      case rel => exact ⟨j + 1, by omega, by go_num, hid (by rw [HTk.out, want_snoc, mid_snoc]; rw [HF1.out, if_pos rfl, HF2.out, HF3.out]; exact (by simpa using HQe.out.swap)), HBe⟩
      case measure => simp [intOf]; omega
   | false =>
    go_wp2_with fail
    cases f2 with
    | true =>
     refine wp_region_noPanic ?_;refine wp_region_held_drew (S := fun w' => Below wa.heap.size wa w') (by kernel_rfl) ((below_drewN (Below.refl _ _) 1)) (fun hld => ?_);refine Rg.tk (i := 0) rfl ?_;try simp only [Act.put, Rg.s]
     refine Rg.tk (i := 1) rfl ?_;try simp only [Act.put, Rg.s]
     refine Rg.tk (i := 2) rfl ?_ (hy := by intro wz hSw; (have q0 := hji; have q1 := hlt; go_simp <;> with_reducible rfl));try simp only [Act.put, Rg.s]
     refine Rg.tk (i := 3) rfl ?_;try simp only [Act.put, Rg.s]
     refine Rg.tk (i := 4) rfl ?_ (hy := by intro wz hSw; (refine op_load_key_mid HKx.out (HPa.out.below hSw).key ?_; exact ⟨_, rfl, rfl⟩));try simp only [Act.put, Rg.s]
     refine Rg.tk (i := 5) rfl ?_ (hy := by intro wz hSw; (refine op_load_key HFl.out (HKa.out.kf.below hSw).2 ?_; exact ⟨_, rfl, rfl⟩));try simp only [Act.put, Rg.s]
     refine Rg.rd (i := 6) rfl fun K hK => ?_;go_simp;go_at_call 12
     (with_reducible refine (HLg.out _).mono ?_)
     rintro e wd ⟨rfl, hbx⟩;refine hK.out _ _ ?_ (fun hld => ?_)
     ·exact Below.trans hld (hbx.mono hld.size)
     clear hK K;try simp only [Act.put, Rg.s]
     refine Rg.tk (i := 7) rfl ?_;try simp only [Act.put, Rg.s]
     refine Rg.tk (i := 8) rfl ?_;try simp only [Act.put, Rg.s]
     refine Rg.takeL (i := 9) (v := undef) rfl (by kernel_rfl) (by kernel_rfl) (by kernel_rfl) (fun _ _ _ h => h) (Or.inr ⟨by rfl, rfl⟩) (by assumption) ?_;try simp only [Act.put, Rg.s]
     refine Rg.takeL (i := 10) (v := undef) rfl (by kernel_rfl) (by kernel_rfl) (by kernel_rfl) (fun _ _ _ h => h) (Or.inr ⟨by rfl, rfl⟩) (by assumption) ?_;try simp only [Act.put, Rg.s]
     refine Rg.takeL (i := 11) (v := undef) rfl (by kernel_rfl) (by kernel_rfl) (by kernel_rfl) (fun _ _ _ h => h) (Or.inr ⟨by rfl, rfl⟩) (by assumption) ?_;try simp only [Act.put, Rg.s]
     refine Rg.takeL (i := 12) (v := undef) rfl (by kernel_rfl) (by kernel_rfl) (by kernel_rfl) (fun _ _ _ h => h) (Or.inr ⟨by rfl, rfl⟩) (by assumption) ?_;try simp only [Act.put, Rg.s]
     refine Rg.takeL (i := 13) (v := undef) rfl (by kernel_rfl) (by kernel_rfl) (by kernel_rfl) (fun _ _ _ h => h) (Or.inr ⟨by rfl, rfl⟩) (by assumption) ?_;try simp only [Act.put, Rg.s]
     refine Rg.takeL (i := 14) (v := undef) rfl (by kernel_rfl) (by kernel_rfl) (by kernel_rfl) (fun _ _ _ h => h) (Or.inr ⟨by rfl, rfl⟩) (by assumption) ?_;try simp only [Act.put, Rg.s]
     refine Rg.takeL (i := 15) (v := undef) rfl (by kernel_rfl) (by kernel_rfl) (by kernel_rfl) (fun _ _ _ h => h) (Or.inr ⟨by rfl, rfl⟩) (by assumption) ?_;try simp only [Act.put, Rg.s]
     refine Rg.tk (i := 16) rfl ?_;try simp only [Act.put, Rg.s]
     refine wpAnyH_done (by kernel_rfl) ?_ _;refine NoPanic.normal ?_;have HBd : Hid (Below wa.heap.size wa wd) := hid hld;clear hld hbx;have HQd := hid (HQa.out.below HBd.out);have HBD := hid (bst HBB.out HBd.out);go_wp2;go_roundw
     case rel => exact ⟨j + 1, by omega, by go_num, hid (by rw [HTk.out, want_snoc, mid_snoc]; rw [HF1.out, if_neg (by simp), List.append_nil, HF2.out]; exact (by simpa using HQd.out)), HBD⟩
     case measure => simp [intOf]; omega
    | false =>
     cases f3 with
     | false =>
      refine wp_region_noPanic ?_;refine wp_region_held_drew (S := fun w' => Below wa.heap.size wa w') (by kernel_rfl) ((below_drewN (Below.refl _ _) 1)) (fun hld => ?_);refine Rg.tk (i := 0) rfl ?_;try simp only [Act.put, Rg.s]
      refine Rg.tk (i := 1) rfl ?_;try simp only [Act.put, Rg.s]
      refine Rg.tk (i := 2) rfl ?_ (hy := by intro wz hSw; (have q0 := hji; have q1 := hlt; go_simp <;> with_reducible rfl));try simp only [Act.put, Rg.s]
      refine Rg.tk (i := 3) rfl ?_;try simp only [Act.put, Rg.s]
      refine Rg.tk (i := 4) rfl ?_ (hy := by intro wz hSw; (refine op_load_key_mid HKx.out (HPa.out.below hSw).key ?_; exact ⟨_, rfl, rfl⟩));try simp only [Act.put, Rg.s]
      refine Rg.tk (i := 5) rfl ?_ (hy := by intro wz hSw; (refine op_load_key HFl.out (HKa.out.kf.below hSw).2 ?_; exact ⟨_, rfl, rfl⟩));try simp only [Act.put, Rg.s]
      refine Rg.rd (i := 6) rfl fun K hK => ?_;go_simp;go_at_call 12
      (with_reducible refine (HLg.out _).mono ?_)
      rintro e wv0 ⟨rfl, hbx⟩;refine hK.out _ _ ?_ (fun hld => ?_)
      ·exact Below.trans hld (hbx.mono hld.size)
      clear hK K;try simp only [Act.put, Rg.s]
      refine Rg.tk (i := 7) rfl ?_;try simp only [Act.put, Rg.s]
      refine Rg.tk (i := 8) rfl ?_;try simp only [Act.put, Rg.s]
      refine Rg.tk (i := 9) rfl ?_;try simp only [Act.put, Rg.s]
      refine Rg.tk (i := 10) rfl ?_;try simp only [Act.put, Rg.s]
      refine Rg.tk (i := 11) rfl ?_ (hy := by intro wz hSw; (have q0 := hji; have q1 := hlt; go_simp <;> with_reducible rfl));try simp only [Act.put, Rg.s]
      refine Rg.tk (i := 12) rfl ?_;try simp only [Act.put, Rg.s]
      refine Rg.tk (i := 13) rfl ?_ (hy := by intro wz hSw; (refine op_load_key_mid HKx.out (HPa.out.below hSw).key ?_; exact ⟨_, rfl, rfl⟩));try simp only [Act.put, Rg.s]
      refine Rg.tk (i := 14) rfl ?_ (hy := by intro wz hSw; (refine op_load_key HOl.out (HKa.out.kt.below hSw).2 ?_; exact ⟨_, rfl, rfl⟩));try simp only [Act.put, Rg.s]
      refine Rg.rd (i := 15) rfl fun K hK => ?_;go_simp;go_at_call 12
      (with_reducible refine (HLo.out _).mono ?_)
      rintro e wd ⟨rfl, hbx⟩;refine hK.out _ _ ?_ (fun hld => ?_)
      ·exact Below.trans hld (hbx.mono hld.size)
      clear hK K;try simp only [Act.put, Rg.s]
      refine Rg.tk (i := 16) rfl ?_;try simp only [Act.put, Rg.s]
      refine wpAnyH_done (by kernel_rfl) ?_ _;refine NoPanic.normal ?_;have HBd : Hid (Below wa.heap.size wa wd) := hid hld;clear hld hbx;have HQd := hid (HQa.out.below HBd.out);have HBD := hid (bst HBB.out HBd.out);go_wp2;go_roundw
      case rel => exact ⟨j + 1, by omega, by go_num, hid (by rw [HTk.out, want_snoc, mid_snoc]; rw [HF1.out, if_neg (by simp), List.append_nil, HF2.out, HF3.out]; exact (by simpa using HQd.out)), HBD⟩
      case measure => simp [intOf]; omega
     | true =>
      refine wp_region_noPanic ?_;refine wp_region_held_drew (S := fun w' => Below wa.heap.size wa w') (by kernel_rfl) ((below_drewN (Below.refl _ _) 1)) (fun hld => ?_);refine Rg.tk (i := 0) rfl ?_;try simp only [Act.put, Rg.s]
      refine Rg.tk (i := 1) rfl ?_;try simp only [Act.put, Rg.s]
      refine Rg.tk (i := 2) rfl ?_ (hy := by intro wz hSw; (have q0 := hji; have q1 := hlt; go_simp <;> with_reducible rfl));try simp only [Act.put, Rg.s]
      refine Rg.tk (i := 3) rfl ?_;try simp only [Act.put, Rg.s]
      refine Rg.tk (i := 4) rfl ?_ (hy := by intro wz hSw; (refine op_load_key_mid HKx.out (HPa.out.below hSw).key ?_; exact ⟨_, rfl, rfl⟩));try simp only [Act.put, Rg.s]
      refine Rg.tk (i := 5) rfl ?_ (hy := by intro wz hSw; (refine op_load_key HFl.out (HKa.out.kf.below hSw).2 ?_; exact ⟨_, rfl, rfl⟩));try simp only [Act.put, Rg.s]
      refine Rg.rd (i := 6) rfl fun K hK => ?_;go_simp;go_at_call 12
      (with_reducible refine (HLg.out _).mono ?_)
      rintro e wv0 ⟨rfl, hbx⟩;refine hK.out _ _ ?_ (fun hld => ?_)
      ·exact Below.trans hld (hbx.mono hld.size)
      clear hK K;try simp only [Act.put, Rg.s]
      refine Rg.tk (i := 7) rfl ?_;try simp only [Act.put, Rg.s]
      refine Rg.tk (i := 8) rfl ?_;try simp only [Act.put, Rg.s]
      refine Rg.tk (i := 9) rfl ?_;try simp only [Act.put, Rg.s]
      refine Rg.tk (i := 10) rfl ?_;try simp only [Act.put, Rg.s]
      refine Rg.tk (i := 11) rfl ?_ (hy := by intro wz hSw; (have q0 := hji; have q1 := hlt; go_simp <;> with_reducible rfl));try simp only [Act.put, Rg.s]
      refine Rg.tk (i := 12) rfl ?_;try simp only [Act.put, Rg.s]
      refine Rg.tk (i := 13) rfl ?_ (hy := by intro wz hSw; (refine op_load_key_mid HKx.out (HPa.out.below hSw).key ?_; exact ⟨_, rfl, rfl⟩));try simp only [Act.put, Rg.s]
      refine Rg.tk (i := 14) rfl ?_ (hy := by intro wz hSw; (refine op_load_key HOl.out (HKa.out.kt.below hSw).2 ?_; exact ⟨_, rfl, rfl⟩));try simp only [Act.put, Rg.s]
      refine Rg.rd (i := 15) rfl fun K hK => ?_;go_simp;go_at_call 12
      (with_reducible refine (HLo.out _).mono ?_)
      rintro e wd ⟨rfl, hbx⟩;refine hK.out _ _ ?_ (fun hld => ?_)
      ·exact Below.trans hld (hbx.mono hld.size)
      clear hK K;try simp only [Act.put, Rg.s]
      refine Rg.tk (i := 16) rfl ?_;try simp only [Act.put, Rg.s]
      refine wpAnyH_done (by kernel_rfl) ?_ _;refine NoPanic.normal ?_;have HBd : Hid (Below wa.heap.size wa wd) := hid hld;clear hld hbx;have HQd := hid (HQa.out.below HBd.out);have HBD := hid (bst HBB.out HBd.out);have HKd := hid (HKB.out.below HBD.out);have HPd := hid (HPB.out.below HBD.out);have hBs := HBD.out.size;have hal6 := al1 wd (.cells (pairA x) 33);have HO6 := hid (Rg.Own.new wd (pairA x) 33);have HQ6 := hid (HQd.out.swap.below hal6);have hB6 : wB.heap.size ≤ (wd.alloc (.cells (pairA x) 33)).heap.size := Nat.le_trans hBs hal6.size
      have HB6 := hid (HBD.out.trans (hal6.mono hBs));have hln : (midL F O (S.take j)).length ≤ 1000000 := Nat.le_trans (List.length_filter_le _ _) (by rw [List.length_take]; omega);clear hal6;go_wp2_with (first
       | (refine Rg.run rfl _ _ (op_load_pair HKx.out (HPd.out) ⟨_, rfl, rfl⟩) ?_)
       | (refine Rg.run rfl _ _ (op_lit_pair HKx.out wd.heap.size rfl ⟨_, rfl, rfl⟩) ?_)
       | (refine wpl_push_pr HQ6.out.r HO6.out HKx.out hln hB6 rfl ⟨_, _, rfl, rfl, rfl⟩ ?_; intro v2 we hrN hgN hlN; have HQe := hid (HQ6.out.push hrN hgN hlN); have HBe := hid (HB6.out.grown hgN hB6 (fun k e => (HQ6.out.r.lt k e).1)); clear hrN hgN hlN))
      go_wp2;go_roundw
      case rel => exact ⟨j + 1, by omega, by go_num, hid (by rw [HTk.out, want_snoc, mid_snoc]; rw [HF1.out, if_neg (by simp), List.append_nil, HF2.out, HF3.out]; exact (by simpa using HQe.out.swap)), HBe⟩
      case measure => simp [intOf]; omega
  ·have hge : ¬ ((j : Int) < (sn : Int)) := by omega
   have hts : S.take j = S := List.take_of_length_le (by rw [HSn.out]; omega);rw [hts] at HQ;obtain ⟨wn, hwn⟩ : ∃ n, (wantL F S).length = n := ⟨_, rfl⟩
   obtain ⟨mn, hmn⟩ : ∃ n, (midL F O S).length = n := ⟨_, rfl⟩
   have hwn24 : wn ≤ 24 := by
    rw [← hwn];exact Nat.le_trans (List.length_filter_le _ _) (by rw [HSn.out]; exact hsn24)
   have hmn24 : mn ≤ 24 := by
    rw [← hmn];exact Nat.le_trans (List.length_filter_le _ _) (by rw [HSn.out]; exact hsn24)
   have HWk : Hid (∀ x ∈ wantL F S, x.1.length = 32) := hid (fun x hx => HSk.out x (List.mem_filter.1 hx).1);have HMk : Hid (∀ x ∈ midL F O S, x.1.length = 32) := hid (fun x hx => HSk.out x (List.mem_filter.1 hx).1);have HMn := hid hmn;obtain ⟨va, vc, rfl, hv⟩ := IsPs.ofOwn HWk.out hwn (by have := HQ.out.r; unfold RowPr at this; rw [hwn] at this; exact this);obtain ⟨ua, uc, rfl, hu⟩ := IsPs.ofOwn HMk.out hmn (by have := HQ.out.s; unfold RowPr at this; rw [hmn] at this; exact this);have HV := hid hv;have HU := hid hu;have HX11 := hid (HX.out.1.below HB.out)
   have HX13 := hid (HX.out.2.below HB.out);have HSm : Hid (∀ X a b n m c d W, IsPs W a n c X → IsPs W b m d X → n ≤ 1000000 → m ≤ 1000000 → Calls Tryz.prog 14 #[.slice a n c, .slice b m d] W fun e w' => e = .returned (.bool true) ∧ Below W.heap.size W w') := hid (fun X a b n m c d W h g hn hm => by
    have := psame_any X X a b n m c d W h g hn hm;rw [decide_eq_true rfl] at this;exact this)
   have HL1 := hid (fun W => wless_any F O HFl.out HOl.out W);have HL2 := hid (fun W => rless_any F O HFl.out HOl.out W);obtain ⟨fl, hfl⟩ : ∃ f, ltP F O = f := ⟨_, rfl⟩
   rw [hfl] at HL1 HL2;obtain ⟨D, hD⟩ : ∃ D, depthT t = D := ⟨_, rfl⟩
   rw [hD] at HDe HRd;clear hfl hv hu HQ hts HX hD hdep;go_wp2_with fail
   have hS0 : (S = [] ∧ sn = 0 ∧ i12 = false) ∨ ((0 : Int) < (sn : Int) ∧ i12 = true ∧ ∃ b o, sa = some ⟨b, o, none⟩ ∧ PairAt wr b o z11) := by
    have e1 := HZ11.out.1;have e2 := HZ11.out.2;have e3 := HSn.out;cases S with
    | nil => exact .inl ⟨rfl, e3.symm, e2.symm⟩
    | cons x r =>
     have hp : 0 < sn := by rw [← e3]; simp
     obtain ⟨b, o, e, _, hp0, _⟩ := HK.out.s.at' 0 hp;refine .inr ⟨by omega, e2.symm, b, o, e, ?_⟩;rw [← e1];exact pairAt0 hp0
   have hW0 : (wn = 0 ∧ i14 = false) ∨ ((0 : Int) < (wn : Int) ∧ i14 = true ∧ ∃ b o, va = some ⟨b, o, none⟩ ∧ PairAt wr b o z13) := by
    have e1 := HZ13.out.1;have e2 := HZ13.out.2;have hv := HV.out;have e3 := hwn;generalize wantL F S = W at e1 e2 hv e3;cases W with
    | nil => exact .inl ⟨e3.symm, e2.symm⟩
    | cons x r =>
     have hp : 0 < wn := by rw [← e3]; simp
     obtain ⟨b, o, e, _, hp0, _⟩ := hv.at' 0 hp;refine .inr ⟨by omega, e2.symm, b, o, e, ?_⟩;rw [← e1];exact pairAt0 hp0
   clear HZ11 HZ13 hwn hmn hge HWk hlt;go_cut [115] (fun v wx => v = .bool false ∧ Hid (Below wr.heap.size wr wx))
   case first =>
    rcases hS0 with ⟨_, hsz, rfl⟩ | ⟨hp0, rfl, b1, o1, rfl, hps0⟩
    ·have hp0 : ¬ ((0 : Int) < (sn : Int)) := by omega
     have hd0 : decide ((sn : Int) > 0) = false := decide_eq_false hp0;have he0 : decide ((0 : Int) < (sn : Int)) = false := decide_eq_false hp0;have hn0 : ¬ (0 < sn) := by omega
     have ho0 : decide (0 < sn) = false := decide_eq_false hn0;clear hsz;rcases hW0 with ⟨hwz, rfl⟩ | ⟨hp1, rfl, b2, o2, rfl, hpw0⟩
     ·have hp1 : ¬ ((0 : Int) < (wn : Int)) := by omega
      have hd1 : decide ((wn : Int) > 0) = false := decide_eq_false hp1;have he1 : decide ((0 : Int) < (wn : Int)) = false := decide_eq_false hp1;have hn1 : ¬ (0 < wn) := by omega
      have ho1 : decide (0 < wn) = false := decide_eq_false hn1;clear hwz;refine wp_region_noPanic ?_;refine wp_region_held_drew (S := fun w' => Below wr.heap.size wr w') (by kernel_rfl) ((below_drewN (Below.refl _ _) 1)) (fun hld => ?_);refine Rg.tk (i := 0) rfl ?_;try simp only [Act.put, Rg.s]
      refine Rg.tk (i := 1) rfl ?_;try simp only [Act.put, Rg.s]
      refine Rg.tk (i := 2) rfl ?_;try simp only [Act.put, Rg.s]
      refine Rg.tk (i := 3) rfl ?_ (hy := by intro wz hSw; (have q0 := hd0; have q1 := he0; have q2 := hn0; have q3 := ho0; go_simp <;> with_reducible rfl));try simp only [Act.put, Rg.s]
      refine Rg.tk (i := 4) rfl ?_;try simp only [Act.put, Rg.s]
      refine Rg.tk (i := 5) rfl ?_;try simp only [Act.put, Rg.s]
      refine Rg.tk (i := 6) rfl ?_;try simp only [Act.put, Rg.s]
      refine Rg.tk (i := 7) rfl ?_;try simp only [Act.put, Rg.s]
      refine Rg.takeL (i := 8) (v := undef) rfl (by kernel_rfl) (by kernel_rfl) (by kernel_rfl) (fun _ _ _ h => h) (Or.inr ⟨by rfl, rfl⟩) (by assumption) ?_;try simp only [Act.put, Rg.s]
      refine Rg.takeL (i := 9) (v := undef) rfl (by kernel_rfl) (by kernel_rfl) (by kernel_rfl) (fun _ _ _ h => h) (Or.inr ⟨by rfl, rfl⟩) (by assumption) ?_;try simp only [Act.put, Rg.s]
      refine Rg.takeL (i := 10) (v := undef) rfl (by kernel_rfl) (by kernel_rfl) (by kernel_rfl) (fun _ _ _ h => h) (Or.inr ⟨by rfl, rfl⟩) (by assumption) ?_;try simp only [Act.put, Rg.s]
      refine Rg.takeL (i := 11) (v := undef) rfl (by kernel_rfl) (by kernel_rfl) (by kernel_rfl) (fun _ _ _ h => h) (Or.inr ⟨by rfl, rfl⟩) (by assumption) ?_;try simp only [Act.put, Rg.s]
      refine Rg.takeL (i := 12) (v := undef) rfl (by kernel_rfl) (by kernel_rfl) (by kernel_rfl) (fun _ _ _ h => h) (Or.inr ⟨by rfl, rfl⟩) (by assumption) ?_;try simp only [Act.put, Rg.s]
      refine Rg.tk (i := 13) rfl ?_;try simp only [Act.put, Rg.s]
      refine Rg.tk (i := 14) rfl ?_;try simp only [Act.put, Rg.s]
      refine Rg.tk (i := 15) rfl ?_;try simp only [Act.put, Rg.s]
      refine Rg.tk (i := 16) rfl ?_;try simp only [Act.put, Rg.s]
      refine Rg.tk (i := 17) rfl ?_;try simp only [Act.put, Rg.s]
      refine Rg.tk (i := 18) rfl ?_;try simp only [Act.put, Rg.s]
      refine Rg.tk (i := 19) rfl ?_ (hy := by intro wz hSw; (have q0 := hd1; have q1 := he1; have q2 := hn1; have q3 := ho1; go_simp <;> with_reducible rfl));try simp only [Act.put, Rg.s]
      refine Rg.tk (i := 20) rfl ?_;try simp only [Act.put, Rg.s]
      refine Rg.tk (i := 21) rfl ?_;try simp only [Act.put, Rg.s]
      refine Rg.tk (i := 22) rfl ?_;try simp only [Act.put, Rg.s]
      refine Rg.tk (i := 23) rfl ?_;try simp only [Act.put, Rg.s]
      refine Rg.tk (i := 24) rfl ?_;try simp only [Act.put, Rg.s]
      refine Rg.takeL (i := 25) (v := undef) rfl (by kernel_rfl) (by kernel_rfl) (by kernel_rfl) (fun _ _ _ h => h) (Or.inr ⟨by rfl, rfl⟩) (by assumption) ?_;try simp only [Act.put, Rg.s]
      refine Rg.takeL (i := 26) (v := undef) rfl (by kernel_rfl) (by kernel_rfl) (by kernel_rfl) (fun _ _ _ h => h) (Or.inr ⟨by rfl, rfl⟩) (by assumption) ?_;try simp only [Act.put, Rg.s]
      refine Rg.takeL (i := 27) (v := undef) rfl (by kernel_rfl) (by kernel_rfl) (by kernel_rfl) (fun _ _ _ h => h) (Or.inr ⟨by rfl, rfl⟩) (by assumption) ?_;try simp only [Act.put, Rg.s]
      refine Rg.takeL (i := 28) (v := undef) rfl (by kernel_rfl) (by kernel_rfl) (by kernel_rfl) (fun _ _ _ h => h) (Or.inr ⟨by rfl, rfl⟩) (by assumption) ?_;try simp only [Act.put, Rg.s]
      refine Rg.takeL (i := 29) (v := undef) rfl (by kernel_rfl) (by kernel_rfl) (by kernel_rfl) (fun _ _ _ h => h) (Or.inr ⟨by rfl, rfl⟩) (by assumption) ?_;try simp only [Act.put, Rg.s]
      refine Rg.tk (i := 30) rfl ?_;try simp only [Act.put, Rg.s]
      refine Rg.tk (i := 31) rfl ?_;try simp only [Act.put, Rg.s]
      refine wpAnyH_done (by kernel_rfl) ?_ _;refine NoPanic.normal ?_;have HBz : Hid (Below wr.heap.size wr wr.drew) := hid ((Below.refl _ _).drew);go_wp2;go_meet
      exact ⟨rfl, HBz⟩
     ·have HPw0 := hid hpw0;have hd1 : decide ((wn : Int) > 0) = true := decide_eq_true hp1;have he1 : decide ((0 : Int) < (wn : Int)) = true := decide_eq_true hp1;have hn1 : 0 < wn := by omega
      have ho1 : decide (0 < wn) = true := decide_eq_true hn1;clear hpw0;refine wp_region_noPanic ?_;refine wp_region_held_drew (S := fun w' => Below wr.heap.size wr w') (by kernel_rfl) ((below_drewN (Below.refl _ _) 1)) (fun hld => ?_);refine Rg.tk (i := 0) rfl ?_;try simp only [Act.put, Rg.s]
      refine Rg.tk (i := 1) rfl ?_;try simp only [Act.put, Rg.s]
      refine Rg.tk (i := 2) rfl ?_;try simp only [Act.put, Rg.s]
      refine Rg.tk (i := 3) rfl ?_ (hy := by intro wz hSw; (have q0 := hd0; have q1 := he0; have q2 := hn0; have q3 := ho0; go_simp <;> with_reducible rfl));try simp only [Act.put, Rg.s]
      refine Rg.tk (i := 4) rfl ?_;try simp only [Act.put, Rg.s]
      refine Rg.tk (i := 5) rfl ?_;try simp only [Act.put, Rg.s]
      refine Rg.tk (i := 6) rfl ?_;try simp only [Act.put, Rg.s]
      refine Rg.tk (i := 7) rfl ?_;try simp only [Act.put, Rg.s]
      refine Rg.takeL (i := 8) (v := undef) rfl (by kernel_rfl) (by kernel_rfl) (by kernel_rfl) (fun _ _ _ h => h) (Or.inr ⟨by rfl, rfl⟩) (by assumption) ?_;try simp only [Act.put, Rg.s]
      refine Rg.takeL (i := 9) (v := undef) rfl (by kernel_rfl) (by kernel_rfl) (by kernel_rfl) (fun _ _ _ h => h) (Or.inr ⟨by rfl, rfl⟩) (by assumption) ?_;try simp only [Act.put, Rg.s]
      refine Rg.takeL (i := 10) (v := undef) rfl (by kernel_rfl) (by kernel_rfl) (by kernel_rfl) (fun _ _ _ h => h) (Or.inr ⟨by rfl, rfl⟩) (by assumption) ?_;try simp only [Act.put, Rg.s]
      refine Rg.takeL (i := 11) (v := undef) rfl (by kernel_rfl) (by kernel_rfl) (by kernel_rfl) (fun _ _ _ h => h) (Or.inr ⟨by rfl, rfl⟩) (by assumption) ?_;try simp only [Act.put, Rg.s]
      refine Rg.takeL (i := 12) (v := undef) rfl (by kernel_rfl) (by kernel_rfl) (by kernel_rfl) (fun _ _ _ h => h) (Or.inr ⟨by rfl, rfl⟩) (by assumption) ?_;try simp only [Act.put, Rg.s]
      refine Rg.tk (i := 13) rfl ?_;try simp only [Act.put, Rg.s]
      refine Rg.tk (i := 14) rfl ?_;try simp only [Act.put, Rg.s]
      refine Rg.tk (i := 15) rfl ?_;try simp only [Act.put, Rg.s]
      refine Rg.tk (i := 16) rfl ?_;try simp only [Act.put, Rg.s]
      refine Rg.tk (i := 17) rfl ?_;try simp only [Act.put, Rg.s]
      refine Rg.tk (i := 18) rfl ?_;try simp only [Act.put, Rg.s]
      refine Rg.tk (i := 19) rfl ?_ (hy := by intro wz hSw; (have q0 := hd1; have q1 := he1; have q2 := hn1; have q3 := ho1; go_simp <;> with_reducible rfl));try simp only [Act.put, Rg.s]
      refine Rg.tk (i := 20) rfl ?_;try simp only [Act.put, Rg.s]
      refine Rg.tk (i := 21) rfl ?_;try simp only [Act.put, Rg.s]
      refine Rg.tk (i := 22) rfl ?_;try simp only [Act.put, Rg.s]
      refine Rg.tk (i := 23) rfl ?_;try simp only [Act.put, Rg.s]
      refine Rg.tk (i := 24) rfl ?_;try simp only [Act.put, Rg.s]
      refine Rg.tk (i := 25) rfl ?_ (hy := by intro wz hSw; (refine op_load_pair Hh2.out (PairAt.own (HX13.out.below hSw)) ?_; exact ⟨_, rfl, rfl⟩));try simp only [Act.put, Rg.s]
      refine Rg.tk (i := 26) rfl ?_;try simp only [Act.put, Rg.s]
      refine Rg.tk (i := 27) rfl ?_ (hy := by intro wz hSw; (have q0 := hp1; have q2 := hn1; go_simp <;> with_reducible rfl));try simp only [Act.put, Rg.s]
      refine Rg.tk (i := 28) rfl ?_ (hy := by intro wz hSw; (refine op_load_pair Hh2.out (HPw0.out.below hSw) ?_; exact ⟨_, rfl, rfl⟩));try simp only [Act.put, Rg.s]
      refine Rg.tk (i := 29) rfl ?_ (hy := by intro wz hSw; (refine op_neq_same Hh2.out ?_; exact ⟨_, _, _, rfl, rfl, rfl⟩));try simp only [Act.put, Rg.s]
      refine Rg.tk (i := 30) rfl ?_;try simp only [Act.put, Rg.s]
      refine Rg.tk (i := 31) rfl ?_;try simp only [Act.put, Rg.s]
      refine wpAnyH_done (by kernel_rfl) ?_ _;refine NoPanic.normal ?_;have HBz : Hid (Below wr.heap.size wr wr.drew) := hid ((Below.refl _ _).drew);go_wp2;go_meet
      exact ⟨rfl, HBz⟩
    ·have HPs0 := hid hps0;have hd0 : decide ((sn : Int) > 0) = true := decide_eq_true hp0;have he0 : decide ((0 : Int) < (sn : Int)) = true := decide_eq_true hp0;have hn0 : 0 < sn := by omega
     have ho0 : decide (0 < sn) = true := decide_eq_true hn0;clear hps0;rcases hW0 with ⟨hwz, rfl⟩ | ⟨hp1, rfl, b2, o2, rfl, hpw0⟩
     ·have hp1 : ¬ ((0 : Int) < (wn : Int)) := by omega
      have hd1 : decide ((wn : Int) > 0) = false := decide_eq_false hp1;have he1 : decide ((0 : Int) < (wn : Int)) = false := decide_eq_false hp1;have hn1 : ¬ (0 < wn) := by omega
      have ho1 : decide (0 < wn) = false := decide_eq_false hn1;clear hwz;refine wp_region_noPanic ?_;refine wp_region_held_drew (S := fun w' => Below wr.heap.size wr w') (by kernel_rfl) ((below_drewN (Below.refl _ _) 1)) (fun hld => ?_);refine Rg.tk (i := 0) rfl ?_;try simp only [Act.put, Rg.s]
      refine Rg.tk (i := 1) rfl ?_;try simp only [Act.put, Rg.s]
      refine Rg.tk (i := 2) rfl ?_;try simp only [Act.put, Rg.s]
      refine Rg.tk (i := 3) rfl ?_ (hy := by intro wz hSw; (have q0 := hd0; have q1 := he0; have q2 := hn0; have q3 := ho0; go_simp <;> with_reducible rfl));try simp only [Act.put, Rg.s]
      refine Rg.tk (i := 4) rfl ?_;try simp only [Act.put, Rg.s]
      refine Rg.tk (i := 5) rfl ?_;try simp only [Act.put, Rg.s]
      refine Rg.tk (i := 6) rfl ?_;try simp only [Act.put, Rg.s]
      refine Rg.tk (i := 7) rfl ?_;try simp only [Act.put, Rg.s]
      refine Rg.tk (i := 8) rfl ?_ (hy := by intro wz hSw; (refine op_load_pair Hh.out (PairAt.own (HX11.out.below hSw)) ?_; exact ⟨_, rfl, rfl⟩));try simp only [Act.put, Rg.s]
      refine Rg.tk (i := 9) rfl ?_;try simp only [Act.put, Rg.s]
      refine Rg.tk (i := 10) rfl ?_ (hy := by intro wz hSw; (have q0 := hp0; have q2 := hn0; go_simp <;> with_reducible rfl));try simp only [Act.put, Rg.s]
      refine Rg.tk (i := 11) rfl ?_ (hy := by intro wz hSw; (refine op_load_pair Hh.out (HPs0.out.below hSw) ?_; exact ⟨_, rfl, rfl⟩));try simp only [Act.put, Rg.s]
      refine Rg.tk (i := 12) rfl ?_ (hy := by intro wz hSw; (refine op_neq_same Hh.out ?_; exact ⟨_, _, _, rfl, rfl, rfl⟩));try simp only [Act.put, Rg.s]
      refine Rg.tk (i := 13) rfl ?_;try simp only [Act.put, Rg.s]
      refine Rg.tk (i := 14) rfl ?_;try simp only [Act.put, Rg.s]
      refine Rg.tk (i := 15) rfl ?_;try simp only [Act.put, Rg.s]
      refine Rg.tk (i := 16) rfl ?_;try simp only [Act.put, Rg.s]
      refine Rg.tk (i := 17) rfl ?_;try simp only [Act.put, Rg.s]
      refine Rg.tk (i := 18) rfl ?_;try simp only [Act.put, Rg.s]
      refine Rg.tk (i := 19) rfl ?_ (hy := by intro wz hSw; (have q0 := hd1; have q1 := he1; have q2 := hn1; have q3 := ho1; go_simp <;> with_reducible rfl));try simp only [Act.put, Rg.s]
      refine Rg.tk (i := 20) rfl ?_;try simp only [Act.put, Rg.s]
      refine Rg.tk (i := 21) rfl ?_;try simp only [Act.put, Rg.s]
      refine Rg.tk (i := 22) rfl ?_;try simp only [Act.put, Rg.s]
      refine Rg.tk (i := 23) rfl ?_;try simp only [Act.put, Rg.s]
      refine Rg.tk (i := 24) rfl ?_;try simp only [Act.put, Rg.s]
      refine Rg.takeL (i := 25) (v := undef) rfl (by kernel_rfl) (by kernel_rfl) (by kernel_rfl) (fun _ _ _ h => h) (Or.inr ⟨by rfl, rfl⟩) (by assumption) ?_;try simp only [Act.put, Rg.s]
      refine Rg.takeL (i := 26) (v := undef) rfl (by kernel_rfl) (by kernel_rfl) (by kernel_rfl) (fun _ _ _ h => h) (Or.inr ⟨by rfl, rfl⟩) (by assumption) ?_;try simp only [Act.put, Rg.s]
      refine Rg.takeL (i := 27) (v := undef) rfl (by kernel_rfl) (by kernel_rfl) (by kernel_rfl) (fun _ _ _ h => h) (Or.inr ⟨by rfl, rfl⟩) (by assumption) ?_;try simp only [Act.put, Rg.s]
      refine Rg.takeL (i := 28) (v := undef) rfl (by kernel_rfl) (by kernel_rfl) (by kernel_rfl) (fun _ _ _ h => h) (Or.inr ⟨by rfl, rfl⟩) (by assumption) ?_;try simp only [Act.put, Rg.s]
      refine Rg.takeL (i := 29) (v := undef) rfl (by kernel_rfl) (by kernel_rfl) (by kernel_rfl) (fun _ _ _ h => h) (Or.inr ⟨by rfl, rfl⟩) (by assumption) ?_;try simp only [Act.put, Rg.s]
      refine Rg.tk (i := 30) rfl ?_;try simp only [Act.put, Rg.s]
      refine Rg.tk (i := 31) rfl ?_;try simp only [Act.put, Rg.s]
      refine wpAnyH_done (by kernel_rfl) ?_ _;refine NoPanic.normal ?_;have HBz : Hid (Below wr.heap.size wr wr.drew) := hid ((Below.refl _ _).drew);go_wp2;go_meet
      exact ⟨rfl, HBz⟩
     ·have HPw0 := hid hpw0;have hd1 : decide ((wn : Int) > 0) = true := decide_eq_true hp1;have he1 : decide ((0 : Int) < (wn : Int)) = true := decide_eq_true hp1;have hn1 : 0 < wn := by omega
      have ho1 : decide (0 < wn) = true := decide_eq_true hn1;clear hpw0;refine wp_region_noPanic ?_;refine wp_region_held_drew (S := fun w' => Below wr.heap.size wr w') (by kernel_rfl) ((below_drewN (Below.refl _ _) 1)) (fun hld => ?_);refine Rg.tk (i := 0) rfl ?_;try simp only [Act.put, Rg.s]
      refine Rg.tk (i := 1) rfl ?_;try simp only [Act.put, Rg.s]
      refine Rg.tk (i := 2) rfl ?_;try simp only [Act.put, Rg.s]
      refine Rg.tk (i := 3) rfl ?_ (hy := by intro wz hSw; (have q0 := hd0; have q1 := he0; have q2 := hn0; have q3 := ho0; go_simp <;> with_reducible rfl));try simp only [Act.put, Rg.s]
      refine Rg.tk (i := 4) rfl ?_;try simp only [Act.put, Rg.s]
      refine Rg.tk (i := 5) rfl ?_;try simp only [Act.put, Rg.s]
      refine Rg.tk (i := 6) rfl ?_;try simp only [Act.put, Rg.s]
      refine Rg.tk (i := 7) rfl ?_;try simp only [Act.put, Rg.s]
      refine Rg.tk (i := 8) rfl ?_ (hy := by intro wz hSw; (refine op_load_pair Hh.out (PairAt.own (HX11.out.below hSw)) ?_; exact ⟨_, rfl, rfl⟩));try simp only [Act.put, Rg.s]
      refine Rg.tk (i := 9) rfl ?_;try simp only [Act.put, Rg.s]
      refine Rg.tk (i := 10) rfl ?_ (hy := by intro wz hSw; (have q0 := hp0; have q2 := hn0; go_simp <;> with_reducible rfl));try simp only [Act.put, Rg.s]
      refine Rg.tk (i := 11) rfl ?_ (hy := by intro wz hSw; (refine op_load_pair Hh.out (HPs0.out.below hSw) ?_; exact ⟨_, rfl, rfl⟩));try simp only [Act.put, Rg.s]
      refine Rg.tk (i := 12) rfl ?_ (hy := by intro wz hSw; (refine op_neq_same Hh.out ?_; exact ⟨_, _, _, rfl, rfl, rfl⟩));try simp only [Act.put, Rg.s]
      refine Rg.tk (i := 13) rfl ?_;try simp only [Act.put, Rg.s]
      refine Rg.tk (i := 14) rfl ?_;try simp only [Act.put, Rg.s]
      refine Rg.tk (i := 15) rfl ?_;try simp only [Act.put, Rg.s]
      refine Rg.tk (i := 16) rfl ?_;try simp only [Act.put, Rg.s]
      refine Rg.tk (i := 17) rfl ?_;try simp only [Act.put, Rg.s]
      refine Rg.tk (i := 18) rfl ?_;try simp only [Act.put, Rg.s]
      refine Rg.tk (i := 19) rfl ?_ (hy := by intro wz hSw; (have q0 := hd1; have q1 := he1; have q2 := hn1; have q3 := ho1; go_simp <;> with_reducible rfl));try simp only [Act.put, Rg.s]
      refine Rg.tk (i := 20) rfl ?_;try simp only [Act.put, Rg.s]
      refine Rg.tk (i := 21) rfl ?_;try simp only [Act.put, Rg.s]
      refine Rg.tk (i := 22) rfl ?_;try simp only [Act.put, Rg.s]
      refine Rg.tk (i := 23) rfl ?_;try simp only [Act.put, Rg.s]
      refine Rg.tk (i := 24) rfl ?_;try simp only [Act.put, Rg.s]
      refine Rg.tk (i := 25) rfl ?_ (hy := by intro wz hSw; (refine op_load_pair Hh2.out (PairAt.own (HX13.out.below hSw)) ?_; exact ⟨_, rfl, rfl⟩));try simp only [Act.put, Rg.s]
      refine Rg.tk (i := 26) rfl ?_;try simp only [Act.put, Rg.s]
      refine Rg.tk (i := 27) rfl ?_ (hy := by intro wz hSw; (have q0 := hp1; have q2 := hn1; go_simp <;> with_reducible rfl));try simp only [Act.put, Rg.s]
      refine Rg.tk (i := 28) rfl ?_ (hy := by intro wz hSw; (refine op_load_pair Hh2.out (HPw0.out.below hSw) ?_; exact ⟨_, rfl, rfl⟩));try simp only [Act.put, Rg.s]
      refine Rg.tk (i := 29) rfl ?_ (hy := by intro wz hSw; (refine op_neq_same Hh2.out ?_; exact ⟨_, _, _, rfl, rfl, rfl⟩));try simp only [Act.put, Rg.s]
      refine Rg.tk (i := 30) rfl ?_;try simp only [Act.put, Rg.s]
      refine Rg.tk (i := 31) rfl ?_;try simp only [Act.put, Rg.s]
      refine wpAnyH_done (by kernel_rfl) ?_ _;refine NoPanic.normal ?_;have HBz : Hid (Below wr.heap.size wr wr.drew) := hid ((Below.refl _ _).drew);go_wp2;go_meet
      exact ⟨rfl, HBz⟩
   case rest =>
    obtain ⟨rfl, HBz⟩ := hcut;have HKz := hid (HK.out.below HBz.out);have HUz := hid (HU.out.below HBz.out);clear HBz HK HU HKB HX11 HX13 HB hS0 hW0;go_wp2_with fail
    replace HKz := hid (HKz.out.below ((Below.refl wc.heap.size wc).drew));replace HUz := hid (HUz.out.below ((Below.refl wc.heap.size wc).drew));refine wp_region_noPanic ?_;refine wp_region_held_drew (S := fun w' => w'.cell? ⟨b7, 0, none⟩ = some (.pointer p3) ∧ w'.heap[w.heap.size]? = some (.cells (kc F) 24 (0, 0)) ∧ w'.heap[w.heap.size + 1]? = some (.cells (kc O) 24 (0, 0))) (by kernel_rfl) (⟨HKz.out.c, HKz.out.kf.2, HKz.out.kt.2⟩) (fun hld => ?_);refine Rg.rd (i := 0) rfl fun K hK => ?_;go_simp;go_at_call 13
    (with_reducible refine (awake10_any _ HKz.out.l.t).mono ?_)
    rintro e y0 ⟨rfl, hb⟩;replace HKz := hid (HKz.out.below hb);replace HUz := hid (HUz.out.below hb);clear hb;refine hK.out _ _ ?_ (fun hld => ?_)
    ·exact ⟨HKz.out.c, HKz.out.kf.2, HKz.out.kt.2⟩
    clear hK K;try simp only [Act.put, Rg.s]
    refine Rg.tk (i := 1) rfl ?_;try simp only [Act.put, Rg.s]
    refine Rg.tk (i := 2) rfl ?_ (hy := by intro wz hSw; (refine op_load_tree hSw.1 ?_; exact ⟨_, rfl, rfl⟩));try simp only [Act.put, Rg.s]
    refine Rg.tk (i := 4) rfl ?_;try simp only [Act.put, Rg.s]
    refine Rg.rd (i := 3) rfl fun K hK => ?_;go_simp;go_at_call 15
    (with_reducible refine (HPs.out M3 _ p3 HKz.out.l.i HKz.out.hT HKz.out.l.t).mono ?_)
    rintro e y1 ⟨v1, rfl, hr1, f, i, tt⟩;obtain ⟨a1, c1, rfl, hi1⟩ := IsPs.ofOwn HSk.out HSn.out (by have := hr1; unfold RowPr at this; rw [HSn.out] at this; exact this);have HR1 := hid hi1;clear hr1 hi1;replace HUz := hid (HUz.out.frm HKz.out.l.i f);replace HKz := hid (HKz.out.fr f i tt);clear f i tt;refine hK.out _ _ ?_ (fun hld => ?_)
    ·exact ⟨HKz.out.c, HKz.out.kf.2, HKz.out.kt.2⟩
    clear hK K;try simp only [Act.put, Rg.s]
    refine Rg.rd (i := 5) rfl fun K hK => ?_;go_simp;go_at_call 14
    (with_reducible refine (HSm.out S _ _ _ _ _ _ _ HR1.out HKz.out.s (by omega) (by omega)).mono ?_)
    rintro e y2 ⟨rfl, hb⟩;replace HKz := hid (HKz.out.below hb);replace HUz := hid (HUz.out.below hb);clear HR1;clear hb;refine hK.out _ _ ?_ (fun hld => ?_)
    ·exact ⟨HKz.out.c, HKz.out.kf.2, HKz.out.kt.2⟩
    clear hK K;try simp only [Act.put, Rg.s]
    refine Rg.tk (i := 6) rfl ?_;try simp only [Act.put, Rg.s]
    refine Rg.tk (i := 7) rfl ?_;try simp only [Act.put, Rg.s]
    refine Rg.tk (i := 8) rfl ?_;try simp only [Act.put, Rg.s]
    refine Rg.tk (i := 9) rfl ?_;try simp only [Act.put, Rg.s]
    refine Rg.tk (i := 10) rfl ?_;try simp only [Act.put, Rg.s]
    refine Rg.tk (i := 11) rfl ?_;try simp only [Act.put, Rg.s]
    refine Rg.tk (i := 12) rfl ?_;try simp only [Act.put, Rg.s]
    refine Rg.tk (i := 13) rfl ?_;try simp only [Act.put, Rg.s]
    refine Rg.tk (i := 14) rfl ?_;try simp only [Act.put, Rg.s]
    refine Rg.tk (i := 15) rfl ?_;try simp only [Act.put, Rg.s]
    refine Rg.tk (i := 16) rfl ?_;try simp only [Act.put, Rg.s]
    refine Rg.tk (i := 17) rfl ?_;try simp only [Act.put, Rg.s]
    refine Rg.tk (i := 18) rfl ?_ (hy := by intro wz hSw; (refine op_load_tree hSw.1 ?_; exact ⟨_, rfl, rfl⟩));try simp only [Act.put, Rg.s]
    refine Rg.tk (i := 20) rfl ?_;try simp only [Act.put, Rg.s]
    refine Rg.rd (i := 19) rfl fun K hK => ?_;go_simp;go_at_call 16
    (with_reducible refine (HDe.out M3 _ p3 HKz.out.l.i HKz.out.hT HKz.out.l.t).mono ?_)
    rintro e y3 ⟨rfl, f, i, tt⟩;replace HUz := hid (HUz.out.frm HKz.out.l.i f);replace HKz := hid (HKz.out.fr f i tt);clear f i tt;refine hK.out _ _ ?_ (fun hld => ?_)
    ·exact ⟨HKz.out.c, HKz.out.kf.2, HKz.out.kt.2⟩
    clear hK K;try simp only [Act.put, Rg.s]
    refine Rg.rd (i := 21) rfl fun K hK => ?_;go_simp;go_at_call 18
    (with_reducible refine (ins_any P pa pn pc _ HKz.out.q (by omega)).mono ?_)
    rintro e y4 ⟨ia, in_, ic, rfl, hI, hb⟩;have hin : in_ ≤ 24 := by rw [← hI.len]; exact HIl.out
    have HI := hid hI;clear hI;replace HKz := hid (HKz.out.below hb);replace HUz := hid (HUz.out.below hb);clear hb;refine hK.out _ _ ?_ (fun hld => ?_)
    ·exact ⟨HKz.out.c, HKz.out.kf.2, HKz.out.kt.2⟩
    clear hK K;try simp only [Act.put, Rg.s]
    refine Rg.rd (i := 22) rfl fun K hK => ?_;go_simp;go_at_call 17
    (with_reducible refine (HRd.out _ ia in_ ic HI.out (by omega)).mono ?_)
    rintro e y5 ⟨rfl, hb⟩;replace HKz := hid (HKz.out.below hb);replace HUz := hid (HUz.out.below hb);clear HI hin;clear hb;refine hK.out _ _ ?_ (fun hld => ?_)
    ·exact ⟨HKz.out.c, HKz.out.kf.2, HKz.out.kt.2⟩
    clear hK K;try simp only [Act.put, Rg.s]
    refine Rg.tk (i := 23) rfl ?_;try simp only [Act.put, Rg.s]
    refine Rg.tk (i := 24) rfl ?_;try simp only [Act.put, Rg.s]
    refine Rg.tk (i := 25) rfl ?_;try simp only [Act.put, Rg.s]
    refine Rg.tk (i := 26) rfl ?_ (hy := by intro wz hSw; (refine op_load_tree hSw.1 ?_; exact ⟨_, rfl, rfl⟩));try simp only [Act.put, Rg.s]
    refine Rg.tk (i := 27) rfl ?_ (hy := by intro wz hSw; (refine op_load_key HFl.out hSw.2.1 ?_; exact ⟨_, rfl, rfl⟩));try simp only [Act.put, Rg.s]
    refine Rg.tk (i := 28) rfl ?_ (hy := by intro wz hSw; (refine op_load_key HOl.out hSw.2.2 ?_; exact ⟨_, rfl, rfl⟩));try simp only [Act.put, Rg.s]
    refine Rg.tk (i := 30) rfl ?_;try simp only [Act.put, Rg.s]
    refine Rg.rd (i := 29) rfl fun K hK => ?_;go_simp;go_at_call 19
    (with_reducible refine (HRg.out M3 _ p3 HKz.out.l.i HKz.out.hT HKz.out.l.t).mono ?_)
    rintro e y6 ⟨v6, rfl, hr6, f, i, tt⟩;obtain ⟨a6, c6, rfl, hi6⟩ := IsPs.ofOwn HMk.out HMn.out (by have := hr6; unfold RowPr at this; rw [HMn.out] at this; exact this);have HR6 := hid hi6;clear hr6 hi6;replace HUz := hid (HUz.out.frm HKz.out.l.i f);replace HKz := hid (HKz.out.fr f i tt);clear f i tt;refine hK.out _ _ ?_ (fun hld => ?_)
    ·exact ⟨HKz.out.c, HKz.out.kf.2, HKz.out.kt.2⟩
    clear hK K;try simp only [Act.put, Rg.s]
    refine Rg.rd (i := 31) rfl fun K hK => ?_;go_simp;go_at_call 14
    (with_reducible refine (HSm.out _ _ _ _ _ _ _ _ HR6.out HUz.out (by omega) (by omega)).mono ?_)
    rintro e y7 ⟨rfl, hb⟩;replace HKz := hid (HKz.out.below hb);replace HUz := hid (HUz.out.below hb);clear HR6;clear hb;refine hK.out _ _ ?_ (fun hld => ?_)
    ·exact ⟨HKz.out.c, HKz.out.kf.2, HKz.out.kt.2⟩
    clear hK K;try simp only [Act.put, Rg.s]
    refine Rg.tk (i := 32) rfl ?_;try simp only [Act.put, Rg.s]
    refine Rg.tk (i := 33) rfl ?_;try simp only [Act.put, Rg.s]
    refine Rg.tk (i := 34) rfl ?_ (hy := by intro wz hSw; (refine op_load_key HFl.out hSw.2.1 ?_; exact ⟨_, rfl, rfl⟩));try simp only [Act.put, Rg.s]
    refine Rg.tk (i := 35) rfl ?_ (hy := by intro wz hSw; (refine op_load_key HOl.out hSw.2.2 ?_; exact ⟨_, rfl, rfl⟩));try simp only [Act.put, Rg.s]
    refine Rg.tk (i := 37) rfl ?_ (hy := by intro wz hSw; (refine op_load_key HFl.out hSw.2.1 ?_; exact ⟨_, rfl, rfl⟩));try simp only [Act.put, Rg.s]
    refine Rg.tk (i := 38) rfl ?_ (hy := by intro wz hSw; (refine op_load_key HOl.out hSw.2.2 ?_; exact ⟨_, rfl, rfl⟩));try simp only [Act.put, Rg.s]
    refine Rg.rd (i := 36) rfl fun K hK => ?_;go_simp;go_at_call 20
    (with_reducible refine (HL1.out _).mono ?_)
    rintro e y8 ⟨rfl, hb⟩;replace HKz := hid (HKz.out.below hb);replace HUz := hid (HUz.out.below hb);clear hb;refine hK.out _ _ ?_ (fun hld => ?_)
    ·exact ⟨HKz.out.c, HKz.out.kf.2, HKz.out.kt.2⟩
    clear hK K;try simp only [Act.put, Rg.s]
    refine Rg.rd (i := 39) rfl fun K hK => ?_;go_simp;go_at_call 12
    (with_reducible refine (HL2.out _).mono ?_)
    rintro e y9 ⟨rfl, hb⟩;replace HKz := hid (HKz.out.below hb);replace HUz := hid (HUz.out.below hb);clear hb;refine hK.out _ _ ?_ (fun hld => ?_)
    ·exact ⟨HKz.out.c, HKz.out.kf.2, HKz.out.kt.2⟩
    clear hK K;try simp only [Act.put, Rg.s]
    refine Rg.tk (i := 40) rfl ?_;try simp only [Act.put, Rg.s]
    refine Rg.tk (i := 41) rfl ?_;try simp only [Act.put, Rg.s]
    refine Rg.tk (i := 42) rfl ?_;try simp only [Act.put, Rg.s]
    refine wpAnyH_done (by kernel_rfl) ?_ _;refine NoPanic.normal ?_;go_wp2;go_ret;exact ⟨rfl, HKz.out.l.b⟩
end Tm
end
end Go.Proofs.YtnecijeakeklaaaGreatDoor
