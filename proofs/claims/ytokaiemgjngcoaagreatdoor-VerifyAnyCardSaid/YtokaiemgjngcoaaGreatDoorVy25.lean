/-
 Contracts of verify.Key, Has, Lacks, Used, of any texts.
-/
import Derived.Test.YtokaiemgjngcoaaGreatDoorVy24
open Go.Lib (hid)
open Go.Proofs.Tryz
set_option linter.unusedSimpArgs false
set_option linter.unusedVariables false
set_option maxHeartbeats 40000000
set_option maxRecDepth 100000
namespace Go.Proofs.YtokaiemgjngcoaaGreatDoor
variable {ev:Operand->Value} {o:Oper} {v:Value} {L g j u:Nat} {a:aL} {P:Program}
section
open Go.RowKit
namespace Tm
open Tr Ni Pk Ky No Rf Rl
open Sm (Tab)
theorem LG {s:pX} {cs:aO} (h:Says s cs):∃ v i r,cs=vdC v i s.2 r/\(r=false->IK s = .tuple #[.string eB,.bool false,.int .i64 9])/\(r=true->IK s = .tuple #[.string v,.bool i,.int .i64 0]):=by
 match s,h with
 | (none,u),⟨v,i,h⟩=>exact ⟨v,i,false,h,λ_=>rfl,(λe=>by cases e)⟩
 | (some none,u),h=>exact ⟨eB,false,true,h,(λe=>by cases e),λ_=>rfl⟩
 | (some (some v),u),h=>exact ⟨v,true,true,h,(λe=>by cases e),λ_=>rfl⟩
theorem Lb (s:pX):∃ v i e,IK s = .tuple #[.string v,.bool i,.int .i64 e]/\(i=true->MS s = .tuple #[.string v,.int .i64 0]/\uw s=9)/\(i=false->MS s = .tuple #[.string eB,.int .i64 9]/\uw s=e):=by
 match s with
 | (none,u)=>exact ⟨_,_,_,rfl,(λe=>by cases e),λ_=>⟨rfl,rfl⟩⟩
 | (some none,u)=>exact ⟨_,_,_,rfl,(λe=>by cases e),λ_=>⟨rfl,rfl⟩⟩
 | (some (some v),u)=>exact ⟨_,_,_,rfl,λ_=>⟨rfl,rfl⟩,(λe=>by cases e)⟩
theorem Ht {w:World} {v:aM} {i r:Bool} (ho:∃ x,o.op = .field 62 x 2/\ev x = .agg (vdC v i u r)):(execOp ev o).run prog w = .ok (.value (.int .i64 u)) w:=by
 obtain ⟨x,ho,hx⟩:=ho;unfold execOp;simp only [ho,hx];kernel_rfl
theorem AZ (w:World) (r k:aN):∃ w1,w1=(w.alloc (.cells (Sm.kc r) 23)).alloc (.cells (kc k) 24)/\Rg.Own w1 w.heap.size (Sm.kc r) 23/\Rg.Own w1 (w.heap.size+1) (kc k) 24/\Below w.heap.size w w1/\w1.heap.size=w.heap.size+2:=by
 refine ⟨_,rfl,(Rg.Own.new _ _ _).below (al1 _ _),?_,al2 _ _ _,by simp⟩;have:=Rg.Own.new (w.alloc (.cells (Sm.kc r) 23)) (kc k) 24;simpa using this
theorem AL:UF 8 IK:=by
 intro l r k la ln lc w hr hk hl hx h1k hT;obtain ⟨w1,hw1,hS1,hK1,hb1,hs1⟩:=AZ w r k;have HF:=hid (xK l hx la ln lc r k hr hk w1 (hl.below hb1) h1k (hT.below hb1 hT.pos));have HW:Hid (_=_):=hid hw1;have HB1:=hid hb1;have cJ:=hid hS1;have dp:=hid hK1;have dg:=hid hr;have bj:=hid hk;obtain ⟨S,hS⟩:=aA (eU l r (bO k))
 rw [hS] at HF ⊢;obtain ⟨C,hC⟩:=aA (kc k)
 have HC:=hid hC;rw [hC] at HW dp HF ⊢;obtain ⟨D,hD⟩:=aA (Sm.kc r)
 have HD:=hid hD;rw [hD] at HW cJ HF ⊢;clear hl hT hb1 hS1 hK1 hw1 hS hC hD hr hk hx;go_enter func8,ntmps8;go_wp2_with (first
  | ((try rw [<-HW.out]); refine Rg.run rfl (.agg D) _ (by rw [<-HD.out]; exact Sm.cu _ _ _ w.heap.size r dg.out ⟨_,rfl,rfl⟩ (by rw [HD.out]; exact cJ.out)) ?_)
  | (refine Rg.run rfl (.agg C) _ (by rw [<-HC.out]; exact bE bj.out (by rw [HC.out]; exact dp.out.2) ⟨_,rfl,rfl⟩) ?_))
 refine HF.out.mono ?_;rintro e w2 ⟨cs,rfl,eJ,hb2⟩;obtain ⟨v,i,rt,rfl,hr0,hr1⟩:=LG eJ;have HB2:=hid (bst HB1.out hb2);have HA2:=hid (Rg.Own.new w2 (vdC eB false 0 false) 62);have hal:=al1 w2 (.cells (vdC eB false 0 false) 62);obtain ⟨u,hu⟩:=aA S.2
 rw [hu];clear hb2 eJ hu HF cJ dp HB1 HW;cases rt with
 | false =>
  have HV:=hid (hr0 rfl);clear hr0 hr1;go_wp2_with (first
   | (refine aB (eY _ _ _ w2.heap.size rfl rfl) ?_)
   | (refine dh HA2.out rfl _ _ _ _ rfl _ _ rfl rfl rfl rfl ?_; intro w3 hO3 hu3; have HB3:=hid (bst HB2.out (hu3.below hal aH)); have k3:w3.cell? ⟨w2.heap.size,3,none⟩=some (.bool false):=aV (j:=3) hO3 rfl; clear hO3 hu3))
  exact bodyPost_ret (results_tmp3 (t:=6) (u:=7) (v:=8) rfl _ _ _) rfl ⟨by rw [HV.out]; rfl,HB3.out⟩
 | true =>
  have HV:=hid (hr1 rfl);clear hr0 hr1;go_wp2_with (first
   | (refine aB (eY _ _ _ w2.heap.size rfl rfl) ?_)
   | (refine dh HA2.out rfl _ _ _ _ rfl _ _ rfl rfl rfl rfl ?_; intro w3 hO3 hu3; have HB3:=hid (bst HB2.out (hu3.below hal aH)); have k3:w3.cell? ⟨w2.heap.size,3,none⟩=some (.bool true):=aV (j:=3) hO3 rfl; have k0:w3.cell? ⟨w2.heap.size,0,none⟩=some (.string v):=aV (j:=0) hO3 rfl; have k1:w3.cell? ⟨w2.heap.size,1,none⟩=some (.bool i):=aV (j:=1) hO3 rfl; clear hO3 hu3))
  go_quiet (fail)
  go_wp2;exact bodyPost_ret (results_tmp3 (t:=6) (u:=7) (v:=8) rfl _ _ _) rfl ⟨by rw [HV.out]; rfl,below_drewN HB3.out _⟩
theorem GI:UF 11 MS:=by
 intro l r k la ln lc w hr hk hl hx h1k hT;obtain ⟨w1,hw1,hS1,hK1,hb1,hs1⟩:=AZ w r k;have HF:=hid (AL l r k la ln lc w1 hr hk (hl.below hb1) hx h1k (hT.below hb1 hT.pos));have HW:Hid (_=_):=hid hw1;have HB1:=hid hb1;have cJ:=hid hS1;have dp:=hid hK1;have dg:=hid hr;have bj:=hid hk;obtain ⟨S,hS⟩:=aA (eU l r (bO k))
 rw [hS] at HF ⊢;obtain ⟨C,hC⟩:=aA (kc k)
 have HC:=hid hC;rw [hC] at HW dp HF ⊢;obtain ⟨D,hD⟩:=aA (Sm.kc r)
 have HD:=hid hD;rw [hD] at HW cJ HF ⊢;clear hl hT hb1 hS1 hK1 hw1 hS hC hD hr hk hx;obtain ⟨v,i,e,F1,ht,hf⟩:=Lb S;rw [F1] at HF;clear F1;cases i with
 | true =>
  rw [(ht rfl).1];clear ht hf;go_enter func11,ntmps11;go_wp2_with (first
  | ((try rw [<-HW.out]); refine Rg.run rfl (.agg D) _ (by rw [<-HD.out]; exact Sm.cu _ _ _ w.heap.size r dg.out ⟨_,rfl,rfl⟩ (by rw [HD.out]; exact cJ.out)) ?_)
  | (refine Rg.run rfl (.agg C) _ (by rw [<-HC.out]; exact bE bj.out (by rw [HC.out]; exact dp.out.2) ⟨_,rfl,rfl⟩) ?_))
  refine HF.out.mono ?_;rintro e w2 ⟨rfl,hb2⟩;have HB2:=hid (bst HB1.out hb2);clear hb2 HF cJ dp HB1 HW;go_wp2;exact bodyPost_ret (results_tmp2 (t:=6) (u:=7) rfl _ _ _) rfl ⟨rfl,HB2.out⟩
 | false =>
  rw [(hf rfl).1];clear ht hf;go_enter func11,ntmps11;go_wp2_with (first
  | ((try rw [<-HW.out]); refine Rg.run rfl (.agg D) _ (by rw [<-HD.out]; exact Sm.cu _ _ _ w.heap.size r dg.out ⟨_,rfl,rfl⟩ (by rw [HD.out]; exact cJ.out)) ?_)
  | (refine Rg.run rfl (.agg C) _ (by rw [<-HC.out]; exact bE bj.out (by rw [HC.out]; exact dp.out.2) ⟨_,rfl,rfl⟩) ?_))
  refine HF.out.mono ?_;rintro e w2 ⟨rfl,hb2⟩;have HB2:=hid (bst HB1.out hb2);clear hb2 HF cJ dp HB1 HW;go_wp2;exact bodyPost_ret (results_tmp2 (t:=6) (u:=7) rfl _ _ _) rfl ⟨rfl,HB2.out⟩
theorem tu:UF 12 (λs=>.int .i64 (uw s)):=by
 intro l r k la ln lc w hr hk hl hx h1k hT;obtain ⟨w1,hw1,hS1,hK1,hb1,hs1⟩:=AZ w r k;have HF:=hid (AL l r k la ln lc w1 hr hk (hl.below hb1) hx h1k (hT.below hb1 hT.pos));have HW:Hid (_=_):=hid hw1;have HB1:=hid hb1;have cJ:=hid hS1;have dp:=hid hK1;have dg:=hid hr;have bj:=hid hk;obtain ⟨S,hS⟩:=aA (eU l r (bO k))
 rw [hS] at HF ⊢;obtain ⟨C,hC⟩:=aA (kc k)
 have HC:=hid hC;rw [hC] at HW dp HF ⊢;obtain ⟨D,hD⟩:=aA (Sm.kc r)
 have HD:=hid hD;rw [hD] at HW cJ HF ⊢;clear hl hT hb1 hS1 hK1 hw1 hS hC hD hr hk hx;obtain ⟨v,i,e,F1,ht,hf⟩:=Lb S;rw [F1] at HF;clear F1;cases i with
 | true =>
  have hL:=(ht rfl).2;clear ht hf;go_enter func12,ntmps12;go_wp2_with (first
  | ((try rw [<-HW.out]); refine Rg.run rfl (.agg D) _ (by rw [<-HD.out]; exact Sm.cu _ _ _ w.heap.size r dg.out ⟨_,rfl,rfl⟩ (by rw [HD.out]; exact cJ.out)) ?_)
  | (refine Rg.run rfl (.agg C) _ (by rw [<-HC.out]; exact bE bj.out (by rw [HC.out]; exact dp.out.2) ⟨_,rfl,rfl⟩) ?_))
  refine HF.out.mono ?_;rintro e w2 ⟨rfl,hb2⟩;have HB2:=hid (bst HB1.out hb2);have HL:=hid hL;clear hb2 HF cJ dp HB1 HW hL;go_wp2;go_ret;exact ⟨by rw [HL.out]; rfl,HB2.out⟩
 | false =>
  have hL:=(hf rfl).2;clear ht hf;go_enter func12,ntmps12;go_wp2_with (first
  | ((try rw [<-HW.out]); refine Rg.run rfl (.agg D) _ (by rw [<-HD.out]; exact Sm.cu _ _ _ w.heap.size r dg.out ⟨_,rfl,rfl⟩ (by rw [HD.out]; exact cJ.out)) ?_)
  | (refine Rg.run rfl (.agg C) _ (by rw [<-HC.out]; exact bE bj.out (by rw [HC.out]; exact dp.out.2) ⟨_,rfl,rfl⟩) ?_))
  refine HF.out.mono ?_;rintro e w2 ⟨rfl,hb2⟩;have HB2:=hid (bst HB1.out hb2);have HL:=hid hL;clear hb2 HF cJ dp HB1 HW hL;go_wp2;go_ret;exact ⟨by rw [HL.out]; rfl,HB2.out⟩
theorem Dz:UF 13 (λs=>.int .i64 s.2):=by
 intro l r k la ln lc w hr hk hl hx h1k hT;obtain ⟨w1,hw1,hS1,hK1,hb1,hs1⟩:=AZ w r k;have HF:=hid (xK l hx la ln lc r k hr hk w1 (hl.below hb1) h1k (hT.below hb1 hT.pos));have HW:Hid (_=_):=hid hw1;have HB1:=hid hb1;have cJ:=hid hS1;have dp:=hid hK1;have dg:=hid hr;have bj:=hid hk;obtain ⟨S,hS⟩:=aA (eU l r (bO k))
 rw [hS] at HF ⊢;obtain ⟨C,hC⟩:=aA (kc k)
 have HC:=hid hC;rw [hC] at HW dp HF ⊢;obtain ⟨D,hD⟩:=aA (Sm.kc r)
 have HD:=hid hD;rw [hD] at HW cJ HF ⊢;clear hl hT hb1 hS1 hK1 hw1 hS hC hD hr hk hx;go_enter func13,ntmps13;go_wp2_with (first
  | ((try rw [<-HW.out]); refine Rg.run rfl (.agg D) _ (by rw [<-HD.out]; exact Sm.cu _ _ _ w.heap.size r dg.out ⟨_,rfl,rfl⟩ (by rw [HD.out]; exact cJ.out)) ?_)
  | (refine Rg.run rfl (.agg C) _ (by rw [<-HC.out]; exact bE bj.out (by rw [HC.out]; exact dp.out.2) ⟨_,rfl,rfl⟩) ?_))
 refine HF.out.mono ?_;rintro e w2 ⟨cs,rfl,eJ,hb2⟩;obtain ⟨v,i,rt,rfl,_,_⟩:=LG eJ;have HB2:=hid (bst HB1.out hb2);obtain ⟨u,hu⟩:=aA S.2
 have HU:=hid hu;rw [hu];clear hb2 eJ hu HF cJ dp HB1 HW;go_wp2_with (first | (refine aB (Ht ⟨_,rfl,rfl⟩) ?_))
 go_ret;exact ⟨by rw [HU.out]; rfl,HB2.out⟩
theorem Fr.Jb {M:Mp} {w w2 wr:World} (f:Fr M M w w2) (hs:w.heap.size<=w2.heap.size) (hb:Below w2.heap.size w2 wr):Fr M M w wr :=
 ⟨hb.os.trans f.os,hb.tape.trans f.tape,hb.output.trans f.output,Nat.le_trans hs hb.size,λk hl hm=>(hb.block k (by omega)).trans (f.block k hl hm),λ_ _ h=>h,λ_ _ h=>h,λ_ h=>h,λ_ h=>Or.inl h⟩
def TN (M:Mp) (w:World) (v:Value) (e:Ending) (w':World):Prop:=e = .returned v/\Fr M M w w'/\Inv M w'/\Tab w'
theorem Tab.upd {w w':World} (h:Tab w) (hu:Rg.Upd w g w') (hg:0<g):Tab w':=λi hi=>by
 rw [World.cell?_of_block (hu.block 0 (by omega))];exact h i hi
theorem TN.upd {M:Mp} {w w1 w':World} {g:Nat} (hi:Inv M w) (h0:0<w.heap.size) (f:Fr M M w w1) (i:Inv M w1) (t:Tab w1) (hu:Rg.Upd w1 g w') (hg:w.heap.size<=g):Fr M M w w'/\Inv M w'/\Tab w' :=
 ⟨f.upd hu hg,i.upd hu (hi.free hg),Tab.upd t hu (by omega)⟩
theorem Whl.size {t:T} (h:Whl t):(dP t).size<=900000:=by
 by_cases hn:t = .nil
 .subst hn; exact Nat.zero_le _
 .exact (h.enc hn).2
theorem UO (M:Mp) (p:aL) (t:T) (hx:Whl t) (w:World) (hi:Inv M w) (ht:IsT M p t) (hT:Tab w):Calls prog 17 #[tv p] w (TN M w (.agg (Sm.kc (eT (dP t))))):=by
 obtain ⟨w1,hw1⟩:=ay ((w.alloc (.cells #[.pointer p] 46)).alloc (.cells (Sm.kc Sm.zk) 23))
 have hb1:Below w.heap.size w w1:=by rw [hw1]; exact al2 _ _ _
 have bc:Rg.Own w1 w.heap.size #[.pointer p] 46:=by rw [hw1]; exact (Rg.Own.new _ _ _).below (al1 _ _)
 have hS1:Rg.Own w1 (w.heap.size+1) (Sm.kc Sm.zk) 23:=by
  have:=Rg.Own.new (w.alloc (.cells #[.pointer p] 46)) (Sm.kc Sm.zk) 23;rw [hw1];simpa using this
 obtain ⟨L,hL,hg⟩:=hx.good;have HE:=hid (FM M p t L hg hL hx.fine w1 (hi.below hb1) ht (hT.below hb1 hT.pos));have HR:Hid (∀ w2,Tab w2->Calls prog 33 #[.string (dP t)] w2 λe w'=>e = .returned (.agg (Sm.kc (eT (dP t))))/\Below w2.heap.size w2 w'):=hid (λw2 h=>zx (dP t) hx.size w2 h);have bj:=hid (iq (dP t))
 have HF:Hid (∀ w2 w3,Fr M M w1 w2->Inv M w2->Tab w2->Below w2.heap.size w2 w3->Rg.Own w3 (w.heap.size+1) (Sm.kc Sm.zk) 23/\∀ w4,Rg.Upd w3 (w.heap.size+1) w4->Fr M M w w4/\Inv M w4/\Tab w4):=hid (λw2 w3 f i t hb=>by
  have f0:=(Fr.below M hb1).trans hi f;exact ⟨(vT hS1 f (hi.out (by omega))).below hb,λw4 hu=>TN.upd hi hT.pos (f0.Jb f0.size hb) (i.below hb) (t.below hb t.pos) hu (by omega)⟩)
 have dl:=hid bc;have HW:Hid (_=_):=hid hw1;obtain ⟨E,hE⟩:=aA (dP t)
 rw [hE] at HE HR bj ⊢;obtain ⟨K,hK⟩:=aA (eT E)
 rw [hK] at HR bj ⊢;clear hx hi ht hT hb1 bc hS1 hw1 hL hg hE hK;go_enter func17,ntmps17;go_wp2_with (first
  | (refine aB (Sm.fH _ _ rfl _ (w.heap.size+1) (by simp)) ?_; rw [<-HW.out])
  | (refine aB (aW (aV (j:=0) dl.out rfl) ⟨_,rfl,rfl⟩) ?_))
 refine HE.out.mono ?_;rintro e w2 ⟨rfl,f2,i2,t2⟩;have HH:Hid (Fr M M w1 w2/\Inv M w2/\Tab w2):=hid ⟨f2,i2,t2⟩;clear f2 i2 t2 HE dl;go_wp2_with fail
 refine (HR.out w2 HH.out.2.2).mono ?_;rintro e w3 ⟨rfl,hb3⟩;obtain ⟨hO3,BE⟩:=HF.out w2 w3 HH.out.1 HH.out.2.1 HH.out.2.2 hb3;have ce:=hid hO3;have m0:=hid BE;clear hO3 BE hb3 HF HH HR;go_wp2_with (refine wpList_store_rowTo rfl 23 _ _ rfl rfl _ (Sm.kc K) rfl rfl 23 (Sm.kc Sm.zk) ce.out.2 (Sm.gq K bj.out) (by rw [Sm.gy,Sm.gy,bj.out]; rfl) (Sm.tO _) ?_)
 exact bodyPost_ret (results_cell_row rfl _ _ (w.heap.size+1) 23 (Sm.kc K) (0,0) _ rfl (setRow_heap _ _ _ _ _ _ ce.out.2) underlying23 rfl (Sm.gq K bj.out)) rfl ⟨rfl,m0.out _ (Rg.Upd.set _ _ _)⟩
def Wj (M:Mp) (w:World) (s:aM) (e:Ending) (w':World):Prop:=∃ b,e = .returned (.func (Fn.func 56) #[] #[.pointer (some ⟨b,0,none⟩)])/\Rg.Own w' b #[.string s] 9/\M.at_ b=none/\¬ M.ft b/\Fr M M w w'/\Inv M w'/\Tab w'
theorem Ow (M:Mp) (p:aL) (t:T) (L:Nat) (g:Tr.Good t L) (hL:L<=64) (f:Fine t) (w:World) (hi:Inv M w) (ht:IsT M p t) (hT:Tab w) :
  Calls prog 30 #[tv p] w (Wj M w (dP t)):=by
 have hA1:=al1 w (.cells #[.pointer p] 46);have h0:=fU w p;have HE:=hid (FM M p t L g hL f (w.alloc (.cells #[.pointer p] 46)) (hi.below hA1) ht (hT.below hA1 hT.pos));have HF:Hid (∀ w2 (E:aM),Fr M M (w.alloc (.cells #[.pointer p] 46)) w2->Inv M w2->Tab w2->M.at_ w2.heap.size=none/\¬ M.ft w2.heap.size/\Fr M M w (w2.alloc (.cells #[.string E] 9))/\Inv M (w2.alloc (.cells #[.string E] 9))/\Tab (w2.alloc (.cells #[.string E] 9))):=hid (λw2 E f i t=>by
  have f0:=(Fr.below M hA1).trans hi f;have hb:=al1 w2 (.cells #[.string E] 9);exact ⟨i.out aH,i.free aH,f0.Jb f0.size hb,i.below hb,t.below hb t.pos⟩)
 obtain ⟨E,hE⟩:=aA (dP t)
 rw [hE] at HE ⊢;clear hE g hL f hi ht hT hA1;go_enter func30,ntmps30;go_wp2_with (first
  | (refine aB (aW h0 ⟨_,rfl,rfl⟩) ?_))
 refine HE.out.mono ?_;rintro e w2 ⟨rfl,f2,i2,t2⟩;have YS:=hid (HF.out w2 E f2 i2 t2);clear HE HF h0 f2 i2 t2;go_wp2;go_ret;exact ⟨w2.heap.size,rfl,Rg.Own.new _ _ _,YS.out⟩
theorem JU (b:Nat) (r s:aM) (w:World) (hc:w.cell? ⟨b,0,none⟩=some (.string r)) :
  Calls prog 56 #[.string s,.pointer (some ⟨b,0,none⟩)] w λe w'=>e = .returned (.bool (decide (s=r\/32<=s.size)))/\Below w.heap.size w w':=by
 by_cases h:s=r
 .have HD:Hid (decide (s=r\/32<=s.size)=true):=hid (aK (.inl h));subst h;rw [HD.out];clear HD;go_enter func56,ntmps56;go_wp2;go_ret;exact ⟨rfl,aI⟩
 .have hne:=ny h;by_cases h32:32<=s.size
  .have HD:Hid (decide (s=r\/32<=s.size)=true):=hid (aK (.inr h32));have q1:decide ((32:Int)<=(s.size:Int))=true:=aK (by omega);have ut:decide (32<=s.size)=true:=aK h32;rw [HD.out];clear HD;go_enter func56,ntmps56;go_wp2;go_ret;exact ⟨rfl,aI⟩
  .have HD:Hid (decide (s=r\/32<=s.size)=false):=hid (decide_eq_false (λe=>e.elim h h32));have q1:decide ((32:Int)<=(s.size:Int))=false:=decide_eq_false (by omega);have ut:decide (32<=s.size)=false:=decide_eq_false h32;rw [HD.out];clear HD;go_enter func56,ntmps56;go_wp2;go_ret;exact ⟨rfl,aI⟩
end Tm
end
section
namespace Tr
open Rf Rl Ni No
theorem Il {xs:List It} {n:Nd} (h:dO xs=some n):∀ k∈n.ks,k=eB\/∃ x∈xs,jL x=some k:=by
 unfold dO at h;by_cases h2:xs.length=2
 .rw [if_pos h2] at h;unfold fA at h;split at h
  .cases h
  .split at h
   .obtain rfl:=Option.some.inj h;exact λk hk=>.inl (List.eq_of_mem_replicate hk)
   .obtain ⟨k,hk,rfl⟩:=Option.map_eq_some_iff.1 h;intro j hj;rcases List.mem_cons.1 hj with rfl | hj
    .exact .inr ⟨_,No.kR (by omega),hk⟩
    .exact .inl (List.eq_of_mem_replicate hj)
 .rw [if_neg h2] at h;by_cases cY:xs.length=17
  .rw [if_pos cY] at h;unfold dK at h;split at h
   .cases h
   .rename_i ks hks;split at h
    .obtain rfl:=Option.some.inj h;intro k hk;obtain ⟨x,hx,e⟩:=(vC hks).2 k hk;exact .inr ⟨x,List.mem_of_mem_take hx,e⟩
    .cases h
  .rw [if_neg cY] at h; cases h
theorem Px {s:aN} (hs:s.length<=4294967296) {n:Nd} (h:fE s=some n):∀ k∈n.ks,k.size≠0->k.size<s.length:=by
 obtain ⟨x,h1,h2,_⟩:=mF hs h;obtain ⟨g1,g2,_⟩:=jy hs h1;intro k hk h0;rcases Il h2 k hk with rfl | ⟨y,hy,e⟩
 .exact absurd rfl h0
 .have hlt:=qx g2 (by rw [g1]; exact hs) hy;rw [g1] at hlt;have hi:=kX y;unfold jL at e;split at e
  .split at e
   .have e:=Option.some.inj e;rw [<-e,Rl.dM];exact hlt
   .cases e
  .split at e
   .have e:=Option.some.inj e;cases y with
    | mk l s' xs =>
     rw [inner_mk,List.length_append,dZ] at hi;rw [<-e];show s'.size<_;omega
   .cases e
theorem QK {t:T} (hn:t ≠ .nil) (hs:¬ gK t):dP t=iK (bV t):=by
 cases t with
 | nil=>exact absurd rfl hn
 | stub r=>exact absurd trivial hs
 | leaf p v=>rfl
 | ext q t=>rfl
 | br ks=>rfl
theorem DV {t s:T} {K:Nat} (g:Good t L) (hL:L<=64) (f:Fine t) (hn:t ≠ .nil) (hs:¬ gK t) (g':Good s K) (hK:K<=64) (f':Fine s) (hn':s ≠ .nil) (hs':¬ gK s) (hk:ref s∈(bV t).ks) (h:(dP t).size<32):(dP s).size<(dP t).size:=by
 have hm:=(iM t L g hL f hn).1 hs;have hsz:(dP t).size=(gU (bV t)).length:=by rw [QK hn hs,DF]
 have hu:=Px (by omega) (No.get_put (ig t) hm) (ref s) hk (iM s K g' hK f' hn').2.2;rw [<-hsz] at hu;have hr:=yK hs';by_cases h32:(dP s).size<32
 .rw [hr] at hu;unfold ofP at hu;rw [if_pos h32] at hu;exact hu
 .exfalso;rw [hr] at hu;unfold ofP at hu;rw [if_neg h32] at hu;have hz:(⟨(mK (dP s)).toArray⟩:aM).size=32:=by
   have:(⟨(mK (dP s)).toArray⟩:aM).size=(mK (dP s)).length:=by show (mK (dP s)).toArray.size=_; simp
   rw [this,mQ]
  omega
theorem yP {s:T} {w:Pa} {N:Nd} (h:N∈bM s w):s ≠ .nil/\¬ gK s:=by
 cases s with
 | nil=>cases h
 | stub r=>cases h
 | leaf p v=>exact ⟨λe=>(by cases e),λh=>h⟩
 | ext q t=>exact ⟨λe=>(by cases e),λh=>h⟩
 | br ks=>exact ⟨λe=>(by cases e),λh=>h⟩
theorem Qm (q:Pa) (t:T):ref t∈(bV (.ext q t)).ks:=List.mem_cons_self ..
theorem VQ (ks:Fin 16->T) (i:Fin 16):ref (ks i)∈(bV (.br ks)).ks:=List.mem_map.2 ⟨i,List.mem_finRange i,rfl⟩
theorem Ld:∀ (t:T) (L:Nat) (w:Pa),Good t L->L<=64->Fine t->(dP t).size<32->∀ N∈bM t w,(iK N).size<=(dP t).size
 | .nil,_,_,_,_,_,_,_,h=>by cases h
 | .leaf p v,L,w,g,hL,f,_,N,h=>by rw [List.mem_singleton.1 h]; exact aH
 | .ext q t,L,w,g,hL,f,h32,N,h=>by
  rcases List.mem_cons.1 h with rfl | h
  .exact aH
  .by_cases hq:q<+:w
   .rw [if_pos hq] at h;obtain ⟨h1,h2⟩:=yP h;have:=DV (t:=.ext q t) g hL f (λe=>(by cases e)) (λh=>h) g.2.2.2.2 (by omega) f h1 h2 (Qm q t) h32;have:=Ld t (L-q.length) (w.drop q.length) g.2.2.2.2 (by omega) f (by omega) N h;omega
   .rw [if_neg hq] at h;cases h
 | .br ks,L,[],g,hL,f,_,N,h=>by rw [List.mem_singleton.1 h]; exact aH
 | .br ks,L,c::w,g,hL,f,h32,N,h=>by
  rcases List.mem_cons.1 h with rfl | h
  .exact aH
  .obtain ⟨h1,h2⟩:=yP h;have:=DV (t:=.br ks) g hL f (λe=>(by cases e)) (λh=>h) (g.2.2 _) (by omega) (f _) h1 h2 (VQ ks (nb c)) h32;have:=Ld (ks (nb c)) (L-1) w (g.2.2 _) (by omega) (f _) (by omega) N h;omega
 | .stub _,_,_,_,_,_,_,_,h=>by cases h
theorem WR (t:T) (L:Nat) (w:Pa) (g:Good t L) (hL:L<=64) (f:Fine t) (h32:(dP t).size<32):∀ N∈(bM t w).drop 1,(iK N).size<(dP t).size:=by
 intro N h
 match t,w,g,f,h32,h with
 | .nil,_,_,_,_,h=>cases h
 | .leaf p v,_,_,_,_,h=>cases h
 | .ext q t,w,g,f,h32,h =>
  have h:N∈(if q<+:w then bM t (w.drop q.length) else []):=h;by_cases hq:q<+:w
  .rw [if_pos hq] at h;obtain ⟨h1,h2⟩:=yP h;have:=DV (t:=.ext q t) g hL f (λe=>(by cases e)) (λh=>h) g.2.2.2.2 (by omega) f h1 h2 (Qm q t) h32;have:=Ld t (L-q.length) (w.drop q.length) g.2.2.2.2 (by omega) f (by omega) N h;omega
  .rw [if_neg hq] at h;cases h
 | .br ks,[],_,_,_,h=>cases h
 | .br ks,c::w,g,f,h32,h =>
  have h:N∈bM (ks (nb c)) w:=h;obtain ⟨h1,h2⟩:=yP h;have:=DV (t:=.br ks) g hL f (λe=>(by cases e)) (λh=>h) (g.2.2 _) (by omega) (f _) h1 h2 (VQ ks (nb c)) h32;have:=Ld (ks (nb c)) (L-1) w (g.2.2 _) (by omega) (f _) (by omega) N h;omega
 | .stub _,_,_,_,_,h=>cases h
theorem Qc {t:T} {w:Pa} {N:Nd} (h:(bM t w).getD 0 nd0=N) (hl:0<(bM t w).length):iK N=dP t:=by
 cases t with
 | nil=>cases hl
 | stub r=>cases hl
 | leaf p v=>rw [<-h]; rfl
 | ext q t=>rw [<-h]; rfl
 | br ks=>cases w with
  | nil=>rw [<-h]; rfl
  | cons c w=>rw [<-h]; rfl
theorem Vq {t:T} {w:Pa} (g:Good t L) (hL:L<=64) (f:Fine t) (hj:j<(bM t w).length):(iK ((bM t w).getD j nd0)=dP t\/32<=(iK ((bM t w).getD j nd0)).size)↔(j=0\/32<=(iK ((bM t w).getD j nd0)).size):=by
 constructor
 .rintro (h | h)
  .by_cases h0:j=0
   .exact .inl h0
   .by_cases h32:(dP t).size<32
    .have hm:(bM t w).getD j nd0∈(bM t w).drop 1:=by
      have e:(bM t w).getD j nd0=((bM t w).drop 1)[j-1]'(by rw [List.length_drop]; omega):=by
       rw [List.getElem_drop];simp [List.getD,hj,show 1+(j-1)=j by omega]
      rw [e];exact List.getElem_mem _
     have:=WR t L w g hL f h32 _ hm;rw [h] at this;omega
    .rw [<-h] at h32;exact .inr (by omega)
  .exact .inr h
 .rintro (h | h)
  .subst h;exact .inl (Qc rfl hj)
  .exact .inr h
end Tr
end
section
open Go.RowKit
namespace Tm
open Tr Ni Pk Ky No Rf Rl
open Sm (Tab)
def UU (M:Mp) (w:World) (xs:List aM) (e:Ending) (w':World):Prop:=∃ a n c M',e = .returned (.tuple #[.slice a n c,.int .i64 0])/\lK w' a n c xs/\(∀ ad,a=some ad->M'.at_ ad.block=none/\ad.block<w'.heap.size)/\Fr M M' w w'/\Inv M' w'/\Tab w'
structure Stx (M:Mp) (w:World) (a:aL) (n c:Nat) (xs:List aM):Prop where
 s:lK w a n c xs
 r:∀ ad,a=some ad->M.at_ ad.block=none/\ad.block<w.heap.size
theorem Stx.below {M:Mp} {w w':World} {a:aL} {n c:Nat} {xs:List aM} (h:Stx M w a n c xs) (hb:Below w.heap.size w w'):Stx M w' a n c xs:=⟨h.s.below hb,λad e=>⟨(h.r ad e).1,aJ (h.r ad e).2 hb.size⟩⟩
theorem Stx.fr {M M':Mp} {w w':World} {n c:Nat} {xs:List aM} (h:Stx M w a n c xs) (f:Fr M M' w w'):Stx M' w' a n c xs :=
 ⟨⟨h.s.1,h.s.2.1,h.s.2.2.1,λj hj=>by
  obtain ⟨b,off,e,hlt,hc⟩:=h.s.at' j hj;exact ⟨b,off,e,aJ hlt f.size,by rw [f.cell hlt (h.r _ e).1]; exact hc⟩⟩,λad e=>⟨f.fresh _ (h.r ad e).2 (h.r ad e).1,aJ (h.r ad e).2 f.size⟩⟩
end Tm
end
section
open Go.RowKit
namespace Tm
open Tr Ni Pk Ky No Rf Rl
open Sm (Tab)
def Uv (b:Bool) (M:Mp) (w:World) (xs:List aM) (e:Ending) (w':World):Prop:=∃ a n c M' cd,e = .returned (.tuple #[.slice a n c,.int .i64 cd])/\(b=true->cd=0/\lK w' a n c xs/\∀ ad,a=some ad->M'.at_ ad.block=none/\ad.block<w'.heap.size)/\(b=false->n=0/\cd=8)/\Fr M M' w w'/\Inv M' w'/\Tab w'
theorem Uv.yes {M:Mp} {w w':World} {xs:List aM} {e:Ending} (h:Uv true M w xs e w'):UU M w xs e w':=by
 obtain ⟨a,n,c,M',cd,he,h1,_,h3⟩:=h;obtain ⟨rfl,hs,hr⟩:=h1 rfl;exact ⟨a,n,c,M',he,hs,hr,h3⟩
theorem Qx (x:Option (Option aM)) (h:x.isSome=true):∃ s c,TH x = .tuple #[.string s,.int .i64 c]/\(c==8)=false:=by
 match x,h with
 | some none,_=>exact ⟨_,_,rfl,by decide⟩
 | some (some v),_=>exact ⟨_,_,rfl,by decide⟩
theorem OV (M:Mp) (p:aL) (t:T) (k:aN) (hk:k.length=32) (hg:Tr.Good t 64) (hf:Fine t) (hc:lH t<=200000) (w:World) (hi:Inv M w) (ht:IsT M p t) (hT:Tab w) :
  Calls prog 16 #[tv p,.agg (kc k)] w (Uv (Tr.get t (bO k)).isSome M w (kD (bM t (bO k)))):=by
 obtain ⟨i0,hi0,hz0,hz1,hz2⟩:=pq;have HI:Hid (_/\_/\_/\_):=hid ⟨hi0,hz0,hz1,hz2⟩;obtain ⟨w1,hw1⟩:=ay ((w.alloc (.cells #[.pointer p] 46)).alloc (.cells (kc k) 24))
 have hb1:Below w.heap.size w w1:=by rw [hw1]; exact al2 _ _ _
 have hs1:w1.heap.size=w.heap.size+2:=by rw [hw1]; simp
 have hT1:Rg.Own w1 w.heap.size #[.pointer p] 46:=by
  have:=(Rg.Own.new w #[.pointer p] 46).below (al1 _ (.cells (kc k) 24));rw [hw1];exact this
 have hK1:Rg.Own w1 (w.heap.size+1) (kc k) 24:=by
  have:=Rg.Own.new (w.alloc (.cells #[.pointer p] 46)) (kc k) 24;rw [hw1];simpa using this
 have xe:=DT M p t k hk w1 (hi.below hb1) ht hg;rw [show path k=bO k from rfl] at xe;have xf:Hid (∀ w2,Inv M w2->Tab w2->Calls prog 30 #[tv p] w2 (Wj M w2 (dP t))):=hid (λw2 hi hT=>Ow M p t 64 hg aH hf w2 hi ht hT);have jx:Hid (∀ w3,Inv M w3->Tab w3->Calls prog 31 #[tv p,.agg (kc k)] w3 (Wh M w3 (bM t (bO k)))):=hid (λw3 hi hT=>OY M p t k hk hg hf hc w3 hi ht hT)
 have HB2:Hid (∀ w2,Below w1.heap.size w1 w2->Fr M M w w2/\Inv M w2/\Tab w2/\Rg.Own w2 w.heap.size #[.pointer p] 46/\Rg.Own w2 (w.heap.size+1) (kc k) 24):=hid (λw2 hb=>by
  have hb2:Below w.heap.size w w2:=hb1.trans (hb.mono hb1.size);exact ⟨Fr.below M hb2,hi.below hb2,hT.below hb2 hT.pos,hT1.below hb,hK1.below hb⟩)
 have F2:M.at_ w.heap.size=none:=hi.out aH;have F3:M.at_ (w.heap.size+1)=none:=hi.out (by omega);have m0:Hid (∀ w2 w3,Fr M M w w2->Rg.Own w2 w.heap.size #[.pointer p] 46->Rg.Own w2 (w.heap.size+1) (kc k) 24->Fr M M w2 w3->Fr M M w w3/\Rg.Own w3 w.heap.size #[.pointer p] 46/\Rg.Own w3 (w.heap.size+1) (kc k) 24):=hid (λw2 w3 f h1 h2 g=>⟨f.trans hi g,vT h1 g F2,vT h2 g F3⟩);have db:Hid (∀ b,w.heap.size<=b->M.at_ b=none):=hid (λb hb=>hi.out hb);have hal:=at_len t 64 (bO k) hg
 rw [fZ k hk] at hal;have HN:Hid (∀ N∈bM t (bO k),dN bJ N=true/\N.v.size<=maxLen/\∀ k∈N.ks,k.size<=100):=hid (λN hN=>by
  obtain ⟨s,K,rfl,_,h1,h2,h3,h4,h5⟩:=vv t 64 (bO k) hg aH hf N hN;have:=pz h4 h3 h5 h1 h2;exact ⟨this.1,this.2.2.2.1,this.2.2.2.2.2⟩)
 have P3:Hid (∀ j,j<(bM t (bO k)).length->((iK ((bM t (bO k)).getD j nd0)=dP t\/32<=(iK ((bM t (bO k)).getD j nd0)).size)↔(j=0\/32<=(iK ((bM t (bO k)).getD j nd0)).size))):=hid (λj hj=>Vq hg aH hf hj);have jj:=hid xe;have HW1:=hid hw1;have HT1:=hid hT1;have dp:=hid hK1;have bj:=hid hk;obtain ⟨Z,hZ⟩:=aA (bM t (bO k))
 rw [hZ] at jx hal HN P3 ⊢;obtain ⟨G,hG⟩:=aA (Tr.get t (bO k))
 rw [hG] at jj ⊢;obtain ⟨E,hE⟩:=aA (dP t)
 rw [hE] at xf P3;clear hZ hG hE xe hw1 hT1 hK1 hb1 hg hf hc hi ht hT hi0 hz0 hz1 hz2 F2 F3;obtain ⟨C,hC⟩:=aA (kc k)
 have HC:=hid hC;rw [hC] at HW1 dp HB2 m0 jx jj ⊢;clear hC hk;by_cases hb:G.isSome=true
 .obtain ⟨sv,cd,hV,hcd⟩:=Qx G hb;rw [hb];rw [hV] at jj;clear hb hV;go_enter func16,ntmps16;go_wp2_with (first
   | ((try rw [<-HW1.out]); refine aB (aW (aV (j:=0) HT1.out rfl) ⟨_,rfl,rfl⟩) ?_)
   | ((try rw [<-HW1.out]); refine Rg.run rfl (.agg C) _ (by rw [<-HC.out]; exact bE bj.out (by rw [HC.out]; exact dp.out.2) ⟨_,rfl,rfl⟩) ?_))
  refine jj.out.mono ?_;rintro e w2 ⟨rfl,hb2⟩;obtain ⟨f2,i2,t2,o2,k2⟩:=HB2.out w2 hb2;have ie:Hid (Fr M M w w2/\Inv M w2/\Tab w2):=hid ⟨f2,i2,t2⟩;have el:=hid o2;have Up:=hid k2;clear f2 i2 t2 o2 k2 hb2 jj HB2 HT1 dp HW1;go_wp2_with (first
   | (refine aB (aW (aV (j:=0) el.out rfl) ⟨_,rfl,rfl⟩) ?_))
  refine (xf.out w2 ie.out.2.1 ie.out.2.2).mono ?_;rintro e w3 ⟨bt,rfl,UB,pi,_,f3,i3,t3⟩;obtain ⟨f13,o3,k3⟩:=m0.out w2 w3 ie.out.1 el.out Up.out f3;have pH:Hid (Fr M M w w3/\Inv M w3/\Tab w3):=hid ⟨f13,i3,t3⟩;have ce:=hid o3;have P4:=hid k3;have HB3:=hid UB;have UI:=hid pi;clear f3 i3 t3 o3 k3 f13 UB pi ie el Up xf;go_wp2_with (first
   | (refine aB (aW (aV (j:=0) ce.out rfl) ⟨_,rfl,rfl⟩) ?_)
   | (refine Rg.run rfl (.agg C) _ (by rw [<-HC.out]; exact bE bj.out (by rw [HC.out]; exact P4.out.2) ⟨_,rfl,rfl⟩) ?_))
  refine (jx.out w3 pH.out.2.1 pH.out.2.2).mono ?_;rintro e w4 ⟨a4,m,c4,rfl,hz,f4,i4,t4⟩;obtain ⟨f14,_,_⟩:=m0.out w3 w4 pH.out.1 ce.out P4.out f4;have hs4:w.heap.size<=w4.heap.size:=f14.size;have co:=hid (vT HB3.out f4 UI.out);have HFin:Hid (∀ w5,Below w4.heap.size w4 w5->Fr M M w w5/\Inv M w5/\Tab w5):=hid (λw5 hb=>⟨f14.Jb hs4 hb,i4.below hb,t4.below hb t4.pos⟩);have HZ:=hid hz;have hl:=hz.len;have HL:=hid hl;have hnc:=hz.1;have hcm:=hz.2.1;unfold maxLen at hcm;have YT:m<=65:=by omega
  clear hz hl hal f4 i4 t4 f14 pH ce P4 HB3 UI m0 jx;go_wp2;go_loopw [9,29] (λv i wr=>∃ j:Nat,j<=m/\i = .int .i64 j/\Hid (wr.ownsRow w4.heap.size 9 1 v (kD (Z.take j)).length ((kD (Z.take j)).map Value.string))/\Hid (Below w4.heap.size w4 wr)) (λ_ i _=>m-(intOf i).toNat)
  case atStart=>exact ⟨0,Nat.zero_le _,rfl,hid (World.ownsRow_nil _ _ _ _),hid aI⟩
  case round =>
   obtain ⟨j,hj,rfl,HR,HB⟩:=hrel;by_cases hlt:j<m
   .have HS:=hid (Qu Z (j:=j) (by rw [HL.out]; exact hlt));have yy:=hid (P3.out j (by rw [HL.out]; exact hlt));have hbl:=En (Z.take j);rw [List.length_take] at hbl;obtain ⟨bz,oz,gz,rfl,hbz,hpz,hkz,F4⟩:=HZ.out.at' j hlt;have hji:(j:Int)<m:=by omega
    have P5:Hid (Py wr bz (oz+j*19) (Z.getD j nd0) gz):=hid (Py.below hpz HB.out);have F5:=hid hkz;have hmem:Z.getD j nd0∈Z:=Tm.kR (by rw [HL.out]; exact hlt);obtain ⟨n1,n2,n3⟩:=HN.out _ hmem;have fY:Hid (∀ W,Below wr.heap.size wr W->Calls prog 32 #[.agg (ndC (Z.getD j nd0) gz.1 gz.2.1 gz.2.2)] W λe w'=>e = .returned (.tuple #[.string (iK (Z.getD j nd0)),.int .i64 0])/\Below W.heap.size W w'):=hid (λW hW=>by
     have:=FY _ _ _ _ hkz W ((F4.below HB.out).below hW) n2 n3;unfold VP at this;rw [n1] at this;exact this)
    have hsz0:=HB.out.size;obtain ⟨L,hL⟩:=aA (kD (Z.take j))
    rw [hL] at HS hbl HR;obtain ⟨N,hN⟩:=aA (Z.getD j nd0)
    rw [hN] at HS P5 F5 fY yy;obtain ⟨K,hK⟩:=aA (iK N)
    rw [hK] at HS fY yy;have gj:=al1 wr (.cells (ndC nd0 none 0 0) 67);have wq:=hid (Rg.Own.new wr (ndC nd0 none 0 0) 67);clear hL hN hK hpz hkz F4 hmem hbz n1 n2 n3;go_wp2_with (first
     | (refine aB (Iq F5.out P5.out ⟨_,rfl,rfl⟩) ?_)
     | (refine aB (aY _ _ _ wr.heap.size rfl rfl) ?_)
     | (refine bS wq.out bK N _ _ _ F5.out rfl _ _ rfl rfl rfl rfl ?_; intro W3 hO hu; have i5:=hid hO; have HB3:=hid (hu.below gj aH); clear hO hu)
     | (refine aB (bH i5.out F5.out ⟨_,rfl,rfl⟩) ?_))
    refine (fY.out W3 HB3.out).mono ?_;rintro e w5 ⟨rfl,hb5⟩;have eV:=bst HB.out (bst HB3.out hb5);have al:=hid eV;have tr:=hid (Hu HR.out (bst HB3.out hb5));have hsz:=al.out.size;have UP:=hid (aV (j:=0) (co.out.below eV) rfl);clear hb5 eV fY P5 F5 HR HB i5 HB3 wq gj;go_wp2_with fail
    refine (JU bt E K w5 UP.out).mono ?_;rintro e w6 ⟨rfl,hb6⟩;have bd:=hid (bst al.out hb6);have mw:=hid (Hu tr.out hb6);have qr:=bd.out.size;clear hb6 al tr UP hsz;by_cases hput:j=0\/32<=K.size
    .have jz:Hid (kD (Z.take (j+1))=L++[K]):=hid (by rw [HS.out,if_pos hput]);rw [aK (yy.out.2 hput)];clear HS yy hput;go_wp2_with (first
      | (at_builtin; refine wpList_append_own _ rfl _ _ 26 rfl w4.heap.size 9 i0 (.string ⟨#[]⟩) 1 16 underlying26 HI.out.1 HI.out.2.1 HI.out.2.2.1 HI.out.2.2.2 rfl (by decide) _ _ _ rfl (mw.out.alloc _) ⟨w6.heap.size,0,none⟩ 1 1 [.string K] rfl rfl ?d1 ?d2 ?d3 ?d4 ?d5 ?_))
     all_goals first
      | exact Bu.cell_one_new' _ _ _ _
      | (intro u hu; simp at hu; subst hu; rfl)
      | rfl
      | (unfold maxLen; omega)
      | omega
      | (simp; omega)
      | skip
     intro v' w7 F6 hgrow _;have hlt':=mw.out.lt;go_wp2;go_roundw
     case rel=>exact ⟨j+1,by omega,by go_num,hid (by rw [jz.out,List.length_append,List.map_append]; exact F6),hid ((bd.out.alloc qr _).grown hgrow (by simp; omega) (λg hg=>(hlt' g hg).1))⟩
     case measure=>simp [intOf]; omega
    .have jz:Hid (kD (Z.take (j+1))=L):=hid (by rw [HS.out,if_neg hput,List.append_nil]);rw [decide_eq_false (λh=>hput (yy.out.1 h))];clear HS yy hput;go_wp2;go_roundw
     case rel=>exact ⟨j+1,by omega,by go_num,by rw [jz.out]; exact mw,bd⟩
     case measure=>simp [intOf]; omega
   .obtain rfl:j=m:=by omega
    have hO:=HR.out;rw [List.take_of_length_le (by rw [HL.out]; exact aH)] at hO;have HE:Hid (∀ v,wr.ownsRow w4.heap.size 9 1 v (kD Z).length ((kD Z).map Value.string)->Uv true M w (kD Z) (.returned (.tuple #[v,.int .i64 0])) wr):=hid (λv h=>by
     have hlt:=h.lt;obtain ⟨a,c,rfl,hst⟩:=lK.sS h;exact ⟨a,_,c,M,0,rfl,λ_=>⟨rfl,hst,λad e=>⟨db.out _ (Nat.le_trans hs4 (hlt ad.block (by rw [e]; rfl)).1),(hlt ad.block (by rw [e]; rfl)).2⟩⟩,λe=>(by cases e),HFin.out wr HB.out⟩)
    have HO:=hid hO;clear hO;go_wp2;exact bodyPost_ret (results_tmp2 (t:=4) (u:=5) rfl _ _ _) rfl (HE.out _ HO.out)
 .have hV:G=none:=by
   cases G with
   | none=>rfl
   | some x=>exact absurd rfl hb
  subst hV;have US:TH none = .tuple #[.string eB,.int .i64 8]:=rfl;rw [US] at jj;clear hb US;go_enter func16,ntmps16;go_wp2_with (first
   | ((try rw [<-HW1.out]); refine aB (aW (aV (j:=0) HT1.out rfl) ⟨_,rfl,rfl⟩) ?_)
   | ((try rw [<-HW1.out]); refine Rg.run rfl (.agg C) _ (by rw [<-HC.out]; exact bE bj.out (by rw [HC.out]; exact dp.out.2) ⟨_,rfl,rfl⟩) ?_))
  refine jj.out.mono ?_;rintro e w2 ⟨rfl,hb2⟩;obtain ⟨f2,i2,t2,_⟩:=HB2.out w2 hb2;have ie:Hid (Fr M M w w2/\Inv M w2/\Tab w2):=hid ⟨f2,i2,t2⟩;clear f2 i2 t2 hb2 jj HB2 HT1 dp HW1;go_wp2;exact bodyPost_ret (results_tmp2 (t:=4) (u:=5) rfl _ _ _) rfl ⟨none,0,0,M,8,rfl,λh=>(by cases h),λ_=>⟨rfl,rfl⟩,ie.out⟩
def lBx:T:=.leaf (List.replicate 63 0) sy
def bB:aN:=[226,160,48,0,0,0,0,0,0,0,0,0,0,0,0,0,0,0,0,0,0,0,0,0,0,0,0,0,0,0,0,0,0,0,121]
theorem Xd:Whl (dV .nil lAB):=⟨jC.fine,jC.full,64,aH,jC.good⟩
theorem Ry (v:aM) (x:UInt8) (hv:v=⟨#[x]⟩) (hx:x.toNat<128):gU ⟨1,List.replicate 63 0,v,zks⟩=[226,160,48,0,0,0,0,0,0,0,0,0,0,0,0,0,0,0,0,0,0,0,0,0,0,0,0,0,0,0,0,0,0,0]++[x]:=by
 have h1:(nX ⟨1,List.replicate 63 0,v,zks⟩).bytes=[160,48,0,0,0,0,0,0,0,0,0,0,0,0,0,0,0,0,0,0,0,0,0,0,0,0,0,0,0,0,0,0,0]:=by
  show (nX ⟨1,List.replicate 63 0,eB,zks⟩).bytes=_;rw [It.nT];decide +kernel
 have h2:(It.mk false v []).bytes=[x]:=by
  rw [jY v (by subst hv; show 1<=4294967296; omega)];subst hv;rw [if_pos ⟨rfl,hx⟩];rfl
 have hi:(gN ⟨1,List.replicate 63 0,v,zks⟩).inner=[160,48,0,0,0,0,0,0,0,0,0,0,0,0,0,0,0,0,0,0,0,0,0,0,0,0,0,0,0,0,0,0,0]++[x]:=by
  show ([]:aN)++([nX ⟨1,List.replicate 63 0,v,zks⟩,.mk false v []].map It.bytes).flatten=_;rw [List.map_cons,List.map_cons,List.map_nil,h1,h2];rfl
 unfold gU;rw [It.nT,hi];rfl
theorem WQ:dP lBx=⟨bB.toArray⟩:=by
 show (⟨(gU ⟨1,List.replicate 63 0,sy,zks⟩).toArray⟩:aM)=_;rw [Ry sy 121 rfl (by decide)];rfl
theorem tZ:∀ (t:T) (p:Pa),Full t->Tr.get t p≠none
 | .nil,_,_=>λh=>by cases h
 | .leaf q v,p,_=>λh=>by cases h
 | .ext q t,p,f=>by
  unfold Tr.get;split
  .exact tZ t _ f
  .exact λh=>by cases h
 | .br ks,[],_=>λh=>by cases h
 | .br ks,c::r,f=>tZ (ks (nb c)) r (f _)
 | .stub _,_,f=>f.elim
theorem Ii {t:T} (g:Tr.Good t 64) (u:Full t) (f:Fine t) (k:aN) (hk:k.length=32):∃ a,Tr.get t (bO k)=some a/\eU (kD (bM t (bO k))) (eT (dP t)) (bO k)=(some a,(kD (bM t (bO k))).length):=by
 have hl:=at_len t 64 (bO k) g;have hp:=En (bM t (bO k));have hq:=fZ k hk;rw [<-WA] at hp ⊢;exact Od g u f hq (zI k) (by omega)
theorem zR (M:Mp) (p:aL) (t:T) (k:aN) (hk:k.length=32) (hg:Tr.Good t 64) (hu:Full t) (hf:Fine t) (hc:lH t<=200000) (w:World) (hi:Inv M w) (ht:IsT M p t) (hT:Tab w) :
  Calls prog 16 #[tv p,.agg (kc k)] w (UU M w (kD (bM t (bO k)))):=by
 have:=OV M p t k hk hg hf hc w hi ht hT;rw [show (Tr.get t (bO k)).isSome=true from (by
  cases e:Tr.get t (bO k) with
  | none=>exact absurd e (tZ _ _ hu)
  | some x=>rfl)] at this
 exact this.mono λ_ _ h=>h.yes
theorem CX {t:T} (g:Tr.Good t 64) (k:aN) (hk:k.length=32):(kD (bM t (bO k))).length<=65:=by
 have hl:=at_len t 64 (bO k) g;have hp:=En (bM t (bO k));have hq:=fZ k hk;omega
def qL:aN:=zk.set 0 32
theorem wO:qL.length=32:=rfl
theorem VG:Tr.get (dV .nil lAB) (path qL)=some none:=by
 rw [jC.get qL wO,TK,if_neg (by decide),if_neg (by decide)]
theorem KV:lH (dV .nil lAB)<=200000:=by
 have h:lH (dV .nil lAB)=3:=by kernel_rfl
 omega
theorem Ue:bM (dV .nil lAB) (bO kb)=[bV (dV .nil lAB),bV lBx]:=by kernel_rfl
theorem QI:(kD (bM (dV .nil lAB) (bO kb))).length=2:=by
 have e2:dP lBx=iK (bV lBx):=rfl;have h32:32<=(iK (bV lBx)).size:=by rw [<-e2,WQ]; decide
 rw [Ue];unfold kD pI;simp [h32]
theorem WW:eU (kD (bM (dV .nil lAB) (bO kb))) (eT (dP (dV .nil lAB))) (bO kb)=(some (some sy),2):=by
 obtain ⟨a,h1,h2⟩:=Ii jC.good jC.full jC.fine kb oZ;rw [show Tr.get (dV .nil lAB) (bO kb)=some (some sy) from Vw] at h1;rw [h2,<-Option.some.inj h1,QI]
theorem Xh:(eU (kD (bM (dV .nil lAB) (bO qL))) (eT (dP (dV .nil lAB))) (bO qL)).1=some none:=by
 obtain ⟨a,h1,h2⟩:=Ii jC.good jC.full jC.fine qL wO;rw [show Tr.get (dV .nil lAB) (bO qL)=some none from VG] at h1;rw [h2,<-Option.some.inj h1]
structure A14 (w0:World) (M:Mp) (w:World) (gb gc g3:Nat) (p:aL) (t:T) (B C:aN):Prop where
 l:Lw w0 M w
 kb:Rg.Own w gb (kc B) 24
 kd:Rg.Own w gc (kc C) 24
 hb:B.length=32
 hc:C.length=32
 bT:Bx M w g3 #[.pointer p] 46
 hT:IsT M p t
namespace A14
variable {w0:World} {M M':Mp} {w w':World} {gb gc g3:Nat} {p:aL} {t:T} {B C:aN}
theorem below (h:A14 w0 M w gb gc g3 p t B C) (hb:Below w.heap.size w w'):A14 w0 M w' gb gc g3 p t B C:=⟨h.l.below hb,h.kb.below hb,h.kd.below hb,h.hb,h.hc,h.bT.below hb,h.hT⟩
theorem fr (h:A14 w0 M w gb gc g3 p t B C) (f:Fr M M' w w') (i:Inv M' w') (tt:Tab w'):A14 w0 M' w' gb gc g3 p t B C:=⟨h.l.fr f i tt,yj h.kb (KM h.hb) h.l.i f,yj h.kd (KM h.hc) h.l.i f,h.hb,h.hc,h.bT.frm h.l.i f,h.hT.mono f.mono⟩
theorem say {e:Ending} (h:A14 w0 M w gb gc g3 p t B C) (g:TN M w v e w'):e = .returned v/\A14 w0 M w' gb gc g3 p t B C/\Fr M M w w':=⟨g.1,h.fr g.2.1 g.2.2.1 g.2.2.2,g.2.1⟩
theorem s (h:A14 w0 M w gb gc g3 p t B C):Rg.Own w gb (kc B) 24/\Rg.Own w gc (kc C) 24/\w.cell? ⟨g3,0,none⟩=some (.pointer p):=⟨h.kb,h.kd,aV (j:=0) h.bT.o rfl⟩
end A14
theorem Jt {s:pX} (h:s.1=some none):uw s=0:=by
 obtain ⟨x,u⟩:=s;cases h;rfl
theorem yD (ev:Operand->Value) (o:Oper) (w:World) (b:Nat) (hb:b=w.heap.size) (ho:o.op = .alloc 24):(execOp ev o).run prog w = .ok (.value (.pointer (some ⟨b,0,none⟩))) (w.alloc (.cells (kc zk) 24)):=by
 subst hb;exact BH ev o ho w
theorem GD (w:World) (hT:Tab w):Calls prog 7 #[] w λe w'=>e = .returned (.bool true)/\Below w.heap.size w w':=by
 obtain ⟨w1,hw1⟩:=ay (((w.alloc (.cells (kc zk) 24)).alloc (.cells (kc zk) 24)).alloc (.cells (kc zk) 24))
 have hb1:Below w.heap.size w w1:=by rw [hw1]; exact bst (al2 _ _ _) (al1 _ _)
 have hA:Rg.Own w1 w.heap.size (kc ka) 24:=by rw [hw1]; exact (Rg.Own.new _ _ _).below (al2 _ _ _)
 have hB:Rg.Own w1 (w.heap.size+1) (kc zk) 24:=by
  have:=(Rg.Own.new (w.alloc (.cells (kc zk) 24)) (kc zk) 24).below (al1 _ (.cells (kc zk) 24));rw [hw1];simpa using this
 have hC:Rg.Own w1 (w.heap.size+2) (kc zk) 24:=by
  have:=Rg.Own.new ((w.alloc (.cells (kc zk) 24)).alloc (.cells (kc zk) 24)) (kc zk) 24;rw [hw1];simpa using this
 have pA:=hid ((Lw.start hT).below hb1);have HA1:=hid hA;have HB1:=hid hB;have Ek:=hid hC;have hne1:w.heap.size≠w.heap.size+1:=by omega
 have hne2:w.heap.size≠w.heap.size+2:=by omega
 have oB:w.heap.size+1≠w.heap.size+2:=by omega
 have F7:w.heap.size+2≠w.heap.size+1:=by omega
 have ec:=hid yD;have o8:Hid ((kc zk).setIfInBounds 0 (.int .u8 16)=kc kb):=hid (SV zk 0 16);have ta:Hid ((kc zk).setIfInBounds 0 (.int .u8 32)=kc qL):=hid (SV zk 0 32);have EE:=hid (Ai ka sx JA);have UT:=hid (Ai kb sy oZ);have UV:Hid (ka.length=32):=hid JA;have xh:Hid (kb.length=32):=hid oZ;have P6:Hid (qL.length=32):=hid wO;have P7:Hid ((kc zk).size=32):=hid Vj
 have xi:Hid (∀ (b:Nat) w3,Rg.Own w3 b (rowP lAB).toArray 60->Lw w M0 w3->Calls prog 15 #[.slice (some ⟨b,0,none⟩) 2 2] w3 (dQ M0 w3 (dV .nil lAB))):=hid (λb w3 h hl=>Kv M0 _ 2 2 lAB WE w3 hl.i (Sj (l:=lAB) h WE.1 (by decide)) (by decide));have pj:Hid (∀ M W p,Inv M W->IsT M p (dV .nil lAB)->Tab W->Calls prog 17 #[tv p] W (TN M W (.agg (Sm.kc (eT (dP (dV .nil lAB))))))):=hid (λM W p hi ht h=>UO M p _ Xd W hi ht h)
 have xj:Hid (∀ M W p,Inv M W->IsT M p (dV .nil lAB)->Tab W->Calls prog 16 #[tv p,.agg (kc kb)] W (UU M W (kD (bM (dV .nil lAB) (bO kb))))):=hid (λM W p hi ht h=>zR M p _ kb oZ jC.good jC.full jC.fine KV W hi ht h);have xl:Hid (∀ M W p,Inv M W->IsT M p (dV .nil lAB)->Tab W->Calls prog 16 #[tv p,.agg (kc qL)] W (UU M W (kD (bM (dV .nil lAB) (bO qL))))):=hid (λM W p hi ht h=>zR M p _ qL wO jC.good jC.full jC.fine KV W hi ht h);have hxb:=LJ jC.good jC.fine (bO kb);have hxd:=LJ jC.good jC.fine (bO qL)
 have hsb:=CX jC.good kb oZ;have hsd:=CX jC.good qL wO;have eJ:=WW;have ly:=Xh;have hrl:=iq (dP (dV .nil lAB));obtain ⟨r9,By⟩:=aA (eT (dP (dV .nil lAB)))
 rw [By] at pj eJ ly hrl;obtain ⟨XB,UX⟩:=aA (kD (bM (dV .nil lAB) (bO kb)))
 rw [UX] at xj hxb hsb eJ;obtain ⟨XD,V0⟩:=aA (kD (bM (dV .nil lAB) (bO qL)))
 rw [V0] at xl hxd hsd ly;have P8:Hid (∀ W a n c,lK W a n c XB->Tab W->Calls prog 11 #[.agg (Sm.kc r9),.agg (kc kb),.slice a n c] W λe w'=>e = .returned (.tuple #[.string sy,.int .i64 0])/\Below W.heap.size W w'):=hid (λW a n c h t=>by
  have:=GI XB r9 kb a n c W hrl oZ h hxb (by have:=h.len; omega) t;rw [eJ] at this;exact this)
 have P9:Hid (∀ W a n c,lK W a n c XD->Tab W->Calls prog 12 #[.agg (Sm.kc r9),.agg (kc qL),.slice a n c] W λe w'=>e = .returned (.int .i64 0)/\Below W.heap.size W w'):=hid (λW a n c h t=>by
  have:=tu XD r9 qL a n c W hrl wO h hxd (by have:=h.len; omega) t;have e:=Jt ly;dsimp only at this;rw [e] at this;exact this)
 have F8:Hid (∀ W a n c,lK W a n c XB->Tab W->Calls prog 12 #[.agg (Sm.kc r9),.agg (kc kb),.slice a n c] W λe w'=>e = .returned (.int .i64 9)/\Below W.heap.size W w'):=hid (λW a n c h t=>by
  have:=tu XB r9 kb a n c W hrl oZ h hxb (by have:=h.len; omega) t;rw [eJ] at this;exact this)
 have Pi:Hid (∀ W a n c,lK W a n c XB->Tab W->Calls prog 13 #[.agg (Sm.kc r9),.agg (kc kb),.slice a n c] W λe w'=>e = .returned (.int .i64 2)/\Below W.heap.size W w'):=hid (λW a n c h t=>by
  have:=Dz XB r9 kb a n c W hrl oZ h hxb (by have:=h.len; omega) t;rw [eJ] at this;exact this)
 clear hA hB hC hb1 hT By UX V0 hxb hxd hsb hsd eJ ly hrl;generalize dV .nil lAB=TT at *
 have HW:Hid (_=_):=hid hw1;clear hw1;have oE:Hid (rowP [(ka,sx),(kb,sy)]=rowP lAB):=hid rfl;obtain ⟨ROW,hROW⟩:=aA (rowP lAB)
 rw [hROW] at xi oE;have YU:Hid (sy=⟨#[121]⟩):=hid rfl;generalize ka=A at *
 generalize kb=B at *
 generalize qL=D at *
 generalize zk=Z at *
 go_enter func7,ntmps7;go_wp2_with (first
  | (refine aB (ec.out _ _ _ w.heap.size rfl rfl) ?_)
  | (refine aB (ec.out _ _ _ (w.heap.size+1) (by first | (simp; done) | fail) rfl) ?_)
  | (refine aB (ec.out _ _ _ (w.heap.size+2) (by simp) rfl) ?_)
  | (rw [<-HW.out]; refine uR HB1.out (by rw [P7.out]; decide) 16 rfl _ _ rfl rfl rfl ?_; intro w2 hO2 hu2; have HB2:Hid (Rg.Own w2 (w.heap.size+1) (kc B) 24):=hid (by rw [<-o8.out]; exact hO2); have HA2:=hid (HA1.out.upd hu2 hne1); have V2:=hid (Ek.out.upd hu2 F7); have HL2:=hid (pA.out.upd hu2 (by omega) (λh=>h)); clear hO2 hu2)
  | (refine uR V2.out (by rw [P7.out]; decide) 32 rfl _ _ rfl rfl rfl ?_; intro w3 hO3 hu3; have HD3:Hid (Rg.Own w3 (w.heap.size+2) (kc D) 24):=hid (by rw [<-ta.out]; exact hO3); have wq:=hid (HA2.out.upd hu3 hne2); have HB3:=hid (HB2.out.upd hu3 oB); have lR:=hid (HL2.out.upd hu3 (by omega) (λh=>h)); clear hO3 hu3)
  | (refine aB (bE UV.out wq.out.2 ⟨_,rfl,rfl⟩) ?_)
  | (refine aB (bE xh.out HB3.out.2 ⟨_,rfl,rfl⟩) ?_)
  | (refine aB (bC EE.out ⟨_,rfl,rfl⟩) ?_)
  | (refine aB (bC UT.out ⟨_,rfl,rfl⟩) ?_)
  | (refine aB (EJ (x:=(A,sx)) (z:=(B,sy)) UV.out xh.out w3.heap.size rfl ⟨_,_,rfl,rfl,rfl⟩) ?_))
 rw [oE.out];have hL3:=lR.out.below (al1 w3 (.cells ROW.toArray 60));refine (xi.out w3.heap.size _ (Rg.Own.new _ _ _) hL3).mono ?_;intro e w4 hG;obtain ⟨p4,M4,rfl,Ha,hL4,tA,hb4⟩:=hL3.got hG;have co:=hid ((HB3.out.below (al1 _ _)).below hb4);have HD4:=hid ((HD3.out.below (al1 _ _)).below hb4);have Hs:=hid hL4;have rB:=hid Ha;have HN:=hid (Rg.Own.new w4 #[.pointer none] 46);have xm:=hid (hL4.i.free aH);have tR:=hL4.b.size;clear hG Ha hL4 tA hb4 hL3 HA1 HB1 Ek pA HA2 HB2 V2 HL2 wq HB3 HD3 lR HW ec o8 ta EE UT xi oE P7;go_wp2_with (first
  | (refine aB (bD _ _ _ w4.heap.size rfl rfl) ?_)
  | (refine bU HN.out (by decide) p4 rfl _ _ rfl rfl rfl ?_; intro w5 c8 cq; have al:=hid (cq.below (al1 w4 (.cells #[.pointer none] 46)) aH); have pL:Hid (A14 w M4 w5 (w.heap.size+1) (w.heap.size+2) w4.heap.size p4 TT B D):=hid ⟨(Hs.out.below (al1 _ _)).upd cq tR xm.out,co.out.below al.out,HD4.out.below al.out,xh.out,P6.out,⟨c8,xm.out,jK p4⟩,rB.out⟩; clear c8 cq)
  | (refine aB (aW (aV (j:=0) pL.out.bT.o rfl) ⟨_,rfl,rfl⟩) ?_)
  | (refine aB (bE xh.out pL.out.kb.2 ⟨_,rfl,rfl⟩) ?_))
 obtain ⟨g3,hg3⟩:=aA w4.heap.size
 rw [hg3] at pL;rw [hg3];obtain ⟨gb,hgb⟩:=aA (w.heap.size+1)
 rw [hgb] at pL;rw [hgb];obtain ⟨gd,hgd⟩:=aA (w.heap.size+2)
 rw [hgd] at pL;rw [hgd];clear HN Hs rB xm tR hg3 hgb hgd al co HD4 hne1 hne2 oB F7;refine (xj.out M4 w5 p4 pL.out.l.i pL.out.hT pL.out.l.t).mono ?_;rintro e w6 ⟨a6,n6,c6,M6,rfl,hs6,V3,f6,i6,t6⟩;have HX:Hid (Stx M6 w6 a6 n6 c6 XB):=hid ⟨hs6,V3⟩;have HA:=hid (pL.out.fr f6 i6 t6);clear hs6 V3 f6 i6 t6 pL xj;go_wp2_with (first
  | (refine aB (aW (aV (j:=0) HA.out.bT.o rfl) ⟨_,rfl,rfl⟩) ?_)
  | (refine aB (bE P6.out HA.out.kd.2 ⟨_,rfl,rfl⟩) ?_))
 refine (xl.out M6 w6 p4 HA.out.l.i HA.out.hT HA.out.l.t).mono ?_;rintro e w7 ⟨a7,n7,c7,M7,rfl,hs7,V4,f7,i7,t7⟩;have HY:Hid (Stx M7 w7 a7 n7 c7 XD):=hid ⟨hs7,V4⟩;replace HX:=hid (HX.out.fr f7);replace HA:=hid (HA.out.fr f7 i7 t7);clear hs7 V4 f7 i7 t7 xl;go_wp2_with fail
 replace HA:=hid (HA.out.below ((Below.refl w7.heap.size w7).drew));replace HX:=hid (HX.out.below ((Below.refl w7.heap.size w7).drew));replace HY:=hid (HY.out.below ((Below.refl w7.heap.size w7).drew));refine aD (S:=λw'=>Rg.Own w' gb (kc B) 24/\Rg.Own w' gd (kc D) 24/\w'.cell? ⟨g3,0,none⟩=some (.pointer p4)) (HA.out.s) λhld=>?_;refine aj 0 ?_ (hy:=by intro wz hSw; (refine aW hSw.2.2 ?_; exact ⟨_,rfl,rfl⟩));try simp only [Act.put,au]
 refine aj 2 ?_ (hy:=by intro wz hSw; (refine bE xh.out hSw.1.2 ?_; exact ⟨_,rfl,rfl⟩));try simp only [Act.put,au]
 refine aj 3 ?_;try simp only [Act.put,au]
 refine ak 1 λK hK=>?_;go_simp;go_at_call 17
 (with_reducible refine (pj.out M7 _ p4 HA.out.l.i HA.out.hT HA.out.l.t).mono ?_)
 intro e y1 hG;obtain ⟨rfl,hA,f⟩:=HA.out.say hG;replace HA:=hid hA;replace HX:=hid (HX.out.fr f);replace HY:=hid (HY.out.fr f);clear hG hA f;refine hK.out _ _ (HA.out.s) λhld=>?_;clear hK K;try simp only [Act.put,au]
 refine ak 4 λK hK=>?_;go_simp;go_at_call 11
 (with_reducible refine (P8.out _ a6 n6 c6 HX.out.s HA.out.l.t).mono ?_)
 rintro e y2 ⟨rfl,hb⟩;replace HA:=hid (HA.out.below hb);replace HX:=hid (HX.out.below hb);replace HY:=hid (HY.out.below hb);clear hb;refine hK.out _ _ (HA.out.s) λhld=>?_;clear hK K;try simp only [Act.put,au]
 refine aj 5 ?_;try simp only [Act.put,au]
 refine aj 6 ?_;try simp only [Act.put,au]
 refine aj 7 ?_;try simp only [Act.put,au]
 refine aj 8 ?_;try simp only [Act.put,au]
 refine aj 9 ?_;try simp only [Act.put,au]
 refine aC ?_;clear hld;go_wp2_with fail
 replace HA:=hid (HA.out.below (aI.drew));replace HX:=hid (HX.out.below (aI.drew));replace HY:=hid (HY.out.below (aI.drew));refine aD (S:=λw'=>Rg.Own w' gb (kc B) 24/\Rg.Own w' gd (kc D) 24/\w'.cell? ⟨g3,0,none⟩=some (.pointer p4)) (HA.out.s) λhld=>?_;refine aj 0 ?_ (hy:=by intro wz hSw; (refine aW hSw.2.2 ?_; exact ⟨_,rfl,rfl⟩));try simp only [Act.put,au]
 refine aj 2 ?_ (hy:=by intro wz hSw; (refine bE P6.out hSw.2.1.2 ?_; exact ⟨_,rfl,rfl⟩));try simp only [Act.put,au]
 refine aj 3 ?_;try simp only [Act.put,au]
 refine ak 1 λK hK=>?_;go_simp;go_at_call 17
 (with_reducible refine (pj.out M7 _ p4 HA.out.l.i HA.out.hT HA.out.l.t).mono ?_)
 intro e y3 hG;obtain ⟨rfl,hA,f⟩:=HA.out.say hG;replace HA:=hid hA;replace HX:=hid (HX.out.fr f);replace HY:=hid (HY.out.fr f);clear hG hA f;refine hK.out _ _ (HA.out.s) λhld=>?_;clear hK K;try simp only [Act.put,au]
 refine ak 4 λK hK=>?_;go_simp;go_at_call 12
 (with_reducible refine (P9.out _ a7 n7 c7 HY.out.s HA.out.l.t).mono ?_)
 rintro e y4 ⟨rfl,hb⟩;replace HA:=hid (HA.out.below hb);replace HX:=hid (HX.out.below hb);replace HY:=hid (HY.out.below hb);clear hb;refine hK.out _ _ (HA.out.s) λhld=>?_;clear hK K;try simp only [Act.put,au]
 refine aj 5 ?_;try simp only [Act.put,au]
 refine aC ?_;clear hld;rw [YU.out];go_wp2_with fail
 replace HA:=hid (HA.out.below (aI.drew));replace HX:=hid (HX.out.below (aI.drew));replace HY:=hid (HY.out.below (aI.drew));refine aD (S:=λw'=>Rg.Own w' gb (kc B) 24/\Rg.Own w' gd (kc D) 24/\w'.cell? ⟨g3,0,none⟩=some (.pointer p4)) (HA.out.s) λhld=>?_;refine aj 0 ?_;try simp only [Act.put,au]
 refine aj 1 ?_;try simp only [Act.put,au]
 refine aj 2 ?_;try simp only [Act.put,au]
 refine aj 3 ?_;try simp only [Act.put,au]
 refine aj 4 ?_;try simp only [Act.put,au]
 refine aj 5 ?_;try simp only [Act.put,au]
 refine aj 6 ?_;try simp only [Act.put,au]
 refine aj 7 ?_;try simp only [Act.put,au]
 refine aj 8 ?_;try simp only [Act.put,au]
 refine aj 9 ?_;try simp only [Act.put,au]
 refine aj 10 ?_;try simp only [Act.put,au]
 refine aj 11 ?_ (hy:=by intro wz hSw; (refine aW hSw.2.2 ?_; exact ⟨_,rfl,rfl⟩));try simp only [Act.put,au]
 refine aj 13 ?_ (hy:=by intro wz hSw; (refine bE xh.out hSw.1.2 ?_; exact ⟨_,rfl,rfl⟩));try simp only [Act.put,au]
 refine aj 14 ?_;try simp only [Act.put,au]
 refine ak 12 λK hK=>?_;go_simp;go_at_call 17
 (with_reducible refine (pj.out M7 _ p4 HA.out.l.i HA.out.hT HA.out.l.t).mono ?_)
 intro e y5 hG;obtain ⟨rfl,hA,f⟩:=HA.out.say hG;replace HA:=hid hA;replace HX:=hid (HX.out.fr f);replace HY:=hid (HY.out.fr f);clear hG hA f;refine hK.out _ _ (HA.out.s) λhld=>?_;clear hK K;try simp only [Act.put,au]
 refine ak 15 λK hK=>?_;go_simp;go_at_call 12
 (with_reducible refine (F8.out _ a6 n6 c6 HX.out.s HA.out.l.t).mono ?_)
 rintro e y6 ⟨rfl,hb⟩;replace HA:=hid (HA.out.below hb);replace HX:=hid (HX.out.below hb);replace HY:=hid (HY.out.below hb);clear hb;refine hK.out _ _ (HA.out.s) λhld=>?_;clear hK K;try simp only [Act.put,au]
 refine aj 16 ?_;try simp only [Act.put,au]
 refine aj 17 ?_;try simp only [Act.put,au]
 refine aj 18 ?_;try simp only [Act.put,au]
 refine aj 19 ?_ (hy:=by intro wz hSw; (refine aW hSw.2.2 ?_; exact ⟨_,rfl,rfl⟩));try simp only [Act.put,au]
 refine aj 21 ?_ (hy:=by intro wz hSw; (refine bE xh.out hSw.1.2 ?_; exact ⟨_,rfl,rfl⟩));try simp only [Act.put,au]
 refine aj 22 ?_;try simp only [Act.put,au]
 refine ak 20 λK hK=>?_;go_simp;go_at_call 17
 (with_reducible refine (pj.out M7 _ p4 HA.out.l.i HA.out.hT HA.out.l.t).mono ?_)
 intro e y7 hG;obtain ⟨rfl,hA,f⟩:=HA.out.say hG;replace HA:=hid hA;replace HX:=hid (HX.out.fr f);replace HY:=hid (HY.out.fr f);clear hG hA f;refine hK.out _ _ (HA.out.s) λhld=>?_;clear hK K;try simp only [Act.put,au]
 refine ak 23 λK hK=>?_;go_simp;go_at_call 13
 (with_reducible refine (Pi.out _ a6 n6 c6 HX.out.s HA.out.l.t).mono ?_)
 rintro e y8 ⟨rfl,hb⟩;replace HA:=hid (HA.out.below hb);replace HX:=hid (HX.out.below hb);replace HY:=hid (HY.out.below hb);clear hb;refine hK.out _ _ (HA.out.s) λhld=>?_;clear hK K;try simp only [Act.put,au]
 refine aj 24 ?_;try simp only [Act.put,au]
 refine aj 25 ?_;try simp only [Act.put,au]
 refine aj 26 ?_;try simp only [Act.put,au]
 refine aC ?_;clear hld;go_wp2;go_ret;exact ⟨rfl,HA.out.l.b⟩
end Tm
end
section
open Go.RowKit Go.ChangeShapes Go.WideShapes
def IV (w:World) (a:aL) (len cap:Nat) (xs:List aM):Prop :=
 len<=cap/\cap<=maxLen/\xs.length=len/\∀ j,j<len->∃ b off,a=some ⟨b,off,none⟩/\b<w.heap.size/\w.cell? ⟨b,off+j,none⟩=some (.string (xs.getD j ByteArray.empty))/\(xs.getD j ByteArray.empty).size<=maxLen
theorem lt_of_cell {w:World} {p:Addr} (h:w.cell? p=some v):p.block<w.heap.size:=by
 rcases Nat.lt_or_ge p.block w.heap.size with h' | h'
 .exact h'
 .simp [World.cell?,Array.getElem?_eq_none h'] at h
theorem PD {H:Type} {enc:TypeId × Value->H} {w:World} {t e:TypeId} {len cap:Nat} {d:DataW H} {p:List MemPlace}
  (ht:P.underlying t=some (.slice e)) (he:P.underlying e=some .string) (hc:P.cellsOf e=1)
  (h:DataW.Trod enc P w 0 (λ_=>true) true t (.slice a len cap) d p):∃ xs,IV w a len cap xs:=by
 obtain ⟨fuel,hf⟩:=h;rcases open_strings ht he hc hf with ⟨hcs,_⟩ | ⟨x,l,c,ss,hcs,_,hl,hm,hz,_,hcell,hws⟩
 .simp [Value.cells] at hcs;obtain ⟨rfl,rfl,rfl⟩:=hcs;exact ⟨[],aH,Nat.zero_le _,rfl,λj hj=>absurd hj (Nat.not_lt_zero _)⟩
 .simp [Value.cells] at hcs;obtain ⟨rfl,rfl,rfl⟩:=hcs;have hz':ss.length=cap:=by simpa using hz
  refine ⟨ss.take len,hl,hm,by rw [List.length_take]; omega,λj hj=>?_⟩;have hcj:=hcell j (by omega);obtain ⟨b,off,spot⟩:=x;have hspot:spot=none:=by simpa [Addr.add] using World.cell?_spot (hcell 0 (by omega))
  subst hspot;have e1:(ss.take len).getD j ByteArray.empty=ss.getD j ByteArray.empty:=by
   simp [List.getD,List.getElem?_take_of_lt hj]
  have e2:(⟨b,off,none⟩:Addr).add j=⟨b,off+j,none⟩:=by unfold Addr.add; split <;> simp_all
  rw [e2] at hcj;refine ⟨b,off,rfl,lt_of_cell hcj,by rw [e1]; exact hcj,?_⟩;rw [e1];have hj':j<ss.length:=by omega
  have e3:ss.getD j ByteArray.empty=ss[j]:=by simp [List.getD,hj']
  rw [e3];exact hws _ (List.getElem_mem _)
end
end Go.Proofs.YtokaiemgjngcoaaGreatDoor
