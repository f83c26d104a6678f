/-
 Contracts of verify.Key, Has, Lacks, Used, of any texts.
-/
import Derived.Test.YtokaiemgjngcoaaGreatDoorVs23
open Go.Lib (hid)
open Go.Proofs.Tryz
set_option linter.unusedSimpArgs false
set_option linter.unusedVariables false
set_option maxHeartbeats 40000000
set_option maxRecDepth 100000
namespace Go.Proofs.YtokaiemgjngcoaaGreatDoor
variable {ev:Operand->Value} {o:Oper} {v:Value} {L g i j u:Nat} {e:TypeId} {ops:Array Oper} {ad:aL}
section
open Go.RowKit
namespace Tm
open Tr Ni Pk Ky No Rf Rl
open Sm (Tab)
theorem LH {s:qN} {cs:aO} (h:Says s cs):∃ v i r,cs=vdC v i s.2 r/\(r=false->Oz s = .tuple #[.string eB,.bool false,.int .i64 9])/\(r=true->Oz s = .tuple #[.string v,.bool i,.int .i64 0]):=by
 match s,h with
 | (none,u),⟨v,i,h⟩=>exact ⟨v,i,false,h,λ_=>rfl,(λe=>by cases e)⟩
 | (some none,u),h=>exact ⟨eB,false,true,h,(λe=>by cases e),λ_=>rfl⟩
 | (some (some v),u),h=>exact ⟨v,true,true,h,(λe=>by cases e),λ_=>rfl⟩
theorem LW (s:qN):∃ v i e,Oz s = .tuple #[.string v,.bool i,.int .i64 e]/\(i=true->Xx s = .tuple #[.string v,.int .i64 0]/\ES s=9)/\(i=false->Xx s = .tuple #[.string eB,.int .i64 9]/\ES s=e):=by
 match s with
 | (none,u)=>exact ⟨_,_,_,rfl,(λe=>by cases e),λ_=>⟨rfl,rfl⟩⟩
 | (some none,u)=>exact ⟨_,_,_,rfl,(λe=>by cases e),λ_=>⟨rfl,rfl⟩⟩
 | (some (some v),u)=>exact ⟨_,_,_,rfl,λ_=>⟨rfl,rfl⟩,(λe=>by cases e)⟩
theorem Gg {w:World} {v:aM} {i r:Bool} (ho:∃ x,o.op = .field 62 x 2/\ev x = .agg (vdC v i u r)):(execOp ev o).run prog w = .ok (.value (.int .i64 u)) w:=by
 obtain ⟨x,ho,hx⟩:=ho;unfold execOp;simp only [ho,hx];kernel_rfl
theorem EW (w:World) (r k:aN):∃ w1,w1=(w.alloc (.cells (Sm.kc r) 23)).alloc (.cells (kc k) 24)/\Rg.Own w1 w.heap.size (Sm.kc r) 23/\Rg.Own w1 (w.heap.size+1) (kc k) 24/\Below w.heap.size w w1/\w1.heap.size=w.heap.size+2:=by
 refine ⟨_,rfl,(Rg.Own.new _ _ _).below (al1 _ _),?_,al2 _ _ _,by simp⟩;have:=Rg.Own.new (w.alloc (.cells (Sm.kc r) 23)) (kc k) 24;simpa using this
theorem BH:VJ 8 Oz:=by
 intro l r k la ln lc w hr hk hl hx h1k hT;obtain ⟨w1,hw1,hS1,hK1,hb1,hs1⟩:=EW w r k;have HF:=hid (yB l hx la ln lc r k hr hk w1 (hl.below hb1) h1k (hT.below hb1 hT.pos));have HW:Hid (_=_):=hid hw1;have HB1:=hid hb1;have cW:=hid hS1;have cR:=hid hK1;have f9:=hid hr;have co:=hid hk;obtain ⟨S,hS⟩:=aA (mY l r (bG k))
 rw [hS] at HF ⊢;obtain ⟨C,hC⟩:=aA (kc k)
 have HC:=hid hC;rw [hC] at HW cR HF ⊢;obtain ⟨D,hD⟩:=aA (Sm.kc r)
 have HD:=hid hD;rw [hD] at HW cW HF ⊢;clear hl hT hb1 hS1 hK1 hw1 hS hC hD hr hk hx;go_enter func8,ntmps8;go_wp2_with (first
  | ((try rw [<-HW.out]); refine Rg.run rfl (.agg D) _ (by rw [<-HD.out]; exact Sm.gJ _ _ _ w.heap.size r f9.out ⟨_,rfl,rfl⟩ (by rw [HD.out]; exact cW.out)) ?_)
  | (refine Rg.run rfl (.agg C) _ (by rw [<-HC.out]; exact bJ co.out (by rw [HC.out]; exact cR.out.2) ⟨_,rfl,rfl⟩) ?_))
 refine HF.out.mono ?_;rintro e w2 ⟨cs,rfl,dE,hb2⟩;obtain ⟨v,i,rt,rfl,hr0,hr1⟩:=LH dE;have HB2:=hid (bst HB1.out hb2);have HA2:=hid (Rg.Own.new w2 (vdC eB false 0 false) 62);have hal:=al1 w2 (.cells (vdC eB false 0 false) 62);obtain ⟨u,hu⟩:=aA S.2
 rw [hu];clear hb2 dE hu HF cW cR HB1 HW;cases rt with
 | false =>
  have HV:=hid (hr0 rfl);clear hr0 hr1;go_wp2_with (first
   | (refine aB (dW _ _ _ w2.heap.size rfl rfl) ?_)
   | (refine bS HA2.out rfl _ _ _ _ rfl _ _ rfl rfl rfl rfl ?_; intro w3 hO3 hu3; have HB3:=hid (bst HB2.out (hu3.below hal aH)); have k3:w3.cell? ⟨w2.heap.size,3,none⟩=some (.bool false):=aV (j:=3) hO3 rfl; clear hO3 hu3))
  exact bodyPost_ret (results_tmp3 (t:=6) (u:=7) (v:=8) rfl _ _ _) rfl ⟨by rw [HV.out]; rfl,HB3.out⟩
 | true =>
  have HV:=hid (hr1 rfl);clear hr0 hr1;go_wp2_with (first
   | (refine aB (dW _ _ _ w2.heap.size rfl rfl) ?_)
   | (refine bS HA2.out rfl _ _ _ _ rfl _ _ rfl rfl rfl rfl ?_; intro w3 hO3 hu3; have HB3:=hid (bst HB2.out (hu3.below hal aH)); have k3:w3.cell? ⟨w2.heap.size,3,none⟩=some (.bool true):=aV (j:=3) hO3 rfl; have k0:w3.cell? ⟨w2.heap.size,0,none⟩=some (.string v):=aV (j:=0) hO3 rfl; have k1:w3.cell? ⟨w2.heap.size,1,none⟩=some (.bool i):=aV (j:=1) hO3 rfl; clear hO3 hu3))
  go_quiet (fail)
  go_wp2;exact bodyPost_ret (results_tmp3 (t:=6) (u:=7) (v:=8) rfl _ _ _) rfl ⟨by rw [HV.out]; rfl,below_drewN HB3.out _⟩
theorem UR:VJ 11 Xx:=by
 intro l r k la ln lc w hr hk hl hx h1k hT;obtain ⟨w1,hw1,hS1,hK1,hb1,hs1⟩:=EW w r k;have HF:=hid (BH l r k la ln lc w1 hr hk (hl.below hb1) hx h1k (hT.below hb1 hT.pos));have HW:Hid (_=_):=hid hw1;have HB1:=hid hb1;have cW:=hid hS1;have cR:=hid hK1;have f9:=hid hr;have co:=hid hk;obtain ⟨S,hS⟩:=aA (mY l r (bG k))
 rw [hS] at HF ⊢;obtain ⟨C,hC⟩:=aA (kc k)
 have HC:=hid hC;rw [hC] at HW cR HF ⊢;obtain ⟨D,hD⟩:=aA (Sm.kc r)
 have HD:=hid hD;rw [hD] at HW cW HF ⊢;clear hl hT hb1 hS1 hK1 hw1 hS hC hD hr hk hx;obtain ⟨v,i,e,DG,ht,hf⟩:=LW S;rw [DG] at HF;clear DG;cases i with
 | true =>
  rw [(ht rfl).1];clear ht hf;go_enter func11,ntmps11;go_wp2_with (first
  | ((try rw [<-HW.out]); refine Rg.run rfl (.agg D) _ (by rw [<-HD.out]; exact Sm.gJ _ _ _ w.heap.size r f9.out ⟨_,rfl,rfl⟩ (by rw [HD.out]; exact cW.out)) ?_)
  | (refine Rg.run rfl (.agg C) _ (by rw [<-HC.out]; exact bJ co.out (by rw [HC.out]; exact cR.out.2) ⟨_,rfl,rfl⟩) ?_))
  refine HF.out.mono ?_;rintro e w2 ⟨rfl,hb2⟩;have HB2:=hid (bst HB1.out hb2);clear hb2 HF cW cR HB1 HW;go_wp2;exact bodyPost_ret (results_tmp2 (t:=6) (u:=7) rfl _ _ _) rfl ⟨rfl,HB2.out⟩
 | false =>
  rw [(hf rfl).1];clear ht hf;go_enter func11,ntmps11;go_wp2_with (first
  | ((try rw [<-HW.out]); refine Rg.run rfl (.agg D) _ (by rw [<-HD.out]; exact Sm.gJ _ _ _ w.heap.size r f9.out ⟨_,rfl,rfl⟩ (by rw [HD.out]; exact cW.out)) ?_)
  | (refine Rg.run rfl (.agg C) _ (by rw [<-HC.out]; exact bJ co.out (by rw [HC.out]; exact cR.out.2) ⟨_,rfl,rfl⟩) ?_))
  refine HF.out.mono ?_;rintro e w2 ⟨rfl,hb2⟩;have HB2:=hid (bst HB1.out hb2);clear hb2 HF cW cR HB1 HW;go_wp2;exact bodyPost_ret (results_tmp2 (t:=6) (u:=7) rfl _ _ _) rfl ⟨rfl,HB2.out⟩
theorem BX:VJ 12 (λs=>.int .i64 (ES s)):=by
 intro l r k la ln lc w hr hk hl hx h1k hT;obtain ⟨w1,hw1,hS1,hK1,hb1,hs1⟩:=EW w r k;have HF:=hid (BH l r k la ln lc w1 hr hk (hl.below hb1) hx h1k (hT.below hb1 hT.pos));have HW:Hid (_=_):=hid hw1;have HB1:=hid hb1;have cW:=hid hS1;have cR:=hid hK1;have f9:=hid hr;have co:=hid hk;obtain ⟨S,hS⟩:=aA (mY l r (bG k))
 rw [hS] at HF ⊢;obtain ⟨C,hC⟩:=aA (kc k)
 have HC:=hid hC;rw [hC] at HW cR HF ⊢;obtain ⟨D,hD⟩:=aA (Sm.kc r)
 have HD:=hid hD;rw [hD] at HW cW HF ⊢;clear hl hT hb1 hS1 hK1 hw1 hS hC hD hr hk hx;obtain ⟨v,i,e,DG,ht,hf⟩:=LW S;rw [DG] at HF;clear DG;cases i with
 | true =>
  have hL:=(ht rfl).2;clear ht hf;go_enter func12,ntmps12;go_wp2_with (first
  | ((try rw [<-HW.out]); refine Rg.run rfl (.agg D) _ (by rw [<-HD.out]; exact Sm.gJ _ _ _ w.heap.size r f9.out ⟨_,rfl,rfl⟩ (by rw [HD.out]; exact cW.out)) ?_)
  | (refine Rg.run rfl (.agg C) _ (by rw [<-HC.out]; exact bJ co.out (by rw [HC.out]; exact cR.out.2) ⟨_,rfl,rfl⟩) ?_))
  refine HF.out.mono ?_;rintro e w2 ⟨rfl,hb2⟩;have HB2:=hid (bst HB1.out hb2);have HL:=hid hL;clear hb2 HF cW cR HB1 HW hL;go_wp2;go_ret;exact ⟨by rw [HL.out]; rfl,HB2.out⟩
 | false =>
  have hL:=(hf rfl).2;clear ht hf;go_enter func12,ntmps12;go_wp2_with (first
  | ((try rw [<-HW.out]); refine Rg.run rfl (.agg D) _ (by rw [<-HD.out]; exact Sm.gJ _ _ _ w.heap.size r f9.out ⟨_,rfl,rfl⟩ (by rw [HD.out]; exact cW.out)) ?_)
  | (refine Rg.run rfl (.agg C) _ (by rw [<-HC.out]; exact bJ co.out (by rw [HC.out]; exact cR.out.2) ⟨_,rfl,rfl⟩) ?_))
  refine HF.out.mono ?_;rintro e w2 ⟨rfl,hb2⟩;have HB2:=hid (bst HB1.out hb2);have HL:=hid hL;clear hb2 HF cW cR HB1 HW hL;go_wp2;go_ret;exact ⟨by rw [HL.out]; rfl,HB2.out⟩
theorem Qm:VJ 13 (λs=>.int .i64 s.2):=by
 intro l r k la ln lc w hr hk hl hx h1k hT;obtain ⟨w1,hw1,hS1,hK1,hb1,hs1⟩:=EW w r k;have HF:=hid (yB l hx la ln lc r k hr hk w1 (hl.below hb1) h1k (hT.below hb1 hT.pos));have HW:Hid (_=_):=hid hw1;have HB1:=hid hb1;have cW:=hid hS1;have cR:=hid hK1;have f9:=hid hr;have co:=hid hk;obtain ⟨S,hS⟩:=aA (mY l r (bG k))
 rw [hS] at HF ⊢;obtain ⟨C,hC⟩:=aA (kc k)
 have HC:=hid hC;rw [hC] at HW cR HF ⊢;obtain ⟨D,hD⟩:=aA (Sm.kc r)
 have HD:=hid hD;rw [hD] at HW cW HF ⊢;clear hl hT hb1 hS1 hK1 hw1 hS hC hD hr hk hx;go_enter func13,ntmps13;go_wp2_with (first
  | ((try rw [<-HW.out]); refine Rg.run rfl (.agg D) _ (by rw [<-HD.out]; exact Sm.gJ _ _ _ w.heap.size r f9.out ⟨_,rfl,rfl⟩ (by rw [HD.out]; exact cW.out)) ?_)
  | (refine Rg.run rfl (.agg C) _ (by rw [<-HC.out]; exact bJ co.out (by rw [HC.out]; exact cR.out.2) ⟨_,rfl,rfl⟩) ?_))
 refine HF.out.mono ?_;rintro e w2 ⟨cs,rfl,dE,hb2⟩;obtain ⟨v,i,rt,rfl,_,_⟩:=LH dE;have HB2:=hid (bst HB1.out hb2);obtain ⟨u,hu⟩:=aA S.2
 have HU:=hid hu;rw [hu];clear hb2 dE hu HF cW cR HB1 HW;go_wp2_with (first | (refine aB (Gg ⟨_,rfl,rfl⟩) ?_))
 go_ret;exact ⟨by rw [HU.out]; rfl,HB2.out⟩
theorem Fr.Lm {M:Mp} {w w2 wr:World} (f:Fr M M w w2) (hs:w.heap.size<=w2.heap.size) (hb:Below w2.heap.size w2 wr):Fr M M w wr :=
 ⟨hb.os.trans f.os,hb.tape.trans f.tape,hb.output.trans f.output,Nat.le_trans hs hb.size,λk hl hm=>(hb.block k (by omega)).trans (f.block k hl hm),λ_ _ h=>h,λ_ _ h=>h,λ_ h=>h,λ_ h=>Or.inl h⟩
def OJ (M:Mp) (w:World) (v:Value) (e:Ending) (w':World):Prop:=e = .returned v/\Fr M M w w'/\Inv M w'/\Tab w'
theorem Tab.upd {w w':World} (h:Tab w) (hu:Rg.Upd w g w') (hg:0<g):Tab w':=λi hi=>by
 rw [World.cell?_of_block (hu.block 0 (by omega))];exact h i hi
theorem OJ.upd {M:Mp} {w w1 w':World} {g:Nat} (hi:Inv M w) (h0:0<w.heap.size) (f:Fr M M w w1) (i:Inv M w1) (t:Tab w1) (hu:Rg.Upd w1 g w') (hg:w.heap.size<=g):Fr M M w w'/\Inv M w'/\Tab w' :=
 ⟨f.upd hu hg,i.upd hu (hi.free hg),Tab.upd t hu (by omega)⟩
theorem Whl.size {t:T} (h:Whl t):(bP t).size<=900000:=by
 by_cases hn:t = .nil
 .subst hn; exact Nat.zero_le _
 .exact (h.enc hn).2
theorem LY (M:Mp) (p:aL) (t:T) (hx:Whl t) (w:World) (hi:Inv M w) (ht:IsT M p t) (hT:Tab w):Calls prog 17 #[tv p] w (OJ M w (.agg (Sm.kc (eG (bP t))))):=by
 obtain ⟨w1,hw1⟩:=ay ((w.alloc (.cells #[.pointer p] 46)).alloc (.cells (Sm.kc Sm.zk) 23))
 have hb1:Below w.heap.size w w1:=by rw [hw1]; exact al2 _ _ _
 have am:Rg.Own w1 w.heap.size #[.pointer p] 46:=by rw [hw1]; exact (Rg.Own.new _ _ _).below (al1 _ _)
 have hS1:Rg.Own w1 (w.heap.size+1) (Sm.kc Sm.zk) 23:=by
  have:=Rg.Own.new (w.alloc (.cells #[.pointer p] 46)) (Sm.kc Sm.zk) 23;rw [hw1];simpa using this
 obtain ⟨L,hL,hg⟩:=hx.good;have HE:=hid (Hr M p t L hg hL hx.fine w1 (hi.below hb1) ht (hT.below hb1 hT.pos));have HR:Hid (∀ w2,Tab w2->Calls prog 33 #[.string (bP t)] w2 λe w'=>e = .returned (.agg (Sm.kc (eG (bP t))))/\Below w2.heap.size w2 w'):=hid (λw2 h=>Aq (bP t) hx.size w2 h);have co:=hid (jE (bP t))
 have HF:Hid (∀ w2 w3,Fr M M w1 w2->Inv M w2->Tab w2->Below w2.heap.size w2 w3->Rg.Own w3 (w.heap.size+1) (Sm.kc Sm.zk) 23/\∀ w4,Rg.Upd w3 (w.heap.size+1) w4->Fr M M w w4/\Inv M w4/\Tab w4):=hid (λw2 w3 f i t hb=>by
  have f0:=(Fr.below M hb1).trans hi f;exact ⟨(xk hS1 f (hi.out (by omega))).below hb,λw4 hu=>OJ.upd hi hT.pos (f0.Lm f0.size hb) (i.below hb) (t.below hb t.pos) hu (by omega)⟩)
 have ec:=hid am;have HW:Hid (_=_):=hid hw1;obtain ⟨E,hE⟩:=aA (bP t)
 rw [hE] at HE HR co ⊢;obtain ⟨K,hK⟩:=aA (eG E)
 rw [hK] at HR co ⊢;clear hx hi ht hT hb1 am hS1 hw1 hL hg hE hK;go_enter func17,ntmps17;go_wp2_with (first
  | (refine aB (Sm.jK _ _ rfl _ (w.heap.size+1) (by simp)) ?_; rw [<-HW.out])
  | (refine aB (aW (aV (j:=0) ec.out rfl) ⟨_,rfl,rfl⟩) ?_))
 refine HE.out.mono ?_;rintro e w2 ⟨rfl,f2,i2,t2⟩;have HH:Hid (Fr M M w1 w2/\Inv M w2/\Tab w2):=hid ⟨f2,i2,t2⟩;clear f2 i2 t2 HE ec;go_wp2_with fail
 refine (HR.out w2 HH.out.2.2).mono ?_;rintro e w3 ⟨rfl,hb3⟩;obtain ⟨hO3,AG⟩:=HF.out w2 w3 HH.out.1 HH.out.2.1 HH.out.2.2 hb3;have ce:=hid hO3;have kB:=hid AG;clear hO3 AG hb3 HF HH HR;go_wp2_with (refine wpList_store_rowTo rfl 23 _ _ rfl rfl _ (Sm.kc K) rfl rfl 23 (Sm.kc Sm.zk) ce.out.2 (Sm.jR K co.out) (by rw [Sm.jy,Sm.jy,co.out]; rfl) (Sm.FL _) ?_)
 exact bodyPost_ret (results_cell_row rfl _ _ (w.heap.size+1) 23 (Sm.kc K) (0,0) _ rfl (setRow_heap _ _ _ _ _ _ ce.out.2) underlying23 rfl (Sm.jR K co.out)) rfl ⟨rfl,kB.out _ (Rg.Upd.set _ _ _)⟩
def Xu (M:Mp) (w:World) (s:aM) (e:Ending) (w':World):Prop:=∃ b,e = .returned (.func (Fn.func 56) #[] #[.pointer (some ⟨b,0,none⟩)])/\Rg.Own w' b #[.string s] 9/\M.at_ b=none/\¬ M.ft b/\Fr M M w w'/\Inv M w'/\Tab w'
theorem Pm (M:Mp) (p:aL) (t:T) (L:Nat) (g:Tr.Good t L) (hL:L<=64) (f:Fine t) (w:World) (hi:Inv M w) (ht:IsT M p t) (hT:Tab w) :
  Calls prog 30 #[tv p] w (Xu M w (bP t)):=by
 have hA1:=al1 w (.cells #[.pointer p] 46);have h0:=fK w p;have HE:=hid (Hr M p t L g hL f (w.alloc (.cells #[.pointer p] 46)) (hi.below hA1) ht (hT.below hA1 hT.pos));have HF:Hid (∀ w2 (E:aM),Fr M M (w.alloc (.cells #[.pointer p] 46)) w2->Inv M w2->Tab w2->M.at_ w2.heap.size=none/\¬ M.ft w2.heap.size/\Fr M M w (w2.alloc (.cells #[.string E] 9))/\Inv M (w2.alloc (.cells #[.string E] 9))/\Tab (w2.alloc (.cells #[.string E] 9))):=hid (λw2 E f i t=>by
  have f0:=(Fr.below M hA1).trans hi f;have hb:=al1 w2 (.cells #[.string E] 9);exact ⟨i.out aH,i.free aH,f0.Lm f0.size hb,i.below hb,t.below hb t.pos⟩)
 obtain ⟨E,hE⟩:=aA (bP t)
 rw [hE] at HE ⊢;clear hE g hL f hi ht hT hA1;go_enter func30,ntmps30;go_wp2_with (first
  | (refine aB (aW h0 ⟨_,rfl,rfl⟩) ?_))
 refine HE.out.mono ?_;rintro e w2 ⟨rfl,f2,i2,t2⟩;have HF2:=hid (HF.out w2 E f2 i2 t2);clear HE HF h0 f2 i2 t2;go_wp2;go_ret;exact ⟨w2.heap.size,rfl,Rg.Own.new _ _ _,HF2.out⟩
theorem JM (b:Nat) (r s:aM) (w:World) (hc:w.cell? ⟨b,0,none⟩=some (.string r)) :
  Calls prog 56 #[.string s,.pointer (some ⟨b,0,none⟩)] w λe w'=>e = .returned (.bool (decide (s=r\/32<=s.size)))/\Below w.heap.size w w':=by
 by_cases h:s=r
 .have HD:Hid (decide (s=r\/32<=s.size)=true):=hid (aK (.inl h));subst h;rw [HD.out];clear HD;go_enter func56,ntmps56;go_wp2;go_ret;exact ⟨rfl,aI⟩
 .have hne:=EJ h;by_cases h32:32<=s.size
  .have HD:Hid (decide (s=r\/32<=s.size)=true):=hid (aK (.inr h32));have q1:decide ((32:Int)<=(s.size:Int))=true:=aK (by omega);have tI:decide (32<=s.size)=true:=aK h32;rw [HD.out];clear HD;go_enter func56,ntmps56;go_wp2;go_ret;exact ⟨rfl,aI⟩
  .have HD:Hid (decide (s=r\/32<=s.size)=false):=hid (decide_eq_false (λe=>e.elim h h32));have q1:decide ((32:Int)<=(s.size:Int))=false:=decide_eq_false (by omega);have tI:decide (32<=s.size)=false:=decide_eq_false h32;rw [HD.out];clear HD;go_enter func56,ntmps56;go_wp2;go_ret;exact ⟨rfl,aI⟩
end Tm
end
section
namespace Tr
open Rf Rl Ni No
theorem Ht {xs:List It} {n:Nd} (h:eD xs=some n):∀ k∈n.ks,k=eB\/∃ x∈xs,lJ x=some k:=by
 unfold eD at h;by_cases h2:xs.length=2
 .rw [if_pos h2] at h;unfold ig at h;split at h
  .cases h
  .split at h
   .obtain rfl:=Option.some.inj h;exact λk hk=>.inl (List.eq_of_mem_replicate hk)
   .obtain ⟨k,hk,rfl⟩:=Option.map_eq_some_iff.1 h;intro j hj;rcases List.mem_cons.1 hj with rfl | hj
    .exact .inr ⟨_,No.kQ (by omega),hk⟩
    .exact .inl (List.eq_of_mem_replicate hj)
 .rw [if_neg h2] at h;by_cases fY:xs.length=17
  .rw [if_pos fY] at h;unfold dA at h;split at h
   .cases h
   .rename_i ks hks;split at h
    .obtain rfl:=Option.some.inj h;intro k hk;obtain ⟨x,hx,e⟩:=(Aj hks).2 k hk;exact .inr ⟨x,List.mem_of_mem_take hx,e⟩
    .cases h
  .rw [if_neg fY] at h; cases h
theorem QK {s:aN} (hs:s.length<=4294967296) {n:Nd} (h:kW s=some n):∀ k∈n.ks,k.size≠0->k.size<s.length:=by
 obtain ⟨x,h1,h2,_⟩:=pK hs h;obtain ⟨g1,g2,_⟩:=jS hs h1;intro k hk h0;rcases Ht h2 k hk with rfl | ⟨y,hy,e⟩
 .exact absurd rfl h0
 .have hlt:=sM g2 (by rw [g1]; exact hs) hy;rw [g1] at hlt;have hi:=mI y;unfold lJ at e;split at e
  .split at e
   .have e:=Option.some.inj e;rw [<-e,Rl.fq];exact hlt
   .cases e
  .split at e
   .have e:=Option.some.inj e;cases y with
    | mk l s' xs =>
     rw [inner_mk,List.length_append,iC] at hi;rw [<-e];show s'.size<_;omega
   .cases e
theorem TG {t:T} (hn:t ≠ .nil) (hs:¬ eY t):bP t=gH (bg t):=by
 cases t with
 | nil=>exact absurd rfl hn
 | stub r=>exact absurd trivial hs
 | leaf p v=>rfl
 | ext q t=>rfl
 | br ks=>rfl
theorem EK {t s:T} {K:Nat} (g:Good t L) (hL:L<=64) (f:Fine t) (hn:t ≠ .nil) (hs:¬ eY t) (g':Good s K) (hK:K<=64) (f':Fine s) (hn':s ≠ .nil) (hs':¬ eY s) (hk:ref s∈(bg t).ks) (h:(bP t).size<32):(bP s).size<(bP t).size:=by
 have hm:=(eT t L g hL f hn).1 hs;have hsz:(bP t).size=(jM (bg t)).length:=by rw [TG hn hs,wZ]
 have hu:=QK (by omega) (No.get_put (dY t) hm) (ref s) hk (eT s K g' hK f' hn').2.2;rw [<-hsz] at hu;have hr:=qp hs';by_cases h32:(bP s).size<32
 .rw [hr] at hu;unfold ofP at hu;rw [if_pos h32] at hu;exact hu
 .exfalso;rw [hr] at hu;unfold ofP at hu;rw [if_neg h32] at hu;have hz:(⟨(gG (bP s)).toArray⟩:aM).size=32:=by
   have:(⟨(gG (bP s)).toArray⟩:aM).size=(gG (bP s)).length:=by show (gG (bP s)).toArray.size=_; simp
   rw [this,mR]
  omega
theorem zl {s:T} {w:Pa} {N:Nd} (h:N∈bD s w):s ≠ .nil/\¬ eY s:=by
 cases s with
 | nil=>cases h
 | stub r=>cases h
 | leaf p v=>exact ⟨λe=>(by cases e),λh=>h⟩
 | ext q t=>exact ⟨λe=>(by cases e),λh=>h⟩
 | br ks=>exact ⟨λe=>(by cases e),λh=>h⟩
theorem QW (q:Pa) (t:T):ref t∈(bg (.ext q t)).ks:=List.mem_cons_self ..
theorem Xt (ks:Fin 16->T) (i:Fin 16):ref (ks i)∈(bg (.br ks)).ks:=List.mem_map.2 ⟨i,List.mem_finRange i,rfl⟩
theorem MB:∀ (t:T) (L:Nat) (w:Pa),Good t L->L<=64->Fine t->(bP t).size<32->∀ N∈bD t w,(gH N).size<=(bP t).size
 | .nil,_,_,_,_,_,_,_,h=>by cases h
 | .leaf p v,L,w,g,hL,f,_,N,h=>by rw [List.mem_singleton.1 h]; exact aH
 | .ext q t,L,w,g,hL,f,h32,N,h=>by
  rcases List.mem_cons.1 h with rfl | h
  .exact aH
  .by_cases hq:q<+:w
   .rw [if_pos hq] at h;obtain ⟨h1,h2⟩:=zl h;have:=EK (t:=.ext q t) g hL f (λe=>(by cases e)) (λh=>h) g.2.2.2.2 (by omega) f h1 h2 (QW q t) h32;have:=MB t (L-q.length) (w.drop q.length) g.2.2.2.2 (by omega) f (by omega) N h;omega
   .rw [if_neg hq] at h;cases h
 | .br ks,L,[],g,hL,f,_,N,h=>by rw [List.mem_singleton.1 h]; exact aH
 | .br ks,L,c::w,g,hL,f,h32,N,h=>by
  rcases List.mem_cons.1 h with rfl | h
  .exact aH
  .obtain ⟨h1,h2⟩:=zl h;have:=EK (t:=.br ks) g hL f (λe=>(by cases e)) (λh=>h) (g.2.2 _) (by omega) (f _) h1 h2 (Xt ks (nb c)) h32;have:=MB (ks (nb c)) (L-1) w (g.2.2 _) (by omega) (f _) (by omega) N h;omega
 | .stub _,_,_,_,_,_,_,_,h=>by cases h
theorem Yy (t:T) (L:Nat) (w:Pa) (g:Good t L) (hL:L<=64) (f:Fine t) (h32:(bP t).size<32):∀ N∈(bD t w).drop 1,(gH N).size<(bP t).size:=by
 intro N h
 match t,w,g,f,h32,h with
 | .nil,_,_,_,_,h=>cases h
 | .leaf p v,_,_,_,_,h=>cases h
 | .ext q t,w,g,f,h32,h =>
  have h:N∈(if q<+:w then bD t (w.drop q.length) else []):=h;by_cases hq:q<+:w
  .rw [if_pos hq] at h;obtain ⟨h1,h2⟩:=zl h;have:=EK (t:=.ext q t) g hL f (λe=>(by cases e)) (λh=>h) g.2.2.2.2 (by omega) f h1 h2 (QW q t) h32;have:=MB t (L-q.length) (w.drop q.length) g.2.2.2.2 (by omega) f (by omega) N h;omega
  .rw [if_neg hq] at h;cases h
 | .br ks,[],_,_,_,h=>cases h
 | .br ks,c::w,g,f,h32,h =>
  have h:N∈bD (ks (nb c)) w:=h;obtain ⟨h1,h2⟩:=zl h;have:=EK (t:=.br ks) g hL f (λe=>(by cases e)) (λh=>h) (g.2.2 _) (by omega) (f _) h1 h2 (Xt ks (nb c)) h32;have:=MB (ks (nb c)) (L-1) w (g.2.2 _) (by omega) (f _) (by omega) N h;omega
 | .stub _,_,_,_,_,h=>cases h
theorem RG {t:T} {w:Pa} {N:Nd} (h:(bD t w).getD 0 nd0=N) (hl:0<(bD t w).length):gH N=bP t:=by
 cases t with
 | nil=>cases hl
 | stub r=>cases hl
 | leaf p v=>rw [<-h]; rfl
 | ext q t=>rw [<-h]; rfl
 | br ks=>cases w with
  | nil=>rw [<-h]; rfl
  | cons c w=>rw [<-h]; rfl
theorem Vn {t:T} {w:Pa} (g:Good t L) (hL:L<=64) (f:Fine t) (hj:j<(bD t w).length):(gH ((bD t w).getD j nd0)=bP t\/32<=(gH ((bD t w).getD j nd0)).size)↔(j=0\/32<=(gH ((bD t w).getD j nd0)).size):=by
 constructor
 .rintro (h | h)
  .by_cases h0:j=0
   .exact .inl h0
   .by_cases h32:(bP t).size<32
    .have hm:(bD t w).getD j nd0∈(bD t w).drop 1:=by
      have e:(bD t w).getD j nd0=((bD t w).drop 1)[j-1]'(by rw [List.length_drop]; omega):=by
       rw [List.getElem_drop];simp [List.getD,hj,show 1+(j-1)=j by omega]
      rw [e];exact List.getElem_mem _
     have:=Yy t L w g hL f h32 _ hm;rw [h] at this;omega
    .rw [<-h] at h32;exact .inr (by omega)
  .exact .inr h
 .rintro (h | h)
  .subst h;exact .inl (RG rfl hj)
  .exact .inr h
end Tr
end
section
open Go.RowKit
namespace Tm
open Tr Ni Pk Ky No Rf Rl
open Sm (Tab)
def Vo (M:Mp) (w:World) (xs:List aM) (e:Ending) (w':World):Prop:=∃ a n c M',e = .returned (.tuple #[.slice a n c,.int .i64 0])/\kD w' a n c xs/\(∀ ad,a=some ad->M'.at_ ad.block=none/\ad.block<w'.heap.size)/\Fr M M' w w'/\Inv M' w'/\Tab w'
structure Stx (M:Mp) (w:World) (a:aL) (n c:Nat) (xs:List aM):Prop where
 s:kD w a n c xs
 r:∀ ad,a=some ad->M.at_ ad.block=none/\ad.block<w.heap.size
theorem Stx.below {M:Mp} {w w':World} {a:aL} {n c:Nat} {xs:List aM} (h:Stx M w a n c xs) (hb:Below w.heap.size w w'):Stx M w' a n c xs:=⟨h.s.below hb,λad e=>⟨(h.r ad e).1,aJ (h.r ad e).2 hb.size⟩⟩
theorem Stx.fr {M M':Mp} {w w':World} {a:aL} {n c:Nat} {xs:List aM} (h:Stx M w a n c xs) (f:Fr M M' w w'):Stx M' w' a n c xs :=
 ⟨⟨h.s.1,h.s.2.1,h.s.2.2.1,λj hj=>by
  obtain ⟨b,off,e,hlt,hc⟩:=h.s.at' j hj;exact ⟨b,off,e,aJ hlt f.size,by rw [f.cell hlt (h.r _ e).1]; exact hc⟩⟩,λad e=>⟨f.fresh _ (h.r ad e).2 (h.r ad e).1,aJ (h.r ad e).2 f.size⟩⟩
end Tm
end
section
open Go.RowKit
namespace Tm
open Tr Ni Pk Ky No Rf Rl
end Tm
end
section
open Go.RowKit
namespace Tm
open Tr Ni Pk Ky No
open Rl (Ee zR yA)
def Oa (w:World) (b o:Nat) (N:Nd) (h:Hdl):Prop:=w.rangeAt b o (ndL N h)
theorem Oa.below {w w':World} {b o:Nat} {N:Nd} {h:Hdl} (g:Oa w b o N h) (hb:Below w.heap.size w w'):Oa w' b o N h:=λj v hv=>aX hb (g j v hv)
theorem Jq {w:World} {b off:Nat} {N:Nd} {h:Hdl} (hl:N.ks.length=16) (g:Oa w b off N h) (ho:∃ y,o.op = .load 67 y/\ev y = .pointer (some ⟨b,off,none⟩)) :
  (execOp ev o).run prog w = .ok (.value (.agg (ndC N h.1 h.2.1 h.2.2))) w:=by
 obtain ⟨y,ho,hx⟩:=ho;have hl2:=run_loadAt_mid (P:=prog) w b off 67 (ndL N h) _ g underlying67 rfl (by rw [vV hl]; exact Dx);unfold execOp;simp only [ho,hx,Sem.run_bind,Sem.run_pure,Result.andThen_ok,hl2];rfl
end Tm
end
section
open Go.RowKit
namespace Tm
open Tr Ni Pk Ky No Rf Rl
theorem Fg {B B' n sz:Nat} {w:World} {xs:List Value} (h:w.ownsRow B e sz v n xs) (hb:B'<=B):w.ownsRow B' e sz v n xs:=by
 obtain ⟨h1,h2⟩:=h;exact ⟨h1,h2.imp id λ⟨g,cap,cur,e,hg,r⟩=>⟨g,cap,cur,e,Nat.le_trans hb hg,r⟩⟩
theorem jw {rest:List Oper} {a:Go.Act} {w:World} {Q:Exit->Go.Act->World->Prop} {B B2:Nat} {v2:Value} {xs ys:List aM} (hgd:o.guard=none) (s x:Operand) (ho:o.op = .call { callee:=.builtin .append,args:=#[s,x],argTypes:=#[25,25] })
  (hs:a.eval s=v) (hx:a.eval x=v2) (hR:w.ownsRow B 9 1 v xs.length (xs.map Value.string)) (hS:w.ownsRow B2 9 1 v2 ys.length (ys.map Value.string)) (hn:xs.length+ys.length<=1000000) (hB:B<=w.heap.size)
  (h:∀ v' w',w'.ownsRow B 9 1 v' (xs++ys).length ((xs++ys).map Value.string)->w.grownBy w' v.ownBlock->(v'.ownBlock=v.ownBlock\/v'.ownBlock=some w.heap.size)->wpList prog ops Q rest (a.put o.dst v') w'):wpList prog ops Q (o::rest) a w:=by
 obtain ⟨i0,hi,hz0,hz1,hz2⟩:=gQ;rcases hS.2 with ⟨rfl,h0⟩ | ⟨g,cap,cur,rfl,hg,hh,hnc,hcm,hsz,htk⟩
 .have hy:ys=[]:=List.length_eq_zero_iff.1 h0;subst hy;refine wpList_append_own_none hgd s x 25 ho B 9 i0 1 underlying25 hi v xs.length (xs.map Value.string) hs hR hx (h v w ?_ ⟨rfl,rfl,rfl,aH,λ_ _ _=>rfl⟩ (.inl rfl));rw [List.append_nil];exact hR
 .refine wpList_append_own_at w hgd s x 25 ho B 9 i0 (.string ⟨#[]⟩) 1 16 underlying25 hi hz0 hz1 hz2 rfl (by decide) v xs.length (xs.map Value.string) hs hR ⟨g,0,none⟩ ys.length cap (ys.map Value.string) hx (by simp) (λj u hu=>?_) (λu hu=>?_) (by unfold maxLen; omega) (by omega) hB (λv' w' h1 h2 _ h4=>h v' w' ?_ h2 h4)
  .rw [Addr.add_mid,Nat.zero_add,cell_of_row w g _ _ _ _ hh];have hj:j<ys.length:=by have:=(List.getElem?_eq_some_iff.1 hu).1; simpa using this
   rw [<-Array.getElem?_toList,<-hu,<-htk,List.getElem?_take_of_lt (by omega)]
  .obtain ⟨y,_,rfl⟩:=List.mem_map.1 hu;rfl
  .rw [List.length_append,List.map_append];exact h1
def oW (f:Fin 16->List aM) (j:Nat):List aM:=(((List.finRange 16).take j).map f).flatten
theorem Bq (f:Fin 16->List aM) (hj:j<16):oW f (j+1)=oW f j++f ⟨j,hj⟩:=by
 unfold oW;rw [List.take_add_one,List.getElem?_eq_getElem (by simpa using hj),List.map_append,List.flatten_append];simp
theorem Og (f:Fin 16->List aM):oW f 16=((List.finRange 16).map f).flatten:=by
 unfold oW;rw [List.take_of_length_le (by simp)]
theorem Gd (f:Fin 16->List aM):∀ (k j:Nat),j+k=16->(oW f j).length<=(oW f 16).length
 | 0,j,h=>by
  obtain rfl:j=16:=by omega
  exact aH
 | k+1,j,h=>by
  have:=Gd f k (j+1) (by omega);rw [Bq f (show j<16 by omega),List.length_append] at this;omega
def TW (w:World) (xs:List aM) (e:Ending) (w':World):Prop:=∃ v,e = .returned v/\w'.ownsRow w.heap.size 9 1 v xs.length (xs.map Value.string)/\Below w.heap.size w w'
def JA (L:Nat):Prop:=∀ (l:List Tr.In),Ok L l->qO l->∀ (a:aL) (n c:Nat) (w:World),gV w a n c l->n<=1000->
 Calls prog 20 #[.slice a n c] w (TW w (cu (build L l)))
theorem Ie {L:Nat} {l:List Tr.In} (ok:Ok L l) (hne:l≠[]) :
  ((bg (build L l)).kd=1/\cu (build L l)=[bP (build L l)])\/
  ((bg (build L l)).kd=2/\∃ K,0<K/\K<=L/\(bg (build L l)).p.length=K/\cu (build L l)=bP (build L l)::cu (build (L-K) (bR l K))/\Ok (L-K) (bR l K))\/
  ((bg (build L l)).kd=3/\0<L/\cu (build L l)=bP (build L l)::oW (λd=>cu (build (L-1) (bR (bK l d) 1))) 16):=by
 match l,hne with
 | [x],_ =>
  rw [build];exact .inl ⟨rfl,rfl⟩
 | x::y::r,_ =>
  have hcl:=kR ok;have hxl:=(ok.1 x List.mem_cons_self).1;rw [build];by_cases h:0<bE (x::y::r)/\0<L
  .rw [dif_pos h];refine .inr (.inl ⟨rfl,bE (x::y::r),h.1,by omega,?_,rfl,sV ok (by omega) (λz hz z' hz'=>by rw [iq hz,iq hz'])⟩);show (x.1.take _).length=_;rw [List.length_take];omega
  .rw [dif_neg h,dif_pos (by omega)];exact .inr (.inr ⟨rfl,by omega,by rw [Og]; rfl⟩)
theorem NZ {L:Nat} (hL:L<=64) (ih:∀ m,m<L->JA m):JA L:=λl ok f a n c w h hn=>by
 by_cases hne:l=[]
 .subst hne;obtain rfl:n=0:=h.len.symm;rw [build];have HC:=hid (DT a c w);clear h;go_enter func20,ntmps20;go_wp2_with fail
  refine HC.out.mono ?_;rintro e w1 ⟨rfl,hb1⟩;have HB1:=hid hb1;have hNew:=Rg.Own.new w1 (ndC nd0 none 0 0) 67;have HN:=hid hNew;clear hb1 hNew;go_wp2_with (first
   | (refine aB (aY _ _ _ w1.heap.size rfl rfl) ?_)
   | (refine bI HN.out rfl nd0 none 0 0 rfl rfl _ _ rfl rfl rfl rfl ?_; intro w4 hO4 fl; have aq:Hid (Below w1.heap.size w1 w4):=hid (fl.below (al1 _ _) aH); clear hO4 fl))
  go_ret;exact ⟨_,rfl,World.ownsRow_nil _ _ _ _,bst HB1.out aq.out⟩
 .have hb:=BG ok hne;have hs:=dK (ow L l);have hm:=(eT _ L (qB L l ok) hL (qF L l f) hb).1 hs;have e:bP (build L l)=gH (bg (build L l)):=by
   cases hb':build L l with
   | nil=>exact absurd hb' hb
   | stub r=>rw [hb'] at hs; exact absurd trivial hs
   | leaf p v=>rfl
   | ext q t=>rfl
   | br ks=>rfl
  have hnl:=h.len;have cS:=xG L l ok;have hf2:(L+1)*l.length<=65*1000:=Nat.mul_le_mul (by omega) (by omega);have HC:=hid (IZ hL (λm hm=>Un m (by omega)) ok f hne a n c w h (by omega));have hl:=dY (build L l);have hall:∀ z∈l,z.1.length=L:=λz hz=>(ok.1 z hz).1;have hD:=Ie ok hne;have hRs:∀ (m:Nat) wz,m<=L->Below w.heap.size w wz->Calls prog 38 #[.slice a n c,.int .i64 m] wz (AA wz (bR l m)):=λm wz hm' hb=>wF l a n c m (λz hz=>by rw [hall z hz]; exact hm') wz (h.below hb) (by omega)
  have DH:∀ (K:Nat),0<K->K<=L->Ok (L-K) (bR l K)->∀ a' n' c' wz,gV wz a' n' c' (bR l K)->Calls prog 20 #[.slice a' n' c'] wz (TW wz (cu (build (L-K) (bR l K)))):=λK h0 hK hok a' n' c' wz hI=>ih (L-K) (by omega) _ hok (f.rest K) a' n' c' wz hI (by rw [<-hI.len]; unfold bR; rw [List.length_map]; omega)
  have hBg:0<L->∀ (d:Fin 16) wz,Below w.heap.size w wz->Calls prog 39 #[.slice a n c,.int .i64 d.val] wz (AA wz (bK l d)):=λhL0 d wz hb=>DW l a n c d (λz hz=>by rw [hall z hz]; exact hL0) wz (h.below hb) (by omega)
  have DM:0<L->∀ (d:Fin 16) a' n' c' wz,gV wz a' n' c' (bK l d)->Calls prog 38 #[.slice a' n' c',.int .i64 1] wz (AA wz (bR (bK l d) 1)):=λhL0 d a' n' c' wz hi=>wF (bK l d) a' n' c' 1 (λz hz=>by rw [hall z (lX.1 hz).1]; omega) wz hi (by rw [<-hi.len]; exact Nat.le_trans (List.length_filter_le _ _) (by omega))
  have DO:0<L->∀ (d:Fin 16) a' n' c' wz,gV wz a' n' c' (bR (bK l d) 1)->Calls prog 20 #[.slice a' n' c'] wz (TW wz (cu (build (L-1) (bR (bK l d) 1)))):=λhL0 d a' n' c' wz hI=>ih (L-1) (by omega) _ (oo ok hL0 d) ((f.begin d).rest 1) a' n' c' wz hI (by
   rw [<-hI.len];unfold bR;rw [List.length_map];exact Nat.le_trans (List.length_filter_le _ _) (by omega))
  have jz:=hid hRs;have re:=hid DH;have xF:=hid hBg;have rf:=hid DM;have rg:=hid DO;obtain ⟨xs,hxs⟩:=aA (cu (build L l))
  rw [hxs] at hD cS ⊢;rw [e] at hD;generalize bg (build L l)=N at *
  have HM:=hid hm;have HL:=hid hl;have HD:=hid hD;have hxl:xs.length<=65000:=by omega
  clear h hm hl e hs hb hD hRs DH hBg DM DO hxs cS hf2 hall ok f hnl ih hne;go_enter func20,ntmps20;go_wp2_with fail
  refine HC.out.mono ?_;rintro e w1 ⟨a1,n1,c1,rfl,hp1,hb1⟩;have HB1:=hid hb1;have hNew:=Rg.Own.new w1 (ndC nd0 none 0 0) 67;have HN:=hid hNew;have HP:=hid hp1;clear hb1 hNew hp1 HC;go_wp2_with (first
   | (refine aB (aY _ _ _ w1.heap.size rfl rfl) ?_)
   | (refine bI HN.out rfl N a1 n1 c1 HL.out rfl _ _ rfl rfl rfl rfl ?_; intro w4 hO4 fl; have cC:=hid hO4; have aq:Hid (Below w1.heap.size w1 w4):=hid (fl.below (al1 _ _) aH); clear hO4 fl)
   | (refine aB (bU cC.out HL.out ⟨_,rfl,rfl⟩) ?_))
  refine (LP N a1 n1 c1 HL.out w4 (HP.out.below aq.out) HM.out).mono ?_;rintro e w5 ⟨rfl,hb5⟩;have ae:=hid (bst (bst HB1.out aq.out) hb5);have bo:=cC.out.below hb5;have hg5:w1.heap.size<w5.heap.size:=bo.1;have hs5:=ae.out.size;have k0:w5.cell? ⟨w1.heap.size,0,none⟩=some (.int .i64 N.kd):=aV (j:=0) bo rfl;have k1:w5.cell? ⟨w1.heap.size,1,none⟩=some (.slice a1 n1 c1):=aV (j:=1) bo rfl;have hpn:N.p.length=n1:=HP.out.len;have hpc:=HP.out.1;have hpm:=HP.out.2.1;unfold maxLen at hpm;obtain ⟨E,hE⟩:=aA (gH N)
  rw [show (⟨(jM N).toArray⟩:aM)=gH N from rfl];rw [hE] at HD ⊢;obtain ⟨g,hg⟩:=aA w1.heap.size
  rw [hg] at hg5 k0 k1;obtain ⟨w6,eS⟩:=ay (w5.alloc (.cells #[.string E] 9))
  have hb6:Below w5.heap.size w5 w6:=by rw [eS]; exact al1 _ _
  have hs6:w5.heap.size<w6.heap.size:=by rw [eS]; simp
  have B9:w6.ownsRow w5.heap.size 9 1 (.slice (some ⟨w5.heap.size,0,none⟩) 1 1) [E].length ([E].map Value.string):=by
   rw [eS];exact World.ownsRow_lit (e:=9) (size:=1) (base:=w5.heap.size) w5 #[.string E] 1 aH (by unfold maxLen; decide) rfl
  have DP:=aX hb6 k0;have k16:=aX hb6 k1;have O7:Hid (_=_):=hid eS;have ax:=hid (bst ae.out hb6);have af:=hid hb6;have dr:=hid B9;clear hb5 bo cC aq HN HB1 hE eS hb6 B9 k0 k1 HP hs6;rcases HD.out with ⟨hk,hx⟩ | ⟨hk,K,ld,i5,hpK,hx,hok⟩ | ⟨hk,hL0,hx⟩
  .rw [hk] at DP;have HX:=hid hx;clear hx hk HD jz re xF rf rg;go_wp2_with (first
    | (rw [<-O7.out]))
   go_loopw [5,6] (λv i wr=>v = .slice (some ⟨w5.heap.size,0,none⟩) 1 1/\i = .int .i64 0/\wr=w6) (λ_ _ _=>0)
   case atStart=>exact ⟨rfl,rfl,rfl⟩
   case round =>
    obtain ⟨rfl,rfl,rfl⟩:=hrel;go_wp2;go_ret;refine ⟨_,rfl,?_,ax.out⟩;rw [HX.out];exact Fg dr.out hs5
  .rw [hk] at DP;obtain rfl:n1=K:=by omega
   have HX:=hid hx;have HI:=hid (λa' n' c' wz hI=>re.out n1 ld i5 hok a' n' c' wz hI);have O8:=hid (λwz hb=>jz.out n1 wz i5 hb);obtain ⟨ys,hys⟩:=aA (cu (build (L-n1) (bR l n1)))
   rw [hys] at HX HI;clear hx hk HD jz re xF rf rg hok hys hpK;go_wp2_with (first
    | (rw [<-O7.out]))
   refine (O8.out w6 ax.out).mono ?_;rintro e w7 ⟨a7,n7,c7,rfl,DQ,cQ⟩;have DS:=hid DQ;have cA:=hid cQ;clear DQ cQ;go_wp2_with fail
   refine (HI.out a7 n7 c7 w7 DS.out).mono ?_;rintro e w8 ⟨v8,rfl,UP,cE⟩;have h68:=bst cA.out cE;have Kd:=hid UP;have HS8:=hid (vX dr.out h68);have hyl:[E].length+ys.length<=1000000:=by
    have:=congrArg List.length HX.out;simp only [List.length_cons] at this;simp only [List.length_cons,List.length_nil];omega
   have kO:=hid (bst af.out h68);have cI:=hid (bst ax.out h68);have hsz:=kO.out.size;clear UP cE h68 DS cA dr;go_wp2_with (first
    | (at_builtin; refine jw rfl _ _ rfl rfl rfl HS8.out Kd.out hyl hsz ?_))
   intro v' w9 h9 ud _;have C7:=hid h9;have cD:Hid (Below w.heap.size w w9):=hid (cI.out.grown ud cI.out.size (λk hk=>by cases hk; exact hs5));clear h9 ud;go_wp2;go_ret;refine ⟨_,rfl,?_,cD.out⟩;rw [HX.out];exact Fg C7.out hs5
  .rw [hk] at DP;obtain ⟨ff,O9⟩:∃ ff:Fin 16->List aM,(λd=>cu (build (L-1) (bR (bK l d) 1)))=ff:=⟨_,rfl⟩
   have HFf:Hid (∀ d,cu (build (L-1) (bR (bK l d) 1))=ff d):=hid (λd=>congrFun O9 d);rw [O9] at hx;have HX:=hid hx;have Hs:=hid (λd wz hb=>xF.out hL0 d wz hb);have O8:=hid (λd a' n' c' wz hI=>rf.out hL0 d a' n' c' wz hI);have HI:=hid (λd a' n' c' wz hI=>rg.out hL0 d a' n' c' wz hI);clear hx hk HD jz re xF rf rg O9;have HXl:Hid (∀ j,j<=16->(E::oW ff j).length<=65000):=hid (λj hj=>by
    have h1:=Gd ff (16-j) j (by omega);have h2:=congrArg List.length HX.out;simp only [List.length_cons] at h2 ⊢;omega)
   go_wp2_with (first
    | (rw [<-O7.out]))
   go_loopw [5,6] (λv i wr=>∃ j:Nat,j<=16/\i = .int .i64 j/\Hid (wr.ownsRow w5.heap.size 9 1 v (E::oW ff j).length ((E::oW ff j).map Value.string))/\Hid (Below w5.heap.size w5 wr)) (λ_ i _=>16-(intOf i).toNat)
   case atStart=>exact ⟨0,Nat.zero_le _,rfl,dr,af⟩
   case round =>
    obtain ⟨j,hj,rfl,HR,HB⟩:=hrel;clear dr;have kr:wr.cell? ⟨g,0,none⟩=some (.int .i64 3):=by
     rw [HB.out.cell (p:=⟨g,0,none⟩) hg5,<-af.out.cell (p:=⟨g,0,none⟩) hg5];exact DP
    clear DP k16 af;have hsr:=HB.out.size;by_cases hlt:j<16
    .have HS:=hid (Bq ff hlt);have hl1:=HXl.out (j+1) (by omega);have cI:Hid (Below w.heap.size w wr):=hid (bst ae.out HB.out);have hji:(j:Int)<16:=by omega
     rw [HS.out] at hl1;go_wp2_with fail
     refine (Hs.out ⟨j,hlt⟩ wr cI.out).mono ?_;rintro e w7 ⟨a7,n7,c7,rfl,DQ,cQ⟩;have DS:=hid DQ;have cA:=hid cQ;clear DQ cQ;go_wp2_with fail
     refine (O8.out ⟨j,hlt⟩ a7 n7 c7 w7 DS.out).mono ?_;rintro e w8 ⟨a8,n8,c8,rfl,Ge,cE⟩;have US:=hid Ge;have kO:=hid (bst cA.out cE);clear Ge cE DS cA;go_wp2_with fail
     refine (HI.out ⟨j,hlt⟩ a8 n8 c8 w8 US.out).mono ?_;rintro e w9 ⟨v9,rfl,OF,es⟩;rw [HFf.out] at OF;have OK:=bst kO.out es;have C7:=hid OF;have UT:=hid (vX HR.out OK);have cD:=hid (bst HB.out OK);have hsz:=cD.out.size;have hyl:(E::oW ff j).length+(ff ⟨j,hlt⟩).length<=1000000:=by
      simp only [List.length_cons,List.length_append] at hl1 ⊢;omega
     clear OF es OK US kO;go_wp2_with (first
      | (at_builtin; refine jw rfl _ _ rfl rfl rfl UT.out C7.out hyl hsz ?_))
     intro v' ag h10 E3 _;have hlk:=UT.out.lt;have cY:Hid (Below w5.heap.size w5 ag):=hid (cD.out.grown E3 hsz (λk hk=>(hlk k hk).1));have ON:Hid (ag.ownsRow w5.heap.size 9 1 v' (E::oW ff (j+1)).length ((E::oW ff (j+1)).map Value.string)):=hid (by rw [HS.out,List.length_cons,List.length_append,List.map_cons,List.map_append]; exact h10);clear h10 E3;go_wp2;go_roundw
     case rel=>exact ⟨j+1,by omega,by go_num,ON,cY⟩
     case measure=>simp [intOf]; omega
    .obtain rfl:j=16:=by omega
     have HE:Hid (TW w xs (.returned _) wr):=hid ⟨_,rfl,by rw [HX.out]; exact Fg HR.out hs5,bst ae.out HB.out⟩;go_wp2;go_ret;exact HE.out
theorem Ld (L:Nat):L<=64->JA L:=by
 induction L using Nat.strongRecOn with
 | ind L ih=>exact λhL=>NZ hL λm hm=>ih m hm (by omega)
open Sm (Tab)
def Vv (b:Bool) (M:Mp) (w:World) (xs:List aM) (e:Ending) (w':World):Prop:=∃ a n c M' cd,e = .returned (.tuple #[.slice a n c,.int .i64 cd])/\(b=true->cd=0/\kD w' a n c xs/\∀ ad,a=some ad->M'.at_ ad.block=none/\ad.block<w'.heap.size)/\(b=false->n=0/\cd=8)/\Fr M M' w w'/\Inv M' w'/\Tab w'
theorem Vv.yes {M:Mp} {w w':World} {xs:List aM} {e:Ending} (h:Vv true M w xs e w'):Vo M w xs e w':=by
 obtain ⟨a,n,c,M',cd,he,h1,_,h3⟩:=h;obtain ⟨rfl,hs,hr⟩:=h1 rfl;exact ⟨a,n,c,M',he,hs,hr,h3⟩
theorem QV (x:Option (Option aM)) (h:x.isSome=true):∃ s c,Uy x = .tuple #[.string s,.int .i64 c]/\(c==8)=false:=by
 match x,h with
 | some none,_=>exact ⟨_,_,rfl,by decide⟩
 | some (some v),_=>exact ⟨_,_,rfl,by decide⟩
theorem OH (M:Mp) (p:aL) (t:T) (k:aN) (hk:k.length=32) (hg:Tr.Good t 64) (hf:Fine t) (hc:jC t<=200000) (w:World) (hi:Inv M w) (ht:IsT M p t) (hT:Tab w) :
  Calls prog 16 #[tv p,.agg (kc k)] w (Vv (Tr.get t (bG k)).isSome M w (jU (bD t (bG k)))):=by
 obtain ⟨i0,hi0,hz0,hz1,hz2⟩:=gQ;have HI:Hid (_/\_/\_/\_):=hid ⟨hi0,hz0,hz1,hz2⟩;obtain ⟨w1,hw1⟩:=ay ((w.alloc (.cells #[.pointer p] 46)).alloc (.cells (kc k) 24))
 have hb1:Below w.heap.size w w1:=by rw [hw1]; exact al2 _ _ _
 have hs1:w1.heap.size=w.heap.size+2:=by rw [hw1]; simp
 have hT1:Rg.Own w1 w.heap.size #[.pointer p] 46:=by
  have:=(Rg.Own.new w #[.pointer p] 46).below (al1 _ (.cells (kc k) 24));rw [hw1];exact this
 have hK1:Rg.Own w1 (w.heap.size+1) (kc k) 24:=by
  have:=Rg.Own.new (w.alloc (.cells #[.pointer p] 46)) (kc k) 24;rw [hw1];simpa using this
 have vz:=FU M p t k hk w1 (hi.below hb1) ht hg;rw [show path k=bG k from rfl] at vz;have vA:Hid (∀ w2,Inv M w2->Tab w2->Calls prog 30 #[tv p] w2 (Xu M w2 (bP t))):=hid (λw2 hi hT=>Pm M p t 64 hg aH hf w2 hi ht hT);have ir:Hid (∀ w3,Inv M w3->Tab w3->Calls prog 31 #[tv p,.agg (kc k)] w3 (Xl M w3 (bD t (bG k)))):=hid (λw3 hi hT=>Qh M p t k hk hg hf hc w3 hi ht hT)
 have HB2:Hid (∀ w2,Below w1.heap.size w1 w2->Fr M M w w2/\Inv M w2/\Tab w2/\Rg.Own w2 w.heap.size #[.pointer p] 46/\Rg.Own w2 (w.heap.size+1) (kc k) 24):=hid (λw2 hb=>by
  have hb2:Below w.heap.size w w2:=hb1.trans (hb.mono hb1.size);exact ⟨Fr.below M hb2,hi.below hb2,hT.below hb2 hT.pos,hT1.below hb,hK1.below hb⟩)
 have E6:M.at_ w.heap.size=none:=hi.out aH;have E7:M.at_ (w.heap.size+1)=none:=hi.out (by omega);have kB:Hid (∀ w2 w3,Fr M M w w2->Rg.Own w2 w.heap.size #[.pointer p] 46->Rg.Own w2 (w.heap.size+1) (kc k) 24->Fr M M w2 w3->Fr M M w w3/\Rg.Own w3 w.heap.size #[.pointer p] 46/\Rg.Own w3 (w.heap.size+1) (kc k) 24):=hid (λw2 w3 f h1 h2 g=>⟨f.trans hi g,xk h1 g E6,xk h2 g E7⟩);have cH:Hid (∀ b,w.heap.size<=b->M.at_ b=none):=hid (λb hb=>hi.out hb);have hal:=at_len t 64 (bG k) hg
 rw [fM k hk] at hal;have HN:Hid (∀ N∈bD t (bG k),fC bV N=true/\N.v.size<=maxLen/\∀ k∈N.ks,k.size<=100):=hid (λN hN=>by
  obtain ⟨s,K,rfl,_,h1,h2,h3,h4,h5⟩:=vI t 64 (bG k) hg aH hf N hN;have:=pX h4 h3 h5 h1 h2;exact ⟨this.1,this.2.2.2.1,this.2.2.2.2.2⟩)
 have OR:Hid (∀ j,j<(bD t (bG k)).length->((gH ((bD t (bG k)).getD j nd0)=bP t\/32<=(gH ((bD t (bG k)).getD j nd0)).size)↔(j=0\/32<=(gH ((bD t (bG k)).getD j nd0)).size))):=hid (λj hj=>Vn hg aH hf hj);have ij:=hid vz;have HW1:=hid hw1;have HT1:=hid hT1;have cR:=hid hK1;have co:=hid hk;obtain ⟨Z,hZ⟩:=aA (bD t (bG k))
 rw [hZ] at ir hal HN OR ⊢;obtain ⟨G,hG⟩:=aA (Tr.get t (bG k))
 rw [hG] at ij ⊢;obtain ⟨E,hE⟩:=aA (bP t)
 rw [hE] at vA OR;clear hZ hG hE vz hw1 hT1 hK1 hb1 hg hf hc hi ht hT hi0 hz0 hz1 hz2 E6 E7;obtain ⟨C,hC⟩:=aA (kc k)
 have HC:=hid hC;rw [hC] at HW1 cR HB2 kB ir ij ⊢;clear hC hk;by_cases hb:G.isSome=true
 .obtain ⟨sv,cd,hV,hcd⟩:=QV G hb;rw [hb];rw [hV] at ij;clear hb hV;go_enter func16,ntmps16;go_wp2_with (first
   | ((try rw [<-HW1.out]); refine aB (aW (aV (j:=0) HT1.out rfl) ⟨_,rfl,rfl⟩) ?_)
   | ((try rw [<-HW1.out]); refine Rg.run rfl (.agg C) _ (by rw [<-HC.out]; exact bJ co.out (by rw [HC.out]; exact cR.out.2) ⟨_,rfl,rfl⟩) ?_))
  refine ij.out.mono ?_;rintro e w2 ⟨rfl,hb2⟩;obtain ⟨f2,i2,t2,o2,k2⟩:=HB2.out w2 hb2;have g8:Hid (Fr M M w w2/\Inv M w2/\Tab w2):=hid ⟨f2,i2,t2⟩;have io:=hid o2;have UX:=hid k2;clear f2 i2 t2 o2 k2 hb2 ij HB2 HT1 cR HW1;go_wp2_with (first
   | (refine aB (aW (aV (j:=0) io.out rfl) ⟨_,rfl,rfl⟩) ?_))
  refine (vA.out w2 g8.out.2.1 g8.out.2.2).mono ?_;rintro e w3 ⟨bt,rfl,V0,pl,_,f3,i3,t3⟩;obtain ⟨f13,o3,k3⟩:=kB.out w2 w3 g8.out.1 io.out UX.out f3;have pm:Hid (Fr M M w w3/\Inv M w3/\Tab w3):=hid ⟨f13,i3,t3⟩;have ce:=hid o3;have OS:=hid k3;have HB3:=hid V0;have V2:=hid pl;clear f3 i3 t3 o3 k3 f13 V0 pl g8 io UX vA;go_wp2_with (first
   | (refine aB (aW (aV (j:=0) ce.out rfl) ⟨_,rfl,rfl⟩) ?_)
   | (refine Rg.run rfl (.agg C) _ (by rw [<-HC.out]; exact bJ co.out (by rw [HC.out]; exact OS.out.2) ⟨_,rfl,rfl⟩) ?_))
  refine (ir.out w3 pm.out.2.1 pm.out.2.2).mono ?_;rintro e w4 ⟨a4,m,c4,rfl,hz,f4,i4,t4⟩;obtain ⟨f14,_,_⟩:=kB.out w3 w4 pm.out.1 ce.out OS.out f4;have hs4:w.heap.size<=w4.heap.size:=f14.size;have aq:=hid (xk HB3.out f4 V2.out);have HFin:Hid (∀ w5,Below w4.heap.size w4 w5->Fr M M w w5/\Inv M w5/\Tab w5):=hid (λw5 hb=>⟨f14.Lm hs4 hb,i4.below hb,t4.below hb t4.pos⟩);have HZ:=hid hz;have hl:=hz.len;have HL:=hid hl;have hnc:=hz.1;have hcm:=hz.2.1;unfold maxLen at hcm;have hm65:m<=65:=by omega
  clear hz hl hal f4 i4 t4 f14 pm ce OS HB3 V2 kB ir;go_wp2;go_loopw [9,29] (λv i wr=>∃ j:Nat,j<=m/\i = .int .i64 j/\Hid (wr.ownsRow w4.heap.size 9 1 v (jU (Z.take j)).length ((jU (Z.take j)).map Value.string))/\Hid (Below w4.heap.size w4 wr)) (λ_ i _=>m-(intOf i).toNat)
  case atStart=>exact ⟨0,Nat.zero_le _,rfl,hid (World.ownsRow_nil _ _ _ _),hid aI⟩
  case round =>
   obtain ⟨j,hj,rfl,HR,HB⟩:=hrel;by_cases hlt:j<m
   .have HS:=hid (Ud Z (j:=j) (by rw [HL.out]; exact hlt));have yn:=hid (OR.out j (by rw [HL.out]; exact hlt));have hbl:=FQ (Z.take j);rw [List.length_take] at hbl;obtain ⟨bz,oz,gz,rfl,hbz,hpz,hkz,E8⟩:=HZ.out.at' j hlt;have hji:(j:Int)<m:=by omega
    have P0:Hid (Oa wr bz (oz+j*19) (Z.getD j nd0) gz):=hid (Oa.below hpz HB.out);have E9:=hid hkz;have hmem:Z.getD j nd0∈Z:=Tm.kQ (by rw [HL.out]; exact hlt);obtain ⟨n1,n2,n3⟩:=HN.out _ hmem;have kf:Hid (∀ W,Below wr.heap.size wr W->Calls prog 32 #[.agg (ndC (Z.getD j nd0) gz.1 gz.2.1 gz.2.2)] W λe w'=>e = .returned (.tuple #[.string (gH (Z.getD j nd0)),.int .i64 0])/\Below W.heap.size W w'):=hid (λW hW=>by
     have:=Gy _ _ _ _ hkz W ((E8.below HB.out).below hW) n2 n3;unfold Vj at this;rw [n1] at this;exact this)
    have hsz0:=HB.out.size;obtain ⟨L,hL⟩:=aA (jU (Z.take j))
    rw [hL] at HS hbl HR;obtain ⟨N,hN⟩:=aA (Z.getD j nd0)
    rw [hN] at HS P0 E9 kf yn;obtain ⟨K,hK⟩:=aA (gH N)
    rw [hK] at HS kf yn;have fb:=al1 wr (.cells (ndC nd0 none 0 0) 67);have pi:=hid (Rg.Own.new wr (ndC nd0 none 0 0) 67);clear hL hN hK hpz hkz E8 hmem hbz n1 n2 n3;go_wp2_with (first
     | (refine aB (Jq E9.out P0.out ⟨_,rfl,rfl⟩) ?_)
     | (refine aB (aY _ _ _ wr.heap.size rfl rfl) ?_)
     | (refine bI pi.out cB N _ _ _ E9.out rfl _ _ rfl rfl rfl rfl ?_; intro W3 hO hu; have lk:=hid hO; have HB3:=hid (hu.below fb aH); clear hO hu)
     | (refine aB (bU lk.out E9.out ⟨_,rfl,rfl⟩) ?_))
    refine (kf.out W3 HB3.out).mono ?_;rintro e w5 ⟨rfl,hb5⟩;have eh:=bst HB.out (bst HB3.out hb5);have ae:=hid eh;have dt:=hid (vX HR.out (bst HB3.out hb5));have hsz:=ae.out.size;have V3:=hid (aV (j:=0) (aq.out.below eh) rfl);clear hb5 eh kf P0 E9 HR HB lk HB3 pi fb;go_wp2_with fail
    refine (JM bt E K w5 V3.out).mono ?_;rintro e w6 ⟨rfl,hb6⟩;have ax:=hid (bst ae.out hb6);have dr:=hid (vX dt.out hb6);have P1:=ax.out.size;clear hb6 ae dt V3 hsz;by_cases hput:j=0\/32<=K.size
    .have fh:Hid (jU (Z.take (j+1))=L++[K]):=hid (by rw [HS.out,if_pos hput]);rw [aK (yn.out.2 hput)];clear HS yn hput;go_wp2_with (first
      | (at_builtin; refine wpList_append_own _ rfl _ _ 26 rfl w4.heap.size 9 i0 (.string ⟨#[]⟩) 1 16 underlying26 HI.out.1 HI.out.2.1 HI.out.2.2.1 HI.out.2.2.2 rfl (by decide) _ _ _ rfl (dr.out.alloc _) ⟨w6.heap.size,0,none⟩ 1 1 [.string K] rfl rfl ?d1 ?d2 ?d3 ?d4 ?d5 ?_))
     all_goals first
      | exact Bu.cell_one_new' _ _ _ _
      | (intro u hu; simp at hu; subst hu; rfl)
      | rfl
      | (unfold maxLen; omega)
      | omega
      | (simp; omega)
      | skip
     intro v' w7 d9 hgrow _;have hlt':=dr.out.lt;go_wp2;go_roundw
     case rel=>exact ⟨j+1,by omega,by go_num,hid (by rw [fh.out,List.length_append,List.map_append]; exact d9),hid ((ax.out.alloc P1 _).grown hgrow (by simp; omega) (λg hg=>(hlt' g hg).1))⟩
     case measure=>simp [intOf]; omega
    .have fh:Hid (jU (Z.take (j+1))=L):=hid (by rw [HS.out,if_neg hput,List.append_nil]);rw [decide_eq_false (λh=>hput (yn.out.1 h))];clear HS yn hput;go_wp2;go_roundw
     case rel=>exact ⟨j+1,by omega,by go_num,by rw [fh.out]; exact dr,ax⟩
     case measure=>simp [intOf]; omega
   .obtain rfl:j=m:=by omega
    have hO:=HR.out;rw [List.take_of_length_le (by rw [HL.out]; exact aH)] at hO;have HE:Hid (∀ v,wr.ownsRow w4.heap.size 9 1 v (jU Z).length ((jU Z).map Value.string)->Vv true M w (jU Z) (.returned (.tuple #[v,.int .i64 0])) wr):=hid (λv h=>by
     have hlt:=h.lt;obtain ⟨a,c,rfl,hst⟩:=kD.ny h;exact ⟨a,_,c,M,0,rfl,λ_=>⟨rfl,hst,λad e=>⟨cH.out _ (Nat.le_trans hs4 (hlt ad.block (by rw [e]; rfl)).1),(hlt ad.block (by rw [e]; rfl)).2⟩⟩,λe=>(by cases e),HFin.out wr HB.out⟩)
    have HO:=hid hO;clear hO;go_wp2;exact bodyPost_ret (results_tmp2 (t:=4) (u:=5) rfl _ _ _) rfl (HE.out _ HO.out)
 .have hV:G=none:=by
   cases G with
   | none=>rfl
   | some x=>exact absurd rfl hb
  subst hV;have V4:Uy none = .tuple #[.string eB,.int .i64 8]:=rfl;rw [V4] at ij;clear hb V4;go_enter func16,ntmps16;go_wp2_with (first
   | ((try rw [<-HW1.out]); refine aB (aW (aV (j:=0) HT1.out rfl) ⟨_,rfl,rfl⟩) ?_)
   | ((try rw [<-HW1.out]); refine Rg.run rfl (.agg C) _ (by rw [<-HC.out]; exact bJ co.out (by rw [HC.out]; exact cR.out.2) ⟨_,rfl,rfl⟩) ?_))
  refine ij.out.mono ?_;rintro e w2 ⟨rfl,hb2⟩;obtain ⟨f2,i2,t2,_⟩:=HB2.out w2 hb2;have g8:Hid (Fr M M w w2/\Inv M w2/\Tab w2):=hid ⟨f2,i2,t2⟩;clear f2 i2 t2 hb2 ij HB2 HT1 cR HW1;go_wp2;exact bodyPost_ret (results_tmp2 (t:=4) (u:=5) rfl _ _ _) rfl ⟨none,0,0,M,8,rfl,λh=>(by cases h),λ_=>⟨rfl,rfl⟩,g8.out⟩
def lBx:T:=.leaf (List.replicate 63 0) sy
def bB:aN:=[226,160,48,0,0,0,0,0,0,0,0,0,0,0,0,0,0,0,0,0,0,0,0,0,0,0,0,0,0,0,0,0,0,0,121]
theorem Ym:Whl (bW .nil lAB):=⟨jr.fine,jr.full,64,aH,jr.good⟩
theorem Ur (v:aM) (x:UInt8) (hv:v=⟨#[x]⟩) (hx:x.toNat<128):jM ⟨1,List.replicate 63 0,v,zks⟩=[226,160,48,0,0,0,0,0,0,0,0,0,0,0,0,0,0,0,0,0,0,0,0,0,0,0,0,0,0,0,0,0,0,0]++[x]:=by
 have h1:(pJ ⟨1,List.replicate 63 0,v,zks⟩).bytes=[160,48,0,0,0,0,0,0,0,0,0,0,0,0,0,0,0,0,0,0,0,0,0,0,0,0,0,0,0,0,0,0,0]:=by
  show (pJ ⟨1,List.replicate 63 0,eB,zks⟩).bytes=_;rw [It.nV];decide +kernel
 have h2:(It.mk false v []).bytes=[x]:=by
  rw [kE v (by subst hv; show 1<=4294967296; omega)];subst hv;rw [if_pos ⟨rfl,hx⟩];rfl
 have hi:(gX ⟨1,List.replicate 63 0,v,zks⟩).inner=[160,48,0,0,0,0,0,0,0,0,0,0,0,0,0,0,0,0,0,0,0,0,0,0,0,0,0,0,0,0,0,0,0]++[x]:=by
  show ([]:aN)++([pJ ⟨1,List.replicate 63 0,v,zks⟩,.mk false v []].map It.bytes).flatten=_;rw [List.map_cons,List.map_cons,List.map_nil,h1,h2];rfl
 unfold jM;rw [It.nV,hi];rfl
theorem YB:bP lBx=⟨bB.toArray⟩:=by
 show (⟨(jM ⟨1,List.replicate 63 0,sy,zks⟩).toArray⟩:aM)=_;rw [Ur sy 121 rfl (by decide)];rfl
theorem uf:∀ (t:T) (p:Pa),Full t->Tr.get t p≠none
 | .nil,_,_=>λh=>by cases h
 | .leaf q v,p,_=>λh=>by cases h
 | .ext q t,p,f=>by
  unfold Tr.get;split
  .exact uf t _ f
  .exact λh=>by cases h
 | .br ks,[],_=>λh=>by cases h
 | .br ks,c::r,f=>uf (ks (nb c)) r (f _)
 | .stub _,_,f=>f.elim
theorem Ju {t:T} (g:Tr.Good t 64) (u:Full t) (f:Fine t) (k:aN) (hk:k.length=32):∃ a,Tr.get t (bG k)=some a/\mY (jU (bD t (bG k))) (eG (bP t)) (bG k)=(some a,(jU (bD t (bG k))).length):=by
 have hl:=at_len t 64 (bG k) g;have hp:=FQ (bD t (bG k));have hq:=fM k hk;rw [<-Yb] at hp ⊢;exact Py g u f hq (BO k) (by omega)
theorem Am (M:Mp) (p:aL) (t:T) (k:aN) (hk:k.length=32) (hg:Tr.Good t 64) (hu:Full t) (hf:Fine t) (hc:jC t<=200000) (w:World) (hi:Inv M w) (ht:IsT M p t) (hT:Tab w) :
  Calls prog 16 #[tv p,.agg (kc k)] w (Vo M w (jU (bD t (bG k)))):=by
 have:=OH M p t k hk hg hf hc w hi ht hT;rw [show (Tr.get t (bG k)).isSome=true from (by
  cases e:Tr.get t (bG k) with
  | none=>exact absurd e (uf _ _ hu)
  | some x=>rfl)] at this
 exact this.mono λ_ _ h=>h.yes
theorem Ev {t:T} (g:Tr.Good t 64) (k:aN) (hk:k.length=32):(jU (bD t (bG k))).length<=65:=by
 have hl:=at_len t 64 (bG k) g;have hp:=FQ (bD t (bG k));have hq:=fM k hk;omega
def qR:aN:=zk.set 0 32
theorem xH:qR.length=32:=rfl
theorem VO:Tr.get (bW .nil lAB) (path qR)=some none:=by
 rw [jr.get qR xH,TF,if_neg (by decide),if_neg (by decide)]
theorem Ml:jC (bW .nil lAB)<=200000:=by
 have h:jC (bW .nil lAB)=3:=by kernel_rfl
 omega
theorem Xd:bD (bW .nil lAB) (bG kb)=[bg (bW .nil lAB),bg lBx]:=by kernel_rfl
theorem Rw:(jU (bD (bW .nil lAB) (bG kb))).length=2:=by
 have e2:bP lBx=gH (bg lBx):=rfl;have h32:32<=(gH (bg lBx)).size:=by rw [<-e2,YB]; decide
 rw [Xd];unfold jU pF;simp [h32]
theorem Yo:mY (jU (bD (bW .nil lAB) (bG kb))) (eG (bP (bW .nil lAB))) (bG kb)=(some (some sy),2):=by
 obtain ⟨a,h1,h2⟩:=Ju jr.good jr.full jr.fine kb pE;rw [show Tr.get (bW .nil lAB) (bG kb)=some (some sy) from WW] at h1;rw [h2,<-Option.some.inj h1,Rw]
theorem Yj:(mY (jU (bD (bW .nil lAB) (bG qR))) (eG (bP (bW .nil lAB))) (bG qR)).1=some none:=by
 obtain ⟨a,h1,h2⟩:=Ju jr.good jr.full jr.fine qR xH;rw [show Tr.get (bW .nil lAB) (bG qR)=some none from VO] at h1;rw [h2,<-Option.some.inj h1]
structure A14 (w0:World) (M:Mp) (w:World) (gb gc g3:Nat) (p:aL) (t:T) (B C:aN):Prop where
 l:Lw w0 M w
 kb:Rg.Own w gb (kc B) 24
 kd:Rg.Own w gc (kc C) 24
 hb:B.length=32
 hc:C.length=32
 bT:Bx M w g3 #[.pointer p] 46
 hT:IsT M p t
namespace A14
variable {w0:World} {M M':Mp} {w w':World} {gb gc g3:Nat} {p:aL} {t:T} {B C:aN}
theorem below (h:A14 w0 M w gb gc g3 p t B C) (hb:Below w.heap.size w w'):A14 w0 M w' gb gc g3 p t B C:=⟨h.l.below hb,h.kb.below hb,h.kd.below hb,h.hb,h.hc,h.bT.below hb,h.hT⟩
theorem fr (h:A14 w0 M w gb gc g3 p t B C) (f:Fr M M' w w') (i:Inv M' w') (tt:Tab w'):A14 w0 M' w' gb gc g3 p t B C:=⟨h.l.fr f i tt,yt h.kb (Mf h.hb) h.l.i f,yt h.kd (Mf h.hc) h.l.i f,h.hb,h.hc,h.bT.frm h.l.i f,h.hT.mono f.mono⟩
theorem say {e:Ending} (h:A14 w0 M w gb gc g3 p t B C) (g:OJ M w v e w'):e = .returned v/\A14 w0 M w' gb gc g3 p t B C/\Fr M M w w':=⟨g.1,h.fr g.2.1 g.2.2.1 g.2.2.2,g.2.1⟩
theorem s (h:A14 w0 M w gb gc g3 p t B C):Rg.Own w gb (kc B) 24/\Rg.Own w gc (kc C) 24/\w.cell? ⟨g3,0,none⟩=some (.pointer p):=⟨h.kb,h.kd,aV (j:=0) h.bT.o rfl⟩
end A14
theorem Kt {s:qN} (h:s.1=some none):ES s=0:=by
 obtain ⟨x,u⟩:=s;cases h;rfl
theorem zh (ev:Operand->Value) (o:Oper) (w:World) (b:Nat) (hb:b=w.heap.size) (ho:o.op = .alloc 24):(execOp ev o).run prog w = .ok (.value (.pointer (some ⟨b,0,none⟩))) (w.alloc (.cells (kc zk) 24)):=by
 subst hb;exact CS ev o ho w
theorem GY (w:World) (hT:Tab w):Calls prog 7 #[] w λe w'=>e = .returned (.bool true)/\Below w.heap.size w w':=by
 obtain ⟨w1,hw1⟩:=ay (((w.alloc (.cells (kc zk) 24)).alloc (.cells (kc zk) 24)).alloc (.cells (kc zk) 24))
 have hb1:Below w.heap.size w w1:=by rw [hw1]; exact bst (al2 _ _ _) (al1 _ _)
 have hA:Rg.Own w1 w.heap.size (kc ka) 24:=by rw [hw1]; exact (Rg.Own.new _ _ _).below (al2 _ _ _)
 have hB:Rg.Own w1 (w.heap.size+1) (kc zk) 24:=by
  have:=(Rg.Own.new (w.alloc (.cells (kc zk) 24)) (kc zk) 24).below (al1 _ (.cells (kc zk) 24));rw [hw1];simpa using this
 have hC:Rg.Own w1 (w.heap.size+2) (kc zk) 24:=by
  have:=Rg.Own.new ((w.alloc (.cells (kc zk) 24)).alloc (.cells (kc zk) 24)) (kc zk) 24;rw [hw1];simpa using this
 have j3:=hid ((Lw.start hT).below hb1);have HA1:=hid hA;have HB1:=hid hB;have Dg:=hid hC;have hne1:w.heap.size≠w.heap.size+1:=by omega
 have hne2:w.heap.size≠w.heap.size+2:=by omega
 have mB:w.heap.size+1≠w.heap.size+2:=by omega
 have Eg:w.heap.size+2≠w.heap.size+1:=by omega
 have d8:=hid zh;have Ek:Hid ((kc zk).setIfInBounds 0 (.int .u8 16)=kc kb):=hid (SV zk 0 16);have sL:Hid ((kc zk).setIfInBounds 0 (.int .u8 32)=kc qR):=hid (SV zk 0 32);have DA:=hid (oC ka sx JU);have Hs:=hid (oC kb sy pE);have yo:Hid (ka.length=32):=hid JU;have nw:Hid (kb.length=32):=hid pE;have P2:Hid (qR.length=32):=hid xH;have P3:Hid ((kc zk).size=32):=hid Xe
 have we:Hid (∀ (b:Nat) w3,Rg.Own w3 b (rowP lAB).toArray 60->Lw w M0 w3->Calls prog 15 #[.slice (some ⟨b,0,none⟩) 2 2] w3 (dz M0 w3 (bW .nil lAB))):=hid (λb w3 h hl=>FK M0 _ 2 2 lAB XT w3 hl.i (TH (l:=lAB) h XT.1 (by decide)) (by decide));have g9:Hid (∀ M W p,Inv M W->IsT M p (bW .nil lAB)->Tab W->Calls prog 17 #[tv p] W (OJ M W (.agg (Sm.kc (eG (bP (bW .nil lAB))))))):=hid (λM W p hi ht h=>LY M p _ Ym W hi ht h)
 have wg:Hid (∀ M W p,Inv M W->IsT M p (bW .nil lAB)->Tab W->Calls prog 16 #[tv p,.agg (kc kb)] W (Vo M W (jU (bD (bW .nil lAB) (bG kb))))):=hid (λM W p hi ht h=>Am M p _ kb pE jr.good jr.full jr.fine Ml W hi ht h);have wh:Hid (∀ M W p,Inv M W->IsT M p (bW .nil lAB)->Tab W->Calls prog 16 #[tv p,.agg (kc qR)] W (Vo M W (jU (bD (bW .nil lAB) (bG qR))))):=hid (λM W p hi ht h=>Am M p _ qR xH jr.good jr.full jr.fine Ml W hi ht h);have hxb:=Nf jr.good jr.fine (bG kb);have hxd:=Nf jr.good jr.fine (bG qR)
 have hsb:=Ev jr.good kb pE;have hsd:=Ev jr.good qR xH;have dE:=Yo;have km:=Yj;have hrl:=jE (bP (bW .nil lAB));obtain ⟨r9,se⟩:=aA (eG (bP (bW .nil lAB)))
 rw [se] at g9 dE km hrl;obtain ⟨XB,V5⟩:=aA (jU (bD (bW .nil lAB) (bG kb)))
 rw [V5] at wg hxb hsb dE;obtain ⟨XD,V6⟩:=aA (jU (bD (bW .nil lAB) (bG qR)))
 rw [V6] at wh hxd hsd km;have P4:Hid (∀ W a n c,kD W a n c XB->Tab W->Calls prog 11 #[.agg (Sm.kc r9),.agg (kc kb),.slice a n c] W λe w'=>e = .returned (.tuple #[.string sy,.int .i64 0])/\Below W.heap.size W w'):=hid (λW a n c h t=>by
  have:=UR XB r9 kb a n c W hrl pE h hxb (by have:=h.len; omega) t;rw [dE] at this;exact this)
 have P5:Hid (∀ W a n c,kD W a n c XD->Tab W->Calls prog 12 #[.agg (Sm.kc r9),.agg (kc qR),.slice a n c] W λe w'=>e = .returned (.int .i64 0)/\Below W.heap.size W w'):=hid (λW a n c h t=>by
  have:=BX XD r9 qR a n c W hrl xH h hxd (by have:=h.len; omega) t;have e:=Kt km;dsimp only at this;rw [e] at this;exact this)
 have EE:Hid (∀ W a n c,kD W a n c XB->Tab W->Calls prog 12 #[.agg (Sm.kc r9),.agg (kc kb),.slice a n c] W λe w'=>e = .returned (.int .i64 9)/\Below W.heap.size W w'):=hid (λW a n c h t=>by
  have:=BX XB r9 kb a n c W hrl pE h hxb (by have:=h.len; omega) t;rw [dE] at this;exact this)
 have P6:Hid (∀ W a n c,kD W a n c XB->Tab W->Calls prog 13 #[.agg (Sm.kc r9),.agg (kc kb),.slice a n c] W λe w'=>e = .returned (.int .i64 2)/\Below W.heap.size W w'):=hid (λW a n c h t=>by
  have:=Qm XB r9 kb a n c W hrl pE h hxb (by have:=h.len; omega) t;rw [dE] at this;exact this)
 clear hA hB hC hb1 hT se V5 V6 hxb hxd hsb hsd dE km hrl;generalize bW .nil lAB=TT at *
 have HW:Hid (_=_):=hid hw1;clear hw1;have mC:Hid (rowP [(ka,sx),(kb,sy)]=rowP lAB):=hid rfl;obtain ⟨ROW,hROW⟩:=aA (rowP lAB)
 rw [hROW] at we mC;have HSy:Hid (sy=⟨#[121]⟩):=hid rfl;generalize ka=A at *
 generalize kb=B at *
 generalize qR=D at *
 generalize zk=Z at *
 go_enter func7,ntmps7;go_wp2_with (first
  | (refine aB (d8.out _ _ _ w.heap.size rfl rfl) ?_)
  | (refine aB (d8.out _ _ _ (w.heap.size+1) (by first | (simp; done) | fail) rfl) ?_)
  | (refine aB (d8.out _ _ _ (w.heap.size+2) (by simp) rfl) ?_)
  | (rw [<-HW.out]; refine vF HB1.out (by rw [P3.out]; decide) 16 rfl _ _ rfl rfl rfl ?_; intro w2 hO2 hu2; have HB2:Hid (Rg.Own w2 (w.heap.size+1) (kc B) 24):=hid (by rw [<-Ek.out]; exact hO2); have HA2:=hid (HA1.out.upd hu2 hne1); have V7:=hid (Dg.out.upd hu2 Eg); have HL2:=hid (j3.out.upd hu2 (by omega) (λh=>h)); clear hO2 hu2)
  | (refine vF V7.out (by rw [P3.out]; decide) 32 rfl _ _ rfl rfl rfl ?_; intro w3 hO3 hu3; have HD3:Hid (Rg.Own w3 (w.heap.size+2) (kc D) 24):=hid (by rw [<-sL.out]; exact hO3); have pi:=hid (HA2.out.upd hu3 hne2); have HB3:=hid (HB2.out.upd hu3 mB); have df:=hid (HL2.out.upd hu3 (by omega) (λh=>h)); clear hO3 hu3)
  | (refine aB (bJ yo.out pi.out.2 ⟨_,rfl,rfl⟩) ?_)
  | (refine aB (bJ nw.out HB3.out.2 ⟨_,rfl,rfl⟩) ?_)
  | (refine aB (bQ DA.out ⟨_,rfl,rfl⟩) ?_)
  | (refine aB (bQ Hs.out ⟨_,rfl,rfl⟩) ?_)
  | (refine aB (Fq (x:=(A,sx)) (z:=(B,sy)) yo.out nw.out w3.heap.size rfl ⟨_,_,rfl,rfl,rfl⟩) ?_))
 rw [mC.out];have hL3:=df.out.below (al1 w3 (.cells ROW.toArray 60));refine (we.out w3.heap.size _ (Rg.Own.new _ _ _) hL3).mono ?_;intro e w4 hG;obtain ⟨p4,M4,rfl,s6,hL4,pH,hb4⟩:=hL3.got hG;have aq:=hid ((HB3.out.below (al1 _ _)).below hb4);have HD4:=hid ((HD3.out.below (al1 _ _)).below hb4);have uC:=hid hL4;have lE:=hid s6;have HN:=hid (Rg.Own.new w4 #[.pointer none] 46);have j7:=hid (hL4.i.free aH);have mN:=hL4.b.size;clear hG s6 hL4 pH hb4 hL3 HA1 HB1 Dg j3 HA2 HB2 V7 HL2 pi HB3 HD3 df HW d8 Ek sL DA Hs we mC P3;go_wp2_with (first
  | (refine aB (bA _ _ _ w4.heap.size rfl rfl) ?_)
  | (refine bL HN.out (by decide) p4 rfl _ _ rfl rfl rfl ?_; intro w5 bo bd; have ae:=hid (bd.below (al1 w4 (.cells #[.pointer none] 46)) aH); have kp:Hid (A14 w M4 w5 (w.heap.size+1) (w.heap.size+2) w4.heap.size p4 TT B D):=hid ⟨(uC.out.below (al1 _ _)).upd bd mN j7.out,aq.out.below ae.out,HD4.out.below ae.out,nw.out,P2.out,⟨bo,j7.out,jv p4⟩,lE.out⟩; clear bo bd)
  | (refine aB (aW (aV (j:=0) kp.out.bT.o rfl) ⟨_,rfl,rfl⟩) ?_)
  | (refine aB (bJ nw.out kp.out.kb.2 ⟨_,rfl,rfl⟩) ?_))
 obtain ⟨g3,hg3⟩:=aA w4.heap.size
 rw [hg3] at kp;rw [hg3];obtain ⟨gb,hgb⟩:=aA (w.heap.size+1)
 rw [hgb] at kp;rw [hgb];obtain ⟨gd,hgd⟩:=aA (w.heap.size+2)
 rw [hgd] at kp;rw [hgd];clear HN uC lE j7 mN hg3 hgb hgd ae aq HD4 hne1 hne2 mB Eg;refine (wg.out M4 w5 p4 kp.out.l.i kp.out.hT kp.out.l.t).mono ?_;rintro e w6 ⟨a6,n6,c6,M6,rfl,hs6,V8,f6,i6,t6⟩;have HX:Hid (Stx M6 w6 a6 n6 c6 XB):=hid ⟨hs6,V8⟩;have HA:=hid (kp.out.fr f6 i6 t6);clear hs6 V8 f6 i6 t6 kp wg;go_wp2_with (first
  | (refine aB (aW (aV (j:=0) HA.out.bT.o rfl) ⟨_,rfl,rfl⟩) ?_)
  | (refine aB (bJ P2.out HA.out.kd.2 ⟨_,rfl,rfl⟩) ?_))
 refine (wh.out M6 w6 p4 HA.out.l.i HA.out.hT HA.out.l.t).mono ?_;rintro e w7 ⟨a7,n7,c7,M7,rfl,hs7,V9,f7,i7,t7⟩;have HY:Hid (Stx M7 w7 a7 n7 c7 XD):=hid ⟨hs7,V9⟩;replace HX:=hid (HX.out.fr f7);replace HA:=hid (HA.out.fr f7 i7 t7);clear hs7 V9 f7 i7 t7 wh;go_wp2_with fail
 replace HA:=hid (HA.out.below ((Below.refl w7.heap.size w7).drew));replace HX:=hid (HX.out.below ((Below.refl w7.heap.size w7).drew));replace HY:=hid (HY.out.below ((Below.refl w7.heap.size w7).drew));refine aD (S:=λw'=>Rg.Own w' gb (kc B) 24/\Rg.Own w' gd (kc D) 24/\w'.cell? ⟨g3,0,none⟩=some (.pointer p4)) (HA.out.s) λhld=>?_;refine aj 0 ?_ (hy:=by intro wz hSw; (refine aW hSw.2.2 ?_; exact ⟨_,rfl,rfl⟩));try simp only [Act.put,au]
 refine aj 2 ?_ (hy:=by intro wz hSw; (refine bJ nw.out hSw.1.2 ?_; exact ⟨_,rfl,rfl⟩));try simp only [Act.put,au]
 refine aj 3 ?_;try simp only [Act.put,au]
 refine ak 1 λK hK=>?_;go_simp;go_at_call 17
 (with_reducible refine (g9.out M7 _ p4 HA.out.l.i HA.out.hT HA.out.l.t).mono ?_)
 intro e y1 hG;obtain ⟨rfl,hA,f⟩:=HA.out.say hG;replace HA:=hid hA;replace HX:=hid (HX.out.fr f);replace HY:=hid (HY.out.fr f);clear hG hA f;refine hK.out _ _ (HA.out.s) λhld=>?_;clear hK K;try simp only [Act.put,au]
 refine ak 4 λK hK=>?_;go_simp;go_at_call 11
 (with_reducible refine (P4.out _ a6 n6 c6 HX.out.s HA.out.l.t).mono ?_)
 rintro e y2 ⟨rfl,hb⟩;replace HA:=hid (HA.out.below hb);replace HX:=hid (HX.out.below hb);replace HY:=hid (HY.out.below hb);clear hb;refine hK.out _ _ (HA.out.s) λhld=>?_;clear hK K;try simp only [Act.put,au]
 refine aj 5 ?_;try simp only [Act.put,au]
 refine aj 6 ?_;try simp only [Act.put,au]
 refine aj 7 ?_;try simp only [Act.put,au]
 refine aj 8 ?_;try simp only [Act.put,au]
 refine aj 9 ?_;try simp only [Act.put,au]
 refine aC ?_;clear hld;go_wp2_with fail
 replace HA:=hid (HA.out.below (aI.drew));replace HX:=hid (HX.out.below (aI.drew));replace HY:=hid (HY.out.below (aI.drew));refine aD (S:=λw'=>Rg.Own w' gb (kc B) 24/\Rg.Own w' gd (kc D) 24/\w'.cell? ⟨g3,0,none⟩=some (.pointer p4)) (HA.out.s) λhld=>?_;refine aj 0 ?_ (hy:=by intro wz hSw; (refine aW hSw.2.2 ?_; exact ⟨_,rfl,rfl⟩));try simp only [Act.put,au]
 refine aj 2 ?_ (hy:=by intro wz hSw; (refine bJ P2.out hSw.2.1.2 ?_; exact ⟨_,rfl,rfl⟩));try simp only [Act.put,au]
 refine aj 3 ?_;try simp only [Act.put,au]
 refine ak 1 λK hK=>?_;go_simp;go_at_call 17
 (with_reducible refine (g9.out M7 _ p4 HA.out.l.i HA.out.hT HA.out.l.t).mono ?_)
 intro e y3 hG;obtain ⟨rfl,hA,f⟩:=HA.out.say hG;replace HA:=hid hA;replace HX:=hid (HX.out.fr f);replace HY:=hid (HY.out.fr f);clear hG hA f;refine hK.out _ _ (HA.out.s) λhld=>?_;clear hK K;try simp only [Act.put,au]
 refine ak 4 λK hK=>?_;go_simp;go_at_call 12
 (with_reducible refine (P5.out _ a7 n7 c7 HY.out.s HA.out.l.t).mono ?_)
 rintro e y4 ⟨rfl,hb⟩;replace HA:=hid (HA.out.below hb);replace HX:=hid (HX.out.below hb);replace HY:=hid (HY.out.below hb);clear hb;refine hK.out _ _ (HA.out.s) λhld=>?_;clear hK K;try simp only [Act.put,au]
 refine aj 5 ?_;try simp only [Act.put,au]
 refine aC ?_;clear hld;rw [HSy.out];go_wp2_with fail
 replace HA:=hid (HA.out.below (aI.drew));replace HX:=hid (HX.out.below (aI.drew));replace HY:=hid (HY.out.below (aI.drew));refine aD (S:=λw'=>Rg.Own w' gb (kc B) 24/\Rg.Own w' gd (kc D) 24/\w'.cell? ⟨g3,0,none⟩=some (.pointer p4)) (HA.out.s) λhld=>?_;refine aj 0 ?_;try simp only [Act.put,au]
 refine aj 1 ?_;try simp only [Act.put,au]
 refine aj 2 ?_;try simp only [Act.put,au]
 refine aj 3 ?_;try simp only [Act.put,au]
 refine aj 4 ?_;try simp only [Act.put,au]
 refine aj 5 ?_;try simp only [Act.put,au]
 refine aj 6 ?_;try simp only [Act.put,au]
 refine aj 7 ?_;try simp only [Act.put,au]
 refine aj 8 ?_;try simp only [Act.put,au]
 refine aj 9 ?_;try simp only [Act.put,au]
 refine aj 10 ?_;try simp only [Act.put,au]
 refine aj 11 ?_ (hy:=by intro wz hSw; (refine aW hSw.2.2 ?_; exact ⟨_,rfl,rfl⟩));try simp only [Act.put,au]
 refine aj 13 ?_ (hy:=by intro wz hSw; (refine bJ nw.out hSw.1.2 ?_; exact ⟨_,rfl,rfl⟩));try simp only [Act.put,au]
 refine aj 14 ?_;try simp only [Act.put,au]
 refine ak 12 λK hK=>?_;go_simp;go_at_call 17
 (with_reducible refine (g9.out M7 _ p4 HA.out.l.i HA.out.hT HA.out.l.t).mono ?_)
 intro e y5 hG;obtain ⟨rfl,hA,f⟩:=HA.out.say hG;replace HA:=hid hA;replace HX:=hid (HX.out.fr f);replace HY:=hid (HY.out.fr f);clear hG hA f;refine hK.out _ _ (HA.out.s) λhld=>?_;clear hK K;try simp only [Act.put,au]
 refine ak 15 λK hK=>?_;go_simp;go_at_call 12
 (with_reducible refine (EE.out _ a6 n6 c6 HX.out.s HA.out.l.t).mono ?_)
 rintro e y6 ⟨rfl,hb⟩;replace HA:=hid (HA.out.below hb);replace HX:=hid (HX.out.below hb);replace HY:=hid (HY.out.below hb);clear hb;refine hK.out _ _ (HA.out.s) λhld=>?_;clear hK K;try simp only [Act.put,au]
 refine aj 16 ?_;try simp only [Act.put,au]
 refine aj 17 ?_;try simp only [Act.put,au]
 refine aj 18 ?_;try simp only [Act.put,au]
 refine aj 19 ?_ (hy:=by intro wz hSw; (refine aW hSw.2.2 ?_; exact ⟨_,rfl,rfl⟩));try simp only [Act.put,au]
 refine aj 21 ?_ (hy:=by intro wz hSw; (refine bJ nw.out hSw.1.2 ?_; exact ⟨_,rfl,rfl⟩));try simp only [Act.put,au]
 refine aj 22 ?_;try simp only [Act.put,au]
 refine ak 20 λK hK=>?_;go_simp;go_at_call 17
 (with_reducible refine (g9.out M7 _ p4 HA.out.l.i HA.out.hT HA.out.l.t).mono ?_)
 intro e y7 hG;obtain ⟨rfl,hA,f⟩:=HA.out.say hG;replace HA:=hid hA;replace HX:=hid (HX.out.fr f);replace HY:=hid (HY.out.fr f);clear hG hA f;refine hK.out _ _ (HA.out.s) λhld=>?_;clear hK K;try simp only [Act.put,au]
 refine ak 23 λK hK=>?_;go_simp;go_at_call 13
 (with_reducible refine (P6.out _ a6 n6 c6 HX.out.s HA.out.l.t).mono ?_)
 rintro e y8 ⟨rfl,hb⟩;replace HA:=hid (HA.out.below hb);replace HX:=hid (HX.out.below hb);replace HY:=hid (HY.out.below hb);clear hb;refine hK.out _ _ (HA.out.s) λhld=>?_;clear hK K;try simp only [Act.put,au]
 refine aj 24 ?_;try simp only [Act.put,au]
 refine aj 25 ?_;try simp only [Act.put,au]
 refine aj 26 ?_;try simp only [Act.put,au]
 refine aC ?_;clear hld;go_wp2;go_ret;exact ⟨rfl,HA.out.l.b⟩
end Tm
end
section
open Go.RowKit
namespace Tm
open Tr Ni Pk Ky
theorem VZ {a b:aN} (ha:j<a.length) (hb:j<b.length) (h:a.take j=b.take j) (hne:a.getD j 0≠b.getD j 0):ltP a b=decide ((a.getD j 0).toNat<(b.getD j 0).toNat):=by
 have e1:a=a.take j++a.getD j 0::a.drop (j+1):=by
  have:a.getD j 0=a[j]:=by simp [List.getD,ha]
  rw [this,List.getElem_cons_drop,List.take_append_drop]
 have e2:b=a.take j++b.getD j 0::b.drop (j+1):=by
  have:b.getD j 0=b[j]:=by simp [List.getD,hb]
  rw [this,List.getElem_cons_drop,h,List.take_append_drop]
 generalize a.getD j 0=x at *
 generalize b.getD j 0=y at *
 rw [e1,e2,BN];simp [ltP,hne]
theorem WV {a b:aN} (ha:j<a.length) (hb:j<b.length) (h:a.take j=b.take j) (he:a.getD j 0=b.getD j 0):a.take (j+1)=b.take (j+1):=by
 have e1:a.getD j 0=a[j]:=by simp [List.getD,ha]
 have e2:b.getD j 0=b[j]:=by simp [List.getD,hb]
 rw [List.take_succ_eq_append_getElem ha,List.take_succ_eq_append_getElem hb,h,<-e1,<-e2,he]
theorem ED (a b:aN) (ha:a.length=32) (hb:b.length=32) (w:World) :
  Calls prog 35 #[.agg (kc a),.agg (kc b)] w λe w'=>e = .returned (.bool (ltP a b))/\Below w.heap.size w w':=by
 obtain ⟨w2,hw2⟩:=ay ((w.alloc (.cells (kc a) 24)).alloc (.cells (kc b) 24))
 have hB2:Below w.heap.size w w2:=by rw [hw2]; exact (aI.alloc aH _).alloc (by simp) _
 have hs2:w2.heap.size=w.heap.size+2:=by rw [hw2]; simp
 have h1:∀ q,q<32->w2.cell? ⟨w.heap.size,q,none⟩=some (.int .u8 (a.getD q 0).toNat):=λq hq=>by
  have hb:Below (w.alloc (.cells (kc a) 24)).heap.size (w.alloc (.cells (kc a) 24)) w2:=by rw [hw2]; exact aI.alloc aH _
  rw [hb.cell (p:=⟨w.heap.size,q,none⟩) (by simp),World.cell?_alloc_mark];simp [kc,List.getD,ha,hq]
 have h2:∀ q,q<32->w2.cell? ⟨w.heap.size+1,q,none⟩=some (.int .u8 (b.getD q 0).toNat):=λq hq=>by
  rw [hw2];rw [show w.heap.size+1=(w.alloc (.cells (kc a) 24)).heap.size by simp,World.cell?_alloc_mark];simp [kc,List.getD,hb,hq]
 have H1:=hid h1;have H2:=hid h2;have HB2:=hid hB2;have HW:Hid (_=_):=hid hw2;have yo:=hid ha;have nw:=hid hb;obtain ⟨A,hA⟩:=aA (kc a)
 obtain ⟨B,hB⟩:=aA (kc b)
 rw [hA,hB] at HW;rw [hA,hB];clear hA hB hw2 h1 h2 hB2 ha hb hs2;go_enter func35,ntmps35;go_wp2_with fail
 rw [<-HW.out];clear HW;go_loopw [5] (λi wr=>∃ j:Nat,j<=32/\i = .int .i64 j/\Hid (a.take j=b.take j)/\∃ q,wr=w2.drewN q) (λi _=>32-(intOf i).toNat)
 case atStart=>exact ⟨0,Nat.zero_le _,rfl,hid rfl,0,rfl⟩
 case round =>
  obtain ⟨j,hj,rfl,HT,q,rfl⟩:=hrel;by_cases hlt:j<32
  .have c1:=H1.out j hlt;have c2:=H2.out j hlt;obtain ⟨x,hx⟩:=aA (a.getD j 0)
   obtain ⟨y,hy⟩:=aA (b.getD j 0)
   rw [hx] at c1;rw [hy] at c2;have Vc:=x.toNat_lt;have VC:=y.toNat_lt;by_cases he:x=y
   .have HN:=hid (WV (by rw [yo.out]; exact hlt) (by rw [nw.out]; exact hlt) HT.out (hx.trans (he.trans hy.symm)));subst he;clear hx hy;obtain ⟨u,hu⟩:=aA x.toNat
    rw [hu] at c1 c2 Vc;clear hu VC;go_wp2_with fail
    go_quiet (fail)
    go_wp2;go_roundw
    case rel=>exact ⟨j+1,by omega,by go_num,HN,(by first | exact ⟨_,rfl⟩ | exact ⟨_,World.drewN_drewN ..⟩)⟩
    case measure=>simp [intOf]; omega
   .have HE:Hid (ltP a b=decide (x.toNat<y.toNat)):=hid (by
     have:=VZ (a:=a) (b:=b) (j:=j) (by rw [yo.out]; exact hlt) (by rw [nw.out]; exact hlt) HT.out (by rw [hx,hy]; exact he);rw [hx,hy] at this;exact this)
    have hne:x.toNat≠y.toNat:=λk=>he (UInt8.toNat_inj.1 k);clear hx hy he;obtain ⟨u,hu⟩:=aA x.toNat
    obtain ⟨v,hv⟩:=aA y.toNat
    rw [hu] at c1 Vc hne HE;rw [hv] at c2 VC hne HE;clear hu hv;have hd:((u:Int) != (v:Int))=true:=by simp; omega
    have hr:decide ((u:Int)<(v:Int))=decide (u<v):=by
     by_cases h:u<v
     .rw [aK h,aK (by omega)]
     .rw [decide_eq_false h,decide_eq_false (by omega)]
    have HR:=hid hr;clear hr;go_wp2_with fail
    go_quiet (fail)
    go_wp2_with fail
    go_quiet (fail)
    go_wp2;go_ret;refine ⟨by rw [HE.out,<-HR.out]; rfl,?_⟩;repeat rw [World.drewN_drewN]
    exact below_drewN HB2.out _
  .obtain rfl:j=32:=by omega
   have HE:Hid (ltP a b=false):=hid (by
    have:a=b:=by
     have h:=HT.out;rwa [List.take_of_length_le (by rw [yo.out]; exact aH),List.take_of_length_le (by rw [nw.out]; exact aH)] at h
    rw [this,lS])
   go_wp2;go_ret;exact ⟨by rw [HE.out]; rfl,below_drewN HB2.out _⟩
theorem kL:prog.underlying 42=some (.slice (prog.elem 42)):=by kernel_rfl
theorem nO (w:World):(sizeOf (prog.elem 42)).run prog w = .ok 33 w:=by kernel_rfl
def Dw (s:Nat) (a:aL) (c i:Nat):aL:=if c=i then a else a.map (·.add (i*s))
section
variable {P:Program} {t:TypeId} {a:aL} {n c s:Nat}
theorem Pq (ht:P.underlying t=some (.slice (P.elem t))) (hs:∀ w,(sizeOf (P.elem t)).run P w = .ok s w) (i:Nat) (hi:i<=n) (w:World) :
  (Instr.sliceAt t (.slice a n c) (some (.int .i64 i)) none none).run P w = .ok (.slice (Dw s a c i) (n-i) (c-i)) w:=by
 rw [run_sliceAt_slice (h:=ht),run_slice_l w t a n c ht .i64 i (by omega) (by omega),hs];simp [Result.andThen,sliced,Dw]
theorem Pd (ht:P.underlying t=some (.slice (P.elem t))) (hs:∀ w,(sizeOf (P.elem t)).run P w = .ok s w) (j:Nat) (hj:j<=c) (w:World) :
  (Instr.sliceAt t (.slice a n c) none (some (.int .i64 j)) none).run P w = .ok (.slice a j c) w:=by
 rw [run_sliceAt_slice (h:=ht),run_slice_h w t a n c ht .i64 j (by omega) (by omega),hs];have:a.map (λx=>x.add 0)=a:=by cases a <;> simp [Addr.add]
 simp [Result.andThen,sliced,this]
end
theorem zW {P:Program} {t:TypeId} {a:aL} {n c s:Nat} {w:World} (ht:P.underlying t=some (.slice (P.elem t))) (hs:∀ w,(sizeOf (P.elem t)).run P w = .ok s w) (hi:i<=n)
  (ho:∃ x lo,o.op = .slice t x (some lo) none none/\ev x = .slice a n c/\ev lo = .int .i64 i):(execOp ev o).run P w = .ok (.value (.slice (Dw s a c i) (n-i) (c-i))) w:=by
 obtain ⟨x,lo,ho,hx,hl⟩:=ho;unfold execOp;simp only [ho,hx,hl,Option.map_some,Option.map_none,Sem.run_bind,Sem.run_pure,Result.andThen_ok,Pq ht hs i hi]
theorem vN {P:Program} {t:TypeId} {a:aL} {n c s:Nat} {w:World} (ht:P.underlying t=some (.slice (P.elem t))) (hs:∀ w,(sizeOf (P.elem t)).run P w = .ok s w) (hj:j<=c)
  (ho:∃ x hi,o.op = .slice t x none (some hi) none/\ev x = .slice a n c/\ev hi = .int .i64 j):(execOp ev o).run P w = .ok (.value (.slice a j c)) w:=by
 obtain ⟨x,lo,ho,hx,hl⟩:=ho;unfold execOp;simp only [ho,hx,hl,Option.map_some,Option.map_none,Sem.run_bind,Sem.run_pure,Result.andThen_ok,Pd ht hs j hj]
theorem getD_drop {α:Type} {l:List α} {d : α} (i j:Nat):(l.drop i).getD j d=l.getD (i+j) d:=by simp [List.getD]
theorem getD_take {α:Type} {l:List α} {d : α} (h:j<i):(l.take i).getD j d=l.getD j d:=by simp [List.getD,h]
theorem fT.from' {w:World} {a:aL} {n c:Nat} {l:List Tr.Pair} (h:fT w a n c l) (i:Nat) (hi:i<=n):fT w (Dw 33 a c i) (n-i) (c-i) (l.drop i):=by
 have h1:=h.1;have h2:=h.2.1;refine ⟨by omega,by omega,by rw [List.length_drop,h.len],λe=>?_,λx hx=>h.keys x (List.mem_of_mem_drop hx),λj hj=>?_⟩
 .unfold Dw at e;split at e
  .omega
  .have:a=none:=by simpa using e
   have:=h.2.2.2.1 this;omega
 .obtain ⟨b,off,e,hlt,hp⟩:=h.2.2.2.2.2 (i+j) (by omega);refine ⟨b,off+i*33,?_,hlt,?_⟩
  .unfold Dw;rw [if_neg (by omega),e];simp [Addr.add_mid]
  .rw [getD_drop,show off+i*33+j*33=off+(i+j)*33 by omega];exact hp
theorem fT.upto {w:World} {a:aL} {n c:Nat} {l:List Tr.Pair} (h:fT w a n c l) (i:Nat) (hi:i<=n):fT w a i c (l.take i):=by
 have h1:=h.1;refine ⟨by omega,h.2.1,by rw [List.length_take,h.len]; omega,h.2.2.2.1,λx hx=>h.keys x (List.mem_of_mem_take hx),λj hj=>?_⟩;obtain ⟨b,off,e,hlt,hp⟩:=h.2.2.2.2.2 j (by omega);exact ⟨b,off,e,hlt,by rw [getD_take hj]; exact hp⟩
theorem dH {rest:List Oper} {a:Go.Act} {w:World} {Q:Exit->Go.Act->World->Prop} {B:Nat} {nx m c:Nat} {xs ys:List Tr.Pair} (hgd:o.guard=none) (s x:Operand) (ho:o.op = .call { callee:=.builtin .append,args:=#[s,x],argTypes:=#[42,42] })
  (hs:a.eval s=v) (hx:a.eval x = .slice ad m c) (hR:w.ownsRow B 60 33 v nx (rowP xs)) (hS:fT w ad m c ys) (hn:nx+m<=1000000) (hB:B<=w.heap.size)
  (h:∀ v' w',w'.ownsRow B 60 33 v' (nx+m) (rowP (xs++ys))->w.grownBy w' v.ownBlock->(v'.ownBlock=v.ownBlock\/v'.ownBlock=some w.heap.size)->wpList prog ops Q rest (a.put o.dst v') w'):wpList prog ops Q (o::rest) a w:=by
 obtain ⟨i0,z0,hi,hz,hsz,hby,hzc⟩:=qP;have hl:=hS.len;rcases ad with _ | ad
 .have hc:c=0:=hS.2.2.2.1 rfl;have hm:m=0:=by have:=hS.1; omega
  subst hc;subst hm;have hy:ys=[]:=List.length_eq_zero_iff.1 hl;subst hy;refine wpList_append_own_none hgd s x 42 ho B 60 i0 33 underlying42 hi v nx (rowP xs) hs hR hx (h v w ?_ ⟨rfl,rfl,rfl,aH,λ_ _ _=>rfl⟩ (.inl rfl));rw [List.append_nil];exact hR
 .refine wpList_append_own_at w hgd s x 42 ho B 60 i0 z0 33 48 underlying42 hi hz hsz hby hzc (by decide) v nx (rowP xs) hs hR ad m c (rowP ys) hx (by rw [zX ys hS.keys,hl]) (λj u hu=>?_) (Td ys) (by unfold maxLen; omega) (by omega) hB (λv' w' h1 h2 _ h4=>h v' w' ?_ h2 h4)
  .have hj:j<ys.length*33:=by
    have:=(List.getElem?_eq_some_iff.1 hu).1;rwa [zX ys hS.keys] at this
   obtain ⟨b,off,e,_,hp⟩:=hS.2.2.2.2.2 (j/33) (by omega);obtain rfl:=Option.some.inj e;have hk:(rowP ys)[j/33*33+j%33]? = (iF (ys.getD (j/33) ([],eB)))[j%33]? := zn ys hS.keys (j/33) (j%33) (by omega) (Nat.mod_lt _ (by decide));rw [show j/33*33+j%33=j by omega,hu] at hk;have:=hp (j%33) u hk.symm;rw [Addr.add_mid,show off+j=off+j/33*33+j%33 by omega];exact this
  .rw [show rowP (xs++ys)=rowP xs++rowP ys by simp [rowP]];exact h1
theorem rF {w:World} (b:Nat) (hb:b=w.heap.size) (ho:o.op = .buildSlice 42 0 #[]) :
  (execOp ev o).run prog w = .ok (.value (.slice (some ⟨b,0,none⟩) 0 0)) (w.alloc (.cells #[] 60)):=by
 subst hb;unfold execOp;rw [ho];kernel_rfl
theorem uR:∀ (S:List Tr.Pair) (x:Tr.Pair) (k:Nat),k<=S.length->(∀ y∈S.take k,ltP y.1 x.1=true)->(k<S.length->ltP (S.getD k ([],eB)).1 x.1=false)->
  tF S x=(S.take k++[x])++S.drop (if k<S.length/\(S.getD k ([],eB)).1=x.1 then k+1 else k)
 | [],x,k,hk,_,_=>by
  obtain rfl:k=0:=by simpa using hk
  rfl
 | y::r,x,0,_,_,h2=>by
  have h:=h2 (by simp);have h':ltP y.1 x.1=false:=h;unfold tF;rw [if_neg (by rw [h']; decide)];by_cases e:y.1=x.1
  .rw [if_pos e,if_pos ⟨by simp,e⟩];rfl
  .rw [if_neg e,if_neg (λg=>e g.2)];rfl
 | y::r,x,k+1,hk,h1,h2=>by
  have hy:=h1 y (by simp);have ih:=uR r x k (by simpa using hk) (λz hz=>h1 z (by rw [List.take_succ_cons]; exact List.mem_cons_of_mem _ hz)) (λg=>h2 (by simpa using g));unfold tF;rw [if_pos hy,ih];have e:(k+1<(y::r).length/\((y::r).getD (k+1) ([],eB)).1=x.1)↔(k<r.length/\(r.getD k ([],eB)).1=x.1):=by simp [List.getD]
  by_cases g:k<r.length/\(r.getD k ([],eB)).1=x.1
  .rw [if_pos g,if_pos (e.2 g)];rfl
  .rw [if_neg g,if_neg (λg'=>g (e.1 g'))];rfl
theorem Ij:∀ (S:List Tr.Pair) (x:Tr.Pair),(tF S x).length<=S.length+1
 | [],_=>aH
 | y::r,x=>by
  have:=Ij r x;unfold tF;split
  .simp only [List.length_cons]; omega
  .split
   .simp
   .simp
theorem Gr:∀ (S:List Tr.Pair) (x:Tr.Pair),(∀ y∈S,y.1.length=32)->x.1.length=32->∀ y∈tF S x,y.1.length=32
 | [],x,_,hx,y,hy=>by rw [List.mem_singleton.1 hy]; exact hx
 | z::r,x,h,hx,y,hy=>by
  unfold tF at hy;split at hy
  .rcases List.mem_cons.1 hy with rfl | hy
   .exact h _ List.mem_cons_self
   .exact Gr r x (λy hy=>h y (List.mem_cons_of_mem _ hy)) hx y hy
  .split at hy
   .rcases List.mem_cons.1 hy with rfl | hy
    .exact hx
    .exact h _ (List.mem_cons_of_mem _ hy)
   .rcases List.mem_cons.1 hy with rfl | hy
    .exact hx
    .exact h _ hy
theorem wJ {l:List Tr.Pair} (h:j<l.length):iQ (l.take (j+1))=tF (iQ (l.take j)) (l.getD j ([],eB)):=by rw [take_at h,Ap]
theorem AQ (l:List Tr.Pair):∀ j,(iQ (l.take j)).length<=j
 | 0=>aH
 | j+1=>by
  have:=AQ l j;by_cases h:j<l.length
  .rw [wJ h];exact Nat.le_trans (Ij _ _) (by omega)
  .rw [List.take_of_length_le (by omega),<-List.take_of_length_le (i:=j) (l:=l) (by omega)];omega
theorem EA {l:List Tr.Pair} (hl:∀ x∈l,x.1.length=32):∀ j,∀ y∈iQ (l.take j),y.1.length=32
 | 0,y,hy=>by cases hy
 | j+1,y,hy=>by
  have ih:=EA hl j;by_cases h:j<l.length
  .rw [wJ h] at hy;exact Gr _ _ ih (hl _ (jL h)) y hy
  .rw [List.take_of_length_le (by omega),<-List.take_of_length_le (i:=j) (l:=l) (by omega)] at hy;exact ih y hy
end Tm
end
end Go.Proofs.YtokaiemgjngcoaaGreatDoor
