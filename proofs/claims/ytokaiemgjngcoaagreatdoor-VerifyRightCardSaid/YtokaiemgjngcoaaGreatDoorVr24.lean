/-
 Contracts of verify.Key, Has, Lacks, Used, of any texts.
-/
import Derived.Test.YtokaiemgjngcoaaGreatDoorVr23
open Go.Lib (hid)
open Go.Proofs.Tryz
set_option linter.unusedSimpArgs false
set_option linter.unusedVariables false
set_option maxHeartbeats 40000000
set_option maxRecDepth 100000
namespace Go.Proofs.YtokaiemgjngcoaaGreatDoor
variable {ev:Operand->Value} {o:Oper} {v:Value} {L g i j u:Nat} {ops:Array Oper} {ad:aL}
section
open Go.RowKit
namespace Tm
open Tr Ni Pk Ky No Rf Rl
open Sm (Tab)
theorem JG {s:qm} {cs:aO} (h:Says s cs):∃ v i r,cs=vdC v i s.2 r/\(r=false->Oj s = .tuple #[.string eB,.bool false,.int .i64 9])/\(r=true->Oj s = .tuple #[.string v,.bool i,.int .i64 0]):=by
 match s,h with
 | (none,u),⟨v,i,h⟩=>exact ⟨v,i,false,h,λ_=>rfl,(λe=>by cases e)⟩
 | (some none,u),h=>exact ⟨eB,false,true,h,(λe=>by cases e),λ_=>rfl⟩
 | (some (some v),u),h=>exact ⟨v,true,true,h,(λe=>by cases e),λ_=>rfl⟩
theorem Jp (s:qm):∃ v i e,Oj s = .tuple #[.string v,.bool i,.int .i64 e]/\(i=true->Un s = .tuple #[.string v,.int .i64 0]/\Dj s=9)/\(i=false->Un s = .tuple #[.string eB,.int .i64 9]/\Dj s=e):=by
 match s with
 | (none,u)=>exact ⟨_,_,_,rfl,(λe=>by cases e),λ_=>⟨rfl,rfl⟩⟩
 | (some none,u)=>exact ⟨_,_,_,rfl,(λe=>by cases e),λ_=>⟨rfl,rfl⟩⟩
 | (some (some v),u)=>exact ⟨_,_,_,rfl,λ_=>⟨rfl,rfl⟩,(λe=>by cases e)⟩
theorem EL {w:World} {v:aM} {i r:Bool} (ho:∃ x,o.op = .field 62 x 2/\ev x = .agg (vdC v i u r)):(execOp ev o).run prog w = .ok (.value (.int .i64 u)) w:=by
 obtain ⟨x,ho,hx⟩:=ho;unfold execOp;simp only [ho,hx];kernel_rfl
theorem Cr (w:World) (r k:aN):∃ w1,w1=(w.alloc (.cells (Sm.kc r) 23)).alloc (.cells (kc k) 24)/\Rg.Own w1 w.heap.size (Sm.kc r) 23/\Rg.Own w1 (w.heap.size+1) (kc k) 24/\Below w.heap.size w w1/\w1.heap.size=w.heap.size+2:=by
 refine ⟨_,rfl,(Rg.Own.new _ _ _).below (al1 _ _),?_,al2 _ _ _,by simp⟩;have:=Rg.Own.new (w.alloc (.cells (Sm.kc r) 23)) (kc k) 24;simpa using this
theorem xE:Sg 8 Oj:=by
 intro l r k la ln lc w hr hk hl hx h1k hT;obtain ⟨w1,hw1,hS1,hK1,hb1,hs1⟩:=Cr w r k;have HF:=hid (vV l hx la ln lc r k hr hk w1 (hl.below hb1) h1k (hT.below hb1 hT.pos));have HW:Hid (_=_):=hid hw1;have HB1:=hid hb1;have cE:=hid hS1;have cz:=hid hK1;have fd:=hid hr;have cf:=hid hk;obtain ⟨S,hS⟩:=aA (nK l r (bE k))
 rw [hS] at HF ⊢;obtain ⟨C,hC⟩:=aA (kc k)
 have HC:=hid hC;rw [hC] at HW cz HF ⊢;obtain ⟨D,hD⟩:=aA (Sm.kc r)
 have HD:=hid hD;rw [hD] at HW cE HF ⊢;clear hl hT hb1 hS1 hK1 hw1 hS hC hD hr hk hx;go_enter func8,ntmps8;go_wp2_with (first
  | ((try rw [<-HW.out]); refine Rg.run rfl (.agg D) _ (by rw [<-HD.out]; exact Sm.fJ _ _ _ w.heap.size r fd.out ⟨_,rfl,rfl⟩ (by rw [HD.out]; exact cE.out)) ?_)
  | (refine Rg.run rfl (.agg C) _ (by rw [<-HC.out]; exact bC cf.out (by rw [HC.out]; exact cz.out.2) ⟨_,rfl,rfl⟩) ?_))
 refine HF.out.mono ?_;rintro e w2 ⟨cs,rfl,cg,hb2⟩;obtain ⟨v,i,rt,rfl,hr0,hr1⟩:=JG cg;have HB2:=hid (bst HB1.out hb2);have HA2:=hid (Rg.Own.new w2 (vdC eB false 0 false) 62);have hal:=al1 w2 (.cells (vdC eB false 0 false) 62);obtain ⟨u,hu⟩:=aA S.2
 rw [hu];clear hb2 cg hu HF cE cz HB1 HW;cases rt with
 | false =>
  have HV:=hid (hr0 rfl);clear hr0 hr1;go_wp2_with (first
   | (refine aB (dN _ _ _ w2.heap.size rfl rfl) ?_)
   | (refine bL HA2.out rfl _ _ _ _ rfl _ _ rfl rfl rfl rfl ?_; intro w3 hO3 hu3; have HB3:=hid (bst HB2.out (hu3.below hal aH)); have k3:w3.cell? ⟨w2.heap.size,3,none⟩=some (.bool false):=aV (j:=3) hO3 rfl; clear hO3 hu3))
  exact bodyPost_ret (results_tmp3 (t:=6) (u:=7) (v:=8) rfl _ _ _) rfl ⟨by rw [HV.out]; rfl,HB3.out⟩
 | true =>
  have HV:=hid (hr1 rfl);clear hr0 hr1;go_wp2_with (first
   | (refine aB (dN _ _ _ w2.heap.size rfl rfl) ?_)
   | (refine bL HA2.out rfl _ _ _ _ rfl _ _ rfl rfl rfl rfl ?_; intro w3 hO3 hu3; have HB3:=hid (bst HB2.out (hu3.below hal aH)); have k3:w3.cell? ⟨w2.heap.size,3,none⟩=some (.bool true):=aV (j:=3) hO3 rfl; have k0:w3.cell? ⟨w2.heap.size,0,none⟩=some (.string v):=aV (j:=0) hO3 rfl; have k1:w3.cell? ⟨w2.heap.size,1,none⟩=some (.bool i):=aV (j:=1) hO3 rfl; clear hO3 hu3))
  go_quiet (fail)
  go_wp2;exact bodyPost_ret (results_tmp3 (t:=6) (u:=7) (v:=8) rfl _ _ _) rfl ⟨by rw [HV.out]; rfl,below_drewN HB3.out _⟩
theorem Po:Sg 11 Un:=by
 intro l r k la ln lc w hr hk hl hx h1k hT;obtain ⟨w1,hw1,hS1,hK1,hb1,hs1⟩:=Cr w r k;have HF:=hid (xE l r k la ln lc w1 hr hk (hl.below hb1) hx h1k (hT.below hb1 hT.pos));have HW:Hid (_=_):=hid hw1;have HB1:=hid hb1;have cE:=hid hS1;have cz:=hid hK1;have fd:=hid hr;have cf:=hid hk;obtain ⟨S,hS⟩:=aA (nK l r (bE k))
 rw [hS] at HF ⊢;obtain ⟨C,hC⟩:=aA (kc k)
 have HC:=hid hC;rw [hC] at HW cz HF ⊢;obtain ⟨D,hD⟩:=aA (Sm.kc r)
 have HD:=hid hD;rw [hD] at HW cE HF ⊢;clear hl hT hb1 hS1 hK1 hw1 hS hC hD hr hk hx;obtain ⟨v,i,e,pv,ht,hf⟩:=Jp S;rw [pv] at HF;clear pv;cases i with
 | true =>
  rw [(ht rfl).1];clear ht hf;go_enter func11,ntmps11;go_wp2_with (first
  | ((try rw [<-HW.out]); refine Rg.run rfl (.agg D) _ (by rw [<-HD.out]; exact Sm.fJ _ _ _ w.heap.size r fd.out ⟨_,rfl,rfl⟩ (by rw [HD.out]; exact cE.out)) ?_)
  | (refine Rg.run rfl (.agg C) _ (by rw [<-HC.out]; exact bC cf.out (by rw [HC.out]; exact cz.out.2) ⟨_,rfl,rfl⟩) ?_))
  refine HF.out.mono ?_;rintro e w2 ⟨rfl,hb2⟩;have HB2:=hid (bst HB1.out hb2);clear hb2 HF cE cz HB1 HW;go_wp2;exact bodyPost_ret (results_tmp2 (t:=6) (u:=7) rfl _ _ _) rfl ⟨rfl,HB2.out⟩
 | false =>
  rw [(hf rfl).1];clear ht hf;go_enter func11,ntmps11;go_wp2_with (first
  | ((try rw [<-HW.out]); refine Rg.run rfl (.agg D) _ (by rw [<-HD.out]; exact Sm.fJ _ _ _ w.heap.size r fd.out ⟨_,rfl,rfl⟩ (by rw [HD.out]; exact cE.out)) ?_)
  | (refine Rg.run rfl (.agg C) _ (by rw [<-HC.out]; exact bC cf.out (by rw [HC.out]; exact cz.out.2) ⟨_,rfl,rfl⟩) ?_))
  refine HF.out.mono ?_;rintro e w2 ⟨rfl,hb2⟩;have HB2:=hid (bst HB1.out hb2);clear hb2 HF cE cz HB1 HW;go_wp2;exact bodyPost_ret (results_tmp2 (t:=6) (u:=7) rfl _ _ _) rfl ⟨rfl,HB2.out⟩
theorem yT:Sg 12 (λs=>.int .i64 (Dj s)):=by
 intro l r k la ln lc w hr hk hl hx h1k hT;obtain ⟨w1,hw1,hS1,hK1,hb1,hs1⟩:=Cr w r k;have HF:=hid (xE l r k la ln lc w1 hr hk (hl.below hb1) hx h1k (hT.below hb1 hT.pos));have HW:Hid (_=_):=hid hw1;have HB1:=hid hb1;have cE:=hid hS1;have cz:=hid hK1;have fd:=hid hr;have cf:=hid hk;obtain ⟨S,hS⟩:=aA (nK l r (bE k))
 rw [hS] at HF ⊢;obtain ⟨C,hC⟩:=aA (kc k)
 have HC:=hid hC;rw [hC] at HW cz HF ⊢;obtain ⟨D,hD⟩:=aA (Sm.kc r)
 have HD:=hid hD;rw [hD] at HW cE HF ⊢;clear hl hT hb1 hS1 hK1 hw1 hS hC hD hr hk hx;obtain ⟨v,i,e,pv,ht,hf⟩:=Jp S;rw [pv] at HF;clear pv;cases i with
 | true =>
  have hL:=(ht rfl).2;clear ht hf;go_enter func12,ntmps12;go_wp2_with (first
  | ((try rw [<-HW.out]); refine Rg.run rfl (.agg D) _ (by rw [<-HD.out]; exact Sm.fJ _ _ _ w.heap.size r fd.out ⟨_,rfl,rfl⟩ (by rw [HD.out]; exact cE.out)) ?_)
  | (refine Rg.run rfl (.agg C) _ (by rw [<-HC.out]; exact bC cf.out (by rw [HC.out]; exact cz.out.2) ⟨_,rfl,rfl⟩) ?_))
  refine HF.out.mono ?_;rintro e w2 ⟨rfl,hb2⟩;have HB2:=hid (bst HB1.out hb2);have HL:=hid hL;clear hb2 HF cE cz HB1 HW hL;go_wp2;go_ret;exact ⟨by rw [HL.out]; rfl,HB2.out⟩
 | false =>
  have hL:=(hf rfl).2;clear ht hf;go_enter func12,ntmps12;go_wp2_with (first
  | ((try rw [<-HW.out]); refine Rg.run rfl (.agg D) _ (by rw [<-HD.out]; exact Sm.fJ _ _ _ w.heap.size r fd.out ⟨_,rfl,rfl⟩ (by rw [HD.out]; exact cE.out)) ?_)
  | (refine Rg.run rfl (.agg C) _ (by rw [<-HC.out]; exact bC cf.out (by rw [HC.out]; exact cz.out.2) ⟨_,rfl,rfl⟩) ?_))
  refine HF.out.mono ?_;rintro e w2 ⟨rfl,hb2⟩;have HB2:=hid (bst HB1.out hb2);have HL:=hid hL;clear hb2 HF cE cz HB1 HW hL;go_wp2;go_ret;exact ⟨by rw [HL.out]; rfl,HB2.out⟩
theorem AL:Sg 13 (λs=>.int .i64 s.2):=by
 intro l r k la ln lc w hr hk hl hx h1k hT;obtain ⟨w1,hw1,hS1,hK1,hb1,hs1⟩:=Cr w r k;have HF:=hid (vV l hx la ln lc r k hr hk w1 (hl.below hb1) h1k (hT.below hb1 hT.pos));have HW:Hid (_=_):=hid hw1;have HB1:=hid hb1;have cE:=hid hS1;have cz:=hid hK1;have fd:=hid hr;have cf:=hid hk;obtain ⟨S,hS⟩:=aA (nK l r (bE k))
 rw [hS] at HF ⊢;obtain ⟨C,hC⟩:=aA (kc k)
 have HC:=hid hC;rw [hC] at HW cz HF ⊢;obtain ⟨D,hD⟩:=aA (Sm.kc r)
 have HD:=hid hD;rw [hD] at HW cE HF ⊢;clear hl hT hb1 hS1 hK1 hw1 hS hC hD hr hk hx;go_enter func13,ntmps13;go_wp2_with (first
  | ((try rw [<-HW.out]); refine Rg.run rfl (.agg D) _ (by rw [<-HD.out]; exact Sm.fJ _ _ _ w.heap.size r fd.out ⟨_,rfl,rfl⟩ (by rw [HD.out]; exact cE.out)) ?_)
  | (refine Rg.run rfl (.agg C) _ (by rw [<-HC.out]; exact bC cf.out (by rw [HC.out]; exact cz.out.2) ⟨_,rfl,rfl⟩) ?_))
 refine HF.out.mono ?_;rintro e w2 ⟨cs,rfl,cg,hb2⟩;obtain ⟨v,i,rt,rfl,_,_⟩:=JG cg;have HB2:=hid (bst HB1.out hb2);obtain ⟨u,hu⟩:=aA S.2
 have HU:=hid hu;rw [hu];clear hb2 cg hu HF cE cz HB1 HW;go_wp2_with (first | (refine aB (EL ⟨_,rfl,rfl⟩) ?_))
 go_ret;exact ⟨by rw [HU.out]; rfl,HB2.out⟩
theorem Fr.IW {M:Mp} {w w2 wr:World} (f:Fr M M w w2) (hs:w.heap.size<=w2.heap.size) (hb:Below w2.heap.size w2 wr):Fr M M w wr :=
 ⟨hb.os.trans f.os,hb.tape.trans f.tape,hb.output.trans f.output,Nat.le_trans hs hb.size,λk hl hm=>(hb.block k (by omega)).trans (f.block k hl hm),λ_ _ h=>h,λ_ _ h=>h,λ_ h=>h,λ_ h=>Or.inl h⟩
def MP (M:Mp) (w:World) (v:Value) (e:Ending) (w':World):Prop:=e = .returned v/\Fr M M w w'/\Inv M w'/\Tab w'
theorem Tab.upd {w w':World} (h:Tab w) (hu:Rg.Upd w g w') (hg:0<g):Tab w':=λi hi=>by
 rw [World.cell?_of_block (hu.block 0 (by omega))];exact h i hi
theorem MP.upd {M:Mp} {w w1 w':World} {g:Nat} (hi:Inv M w) (h0:0<w.heap.size) (f:Fr M M w w1) (i:Inv M w1) (t:Tab w1) (hu:Rg.Upd w1 g w') (hg:w.heap.size<=g):Fr M M w w'/\Inv M w'/\Tab w' :=
 ⟨f.upd hu hg,i.upd hu (hi.free hg),Tab.upd t hu (by omega)⟩
theorem Whl.size {t:T} (h:Whl t):(bX t).size<=900000:=by
 by_cases hn:t = .nil
 .subst hn; exact Nat.zero_le _
 .exact (h.enc hn).2
theorem JW (M:Mp) (p:aL) (t:T) (hx:Whl t) (w:World) (hi:Inv M w) (ht:IsT M p t) (hT:Tab w):Calls prog 17 #[tv p] w (MP M w (.agg (Sm.kc (fC (bX t))))):=by
 obtain ⟨w1,hw1⟩:=ay ((w.alloc (.cells #[.pointer p] 46)).alloc (.cells (Sm.kc Sm.zk) 23))
 have hb1:Below w.heap.size w w1:=by rw [hw1]; exact al2 _ _ _
 have am:Rg.Own w1 w.heap.size #[.pointer p] 46:=by rw [hw1]; exact (Rg.Own.new _ _ _).below (al1 _ _)
 have hS1:Rg.Own w1 (w.heap.size+1) (Sm.kc Sm.zk) 23:=by
  have:=Rg.Own.new (w.alloc (.cells #[.pointer p] 46)) (Sm.kc Sm.zk) 23;rw [hw1];simpa using this
 obtain ⟨L,hL,hg⟩:=hx.good;have HE:=hid (Ee M p t L hg hL hx.fine w1 (hi.below hb1) ht (hT.below hb1 hT.pos));have HR:Hid (∀ w2,Tab w2->Calls prog 33 #[.string (bX t)] w2 λe w'=>e = .returned (.agg (Sm.kc (fC (bX t))))/\Below w2.heap.size w2 w'):=hid (λw2 h=>zA (bX t) hx.size w2 h);have cf:=hid (iN (bX t))
 have HF:Hid (∀ w2 w3,Fr M M w1 w2->Inv M w2->Tab w2->Below w2.heap.size w2 w3->Rg.Own w3 (w.heap.size+1) (Sm.kc Sm.zk) 23/\∀ w4,Rg.Upd w3 (w.heap.size+1) w4->Fr M M w w4/\Inv M w4/\Tab w4):=hid (λw2 w3 f i t hb=>by
  have f0:=(Fr.below M hb1).trans hi f;exact ⟨(uW hS1 f (hi.out (by omega))).below hb,λw4 hu=>MP.upd hi hT.pos (f0.IW f0.size hb) (i.below hb) (t.below hb t.pos) hu (by omega)⟩)
 have de:=hid am;have HW:Hid (_=_):=hid hw1;obtain ⟨E,hE⟩:=aA (bX t)
 rw [hE] at HE HR cf ⊢;obtain ⟨K,hK⟩:=aA (fC E)
 rw [hK] at HR cf ⊢;clear hx hi ht hT hb1 am hS1 hw1 hL hg hE hK;go_enter func17,ntmps17;go_wp2_with (first
  | (refine aB (Sm.iY _ _ rfl _ (w.heap.size+1) (by simp)) ?_; rw [<-HW.out])
  | (refine aB (aW (aV (j:=0) de.out rfl) ⟨_,rfl,rfl⟩) ?_))
 refine HE.out.mono ?_;rintro e w2 ⟨rfl,f2,i2,t2⟩;have HH:Hid (Fr M M w1 w2/\Inv M w2/\Tab w2):=hid ⟨f2,i2,t2⟩;clear f2 i2 t2 HE de;go_wp2_with fail
 refine (HR.out w2 HH.out.2.2).mono ?_;rintro e w3 ⟨rfl,hb3⟩;obtain ⟨hO3,tA⟩:=HF.out w2 w3 HH.out.1 HH.out.2.1 HH.out.2.2 hb3;have bc:=hid hO3;have ie:=hid tA;clear hO3 tA hb3 HF HH HR;go_wp2_with (refine wpList_store_rowTo rfl 23 _ _ rfl rfl _ (Sm.kc K) rfl rfl 23 (Sm.kc Sm.zk) bc.out.2 (Sm.je K cf.out) (by rw [Sm.iO,Sm.iO,cf.out]; rfl) (Sm.Dr _) ?_)
 exact bodyPost_ret (results_cell_row rfl _ _ (w.heap.size+1) 23 (Sm.kc K) (0,0) _ rfl (setRow_heap _ _ _ _ _ _ bc.out.2) underlying23 rfl (Sm.je K cf.out)) rfl ⟨rfl,ie.out _ (Rg.Upd.set _ _ _)⟩
def TK (M:Mp) (w:World) (s:aM) (e:Ending) (w':World):Prop:=∃ b,e = .returned (.func (Fn.func 56) #[] #[.pointer (some ⟨b,0,none⟩)])/\Rg.Own w' b #[.string s] 9/\M.at_ b=none/\¬ M.ft b/\Fr M M w w'/\Inv M w'/\Tab w'
theorem MQ (M:Mp) (p:aL) (t:T) (L:Nat) (g:Tr.Good t L) (hL:L<=64) (f:Fine t) (w:World) (hi:Inv M w) (ht:IsT M p t) (hT:Tab w) :
  Calls prog 30 #[tv p] w (TK M w (bX t)):=by
 have hA1:=al1 w (.cells #[.pointer p] 46);have h0:=eG w p;have HE:=hid (Ee M p t L g hL f (w.alloc (.cells #[.pointer p] 46)) (hi.below hA1) ht (hT.below hA1 hT.pos));have HF:Hid (∀ w2 (E:aM),Fr M M (w.alloc (.cells #[.pointer p] 46)) w2->Inv M w2->Tab w2->M.at_ w2.heap.size=none/\¬ M.ft w2.heap.size/\Fr M M w (w2.alloc (.cells #[.string E] 9))/\Inv M (w2.alloc (.cells #[.string E] 9))/\Tab (w2.alloc (.cells #[.string E] 9))):=hid (λw2 E f i t=>by
  have f0:=(Fr.below M hA1).trans hi f;have hb:=al1 w2 (.cells #[.string E] 9);exact ⟨i.out aH,i.free aH,f0.IW f0.size hb,i.below hb,t.below hb t.pos⟩)
 obtain ⟨E,hE⟩:=aA (bX t)
 rw [hE] at HE ⊢;clear hE g hL f hi ht hT hA1;go_enter func30,ntmps30;go_wp2_with (first
  | (refine aB (aW h0 ⟨_,rfl,rfl⟩) ?_))
 refine HE.out.mono ?_;rintro e w2 ⟨rfl,f2,i2,t2⟩;have SU:=hid (HF.out w2 E f2 i2 t2);clear HE HF h0 f2 i2 t2;go_wp2;go_ret;exact ⟨w2.heap.size,rfl,Rg.Own.new _ _ _,SU.out⟩
theorem Hw (b:Nat) (r s:aM) (w:World) (hc:w.cell? ⟨b,0,none⟩=some (.string r)) :
  Calls prog 56 #[.string s,.pointer (some ⟨b,0,none⟩)] w λe w'=>e = .returned (.bool (decide (s=r\/32<=s.size)))/\Below w.heap.size w w':=by
 by_cases h:s=r
 .have HD:Hid (decide (s=r\/32<=s.size)=true):=hid (aK (.inl h));subst h;rw [HD.out];clear HD;go_enter func56,ntmps56;go_wp2;go_ret;exact ⟨rfl,aI⟩
 .have hne:=Kc h;by_cases h32:32<=s.size
  .have HD:Hid (decide (s=r\/32<=s.size)=true):=hid (aK (.inr h32));have q1:decide ((32:Int)<=(s.size:Int))=true:=aK (by omega);have SW:decide (32<=s.size)=true:=aK h32;rw [HD.out];clear HD;go_enter func56,ntmps56;go_wp2;go_ret;exact ⟨rfl,aI⟩
  .have HD:Hid (decide (s=r\/32<=s.size)=false):=hid (decide_eq_false (λe=>e.elim h h32));have q1:decide ((32:Int)<=(s.size:Int))=false:=decide_eq_false (by omega);have SW:decide (32<=s.size)=false:=decide_eq_false h32;rw [HD.out];clear HD;go_enter func56,ntmps56;go_wp2;go_ret;exact ⟨rfl,aI⟩
end Tm
end
section
namespace Tr
open Rf Rl Ni No
theorem Fy {xs:List It} {n:Nd} (h:dJ xs=some n):∀ k∈n.ks,k=eB\/∃ x∈xs,jP x=some k:=by
 unfold dJ at h;by_cases h2:xs.length=2
 .rw [if_pos h2] at h;unfold gG at h;split at h
  .cases h
  .split at h
   .obtain rfl:=Option.some.inj h;exact λk hk=>.inl (List.eq_of_mem_replicate hk)
   .obtain ⟨k,hk,rfl⟩:=Option.map_eq_some_iff.1 h;intro j hj;rcases List.mem_cons.1 hj with rfl | hj
    .exact .inr ⟨_,No.jE (by omega),hk⟩
    .exact .inl (List.eq_of_mem_replicate hj)
 .rw [if_neg h2] at h;by_cases eE:xs.length=17
  .rw [if_pos eE] at h;unfold dh at h;split at h
   .cases h
   .rename_i ks hks;split at h
    .obtain rfl:=Option.some.inj h;intro k hk;obtain ⟨x,hx,e⟩:=(zX hks).2 k hk;exact .inr ⟨x,List.mem_of_mem_take hx,e⟩
    .cases h
  .rw [if_neg eE] at h; cases h
theorem MZ {s:aN} (hs:s.length<=4294967296) {n:Nd} (h:mK s=some n):∀ k∈n.ks,k.size≠0->k.size<s.length:=by
 obtain ⟨x,h1,h2,_⟩:=qB hs h;obtain ⟨g1,g2,_⟩:=kD hs h1;intro k hk h0;rcases Fy h2 k hk with rfl | ⟨y,hy,e⟩
 .exact absurd rfl h0
 .have hlt:=sS g2 (by rw [g1]; exact hs) hy;rw [g1] at hlt;have hi:=mJ y;unfold jP at e;split at e
  .split at e
   .have e:=Option.some.inj e;rw [<-e,Rl.sW];exact hlt
   .cases e
  .split at e
   .have e:=Option.some.inj e;cases y with
    | mk l s' xs =>
     rw [inner_mk,List.length_append,gT] at hi;rw [<-e];show s'.size<_;omega
   .cases e
theorem Ox {t:T} (hn:t ≠ .nil) (hs:¬ eX t):bX t=fZ (bF t):=by
 cases t with
 | nil=>exact absurd rfl hn
 | stub r=>exact absurd trivial hs
 | leaf p v=>rfl
 | ext q t=>rfl
 | br ks=>rfl
theorem Dk {t s:T} {K:Nat} (g:Good t L) (hL:L<=64) (f:Fine t) (hn:t ≠ .nil) (hs:¬ eX t) (g':Good s K) (hK:K<=64) (f':Fine s) (hn':s ≠ .nil) (hs':¬ eX s) (hk:ref s∈(bF t).ks) (h:(bX t).size<32):(bX s).size<(bX t).size:=by
 have hm:=(gy t L g hL f hn).1 hs;have hsz:(bX t).size=(kX (bF t)).length:=by rw [Ox hn hs,Bp]
 have hu:=MZ (by omega) (No.get_put (fH t) hm) (ref s) hk (gy s K g' hK f' hn').2.2;rw [<-hsz] at hu;have hr:=wR hs';by_cases h32:(bX s).size<32
 .rw [hr] at hu;unfold ofP at hu;rw [if_pos h32] at hu;exact hu
 .exfalso;rw [hr] at hu;unfold ofP at hu;rw [if_neg h32] at hu;have hz:(⟨(mU (bX s)).toArray⟩:aM).size=32:=by
   have:(⟨(mU (bX s)).toArray⟩:aM).size=(mU (bX s)).length:=by show (mU (bX s)).toArray.size=_; simp
   rw [this,kV]
  omega
theorem wJ {s:T} {w:Pa} {N:Nd} (h:N∈bA s w):s ≠ .nil/\¬ eX s:=by
 cases s with
 | nil=>cases h
 | stub r=>cases h
 | leaf p v=>exact ⟨λe=>(by cases e),λh=>h⟩
 | ext q t=>exact ⟨λe=>(by cases e),λh=>h⟩
 | br ks=>exact ⟨λe=>(by cases e),λh=>h⟩
theorem OY (q:Pa) (t:T):ref t∈(bF (.ext q t)).ks:=List.mem_cons_self ..
theorem TD (ks:Fin 16->T) (i:Fin 16):ref (ks i)∈(bF (.br ks)).ks:=List.mem_map.2 ⟨i,List.mem_finRange i,rfl⟩
theorem JD:∀ (t:T) (L:Nat) (w:Pa),Good t L->L<=64->Fine t->(bX t).size<32->∀ N∈bA t w,(fZ N).size<=(bX t).size
 | .nil,_,_,_,_,_,_,_,h=>by cases h
 | .leaf p v,L,w,g,hL,f,_,N,h=>by rw [List.mem_singleton.1 h]; exact aH
 | .ext q t,L,w,g,hL,f,h32,N,h=>by
  rcases List.mem_cons.1 h with rfl | h
  .exact aH
  .by_cases hq:q<+:w
   .rw [if_pos hq] at h;obtain ⟨h1,h2⟩:=wJ h;have:=Dk (t:=.ext q t) g hL f (λe=>(by cases e)) (λh=>h) g.2.2.2.2 (by omega) f h1 h2 (OY q t) h32;have:=JD t (L-q.length) (w.drop q.length) g.2.2.2.2 (by omega) f (by omega) N h;omega
   .rw [if_neg hq] at h;cases h
 | .br ks,L,[],g,hL,f,_,N,h=>by rw [List.mem_singleton.1 h]; exact aH
 | .br ks,L,c::w,g,hL,f,h32,N,h=>by
  rcases List.mem_cons.1 h with rfl | h
  .exact aH
  .obtain ⟨h1,h2⟩:=wJ h;have:=Dk (t:=.br ks) g hL f (λe=>(by cases e)) (λh=>h) (g.2.2 _) (by omega) (f _) h1 h2 (TD ks (nb c)) h32;have:=JD (ks (nb c)) (L-1) w (g.2.2 _) (by omega) (f _) (by omega) N h;omega
 | .stub _,_,_,_,_,_,_,_,h=>by cases h
theorem UJ (t:T) (L:Nat) (w:Pa) (g:Good t L) (hL:L<=64) (f:Fine t) (h32:(bX t).size<32):∀ N∈(bA t w).drop 1,(fZ N).size<(bX t).size:=by
 intro N h
 match t,w,g,f,h32,h with
 | .nil,_,_,_,_,h=>cases h
 | .leaf p v,_,_,_,_,h=>cases h
 | .ext q t,w,g,f,h32,h =>
  have h:N∈(if q<+:w then bA t (w.drop q.length) else []):=h;by_cases hq:q<+:w
  .rw [if_pos hq] at h;obtain ⟨h1,h2⟩:=wJ h;have:=Dk (t:=.ext q t) g hL f (λe=>(by cases e)) (λh=>h) g.2.2.2.2 (by omega) f h1 h2 (OY q t) h32;have:=JD t (L-q.length) (w.drop q.length) g.2.2.2.2 (by omega) f (by omega) N h;omega
  .rw [if_neg hq] at h;cases h
 | .br ks,[],_,_,_,h=>cases h
 | .br ks,c::w,g,f,h32,h =>
  have h:N∈bA (ks (nb c)) w:=h;obtain ⟨h1,h2⟩:=wJ h;have:=Dk (t:=.br ks) g hL f (λe=>(by cases e)) (λh=>h) (g.2.2 _) (by omega) (f _) h1 h2 (TD ks (nb c)) h32;have:=JD (ks (nb c)) (L-1) w (g.2.2 _) (by omega) (f _) (by omega) N h;omega
 | .stub _,_,_,_,_,h=>cases h
theorem Qk {t:T} {w:Pa} {N:Nd} (h:(bA t w).getD 0 nd0=N) (hl:0<(bA t w).length):fZ N=bX t:=by
 cases t with
 | nil=>cases hl
 | stub r=>cases hl
 | leaf p v=>rw [<-h]; rfl
 | ext q t=>rw [<-h]; rfl
 | br ks=>cases w with
  | nil=>rw [<-h]; rfl
  | cons c w=>rw [<-h]; rfl
theorem Tq {t:T} {w:Pa} (g:Good t L) (hL:L<=64) (f:Fine t) (hj:j<(bA t w).length):(fZ ((bA t w).getD j nd0)=bX t\/32<=(fZ ((bA t w).getD j nd0)).size)↔(j=0\/32<=(fZ ((bA t w).getD j nd0)).size):=by
 constructor
 .rintro (h | h)
  .by_cases h0:j=0
   .exact .inl h0
   .by_cases h32:(bX t).size<32
    .have hm:(bA t w).getD j nd0∈(bA t w).drop 1:=by
      have e:(bA t w).getD j nd0=((bA t w).drop 1)[j-1]'(by rw [List.length_drop]; omega):=by
       rw [List.getElem_drop];simp [List.getD,hj,show 1+(j-1)=j by omega]
      rw [e];exact List.getElem_mem _
     have:=UJ t L w g hL f h32 _ hm;rw [h] at this;omega
    .rw [<-h] at h32;exact .inr (by omega)
  .exact .inr h
 .rintro (h | h)
  .subst h;exact .inl (Qk rfl hj)
  .exact .inr h
end Tr
end
section
open Go.RowKit
namespace Tm
open Tr Ni Pk Ky No Rf Rl
open Sm (Tab)
def OX (M:Mp) (w:World) (xs:List aM) (e:Ending) (w':World):Prop:=∃ a n c M',e = .returned (.tuple #[.slice a n c,.int .i64 0])/\kW w' a n c xs/\(∀ ad,a=some ad->M'.at_ ad.block=none/\ad.block<w'.heap.size)/\Fr M M' w w'/\Inv M' w'/\Tab w'
structure Stx (M:Mp) (w:World) (a:aL) (n c:Nat) (xs:List aM):Prop where
 s:kW w a n c xs
 r:∀ ad,a=some ad->M.at_ ad.block=none/\ad.block<w.heap.size
theorem Stx.below {M:Mp} {w w':World} {a:aL} {n c:Nat} {xs:List aM} (h:Stx M w a n c xs) (hb:Below w.heap.size w w'):Stx M w' a n c xs:=⟨h.s.below hb,λad e=>⟨(h.r ad e).1,aJ (h.r ad e).2 hb.size⟩⟩
theorem Stx.fr {M M':Mp} {w w':World} {a:aL} {n c:Nat} {xs:List aM} (h:Stx M w a n c xs) (f:Fr M M' w w'):Stx M' w' a n c xs :=
 ⟨⟨h.s.1,h.s.2.1,h.s.2.2.1,λj hj=>by
  obtain ⟨b,off,e,hlt,hc⟩:=h.s.at' j hj;exact ⟨b,off,e,aJ hlt f.size,by rw [f.cell hlt (h.r _ e).1]; exact hc⟩⟩,λad e=>⟨f.fresh _ (h.r ad e).2 (h.r ad e).1,aJ (h.r ad e).2 f.size⟩⟩
end Tm
end
section
open Go.RowKit
namespace Tm
open Tr Ni Pk Ky No Rf Rl
end Tm
end
section
open Go.RowKit
namespace Tm
open Tr Ni Pk Ky No
open Rl (Bh xQ vZ)
def Na (w:World) (b o:Nat) (N:Nd) (h:Hdl):Prop:=w.rangeAt b o (ndL N h)
theorem Na.below {w w':World} {b o:Nat} {N:Nd} {h:Hdl} (g:Na w b o N h) (hb:Below w.heap.size w w'):Na w' b o N h:=λj v hv=>aX hb (g j v hv)
theorem Fq {w:World} {b off:Nat} {N:Nd} {h:Hdl} (hl:N.ks.length=16) (g:Na w b off N h) (ho:∃ y,o.op = .load 67 y/\ev y = .pointer (some ⟨b,off,none⟩)) :
  (execOp ev o).run prog w = .ok (.value (.agg (ndC N h.1 h.2.1 h.2.2))) w:=by
 obtain ⟨y,ho,hx⟩:=ho;have hl2:=run_loadAt_mid (P:=prog) w b off 67 (ndL N h) _ g underlying67 rfl (by rw [ug hl]; exact Bc);unfold execOp;simp only [ho,hx,Sem.run_bind,Sem.run_pure,Result.andThen_ok,hl2];rfl
end Tm
end
section
open Go.RowKit
namespace Tm
open Tr Ni Pk Ky No Rf Rl
open Sm (Tab)
def Rj (b:Bool) (M:Mp) (w:World) (xs:List aM) (e:Ending) (w':World):Prop:=∃ a n c M' cd,e = .returned (.tuple #[.slice a n c,.int .i64 cd])/\(b=true->cd=0/\kW w' a n c xs/\∀ ad,a=some ad->M'.at_ ad.block=none/\ad.block<w'.heap.size)/\(b=false->n=0/\cd=8)/\Fr M M' w w'/\Inv M' w'/\Tab w'
theorem Rj.yes {M:Mp} {w w':World} {xs:List aM} {e:Ending} (h:Rj true M w xs e w'):OX M w xs e w':=by
 obtain ⟨a,n,c,M',cd,he,h1,_,h3⟩:=h;obtain ⟨rfl,hs,hr⟩:=h1 rfl;exact ⟨a,n,c,M',he,hs,hr,h3⟩
theorem NC (x:Option (Option aM)) (h:x.isSome=true):∃ s c,PY x = .tuple #[.string s,.int .i64 c]/\(c==8)=false:=by
 match x,h with
 | some none,_=>exact ⟨_,_,rfl,by decide⟩
 | some (some v),_=>exact ⟨_,_,rfl,by decide⟩
theorem Mc (M:Mp) (p:aL) (t:T) (k:aN) (hk:k.length=32) (hg:Tr.Good t 64) (hf:Fine t) (hc:iQ t<=200000) (w:World) (hi:Inv M w) (ht:IsT M p t) (hT:Tab w) :
  Calls prog 16 #[tv p,.agg (kc k)] w (Rj (Tr.get t (bE k)).isSome M w (iV (bA t (bE k)))):=by
 obtain ⟨i0,hi0,hz0,hz1,hz2⟩:=nH;have HI:Hid (_/\_/\_/\_):=hid ⟨hi0,hz0,hz1,hz2⟩;obtain ⟨w1,hw1⟩:=ay ((w.alloc (.cells #[.pointer p] 46)).alloc (.cells (kc k) 24))
 have hb1:Below w.heap.size w w1:=by rw [hw1]; exact al2 _ _ _
 have hs1:w1.heap.size=w.heap.size+2:=by rw [hw1]; simp
 have hT1:Rg.Own w1 w.heap.size #[.pointer p] 46:=by
  have:=(Rg.Own.new w #[.pointer p] 46).below (al1 _ (.cells (kc k) 24));rw [hw1];exact this
 have hK1:Rg.Own w1 (w.heap.size+1) (kc k) 24:=by
  have:=Rg.Own.new (w.alloc (.cells #[.pointer p] 46)) (kc k) 24;rw [hw1];simpa using this
 have rN:=CO M p t k hk w1 (hi.below hb1) ht hg;rw [show path k=bE k from rfl] at rN;have Fl:Hid (∀ w2,Inv M w2->Tab w2->Calls prog 30 #[tv p] w2 (TK M w2 (bX t))):=hid (λw2 hi hT=>MQ M p t 64 hg aH hf w2 hi ht hT);have fy:Hid (∀ w3,Inv M w3->Tab w3->Calls prog 31 #[tv p,.agg (kc k)] w3 (TG M w3 (bA t (bE k)))):=hid (λw3 hi hT=>LJ M p t k hk hg hf hc w3 hi ht hT)
 have HB2:Hid (∀ w2,Below w1.heap.size w1 w2->Fr M M w w2/\Inv M w2/\Tab w2/\Rg.Own w2 w.heap.size #[.pointer p] 46/\Rg.Own w2 (w.heap.size+1) (kc k) 24):=hid (λw2 hb=>by
  have hb2:Below w.heap.size w w2:=hb1.trans (hb.mono hb1.size);exact ⟨Fr.below M hb2,hi.below hb2,hT.below hb2 hT.pos,hT1.below hb,hK1.below hb⟩)
 have xx:M.at_ w.heap.size=none:=hi.out aH;have xy:M.at_ (w.heap.size+1)=none:=hi.out (by omega);have ie:Hid (∀ w2 w3,Fr M M w w2->Rg.Own w2 w.heap.size #[.pointer p] 46->Rg.Own w2 (w.heap.size+1) (kc k) 24->Fr M M w2 w3->Fr M M w w3/\Rg.Own w3 w.heap.size #[.pointer p] 46/\Rg.Own w3 (w.heap.size+1) (kc k) 24):=hid (λw2 w3 f h1 h2 g=>⟨f.trans hi g,uW h1 g xx,uW h2 g xy⟩);have cn:Hid (∀ b,w.heap.size<=b->M.at_ b=none):=hid (λb hb=>hi.out hb);have hal:=at_len t 64 (bE k) hg
 rw [iM k hk] at hal;have HN:Hid (∀ N∈bA t (bE k),fB bU N=true/\N.v.size<=maxLen/\∀ k∈N.ks,k.size<=100):=hid (λN hN=>by
  obtain ⟨s,K,rfl,_,h1,h2,h3,h4,h5⟩:=tF t 64 (bE k) hg aH hf N hN;have:=nU h4 h3 h5 h1 h2;exact ⟨this.1,this.2.2.2.1,this.2.2.2.2.2⟩)
 have Fm:Hid (∀ j,j<(bA t (bE k)).length->((fZ ((bA t (bE k)).getD j nd0)=bX t\/32<=(fZ ((bA t (bE k)).getD j nd0)).size)↔(j=0\/32<=(fZ ((bA t (bE k)).getD j nd0)).size))):=hid (λj hj=>Tq hg aH hf hj);have ff:=hid rN;have HW1:=hid hw1;have HT1:=hid hT1;have cz:=hid hK1;have cf:=hid hk;obtain ⟨Z,hZ⟩:=aA (bA t (bE k))
 rw [hZ] at fy hal HN Fm ⊢;obtain ⟨G,hG⟩:=aA (Tr.get t (bE k))
 rw [hG] at ff ⊢;obtain ⟨E,hE⟩:=aA (bX t)
 rw [hE] at Fl Fm;clear hZ hG hE rN hw1 hT1 hK1 hb1 hg hf hc hi ht hT hi0 hz0 hz1 hz2 xx xy;obtain ⟨C,hC⟩:=aA (kc k)
 have HC:=hid hC;rw [hC] at HW1 cz HB2 ie fy ff ⊢;clear hC hk;by_cases hb:G.isSome=true
 .obtain ⟨sv,cd,hV,hcd⟩:=NC G hb;rw [hb];rw [hV] at ff;clear hb hV;go_enter func16,ntmps16;go_wp2_with (first
   | ((try rw [<-HW1.out]); refine aB (aW (aV (j:=0) HT1.out rfl) ⟨_,rfl,rfl⟩) ?_)
   | ((try rw [<-HW1.out]); refine Rg.run rfl (.agg C) _ (by rw [<-HC.out]; exact bC cf.out (by rw [HC.out]; exact cz.out.2) ⟨_,rfl,rfl⟩) ?_))
  refine ff.out.mono ?_;rintro e w2 ⟨rfl,hb2⟩;obtain ⟨f2,i2,t2,o2,k2⟩:=HB2.out w2 hb2;have fN:Hid (Fr M M w w2/\Inv M w2/\Tab w2):=hid ⟨f2,i2,t2⟩;have fm:=hid o2;have Lt:=hid k2;clear f2 i2 t2 o2 k2 hb2 ff HB2 HT1 cz HW1;go_wp2_with (first
   | (refine aB (aW (aV (j:=0) fm.out rfl) ⟨_,rfl,rfl⟩) ?_))
  refine (Fl.out w2 fN.out.2.1 fN.out.2.2).mono ?_;rintro e w3 ⟨bt,rfl,Ly,m7,_,f3,i3,t3⟩;obtain ⟨f13,o3,k3⟩:=ie.out w2 w3 fN.out.1 fm.out Lt.out f3;have m8:Hid (Fr M M w w3/\Inv M w3/\Tab w3):=hid ⟨f13,i3,t3⟩;have bc:=hid o3;have Fo:=hid k3;have HB3:=hid Ly;have Lz:=hid m7;clear f3 i3 t3 o3 k3 f13 Ly m7 fN fm Lt Fl;go_wp2_with (first
   | (refine aB (aW (aV (j:=0) bc.out rfl) ⟨_,rfl,rfl⟩) ?_)
   | (refine Rg.run rfl (.agg C) _ (by rw [<-HC.out]; exact bC cf.out (by rw [HC.out]; exact Fo.out.2) ⟨_,rfl,rfl⟩) ?_))
  refine (fy.out w3 m8.out.2.1 m8.out.2.2).mono ?_;rintro e w4 ⟨a4,m,c4,rfl,hz,f4,i4,t4⟩;obtain ⟨f14,_,_⟩:=ie.out w3 w4 m8.out.1 bc.out Fo.out f4;have hs4:w.heap.size<=w4.heap.size:=f14.size;have bd:=hid (uW HB3.out f4 Lz.out);have HFin:Hid (∀ w5,Below w4.heap.size w4 w5->Fr M M w w5/\Inv M w5/\Tab w5):=hid (λw5 hb=>⟨f14.IW hs4 hb,i4.below hb,t4.below hb t4.pos⟩);have HZ:=hid hz;have hl:=hz.len;have HL:=hid hl;have hnc:=hz.1;have hcm:=hz.2.1;unfold maxLen at hcm;have SZ:m<=65:=by omega
  clear hz hl hal f4 i4 t4 f14 m8 bc Fo HB3 Lz ie fy;go_wp2;go_loopw [9,29] (λv i wr=>∃ j:Nat,j<=m/\i = .int .i64 j/\Hid (wr.ownsRow w4.heap.size 9 1 v (iV (Z.take j)).length ((iV (Z.take j)).map Value.string))/\Hid (Below w4.heap.size w4 wr)) (λ_ i _=>m-(intOf i).toNat)
  case atStart=>exact ⟨0,Nat.zero_le _,rfl,hid (World.ownsRow_nil _ _ _ _),hid aI⟩
  case round =>
   obtain ⟨j,hj,rfl,HR,HB⟩:=hrel;by_cases hlt:j<m
   .have HS:=hid (Om Z (j:=j) (by rw [HL.out]; exact hlt));have sT:=hid (Fm.out j (by rw [HL.out]; exact hlt));have hbl:=Co (Z.take j);rw [List.length_take] at hbl;obtain ⟨bz,oz,gz,rfl,hbz,hpz,hkz,xz⟩:=HZ.out.at' j hlt;have hji:(j:Int)<m:=by omega
    have Fs:Hid (Na wr bz (oz+j*19) (Z.getD j nd0) gz):=hid (Na.below hpz HB.out);have xF:=hid hkz;have hmem:Z.getD j nd0∈Z:=Tm.jE (by rw [HL.out]; exact hlt);obtain ⟨n1,n2,n3⟩:=HN.out _ hmem;have gC:Hid (∀ W,Below wr.heap.size wr W->Calls prog 32 #[.agg (ndC (Z.getD j nd0) gz.1 gz.2.1 gz.2.2)] W λe w'=>e = .returned (.tuple #[.string (fZ (Z.getD j nd0)),.int .i64 0])/\Below W.heap.size W w'):=hid (λW hW=>by
     have:=FT _ _ _ _ hkz W ((xz.below HB.out).below hW) n2 n3;unfold Ro at this;rw [n1] at this;exact this)
    have hsz0:=HB.out.size;obtain ⟨L,hL⟩:=aA (iV (Z.take j))
    rw [hL] at HS hbl HR;obtain ⟨N,hN⟩:=aA (Z.getD j nd0)
    rw [hN] at HS Fs xF gC sT;obtain ⟨K,hK⟩:=aA (fZ N)
    rw [hK] at HS gC sT;have ec:=al1 wr (.cells (ndC nd0 none 0 0) 67);have rm:=hid (Rg.Own.new wr (ndC nd0 none 0 0) 67);clear hL hN hK hpz hkz xz hmem hbz n1 n2 n3;go_wp2_with (first
     | (refine aB (Fq xF.out Fs.out ⟨_,rfl,rfl⟩) ?_)
     | (refine aB (aY _ _ _ wr.heap.size rfl rfl) ?_)
     | (refine bW rm.out bP N _ _ _ xF.out rfl _ _ rfl rfl rfl rfl ?_; intro W3 hO hu; have im:=hid hO; have HB3:=hid (hu.below ec aH); clear hO hu)
     | (refine aB (bV im.out xF.out ⟨_,rfl,rfl⟩) ?_))
    refine (gC.out W3 HB3.out).mono ?_;rintro e w5 ⟨rfl,hb5⟩;have dj:=bst HB.out (bst HB3.out hb5);have aa:=hid dj;have cW:=hid (FU HR.out (bst HB3.out hb5));have hsz:=aa.out.size;have LE:=hid (aV (j:=0) (bd.out.below dj) rfl);clear hb5 dj gC Fs xF HR HB im HB3 rm ec;go_wp2_with fail
    refine (Hw bt E K w5 LE.out).mono ?_;rintro e w6 ⟨rfl,hb6⟩;have bj:=hid (bst aa.out hb6);have eo:=hid (FU cW.out hb6);have Ft:=bj.out.size;clear hb6 aa cW LE hsz;by_cases hput:j=0\/32<=K.size
    .have fL:Hid (iV (Z.take (j+1))=L++[K]):=hid (by rw [HS.out,if_pos hput]);rw [aK (sT.out.2 hput)];clear HS sT hput;go_wp2_with (first
      | (at_builtin; refine wpList_append_own _ rfl _ _ 26 rfl w4.heap.size 9 i0 (.string ⟨#[]⟩) 1 16 underlying26 HI.out.1 HI.out.2.1 HI.out.2.2.1 HI.out.2.2.2 rfl (by decide) _ _ _ rfl (eo.out.alloc _) ⟨w6.heap.size,0,none⟩ 1 1 [.string K] rfl rfl ?d1 ?d2 ?d3 ?d4 ?d5 ?_))
     all_goals first
      | exact Bu.cell_one_new' _ _ _ _
      | (intro u hu; simp at hu; subst hu; rfl)
      | rfl
      | (unfold maxLen; omega)
      | omega
      | (simp; omega)
      | skip
     intro v' w7 cH hgrow _;have hlt':=eo.out.lt;go_wp2;go_roundw
     case rel=>exact ⟨j+1,by omega,by go_num,hid (by rw [fL.out,List.length_append,List.map_append]; exact cH),hid ((bj.out.alloc Ft _).grown hgrow (by simp; omega) (λg hg=>(hlt' g hg).1))⟩
     case measure=>simp [intOf]; omega
    .have fL:Hid (iV (Z.take (j+1))=L):=hid (by rw [HS.out,if_neg hput,List.append_nil]);rw [decide_eq_false (λh=>hput (sT.out.1 h))];clear HS sT hput;go_wp2;go_roundw
     case rel=>exact ⟨j+1,by omega,by go_num,by rw [fL.out]; exact eo,bj⟩
     case measure=>simp [intOf]; omega
   .obtain rfl:j=m:=by omega
    have hO:=HR.out;rw [List.take_of_length_le (by rw [HL.out]; exact aH)] at hO;have HE:Hid (∀ v,wr.ownsRow w4.heap.size 9 1 v (iV Z).length ((iV Z).map Value.string)->Rj true M w (iV Z) (.returned (.tuple #[v,.int .i64 0])) wr):=hid (λv h=>by
     have hlt:=h.lt;obtain ⟨a,c,rfl,hst⟩:=kW.pE h;exact ⟨a,_,c,M,0,rfl,λ_=>⟨rfl,hst,λad e=>⟨cn.out _ (Nat.le_trans hs4 (hlt ad.block (by rw [e]; rfl)).1),(hlt ad.block (by rw [e]; rfl)).2⟩⟩,λe=>(by cases e),HFin.out wr HB.out⟩)
    have HO:=hid hO;clear hO;go_wp2;exact bodyPost_ret (results_tmp2 (t:=4) (u:=5) rfl _ _ _) rfl (HE.out _ HO.out)
 .have hV:G=none:=by
   cases G with
   | none=>rfl
   | some x=>exact absurd rfl hb
  subst hV;have LF:PY none = .tuple #[.string eB,.int .i64 8]:=rfl;rw [LF] at ff;clear hb LF;go_enter func16,ntmps16;go_wp2_with (first
   | ((try rw [<-HW1.out]); refine aB (aW (aV (j:=0) HT1.out rfl) ⟨_,rfl,rfl⟩) ?_)
   | ((try rw [<-HW1.out]); refine Rg.run rfl (.agg C) _ (by rw [<-HC.out]; exact bC cf.out (by rw [HC.out]; exact cz.out.2) ⟨_,rfl,rfl⟩) ?_))
  refine ff.out.mono ?_;rintro e w2 ⟨rfl,hb2⟩;obtain ⟨f2,i2,t2,_⟩:=HB2.out w2 hb2;have fN:Hid (Fr M M w w2/\Inv M w2/\Tab w2):=hid ⟨f2,i2,t2⟩;clear f2 i2 t2 hb2 ff HB2 HT1 cz HW1;go_wp2;exact bodyPost_ret (results_tmp2 (t:=4) (u:=5) rfl _ _ _) rfl ⟨none,0,0,M,8,rfl,λh=>(by cases h),λ_=>⟨rfl,rfl⟩,fN.out⟩
def lBx:T:=.leaf (List.replicate 63 0) sy
def bB:aN:=[226,160,48,0,0,0,0,0,0,0,0,0,0,0,0,0,0,0,0,0,0,0,0,0,0,0,0,0,0,0,0,0,0,0,121]
theorem Uz:Whl (bQ .nil lAB):=⟨iH.fine,iH.full,64,aH,iH.good⟩
theorem Qv (v:aM) (x:UInt8) (hv:v=⟨#[x]⟩) (hx:x.toNat<128):kX ⟨1,List.replicate 63 0,v,zks⟩=[226,160,48,0,0,0,0,0,0,0,0,0,0,0,0,0,0,0,0,0,0,0,0,0,0,0,0,0,0,0,0,0,0,0]++[x]:=by
 have h1:(qj ⟨1,List.replicate 63 0,v,zks⟩).bytes=[160,48,0,0,0,0,0,0,0,0,0,0,0,0,0,0,0,0,0,0,0,0,0,0,0,0,0,0,0,0,0,0,0]:=by
  show (qj ⟨1,List.replicate 63 0,eB,zks⟩).bytes=_;rw [It.mF];decide +kernel
 have h2:(It.mk false v []).bytes=[x]:=by
  rw [mq v (by subst hv; show 1<=4294967296; omega)];subst hv;rw [if_pos ⟨rfl,hx⟩];rfl
 have hi:(gD ⟨1,List.replicate 63 0,v,zks⟩).inner=[160,48,0,0,0,0,0,0,0,0,0,0,0,0,0,0,0,0,0,0,0,0,0,0,0,0,0,0,0,0,0,0,0]++[x]:=by
  show ([]:aN)++([qj ⟨1,List.replicate 63 0,v,zks⟩,.mk false v []].map It.bytes).flatten=_;rw [List.map_cons,List.map_cons,List.map_nil,h1,h2];rfl
 unfold kX;rw [It.mF,hi];rfl
theorem Vb:bX lBx=⟨bB.toArray⟩:=by
 show (⟨(kX ⟨1,List.replicate 63 0,sy,zks⟩).toArray⟩:aM)=_;rw [Qv sy 121 rfl (by decide)];rfl
theorem qX:∀ (t:T) (p:Pa),Full t->Tr.get t p≠none
 | .nil,_,_=>λh=>by cases h
 | .leaf q v,p,_=>λh=>by cases h
 | .ext q t,p,f=>by
  unfold Tr.get;split
  .exact qX t _ f
  .exact λh=>by cases h
 | .br ks,[],_=>λh=>by cases h
 | .br ks,c::r,f=>qX (ks (nb c)) r (f _)
 | .stub _,_,f=>f.elim
theorem zW {t:T} (g:Tr.Good t 64) (u:Full t) (f:Fine t) (k:aN) (hk:k.length=32):∃ a,Tr.get t (bE k)=some a/\nK (iV (bA t (bE k))) (fC (bX t)) (bE k)=(some a,(iV (bA t (bE k))).length):=by
 have hl:=at_len t 64 (bE k) g;have hp:=Co (bA t (bE k));have hq:=iM k hk;rw [<-Ud] at hp ⊢;exact Li g u f hq (DK k) (by omega)
theorem rM (M:Mp) (p:aL) (t:T) (k:aN) (hk:k.length=32) (hg:Tr.Good t 64) (hu:Full t) (hf:Fine t) (hc:iQ t<=200000) (w:World) (hi:Inv M w) (ht:IsT M p t) (hT:Tab w) :
  Calls prog 16 #[tv p,.agg (kc k)] w (OX M w (iV (bA t (bE k)))):=by
 have:=Mc M p t k hk hg hf hc w hi ht hT;rw [show (Tr.get t (bE k)).isSome=true from (by
  cases e:Tr.get t (bE k) with
  | none=>exact absurd e (qX _ _ hu)
  | some x=>rfl)] at this
 exact this.mono λ_ _ h=>h.yes
theorem uT {t:T} (g:Tr.Good t 64) (k:aN) (hk:k.length=32):(iV (bA t (bE k))).length<=65:=by
 have hl:=at_len t 64 (bE k) g;have hp:=Co (bA t (bE k));have hq:=iM k hk;omega
def oN:aN:=zk.set 0 32
theorem vk:oN.length=32:=rfl
theorem RQ:Tr.get (bQ .nil lAB) (path oN)=some none:=by
 rw [iH.get oN vk,PE,if_neg (by decide),if_neg (by decide)]
theorem JZ:iQ (bQ .nil lAB)<=200000:=by
 have h:iQ (bQ .nil lAB)=3:=by kernel_rfl
 omega
theorem Rz:bA (bQ .nil lAB) (bE kb)=[bF (bQ .nil lAB),bF lBx]:=by kernel_rfl
theorem Pw:(iV (bA (bQ .nil lAB) (bE kb))).length=2:=by
 have e2:bX lBx=fZ (bF lBx):=rfl;have h32:32<=(fZ (bF lBx)).size:=by rw [<-e2,Vb]; decide
 rw [Rz];unfold iV nT;simp [h32]
theorem Uy:nK (iV (bA (bQ .nil lAB) (bE kb))) (fC (bX (bQ .nil lAB))) (bE kb)=(some (some sy),2):=by
 obtain ⟨a,h1,h2⟩:=zW iH.good iH.full iH.fine kb nG;rw [show Tr.get (bQ .nil lAB) (bE kb)=some (some sy) from RA] at h1;rw [h2,<-Option.some.inj h1,Pw]
theorem UH:(nK (iV (bA (bQ .nil lAB) (bE oN))) (fC (bX (bQ .nil lAB))) (bE oN)).1=some none:=by
 obtain ⟨a,h1,h2⟩:=zW iH.good iH.full iH.fine oN vk;rw [show Tr.get (bQ .nil lAB) (bE oN)=some none from RQ] at h1;rw [h2,<-Option.some.inj h1]
structure A14 (w0:World) (M:Mp) (w:World) (gb gc g3:Nat) (p:aL) (t:T) (B C:aN):Prop where
 l:Lw w0 M w
 kb:Rg.Own w gb (kc B) 24
 kd:Rg.Own w gc (kc C) 24
 hb:B.length=32
 hc:C.length=32
 bT:Bx M w g3 #[.pointer p] 46
 hT:IsT M p t
namespace A14
variable {w0:World} {M M':Mp} {w w':World} {gb gc g3:Nat} {p:aL} {t:T} {B C:aN}
theorem below (h:A14 w0 M w gb gc g3 p t B C) (hb:Below w.heap.size w w'):A14 w0 M w' gb gc g3 p t B C:=⟨h.l.below hb,h.kb.below hb,h.kd.below hb,h.hb,h.hc,h.bT.below hb,h.hT⟩
theorem fr (h:A14 w0 M w gb gc g3 p t B C) (f:Fr M M' w w') (i:Inv M' w') (tt:Tab w'):A14 w0 M' w' gb gc g3 p t B C:=⟨h.l.fr f i tt,vR h.kb (Jq h.hb) h.l.i f,vR h.kd (Jq h.hc) h.l.i f,h.hb,h.hc,h.bT.frm h.l.i f,h.hT.mono f.mono⟩
theorem say {e:Ending} (h:A14 w0 M w gb gc g3 p t B C) (g:MP M w v e w'):e = .returned v/\A14 w0 M w' gb gc g3 p t B C/\Fr M M w w':=⟨g.1,h.fr g.2.1 g.2.2.1 g.2.2.2,g.2.1⟩
theorem s (h:A14 w0 M w gb gc g3 p t B C):Rg.Own w gb (kc B) 24/\Rg.Own w gc (kc C) 24/\w.cell? ⟨g3,0,none⟩=some (.pointer p):=⟨h.kb,h.kd,aV (j:=0) h.bT.o rfl⟩
end A14
theorem Ib {s:qm} (h:s.1=some none):Dj s=0:=by
 obtain ⟨x,u⟩:=s;cases h;rfl
theorem wG (ev:Operand->Value) (o:Oper) (w:World) (b:Nat) (hb:b=w.heap.size) (ho:o.op = .alloc 24):(execOp ev o).run prog w = .ok (.value (.pointer (some ⟨b,0,none⟩))) (w.alloc (.cells (kc zk) 24)):=by
 subst hb;exact Al ev o ho w
theorem ET (w:World) (hT:Tab w):Calls prog 7 #[] w λe w'=>e = .returned (.bool true)/\Below w.heap.size w w':=by
 obtain ⟨w1,hw1⟩:=ay (((w.alloc (.cells (kc zk) 24)).alloc (.cells (kc zk) 24)).alloc (.cells (kc zk) 24))
 have hb1:Below w.heap.size w w1:=by rw [hw1]; exact bst (al2 _ _ _) (al1 _ _)
 have hA:Rg.Own w1 w.heap.size (kc ka) 24:=by rw [hw1]; exact (Rg.Own.new _ _ _).below (al2 _ _ _)
 have hB:Rg.Own w1 (w.heap.size+1) (kc zk) 24:=by
  have:=(Rg.Own.new (w.alloc (.cells (kc zk) 24)) (kc zk) 24).below (al1 _ (.cells (kc zk) 24));rw [hw1];simpa using this
 have hC:Rg.Own w1 (w.heap.size+2) (kc zk) 24:=by
  have:=Rg.Own.new ((w.alloc (.cells (kc zk) 24)).alloc (.cells (kc zk) 24)) (kc zk) 24;rw [hw1];simpa using this
 have oE:=hid ((Lw.start hT).below hb1);have HA1:=hid hA;have HB1:=hid hB;have xp:=hid hC;have hne1:w.heap.size≠w.heap.size+1:=by omega
 have hne2:w.heap.size≠w.heap.size+2:=by omega
 have kt:w.heap.size+1≠w.heap.size+2:=by omega
 have xT:w.heap.size+2≠w.heap.size+1:=by omega
 have cG:=hid wG;have y0:Hid ((kc zk).setIfInBounds 0 (.int .u8 16)=kc kb):=hid (QV zk 0 16);have pw:Hid ((kc zk).setIfInBounds 0 (.int .u8 32)=kc oN):=hid (QV zk 0 32);have xr:=hid (mD ka sx Gy);have LI:=hid (mD kb sy nG);have sX:Hid (ka.length=32):=hid Gy;have ll:Hid (kb.length=32):=hid nG;have FA:Hid (oN.length=32):=hid vk;have FF:Hid ((kc zk).size=32):=hid Rq
 have rS:Hid (∀ (b:Nat) w3,Rg.Own w3 b (rowP lAB).toArray 60->Lw w M0 w3->Calls prog 15 #[.slice (some ⟨b,0,none⟩) 2 2] w3 (cK M0 w3 (bQ .nil lAB))):=hid (λb w3 h hl=>Cw M0 _ 2 2 lAB Uj w3 hl.i (QI (l:=lAB) h Uj.1 (by decide)) (by decide));have ee:Hid (∀ M W p,Inv M W->IsT M p (bQ .nil lAB)->Tab W->Calls prog 17 #[tv p] W (MP M W (.agg (Sm.kc (fC (bX (bQ .nil lAB))))))):=hid (λM W p hi ht h=>JW M p _ Uz W hi ht h)
 have s0:Hid (∀ M W p,Inv M W->IsT M p (bQ .nil lAB)->Tab W->Calls prog 16 #[tv p,.agg (kc kb)] W (OX M W (iV (bA (bQ .nil lAB) (bE kb))))):=hid (λM W p hi ht h=>rM M p _ kb nG iH.good iH.full iH.fine JZ W hi ht h);have s6:Hid (∀ M W p,Inv M W->IsT M p (bQ .nil lAB)->Tab W->Calls prog 16 #[tv p,.agg (kc oN)] W (OX M W (iV (bA (bQ .nil lAB) (bE oN))))):=hid (λM W p hi ht h=>rM M p _ oN vk iH.good iH.full iH.fine JZ W hi ht h);have hxb:=CB iH.good iH.fine (bE kb);have hxd:=CB iH.good iH.fine (bE oN)
 have hsb:=uT iH.good kb nG;have hsd:=uT iH.good oN vk;have cg:=Uy;have hU:=UH;have hrl:=iN (bX (bQ .nil lAB));obtain ⟨r9,oT⟩:=aA (fC (bX (bQ .nil lAB)))
 rw [oT] at ee cg hU hrl;obtain ⟨XB,LL⟩:=aA (iV (bA (bQ .nil lAB) (bE kb)))
 rw [LL] at s0 hxb hsb cg;obtain ⟨XD,LN⟩:=aA (iV (bA (bQ .nil lAB) (bE oN)))
 rw [LN] at s6 hxd hsd hU;have FG:Hid (∀ W a n c,kW W a n c XB->Tab W->Calls prog 11 #[.agg (Sm.kc r9),.agg (kc kb),.slice a n c] W λe w'=>e = .returned (.tuple #[.string sy,.int .i64 0])/\Below W.heap.size W w'):=hid (λW a n c h t=>by
  have:=Po XB r9 kb a n c W hrl nG h hxb (by have:=h.len; omega) t;rw [cg] at this;exact this)
 have FO:Hid (∀ W a n c,kW W a n c XD->Tab W->Calls prog 12 #[.agg (Sm.kc r9),.agg (kc oN),.slice a n c] W λe w'=>e = .returned (.int .i64 0)/\Below W.heap.size W w'):=hid (λW a n c h t=>by
  have:=yT XD r9 oN a n c W hrl vk h hxd (by have:=h.len; omega) t;have e:=Ib hU;dsimp only at this;rw [e] at this;exact this)
 have y9:Hid (∀ W a n c,kW W a n c XB->Tab W->Calls prog 12 #[.agg (Sm.kc r9),.agg (kc kb),.slice a n c] W λe w'=>e = .returned (.int .i64 9)/\Below W.heap.size W w'):=hid (λW a n c h t=>by
  have:=yT XB r9 kb a n c W hrl nG h hxb (by have:=h.len; omega) t;rw [cg] at this;exact this)
 have nz:Hid (∀ W a n c,kW W a n c XB->Tab W->Calls prog 13 #[.agg (Sm.kc r9),.agg (kc kb),.slice a n c] W λe w'=>e = .returned (.int .i64 2)/\Below W.heap.size W w'):=hid (λW a n c h t=>by
  have:=AL XB r9 kb a n c W hrl nG h hxb (by have:=h.len; omega) t;rw [cg] at this;exact this)
 clear hA hB hC hb1 hT oT LL LN hxb hxd hsb hsd cg hU hrl;generalize bQ .nil lAB=TT at *
 have HW:Hid (_=_):=hid hw1;clear hw1;have kv:Hid (rowP [(ka,sx),(kb,sy)]=rowP lAB):=hid rfl;obtain ⟨ROW,hROW⟩:=aA (rowP lAB)
 rw [hROW] at rS kv;have T2:Hid (sy=⟨#[121]⟩):=hid rfl;generalize ka=A at *
 generalize kb=B at *
 generalize oN=D at *
 generalize zk=Z at *
 go_enter func7,ntmps7;go_wp2_with (first
  | (refine aB (cG.out _ _ _ w.heap.size rfl rfl) ?_)
  | (refine aB (cG.out _ _ _ (w.heap.size+1) (by first | (simp; done) | fail) rfl) ?_)
  | (refine aB (cG.out _ _ _ (w.heap.size+2) (by simp) rfl) ?_)
  | (rw [<-HW.out]; refine su HB1.out (by rw [FF.out]; decide) 16 rfl _ _ rfl rfl rfl ?_; intro w2 hO2 hu2; have HB2:Hid (Rg.Own w2 (w.heap.size+1) (kc B) 24):=hid (by rw [<-y0.out]; exact hO2); have HA2:=hid (HA1.out.upd hu2 hne1); have LO:=hid (xp.out.upd hu2 xT); have HL2:=hid (oE.out.upd hu2 (by omega) (λh=>h)); clear hO2 hu2)
  | (refine su LO.out (by rw [FF.out]; decide) 32 rfl _ _ rfl rfl rfl ?_; intro w3 hO3 hu3; have HD3:Hid (Rg.Own w3 (w.heap.size+2) (kc D) 24):=hid (by rw [<-pw.out]; exact hO3); have rm:=hid (HA2.out.upd hu3 hne2); have HB3:=hid (HB2.out.upd hu3 kt); have dC:=hid (HL2.out.upd hu3 (by omega) (λh=>h)); clear hO3 hu3)
  | (refine aB (bC sX.out rm.out.2 ⟨_,rfl,rfl⟩) ?_)
  | (refine aB (bC ll.out HB3.out.2 ⟨_,rfl,rfl⟩) ?_)
  | (refine aB (bM xr.out ⟨_,rfl,rfl⟩) ?_)
  | (refine aB (bM LI.out ⟨_,rfl,rfl⟩) ?_)
  | (refine aB (Dm (x:=(A,sx)) (z:=(B,sy)) sX.out ll.out w3.heap.size rfl ⟨_,_,rfl,rfl,rfl⟩) ?_))
 rw [kv.out];have hL3:=dC.out.below (al1 w3 (.cells ROW.toArray 60));refine (rS.out w3.heap.size _ (Rg.Own.new _ _ _) hL3).mono ?_;intro e w4 hG;obtain ⟨p4,M4,rfl,ox,hL4,ml,hb4⟩:=hL3.got hG;have bd:=hid ((HB3.out.below (al1 _ _)).below hb4);have HD4:=hid ((HD3.out.below (al1 _ _)).below hb4);have rn:=hid hL4;have nB:=hid ox;have HN:=hid (Rg.Own.new w4 #[.pointer none] 46);have gg:=hid (hL4.i.free aH);have kx:=hL4.b.size;clear hG ox hL4 ml hb4 hL3 HA1 HB1 xp oE HA2 HB2 LO HL2 rm HB3 HD3 dC HW cG y0 pw xr LI rS kv FF;go_wp2_with (first
  | (refine aB (aZ _ _ _ w4.heap.size rfl rfl) ?_)
  | (refine bD HN.out (by decide) p4 rfl _ _ rfl rfl rfl ?_; intro w5 bh ax; have aa:=hid (ax.below (al1 w4 (.cells #[.pointer none] 46)) aH); have eq:Hid (A14 w M4 w5 (w.heap.size+1) (w.heap.size+2) w4.heap.size p4 TT B D):=hid ⟨(rn.out.below (al1 _ _)).upd ax kx gg.out,bd.out.below aa.out,HD4.out.below aa.out,ll.out,FA.out,⟨bh,gg.out,iB p4⟩,nB.out⟩; clear bh ax)
  | (refine aB (aW (aV (j:=0) eq.out.bT.o rfl) ⟨_,rfl,rfl⟩) ?_)
  | (refine aB (bC ll.out eq.out.kb.2 ⟨_,rfl,rfl⟩) ?_))
 obtain ⟨g3,hg3⟩:=aA w4.heap.size
 rw [hg3] at eq;rw [hg3];obtain ⟨gb,hgb⟩:=aA (w.heap.size+1)
 rw [hgb] at eq;rw [hgb];obtain ⟨gd,hgd⟩:=aA (w.heap.size+2)
 rw [hgd] at eq;rw [hgd];clear HN rn nB gg kx hg3 hgb hgd aa bd HD4 hne1 hne2 kt xT;refine (s0.out M4 w5 p4 eq.out.l.i eq.out.hT eq.out.l.t).mono ?_;rintro e w6 ⟨a6,n6,c6,M6,rfl,hs6,ya,f6,i6,t6⟩;have HX:Hid (Stx M6 w6 a6 n6 c6 XB):=hid ⟨hs6,ya⟩;have HA:=hid (eq.out.fr f6 i6 t6);clear hs6 ya f6 i6 t6 eq s0;go_wp2_with (first
  | (refine aB (aW (aV (j:=0) HA.out.bT.o rfl) ⟨_,rfl,rfl⟩) ?_)
  | (refine aB (bC FA.out HA.out.kd.2 ⟨_,rfl,rfl⟩) ?_))
 refine (s6.out M6 w6 p4 HA.out.l.i HA.out.hT HA.out.l.t).mono ?_;rintro e w7 ⟨a7,n7,c7,M7,rfl,hs7,LR,f7,i7,t7⟩;have HY:Hid (Stx M7 w7 a7 n7 c7 XD):=hid ⟨hs7,LR⟩;replace HX:=hid (HX.out.fr f7);replace HA:=hid (HA.out.fr f7 i7 t7);clear hs7 LR f7 i7 t7 s6;go_wp2_with fail
 replace HA:=hid (HA.out.below ((Below.refl w7.heap.size w7).drew));replace HX:=hid (HX.out.below ((Below.refl w7.heap.size w7).drew));replace HY:=hid (HY.out.below ((Below.refl w7.heap.size w7).drew));refine aD (S:=λw'=>Rg.Own w' gb (kc B) 24/\Rg.Own w' gd (kc D) 24/\w'.cell? ⟨g3,0,none⟩=some (.pointer p4)) (HA.out.s) λhld=>?_;refine aj 0 ?_ (hy:=by intro wz hSw; (refine aW hSw.2.2 ?_; exact ⟨_,rfl,rfl⟩));try simp only [Act.put,au]
 refine aj 2 ?_ (hy:=by intro wz hSw; (refine bC ll.out hSw.1.2 ?_; exact ⟨_,rfl,rfl⟩));try simp only [Act.put,au]
 refine aj 3 ?_;try simp only [Act.put,au]
 refine ak 1 λK hK=>?_;go_simp;go_at_call 17
 (with_reducible refine (ee.out M7 _ p4 HA.out.l.i HA.out.hT HA.out.l.t).mono ?_)
 intro e y1 hG;obtain ⟨rfl,hA,f⟩:=HA.out.say hG;replace HA:=hid hA;replace HX:=hid (HX.out.fr f);replace HY:=hid (HY.out.fr f);clear hG hA f;refine hK.out _ _ (HA.out.s) λhld=>?_;clear hK K;try simp only [Act.put,au]
 refine ak 4 λK hK=>?_;go_simp;go_at_call 11
 (with_reducible refine (FG.out _ a6 n6 c6 HX.out.s HA.out.l.t).mono ?_)
 rintro e y2 ⟨rfl,hb⟩;replace HA:=hid (HA.out.below hb);replace HX:=hid (HX.out.below hb);replace HY:=hid (HY.out.below hb);clear hb;refine hK.out _ _ (HA.out.s) λhld=>?_;clear hK K;try simp only [Act.put,au]
 refine aj 5 ?_;try simp only [Act.put,au]
 refine aj 6 ?_;try simp only [Act.put,au]
 refine aj 7 ?_;try simp only [Act.put,au]
 refine aj 8 ?_;try simp only [Act.put,au]
 refine aj 9 ?_;try simp only [Act.put,au]
 refine aC ?_;clear hld;go_wp2_with fail
 replace HA:=hid (HA.out.below (aI.drew));replace HX:=hid (HX.out.below (aI.drew));replace HY:=hid (HY.out.below (aI.drew));refine aD (S:=λw'=>Rg.Own w' gb (kc B) 24/\Rg.Own w' gd (kc D) 24/\w'.cell? ⟨g3,0,none⟩=some (.pointer p4)) (HA.out.s) λhld=>?_;refine aj 0 ?_ (hy:=by intro wz hSw; (refine aW hSw.2.2 ?_; exact ⟨_,rfl,rfl⟩));try simp only [Act.put,au]
 refine aj 2 ?_ (hy:=by intro wz hSw; (refine bC FA.out hSw.2.1.2 ?_; exact ⟨_,rfl,rfl⟩));try simp only [Act.put,au]
 refine aj 3 ?_;try simp only [Act.put,au]
 refine ak 1 λK hK=>?_;go_simp;go_at_call 17
 (with_reducible refine (ee.out M7 _ p4 HA.out.l.i HA.out.hT HA.out.l.t).mono ?_)
 intro e y3 hG;obtain ⟨rfl,hA,f⟩:=HA.out.say hG;replace HA:=hid hA;replace HX:=hid (HX.out.fr f);replace HY:=hid (HY.out.fr f);clear hG hA f;refine hK.out _ _ (HA.out.s) λhld=>?_;clear hK K;try simp only [Act.put,au]
 refine ak 4 λK hK=>?_;go_simp;go_at_call 12
 (with_reducible refine (FO.out _ a7 n7 c7 HY.out.s HA.out.l.t).mono ?_)
 rintro e y4 ⟨rfl,hb⟩;replace HA:=hid (HA.out.below hb);replace HX:=hid (HX.out.below hb);replace HY:=hid (HY.out.below hb);clear hb;refine hK.out _ _ (HA.out.s) λhld=>?_;clear hK K;try simp only [Act.put,au]
 refine aj 5 ?_;try simp only [Act.put,au]
 refine aC ?_;clear hld;rw [T2.out];go_wp2_with fail
 replace HA:=hid (HA.out.below (aI.drew));replace HX:=hid (HX.out.below (aI.drew));replace HY:=hid (HY.out.below (aI.drew));refine aD (S:=λw'=>Rg.Own w' gb (kc B) 24/\Rg.Own w' gd (kc D) 24/\w'.cell? ⟨g3,0,none⟩=some (.pointer p4)) (HA.out.s) λhld=>?_;refine aj 0 ?_;try simp only [Act.put,au]
 refine aj 1 ?_;try simp only [Act.put,au]
 refine aj 2 ?_;try simp only [Act.put,au]
 refine aj 3 ?_;try simp only [Act.put,au]
 refine aj 4 ?_;try simp only [Act.put,au]
 refine aj 5 ?_;try simp only [Act.put,au]
 refine aj 6 ?_;try simp only [Act.put,au]
 refine aj 7 ?_;try simp only [Act.put,au]
 refine aj 8 ?_;try simp only [Act.put,au]
 refine aj 9 ?_;try simp only [Act.put,au]
 refine aj 10 ?_;try simp only [Act.put,au]
 refine aj 11 ?_ (hy:=by intro wz hSw; (refine aW hSw.2.2 ?_; exact ⟨_,rfl,rfl⟩));try simp only [Act.put,au]
 refine aj 13 ?_ (hy:=by intro wz hSw; (refine bC ll.out hSw.1.2 ?_; exact ⟨_,rfl,rfl⟩));try simp only [Act.put,au]
 refine aj 14 ?_;try simp only [Act.put,au]
 refine ak 12 λK hK=>?_;go_simp;go_at_call 17
 (with_reducible refine (ee.out M7 _ p4 HA.out.l.i HA.out.hT HA.out.l.t).mono ?_)
 intro e y5 hG;obtain ⟨rfl,hA,f⟩:=HA.out.say hG;replace HA:=hid hA;replace HX:=hid (HX.out.fr f);replace HY:=hid (HY.out.fr f);clear hG hA f;refine hK.out _ _ (HA.out.s) λhld=>?_;clear hK K;try simp only [Act.put,au]
 refine ak 15 λK hK=>?_;go_simp;go_at_call 12
 (with_reducible refine (y9.out _ a6 n6 c6 HX.out.s HA.out.l.t).mono ?_)
 rintro e y6 ⟨rfl,hb⟩;replace HA:=hid (HA.out.below hb);replace HX:=hid (HX.out.below hb);replace HY:=hid (HY.out.below hb);clear hb;refine hK.out _ _ (HA.out.s) λhld=>?_;clear hK K;try simp only [Act.put,au]
 refine aj 16 ?_;try simp only [Act.put,au]
 refine aj 17 ?_;try simp only [Act.put,au]
 refine aj 18 ?_;try simp only [Act.put,au]
 refine aj 19 ?_ (hy:=by intro wz hSw; (refine aW hSw.2.2 ?_; exact ⟨_,rfl,rfl⟩));try simp only [Act.put,au]
 refine aj 21 ?_ (hy:=by intro wz hSw; (refine bC ll.out hSw.1.2 ?_; exact ⟨_,rfl,rfl⟩));try simp only [Act.put,au]
 refine aj 22 ?_;try simp only [Act.put,au]
 refine ak 20 λK hK=>?_;go_simp;go_at_call 17
 (with_reducible refine (ee.out M7 _ p4 HA.out.l.i HA.out.hT HA.out.l.t).mono ?_)
 intro e y7 hG;obtain ⟨rfl,hA,f⟩:=HA.out.say hG;replace HA:=hid hA;replace HX:=hid (HX.out.fr f);replace HY:=hid (HY.out.fr f);clear hG hA f;refine hK.out _ _ (HA.out.s) λhld=>?_;clear hK K;try simp only [Act.put,au]
 refine ak 23 λK hK=>?_;go_simp;go_at_call 13
 (with_reducible refine (nz.out _ a6 n6 c6 HX.out.s HA.out.l.t).mono ?_)
 rintro e y8 ⟨rfl,hb⟩;replace HA:=hid (HA.out.below hb);replace HX:=hid (HX.out.below hb);replace HY:=hid (HY.out.below hb);clear hb;refine hK.out _ _ (HA.out.s) λhld=>?_;clear hK K;try simp only [Act.put,au]
 refine aj 24 ?_;try simp only [Act.put,au]
 refine aj 25 ?_;try simp only [Act.put,au]
 refine aj 26 ?_;try simp only [Act.put,au]
 refine aC ?_;clear hld;go_wp2;go_ret;exact ⟨rfl,HA.out.l.b⟩
end Tm
end
section
open Go.RowKit
namespace Tm
open Tr Ni Pk Ky
theorem Sd {a b:aN} (ha:j<a.length) (hb:j<b.length) (h:a.take j=b.take j) (hne:a.getD j 0≠b.getD j 0):ltP a b=decide ((a.getD j 0).toNat<(b.getD j 0).toNat):=by
 have e1:a=a.take j++a.getD j 0::a.drop (j+1):=by
  have:a.getD j 0=a[j]:=by simp [List.getD,ha]
  rw [this,List.getElem_cons_drop,List.take_append_drop]
 have e2:b=a.take j++b.getD j 0::b.drop (j+1):=by
  have:b.getD j 0=b[j]:=by simp [List.getD,hb]
  rw [this,List.getElem_cons_drop,h,List.take_append_drop]
 generalize a.getD j 0=x at *
 generalize b.getD j 0=y at *
 rw [e1,e2,xJ];simp [ltP,hne]
theorem Tf {a b:aN} (ha:j<a.length) (hb:j<b.length) (h:a.take j=b.take j) (he:a.getD j 0=b.getD j 0):a.take (j+1)=b.take (j+1):=by
 have e1:a.getD j 0=a[j]:=by simp [List.getD,ha]
 have e2:b.getD j 0=b[j]:=by simp [List.getD,hb]
 rw [List.take_succ_eq_append_getElem ha,List.take_succ_eq_append_getElem hb,h,<-e1,<-e2,he]
theorem Ci (a b:aN) (ha:a.length=32) (hb:b.length=32) (w:World) :
  Calls prog 35 #[.agg (kc a),.agg (kc b)] w λe w'=>e = .returned (.bool (ltP a b))/\Below w.heap.size w w':=by
 obtain ⟨w2,hw2⟩:=ay ((w.alloc (.cells (kc a) 24)).alloc (.cells (kc b) 24))
 have hB2:Below w.heap.size w w2:=by rw [hw2]; exact (aI.alloc aH _).alloc (by simp) _
 have hs2:w2.heap.size=w.heap.size+2:=by rw [hw2]; simp
 have h1:∀ q,q<32->w2.cell? ⟨w.heap.size,q,none⟩=some (.int .u8 (a.getD q 0).toNat):=λq hq=>by
  have hb:Below (w.alloc (.cells (kc a) 24)).heap.size (w.alloc (.cells (kc a) 24)) w2:=by rw [hw2]; exact aI.alloc aH _
  rw [hb.cell (p:=⟨w.heap.size,q,none⟩) (by simp),World.cell?_alloc_mark];simp [kc,List.getD,ha,hq]
 have h2:∀ q,q<32->w2.cell? ⟨w.heap.size+1,q,none⟩=some (.int .u8 (b.getD q 0).toNat):=λq hq=>by
  rw [hw2];rw [show w.heap.size+1=(w.alloc (.cells (kc a) 24)).heap.size by simp,World.cell?_alloc_mark];simp [kc,List.getD,hb,hq]
 have H1:=hid h1;have H2:=hid h2;have HB2:=hid hB2;have HW:Hid (_=_):=hid hw2;have sX:=hid ha;have ll:=hid hb;obtain ⟨A,hA⟩:=aA (kc a)
 obtain ⟨B,hB⟩:=aA (kc b)
 rw [hA,hB] at HW;rw [hA,hB];clear hA hB hw2 h1 h2 hB2 ha hb hs2;go_enter func35,ntmps35;go_wp2_with fail
 rw [<-HW.out];clear HW;go_loopw [5] (λi wr=>∃ j:Nat,j<=32/\i = .int .i64 j/\Hid (a.take j=b.take j)/\∃ q,wr=w2.drewN q) (λi _=>32-(intOf i).toNat)
 case atStart=>exact ⟨0,Nat.zero_le _,rfl,hid rfl,0,rfl⟩
 case round =>
  obtain ⟨j,hj,rfl,HT,q,rfl⟩:=hrel;by_cases hlt:j<32
  .have c1:=H1.out j hlt;have c2:=H2.out j hlt;obtain ⟨x,hx⟩:=aA (a.getD j 0)
   obtain ⟨y,hy⟩:=aA (b.getD j 0)
   rw [hx] at c1;rw [hy] at c2;have LS:=x.toNat_lt;have LT:=y.toNat_lt;by_cases he:x=y
   .have HN:=hid (Tf (by rw [sX.out]; exact hlt) (by rw [ll.out]; exact hlt) HT.out (hx.trans (he.trans hy.symm)));subst he;clear hx hy;obtain ⟨u,hu⟩:=aA x.toNat
    rw [hu] at c1 c2 LS;clear hu LT;go_wp2_with fail
    go_quiet (fail)
    go_wp2;go_roundw
    case rel=>exact ⟨j+1,by omega,by go_num,HN,(by first | exact ⟨_,rfl⟩ | exact ⟨_,World.drewN_drewN ..⟩)⟩
    case measure=>simp [intOf]; omega
   .have HE:Hid (ltP a b=decide (x.toNat<y.toNat)):=hid (by
     have:=Sd (a:=a) (b:=b) (j:=j) (by rw [sX.out]; exact hlt) (by rw [ll.out]; exact hlt) HT.out (by rw [hx,hy]; exact he);rw [hx,hy] at this;exact this)
    have hne:x.toNat≠y.toNat:=λk=>he (UInt8.toNat_inj.1 k);clear hx hy he;obtain ⟨u,hu⟩:=aA x.toNat
    obtain ⟨v,hv⟩:=aA y.toNat
    rw [hu] at c1 LS hne HE;rw [hv] at c2 LT hne HE;clear hu hv;have hd:((u:Int) != (v:Int))=true:=by simp; omega
    have hr:decide ((u:Int)<(v:Int))=decide (u<v):=by
     by_cases h:u<v
     .rw [aK h,aK (by omega)]
     .rw [decide_eq_false h,decide_eq_false (by omega)]
    have HR:=hid hr;clear hr;go_wp2_with fail
    go_quiet (fail)
    go_wp2_with fail
    go_quiet (fail)
    go_wp2;go_ret;refine ⟨by rw [HE.out,<-HR.out]; rfl,?_⟩;repeat rw [World.drewN_drewN]
    exact below_drewN HB2.out _
  .obtain rfl:j=32:=by omega
   have HE:Hid (ltP a b=false):=hid (by
    have:a=b:=by
     have h:=HT.out;rwa [List.take_of_length_le (by rw [sX.out]; exact aH),List.take_of_length_le (by rw [ll.out]; exact aH)] at h
    rw [this,ku])
   go_wp2;go_ret;exact ⟨by rw [HE.out]; rfl,below_drewN HB2.out _⟩
theorem jo:prog.underlying 42=some (.slice (prog.elem 42)):=by kernel_rfl
theorem lT (w:World):(sizeOf (prog.elem 42)).run prog w = .ok 33 w:=by kernel_rfl
def BZ (s:Nat) (a:aL) (c i:Nat):aL:=if c=i then a else a.map (·.add (i*s))
section
variable {P:Program} {t:TypeId} {a:aL} {n c s:Nat}
theorem KN (ht:P.underlying t=some (.slice (P.elem t))) (hs:∀ w,(sizeOf (P.elem t)).run P w = .ok s w) (i:Nat) (hi:i<=n) (w:World) :
  (Instr.sliceAt t (.slice a n c) (some (.int .i64 i)) none none).run P w = .ok (.slice (BZ s a c i) (n-i) (c-i)) w:=by
 rw [run_sliceAt_slice (h:=ht),run_slice_l w t a n c ht .i64 i (by omega) (by omega),hs];simp [Result.andThen,sliced,BZ]
theorem KV (ht:P.underlying t=some (.slice (P.elem t))) (hs:∀ w,(sizeOf (P.elem t)).run P w = .ok s w) (j:Nat) (hj:j<=c) (w:World) :
  (Instr.sliceAt t (.slice a n c) none (some (.int .i64 j)) none).run P w = .ok (.slice a j c) w:=by
 rw [run_sliceAt_slice (h:=ht),run_slice_h w t a n c ht .i64 j (by omega) (by omega),hs];have:a.map (λx=>x.add 0)=a:=by cases a <;> simp [Addr.add]
 simp [Result.andThen,sliced,this]
end
theorem xY {P:Program} {t:TypeId} {a:aL} {n c s:Nat} {w:World} (ht:P.underlying t=some (.slice (P.elem t))) (hs:∀ w,(sizeOf (P.elem t)).run P w = .ok s w) (hi:i<=n)
  (ho:∃ x lo,o.op = .slice t x (some lo) none none/\ev x = .slice a n c/\ev lo = .int .i64 i):(execOp ev o).run P w = .ok (.value (.slice (BZ s a c i) (n-i) (c-i))) w:=by
 obtain ⟨x,lo,ho,hx,hl⟩:=ho;unfold execOp;simp only [ho,hx,hl,Option.map_some,Option.map_none,Sem.run_bind,Sem.run_pure,Result.andThen_ok,KN ht hs i hi]
theorem sJ {P:Program} {t:TypeId} {a:aL} {n c s:Nat} {w:World} (ht:P.underlying t=some (.slice (P.elem t))) (hs:∀ w,(sizeOf (P.elem t)).run P w = .ok s w) (hj:j<=c)
  (ho:∃ x hi,o.op = .slice t x none (some hi) none/\ev x = .slice a n c/\ev hi = .int .i64 j):(execOp ev o).run P w = .ok (.value (.slice a j c)) w:=by
 obtain ⟨x,lo,ho,hx,hl⟩:=ho;unfold execOp;simp only [ho,hx,hl,Option.map_some,Option.map_none,Sem.run_bind,Sem.run_pure,Result.andThen_ok,KV ht hs j hj]
theorem getD_drop {α:Type} {l:List α} {d : α} (i j:Nat):(l.drop i).getD j d=l.getD (i+j) d:=by simp [List.getD]
theorem getD_take {α:Type} {l:List α} {d : α} (h:j<i):(l.take i).getD j d=l.getD j d:=by simp [List.getD,h]
theorem fA.from' {w:World} {a:aL} {n c:Nat} {l:List Tr.Pair} (h:fA w a n c l) (i:Nat) (hi:i<=n):fA w (BZ 33 a c i) (n-i) (c-i) (l.drop i):=by
 have h1:=h.1;have h2:=h.2.1;refine ⟨by omega,by omega,by rw [List.length_drop,h.len],λe=>?_,λx hx=>h.keys x (List.mem_of_mem_drop hx),λj hj=>?_⟩
 .unfold BZ at e;split at e
  .omega
  .have:a=none:=by simpa using e
   have:=h.2.2.2.1 this;omega
 .obtain ⟨b,off,e,hlt,hp⟩:=h.2.2.2.2.2 (i+j) (by omega);refine ⟨b,off+i*33,?_,hlt,?_⟩
  .unfold BZ;rw [if_neg (by omega),e];simp [Addr.add_mid]
  .rw [getD_drop,show off+i*33+j*33=off+(i+j)*33 by omega];exact hp
theorem fA.upto {w:World} {a:aL} {n c:Nat} {l:List Tr.Pair} (h:fA w a n c l) (i:Nat) (hi:i<=n):fA w a i c (l.take i):=by
 have h1:=h.1;refine ⟨by omega,h.2.1,by rw [List.length_take,h.len]; omega,h.2.2.2.1,λx hx=>h.keys x (List.mem_of_mem_take hx),λj hj=>?_⟩;obtain ⟨b,off,e,hlt,hp⟩:=h.2.2.2.2.2 j (by omega);exact ⟨b,off,e,hlt,by rw [getD_take hj]; exact hp⟩
theorem dx {rest:List Oper} {a:Go.Act} {w:World} {Q:Exit->Go.Act->World->Prop} {B:Nat} {nx m c:Nat} {xs ys:List Tr.Pair} (hgd:o.guard=none) (s x:Operand) (ho:o.op = .call { callee:=.builtin .append,args:=#[s,x],argTypes:=#[42,42] })
  (hs:a.eval s=v) (hx:a.eval x = .slice ad m c) (hR:w.ownsRow B 60 33 v nx (rowP xs)) (hS:fA w ad m c ys) (hn:nx+m<=1000000) (hB:B<=w.heap.size)
  (h:∀ v' w',w'.ownsRow B 60 33 v' (nx+m) (rowP (xs++ys))->w.grownBy w' v.ownBlock->(v'.ownBlock=v.ownBlock\/v'.ownBlock=some w.heap.size)->wpList prog ops Q rest (a.put o.dst v') w'):wpList prog ops Q (o::rest) a w:=by
 obtain ⟨i0,z0,hi,hz,hsz,hby,hzc⟩:=oM;have hl:=hS.len;rcases ad with _ | ad
 .have hc:c=0:=hS.2.2.2.1 rfl;have hm:m=0:=by have:=hS.1; omega
  subst hc;subst hm;have hy:ys=[]:=List.length_eq_zero_iff.1 hl;subst hy;refine wpList_append_own_none hgd s x 42 ho B 60 i0 33 underlying42 hi v nx (rowP xs) hs hR hx (h v w ?_ ⟨rfl,rfl,rfl,aH,λ_ _ _=>rfl⟩ (.inl rfl));rw [List.append_nil];exact hR
 .refine wpList_append_own_at w hgd s x 42 ho B 60 i0 z0 33 48 underlying42 hi hz hsz hby hzc (by decide) v nx (rowP xs) hs hR ad m c (rowP ys) hx (by rw [yK ys hS.keys,hl]) (λj u hu=>?_) (OA ys) (by unfold maxLen; omega) (by omega) hB (λv' w' h1 h2 _ h4=>h v' w' ?_ h2 h4)
  .have hj:j<ys.length*33:=by
    have:=(List.getElem?_eq_some_iff.1 hu).1;rwa [yK ys hS.keys] at this
   obtain ⟨b,off,e,_,hp⟩:=hS.2.2.2.2.2 (j/33) (by omega);obtain rfl:=Option.some.inj e;have hk:(rowP ys)[j/33*33+j%33]? = (gB (ys.getD (j/33) ([],eB)))[j%33]? := wU ys hS.keys (j/33) (j%33) (by omega) (Nat.mod_lt _ (by decide));rw [show j/33*33+j%33=j by omega,hu] at hk;have:=hp (j%33) u hk.symm;rw [Addr.add_mid,show off+j=off+j/33*33+j%33 by omega];exact this
  .rw [show rowP (xs++ys)=rowP xs++rowP ys by simp [rowP]];exact h1
theorem pJ {w:World} (b:Nat) (hb:b=w.heap.size) (ho:o.op = .buildSlice 42 0 #[]) :
  (execOp ev o).run prog w = .ok (.value (.slice (some ⟨b,0,none⟩) 0 0)) (w.alloc (.cells #[] 60)):=by
 subst hb;unfold execOp;rw [ho];kernel_rfl
theorem tC:∀ (S:List Tr.Pair) (x:Tr.Pair) (k:Nat),k<=S.length->(∀ y∈S.take k,ltP y.1 x.1=true)->(k<S.length->ltP (S.getD k ([],eB)).1 x.1=false)->
  qM S x=(S.take k++[x])++S.drop (if k<S.length/\(S.getD k ([],eB)).1=x.1 then k+1 else k)
 | [],x,k,hk,_,_=>by
  obtain rfl:k=0:=by simpa using hk
  rfl
 | y::r,x,0,_,_,h2=>by
  have h:=h2 (by simp);have h':ltP y.1 x.1=false:=h;unfold qM;rw [if_neg (by rw [h']; decide)];by_cases e:y.1=x.1
  .rw [if_pos e,if_pos ⟨by simp,e⟩];rfl
  .rw [if_neg e,if_neg (λg=>e g.2)];rfl
 | y::r,x,k+1,hk,h1,h2=>by
  have hy:=h1 y (by simp);have ih:=tC r x k (by simpa using hk) (λz hz=>h1 z (by rw [List.take_succ_cons]; exact List.mem_cons_of_mem _ hz)) (λg=>h2 (by simpa using g));unfold qM;rw [if_pos hy,ih];have e:(k+1<(y::r).length/\((y::r).getD (k+1) ([],eB)).1=x.1)↔(k<r.length/\(r.getD k ([],eB)).1=x.1):=by simp [List.getD]
  by_cases g:k<r.length/\(r.getD k ([],eB)).1=x.1
  .rw [if_pos g,if_pos (e.2 g)];rfl
  .rw [if_neg g,if_neg (λg'=>g (e.1 g'))];rfl
theorem EM:∀ (S:List Tr.Pair) (x:Tr.Pair),(qM S x).length<=S.length+1
 | [],_=>aH
 | y::r,x=>by
  have:=EM r x;unfold qM;split
  .simp only [List.length_cons]; omega
  .split
   .simp
   .simp
theorem FB:∀ (S:List Tr.Pair) (x:Tr.Pair),(∀ y∈S,y.1.length=32)->x.1.length=32->∀ y∈qM S x,y.1.length=32
 | [],x,_,hx,y,hy=>by rw [List.mem_singleton.1 hy]; exact hx
 | z::r,x,h,hx,y,hy=>by
  unfold qM at hy;split at hy
  .rcases List.mem_cons.1 hy with rfl | hy
   .exact h _ List.mem_cons_self
   .exact FB r x (λy hy=>h y (List.mem_cons_of_mem _ hy)) hx y hy
  .split at hy
   .rcases List.mem_cons.1 hy with rfl | hy
    .exact hx
    .exact h _ (List.mem_cons_of_mem _ hy)
   .rcases List.mem_cons.1 hy with rfl | hy
    .exact hx
    .exact h _ hy
theorem uE {l:List Tr.Pair} (h:j<l.length):gP (l.take (j+1))=qM (gP (l.take j)) (l.getD j ([],eB)):=by rw [take_at h,xI]
theorem yI (l:List Tr.Pair):∀ j,(gP (l.take j)).length<=j
 | 0=>aH
 | j+1=>by
  have:=yI l j;by_cases h:j<l.length
  .rw [uE h];exact Nat.le_trans (EM _ _) (by omega)
  .rw [List.take_of_length_le (by omega),<-List.take_of_length_le (i:=j) (l:=l) (by omega)];omega
theorem AX {l:List Tr.Pair} (hl:∀ x∈l,x.1.length=32):∀ j,∀ y∈gP (l.take j),y.1.length=32
 | 0,y,hy=>by cases hy
 | j+1,y,hy=>by
  have ih:=AX hl j;by_cases h:j<l.length
  .rw [uE h] at hy;exact FB _ _ ih (hl _ (kP h)) y hy
  .rw [List.take_of_length_le (by omega),<-List.take_of_length_le (i:=j) (l:=l) (by omega)] at hy;exact ih y hy
end Tm
end
end Go.Proofs.YtokaiemgjngcoaaGreatDoor
