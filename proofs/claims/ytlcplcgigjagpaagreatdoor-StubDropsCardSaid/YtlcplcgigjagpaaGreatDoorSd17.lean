/-
 The contract of the plain answer's Kept.
-/
import Derived.Test.YtlcplcgigjagpaaGreatDoorSd16
import Derived.Deep.Fields
import Derived.Deep.Strs
open Go.Lib (hid)
open Go.Proofs.Tryz
set_option linter.unusedSimpArgs false
set_option linter.unusedVariables false
set_option maxHeartbeats 40000000
set_option maxRecDepth 100000
namespace Go.Proofs.YtlcplcgigjagpaaGreatDoor
variable {K:Nat->Prop} {B L c g:Nat} {v:Value} {a:aJ} {o:Oper} {t:TypeId} {ev:Operand->Value}
section
open Go.RowKit
namespace Ew
open Tr Ni Pk Ky No Rf Rl Tm
def Ub (L:Nat):Prop:=∀ (l:List Tr.In),Ok L l->qp l->∀ (a:aJ) (n c:Nat) (w:World),cK w a n c l->n<=1000->∀ (ws:List Pa) (a2:aJ) (n2 c2:Nat),iM w a2 n2 c2 ws->n2<=1000->(∀ x∈ws,x.length<=1000)->
 Calls prog 18 #[.slice a n c,.slice a2 n2 c2] w (rX w (jO ws (build L l)))
def QD (on:List Pa) (s:T):List aK:=if on=[]/\(ref s).size=32 then [ref s] else jO on s
theorem Pj {on:List Pa} {s:T} {K:Nat} (g:Tr.Good s K) (hK:K<=64) (f:Fine s) (h:(ref s).size=0):QD on s=[]:=by
 obtain rfl:s = .nil:=Classical.byContradiction λe=>(mX g hK f).2 e h;unfold QD;rw [if_neg (λe=>by omega)];rfl
theorem xY {q:Pa} {ws:List Pa} (h:∀ x∈ws,x.length<=1000):∀ x∈onP q ws,x.length<=1000:=λx hx=>by
 obtain ⟨y,hy,rfl⟩:=List.mem_map.1 hx;have:=h y (List.mem_filter.1 hy).1;rw [List.length_drop];omega
theorem OO {ws:List Pa} (h:∀ x∈ws,x.length<=1000):∀ x∈onC c ws,x.length<=1000:=λx hx=>by
 obtain ⟨y,hy,rfl⟩:=List.mem_map.1 hx;have:=h y (List.mem_filter.1 hy).1;rw [List.length_tail];omega
theorem LA {ws:List Pa} (h:∀ x∈ws,x.length<=1000) (j:Nat):(ws.getD j []).length<=1000:=by
 by_cases hj:j<ws.length
 .rw [show ws.getD j []=ws[j] by simp [List.getD,hj]];exact h _ (List.getElem_mem hj)
 .rw [show ws.getD j []=[] by simp [List.getD,hj]];exact Nat.zero_le _
theorem Xa {L:Nat} (hL:L<=64) (ih:∀ m,m<L->Ub m):Ub L:=λl ok f a n c w h hn ws a2 n2 c2 hW hn2 my=>by
 by_cases hne:l=[]
 .subst hne;obtain rfl:n=0:=h.len.symm;rw [Tr.mh];have HC:=hid (yw a c w);clear h hW;go_enter func18,ntmps18;go_wp2_with fail
  refine HC.out.mono ?_;rintro e w1 ⟨rfl,hb1⟩;have HB1:=hid hb1;have hNew:=Rg.Own.new w1 (ndC nd0 none 0 0) 56;have HN:=hid hNew;clear hb1 hNew;go_wp2_with (first
   | (refine ay (aX _ _ _ w1.heap.size rfl rfl) ?_)
   | (refine bY HN.out rfl nd0 none 0 0 rfl rfl _ _ rfl rfl rfl rfl ?_; intro w4 hO4 cN; have cg:Hid (Below w1.heap.size w1 w4):=hid (cN.below (al1 _ _) aF); clear hO4 cN))
  go_ret;exact ⟨_,rfl,World.ownsRow_nil _ _ _ _,bst HB1.out cg.out⟩
 .have hnl:=h.len;have hfu:=mH L l;have hgd:=oQ L l ok;have hfi:=om L l f;have d9:=Nat.le_trans (xJ (build L l) ws hfu) (xW L l ok);have hf2:(L+1)*l.length<=65*1000:=Nat.mul_le_mul (by omega) (by omega);have HC:=hid (Bc hL (λm hm=>Ho m (by omega)) ok f hne a n c w h (by omega));have hl:=dP (build L l);have hall:∀ z∈l,z.1.length=L:=λz hz=>(ok.1 z hz).1
  have hRs:∀ (m:Nat) wz,m<=L->Below w.heap.size w wz->Calls prog 37 #[.slice a n c,.int .i64 m] wz (sH wz (bD l m)):=λm wz hm' hb=>qz l a n c m (λz hz=>by rw [hall z hz]; exact hm') wz (h.below hb) (by omega);have hBg:0<L->∀ (d:Fin 16) wz,Below w.heap.size w wz->Calls prog 38 #[.slice a n c,.int .i64 d.val] wz (sH wz (bB l d)):=λhL0 d wz hb=>yM l a n c d (λz hz=>by rw [hall z hz]; exact hL0) wz (h.below hb) (by omega)
  have fW:0<L->∀ (d:Fin 16) a' n' c' wz,cK wz a' n' c' (bB l d)->Calls prog 37 #[.slice a' n' c',.int .i64 1] wz (sH wz (bD (bB l d) 1)):=λhL0 d a' n' c' wz hi=>qz (bB l d) a' n' c' 1 (λz hz=>by rw [hall z (kQ.1 hz).1]; omega) wz hi (by rw [<-hi.len]; exact Nat.le_trans (List.length_filter_le _ _) (by omega));have hwl:ws.length<=1000:=by rw [hW.len]; exact hn2
  have gv:∀ (K:Nat) (q:Pa),0<K->K<=L->Ok (L-K) (bD l K)->∀ a' n' c' a3 n3 c3 wz,cK wz a' n' c' (bD l K)->iM wz a3 n3 c3 (onP q ws)->Calls prog 18 #[.slice a' n' c',.slice a3 n3 c3] wz (rX wz (jO (onP q ws) (build (L-K) (bD l K)))):=λK q h0 hK hok a' n' c' a3 n3 c3 wz hI hw3 =>
   ih (L-K) (by omega) _ hok (f.rest K) a' n' c' wz hI (by rw [<-hI.len]; unfold bD; rw [List.length_map]; omega) _ a3 n3 c3 hw3 (by rw [<-hw3.len]; exact Nat.le_trans (Gm q ws) hwl) (xY my)
  have gz:0<L->∀ (e:Fin 16) a' n' c' a3 n3 c3 wz,cK wz a' n' c' (bD (bB l e) 1)->iM wz a3 n3 c3 (onC e.val ws)->Calls prog 18 #[.slice a' n' c',.slice a3 n3 c3] wz (rX wz (jO (onC e.val ws) (build (L-1) (bD (bB l e) 1)))):=λhL0 e a' n' c' a3 n3 c3 wz hI hw3 =>
   ih (L-1) (by omega) _ (nC ok hL0 e) ((f.begin e).rest 1) a' n' c' wz hI (by
    rw [<-hI.len];unfold bD;rw [List.length_map];exact Nat.le_trans (List.length_filter_le _ _) (by omega)) _ a3 n3 c3 hw3 (by rw [<-hw3.len]; exact Nat.le_trans (RL _ ws) hwl) (OO my)
  have O7:=hid hW;have gA:=hid hW.len;have Hp:=hid (LA my);have AD:=zm ok hne;obtain ⟨t,ht⟩:=av (build L l)
  rw [ht] at d9 hl AD hgd hfi ⊢;rw [ht] at HC;have hxl:(jO ws t).length<=65000:=by omega
  rcases AD with ⟨p,v,rfl⟩ | ⟨K,q,vr,rS,hq,rfl,hok⟩ | ⟨hL0,rfl⟩
  .obtain ⟨N,hN⟩:=av (bM (.leaf p v))
   have cY:Hid (N.kd=1):=hid (by rw [<-hN]; rfl);have HX:Hid (jO ws (.leaf p v)=[]):=hid rfl;rw [hN] at hl HC;have HL:=hid hl;clear h hl hRs hBg fW gv gz hall ok f hnl ih hne ht hN d9 hf2 hgd hfi hfu hW my hwl;go_enter func18,ntmps18;go_wp2_with fail
   refine HC.out.mono ?_;rintro e w1 ⟨a1,n1,c1,rfl,hp1,hb1⟩;have HB1:=hid hb1;have hNew:=Rg.Own.new w1 (ndC nd0 none 0 0) 56;have HN:=hid hNew;have HP:=hid hp1;clear hb1 hNew hp1 HC;obtain ⟨g,hg⟩:=av w1.heap.size
   have HG:=hid hg;rw [hg] at HN;clear hg;go_wp2_with (first
    | (refine ay (aX _ _ _ g HG.out.symm rfl) ?_)
    | (refine bY HN.out rfl N a1 n1 c1 HL.out rfl _ _ rfl rfl rfl rfl ?_; intro w4 hO4 cN; have cn:=hid hO4; have cg:Hid (Below w1.heap.size w1 w4):=hid (cN.below (al1 _ _) (Nat.le_of_eq HG.out)); have k0:w4.cell? ⟨g,0,none⟩=some (.int .i64 1):=cY.out ▸ aU (j:=0) hO4 rfl; have k1:=(bP hO4).2.1; clear hO4 cN))
   go_ret;rw [HX.out];exact ⟨_,rfl,World.ownsRow_nil _ _ _ _,bst HB1.out cg.out⟩
  .obtain ⟨N,hN⟩:=av (bM (.ext q (build (L-K) (bD l K))))
   have cY:Hid (N.kd=2):=hid (by rw [<-hN]; rfl);have O8:Hid (N.p=q):=hid (by rw [<-hN]; rfl);have hR0:N.ks.getD 0 eB=ref (build (L-K) (bD l K)):=by rw [<-hN]; rfl
   have hX:jO ws (.ext q (build (L-K) (bD l K)))=QD (onP q ws) (build (L-K) (bD l K)):=rfl;rw [hN] at hl HC;have HL:=hid hl;have HI:=hid (λa' n' c' a3 n3 c3 wz hI hw3=>gv K q vr rS hok a' n' c' a3 n3 c3 wz hI hw3);have oY:=hid (λwz hb=>hRs K wz rS hb);rw [hX] at hxl ⊢;have hone:∀ (on:List Pa) (s:T),QD on s=if on=[]/\(ref s).size=32 then [ref s] else jO on s:=λ_ _=>rfl
   have hX2:=hone (onP q ws) (build (L-K) (bD l K));obtain ⟨R,hR⟩:=av (ref (build (L-K) (bD l K)))
   obtain ⟨ys,hys⟩:=av (jO (onP q ws) (build (L-K) (bD l K)))
   rw [hR] at hR0 hX2;rw [hys] at HI hX2;generalize QD (onP q ws) (build (L-K) (bD l K))=xs at *
   have HX:=hid hX2;have gh:=hid hR0;clear h hl hRs hBg fW gv gz hall ok f hnl ih hne ht hN d9 hf2 hgd hfi hfu hR hys hX2 hR0 hok hX hone hW my hwl;go_enter func18,ntmps18;go_wp2_with fail
   refine HC.out.mono ?_;rintro e w1 ⟨a1,n1,c1,rfl,hp1,hb1⟩;have HB1:=hid hb1;have hNew:=Rg.Own.new w1 (ndC nd0 none 0 0) 56;have HN:=hid hNew;have HP:=hid hp1;clear hb1 hNew hp1 HC;obtain ⟨g,hg⟩:=av w1.heap.size
   have HG:=hid hg;rw [hg] at HN;clear hg;go_wp2_with (first
    | (refine ay (aX _ _ _ g HG.out.symm rfl) ?_)
    | (refine bY HN.out rfl N a1 n1 c1 HL.out rfl _ _ rfl rfl rfl rfl ?_; intro w4 hO4 cN; have cn:=hid hO4; have cg:Hid (Below w1.heap.size w1 w4):=hid (cN.below (al1 _ _) (Nat.le_of_eq HG.out)); have k0:w4.cell? ⟨g,0,none⟩=some (.int .i64 2):=cY.out ▸ aU (j:=0) hO4 rfl; have k1:=(bP hO4).2.1; clear hO4 cN))
   have ap:=hid (bst HB1.out cg.out);have pH:Hid (bA w4 a1 n1 c1 N.p):=hid (HP.out.below cg.out);have tl:=hid (O7.out.below ap.out);have hsw:=ap.out.size;clear HB1 cg HN HP HG;have hq0:N.p=q:=O8.out;have hpn:q.length=n1:=by rw [<-hq0]; exact pH.out.len
   obtain rfl:n1=K:=by omega
   have wt:=k0;have k14:=k1;go_loopw [8,9] (λv i wr=>∃ j:Nat,j<=n2/\i = .int .i64 j/\Hid (kY w4.heap.size wr v (onP q (ws.take j)))/\Hid (Below w4.heap.size w4 wr)) (λ_ i _=>n2-(intOf i).toNat)
   case atStart=>exact ⟨0,Nat.zero_le _,rfl,hid (kY.nil _ _),hid aG⟩
   case round =>
    obtain ⟨j,hj,rfl,HR,HB⟩:=hrel;clear k0 k1;by_cases hlt:j<n2
    .obtain ⟨bw,ow,⟨h1,h2,h3⟩,rfl,hbw,p7,lg⟩:=tl.out.at' j hlt;have hcw:wr.cell? ⟨bw,ow+j,none⟩=some (.slice h1 h2 h3):=aV HB.out p7;have hbs:=lg.below HB.out;have Hs:=hid (BsP.old (h:=(h1,h2,h3)) lg);have hji:(j:Int)<(n2:Int):=by omega
     have hjl:j<ws.length:=by rw [gA.out]; exact hlt
     have cX:=hid (Jq q ws hjl);have hle:=Hp.out j;have iS:=hid hbs;have D7:=hid hcw;have O9:=aV HB.out k14;have hol:(onP q (ws.take j)).length<=1000000:=Nat.le_trans (Gm q _) (by rw [List.length_take]; omega);generalize ws.getD j []=x at *
     have hxn:x.length=h2:=hbs.len;have Hv:Hid (∀ wz,Below wr.heap.size wr wz->Calls prog 39 #[.slice h1 h2 h3,.slice a1 n1 c1] wz λe w'=>e = .returned (.int .i64 (cp q x:Nat))/\Below wz.heap.size wz w'):=hid (λwz hb=>by
      have:=zo h1 a1 h2 n1 h3 c1 x N.p (by omega) (by omega) wz (iS.out.below hb) ((pH.out.below HB.out).below hb);rw [uD,MH,O8.out] at this;exact this.mono λe w' ⟨g1,m,g2⟩=>⟨g1,by rw [g2]; exact below_drewN aG m⟩)
     have V4:=HB.out.size;clear hbs hcw hbw hjl p7 lg;by_cases AE:q<+:x
     .have hcp:=xZ AE;have AF:n1<=h2:=by have:=AE.length_le; omega
      have e1:(((cp q x:Nat):Int)==(n1:Int))=true:=by rw [hcp,hpn]; simp
      have e2:decide (((cp q x:Nat):Int)=(n1:Int))=true:=aI (by omega);have e3:(cp q x==n1)=true:=by rw [hcp,hpn]; simp
      have e4:decide (cp q x=n1)=true:=aI (by omega);have hst:=cX.out;rw [if_pos AE,hpn] at hst;have gE:=hid hst;generalize cp q x=cm at *
      clear hst hcp;go_wp2_with fail
      refine aB (S:=λw'=>Below wr.heap.size wr w') ((below_drewN aG 1)) λhld=>?_;refine ah 0 ?_;try simp only [Act.put,ak]
      refine ah 1 ?_;try simp only [Act.put,ak]
      refine ah 2 ?_ (hy:=by intro wz hSw; (have q0:=hji; have q1:=hlt; go_simp <;> with_reducible rfl));try simp only [Act.put,ak]
      refine ah 3 ?_ (hy:=by intro wz hSw; (refine lU (aV hSw D7.out) ?_; exact ⟨_,rfl,rfl⟩));try simp only [Act.put,ak]
      refine ah 4 ?_;try simp only [Act.put,ak]
      refine ah 5 ?_ (hy:=by intro wz hSw; (have q0:=aV hSw O9; go_simp <;> with_reducible rfl));try simp only [Act.put,ak]
      refine ah 7 ?_;try simp only [Act.put,ak]
      refine aj 6 λK hK=>?_;go_simp;go_at_call 39
      (with_reducible refine (Hv.out _ hld).mono ?_)
      rintro e wa ⟨rfl,hbx⟩;refine hK.out _ _ (bst hld hbx) λhld=>?_;clear hK K hbx;try simp only [Act.put,ak]
      refine ah 8 ?_ (hy:=by intro wz hSw; (have q0:=e1; have q1:=e2; have q2:=e3; have q3:=e4; go_simp <;> with_reducible rfl));try simp only [Act.put,ak]
      refine aA ?_;have mz:=hid hld;clear hld;have lh:=hid (bst HB.out mz.out);have tz:=hid (HR.out.below mz.out);have ZW:=hid (iS.out.below mz.out);have hcb:=aV mz.out D7.out;have V5:=hid hcb;clear hcb HR iS D7 Hv;have hal:=al1 wa (.cells #[wv (bZ h1 h3 n1,h2-n1,h3-n1)] 42);have I0:=hid (Rg.Own.new wa #[wv (bZ h1 h3 n1,h2-n1,h3-n1)] 42);have qk:=hid (tz.out.below hal);have r4:=hid (bst lh.out hal)
      have I1:Hid (BsP (λb=>u8.ownBlock≠some b) (wa.alloc (.cells #[wv (bZ h1 h3 n1,h2-n1,h3-n1)] 42)) (bZ h1 h3 n1,h2-n1,h3-n1) (x.drop n1)):=hid (by
       have hb4:Below w4.heap.size w4 (wa.alloc (.cells #[wv (bZ h1 h3 n1,h2-n1,h3-n1)] 42)):=r4.out;have h5:=Hs.out.kept hb4.size λb hp _=>hb4.block b hp;exact (Cb h5 n1 AF).to λb _ hp e=>by have:=(qk.out.lt b e).1; omega)
      have hBw:w4.heap.size<=(wa.alloc (.cells #[wv (bZ h1 h3 n1,h2-n1,h3-n1)] 42)).heap.size:=r4.out.size;go_wp2_with (first
       | (refine ay (lU V5.out ⟨_,rfl,rfl⟩) ?_)
       | (refine ay (jI (a:=h1) (n:=h2) (c:=h3) (i:=n1) gY jf AF ⟨_,_,rfl,rfl,rfl⟩) ?_)
       | (refine ay (tN (h:=(bZ h1 h3 n1,h2-n1,h3-n1)) wa.heap.size rfl ⟨_,rfl,rfl⟩) ?_)
       | (refine oh qk.out I0.out I1.out hol hBw rfl ⟨_,_,rfl,rfl,rfl⟩ ?_; intro v' wd hrd hgd2 hld; have eL:=hid hrd; have jz:Hid (Below w4.heap.size w4 wd):=hid (r4.out.grown hgd2 r4.out.size (λk hk=>(qk.out.lt k hk).1)); clear hrd hgd2 hld))
      go_roundw
      case rel=>exact ⟨j+1,by omega,by go_num,hid (by rw [gE.out]; exact eL.out),jz⟩
      case measure=>simp [intOf]; omega
     .have hcp:=xX AE;have e1:(((cp q x:Nat):Int)==(n1:Int))=false:=by rw [beq_eq_false_iff_ne]; omega
      have e2:decide (((cp q x:Nat):Int)=(n1:Int))=false:=decide_eq_false (by omega);have e3:(cp q x==n1)=false:=by rw [beq_eq_false_iff_ne]; omega
      have e4:decide (cp q x=n1)=false:=decide_eq_false (by omega);have hst:=cX.out;rw [if_neg AE,List.append_nil] at hst;have gE:=hid hst;generalize cp q x=cm at *
      clear hst hcp;go_wp2_with fail
      refine aB (S:=λw'=>Below wr.heap.size wr w') ((below_drewN aG 1)) λhld=>?_;refine ah 0 ?_;try simp only [Act.put,ak]
      refine ah 1 ?_;try simp only [Act.put,ak]
      refine ah 2 ?_ (hy:=by intro wz hSw; (have q0:=hji; have q1:=hlt; go_simp <;> with_reducible rfl));try simp only [Act.put,ak]
      refine ah 3 ?_ (hy:=by intro wz hSw; (refine lU (aV hSw D7.out) ?_; exact ⟨_,rfl,rfl⟩));try simp only [Act.put,ak]
      refine ah 4 ?_;try simp only [Act.put,ak]
      refine ah 5 ?_ (hy:=by intro wz hSw; (have q0:=aV hSw O9; go_simp <;> with_reducible rfl));try simp only [Act.put,ak]
      refine ah 7 ?_;try simp only [Act.put,ak]
      refine aj 6 λK hK=>?_;go_simp;go_at_call 39
      (with_reducible refine (Hv.out _ hld).mono ?_)
      rintro e wa ⟨rfl,hbx⟩;refine hK.out _ _ (bst hld hbx) λhld=>?_;clear hK K hbx;try simp only [Act.put,ak]
      refine ah 8 ?_ (hy:=by intro wz hSw; (have q0:=e1; have q1:=e2; have q2:=e3; have q3:=e4; go_simp <;> with_reducible rfl));try simp only [Act.put,ak]
      refine aA ?_;have mz:=hid hld;clear hld;have lh:=hid (bst HB.out mz.out);have tz:=hid (HR.out.below mz.out);go_wp2;go_roundw
      case rel=>exact ⟨j+1,by omega,by go_num,hid (by rw [gE.out]; exact tz.out),lh⟩
      case measure=>simp [intOf]; omega
    .have htk:ws.take j=ws:=List.take_of_length_le (by rw [gA.out]; omega);have hge:¬ ((j:Int)<(n2:Int)):=by omega
     rw [htk] at HR;obtain ⟨a3,c3,e3,hw3⟩:=HR.out.done;subst e3;have HOr:=cn.out.below HB.out;have ZX:=aV HB.out wt;have OF:wr.cell? ⟨g,3+0,none⟩=some (.string R):=gh.out ▸ nJ HOr HL.out 0 (by decide);have ey:=hid (bst ap.out HB.out);have km:=ey.out.size;obtain ⟨m,hm⟩:=av ((onP q ws).length)
     rw [hm] at hw3 ⊢;have HW3:=hid hw3;have hnm:onP q ws=[]↔m=0:=by rw [<-hm]; exact List.length_eq_zero_iff.symm
     clear HR hw3 HOr htk hm;by_cases hm0:m=0
     .have m1:((m:Int)==0)=true:=by rw [hm0]; rfl
      have m2:decide ((m:Int)=0)=true:=aI (by omega);have m3:(m==0)=true:=by rw [hm0]; rfl
      have m4:decide (m=0)=true:=aI hm0;have hon:=hnm.2 hm0;clear hnm;subst hm0;by_cases h32:R.size=32
      .have cG:=HX.out;rw [if_pos ⟨hon,h32⟩] at cG;have dg:=hid cG;clear cG hon;have s1:((R.size:Int)==32)=true:=by rw [h32]; rfl
       have s2:decide ((R.size:Int)=32)=true:=aI (by omega);have s3:(R.size==32)=true:=by rw [h32]; rfl
       have s4:decide (R.size=32)=true:=aI h32;have AG:Hid (rX w xs (.returned _) (wr.alloc (.cells #[.string R] 9))):=hid ⟨_,rfl,by rw [dg.out]; exact wW (row_one wr R) km,bst ey.out (al1 _ _)⟩;go_wp2;go_ret;exact AG.out
      .have cG:=HX.out;rw [if_neg (λe=>h32 e.2)] at cG;have dg:=hid cG;clear cG hon;have s1:((R.size:Int)==32)=false:=by rw [beq_eq_false_iff_ne]; omega
       have s2:decide ((R.size:Int)=32)=false:=decide_eq_false (by omega);have s3:(R.size==32)=false:=by rw [beq_eq_false_iff_ne]; exact h32
       have s4:decide (R.size=32)=false:=decide_eq_false h32;go_wp2_with fail
       refine (oY.out wr ey.out).mono ?_;rintro e w8 ⟨a8,n8,c8,rfl,gi,cJ⟩;have gO:=hid gi;have pe:=hid (HW3.out.below cJ);have du:=hid (bst ey.out cJ);clear gi cJ;go_wp2_with fail
       refine (HI.out a8 n8 c8 a3 0 c3 w8 gO.out pe.out).mono ?_;rintro e w9 ⟨v9,rfl,dC,bj⟩;have AG:Hid (rX w xs (.returned _) w9):=hid ⟨_,rfl,by rw [dg.out]; exact wW dC du.out.size,bst du.out bj⟩;clear dC bj;go_wp2;go_ret;exact AG.out
     .have m1:((m:Int)==0)=false:=by rw [beq_eq_false_iff_ne]; omega
      have m2:decide ((m:Int)=0)=false:=decide_eq_false (by omega);have m3:(m==0)=false:=by rw [beq_eq_false_iff_ne]; exact hm0
      have m4:decide (m=0)=false:=decide_eq_false hm0;have cG:=HX.out;rw [if_neg (λe=>hm0 (hnm.1 e.1))] at cG;have dg:=hid cG;have V6:=hid hm0;clear cG hnm hm0;go_wp2_with fail
      refine (oY.out wr ey.out).mono ?_;rintro e w8 ⟨a8,n8,c8,rfl,gi,cJ⟩;have gO:=hid gi;have pe:=hid (HW3.out.below cJ);have du:=hid (bst ey.out cJ);clear gi cJ;go_wp2_with fail
      refine (HI.out a8 n8 c8 a3 m c3 w8 gO.out pe.out).mono ?_;rintro e w9 ⟨v9,rfl,dC,bj⟩;have AG:Hid (rX w xs (.returned _) w9):=hid ⟨_,rfl,by rw [dg.out]; exact wW dC du.out.size,bst du.out bj⟩;clear dC bj;go_wp2;go_ret;exact AG.out
  .obtain ⟨N,hN⟩:∃ N,bM (.br λd=>build (L-1) (bD (bB l d) 1))=N:=⟨_,rfl⟩
   have cY:Hid (N.kd=3):=hid (by rw [<-hN]; rfl);obtain ⟨rr,hrr⟩:∃ rr:Fin 16->aK,(λd=>ref (build (L-1) (bD (bB l d) 1)))=rr:=⟨_,rfl⟩
   obtain ⟨ll,hll⟩:∃ ll:Fin 16->List aK,(λd:Fin 16=>jO (onC d.val ws) (build (L-1) (bD (bB l d) 1)))=ll:=⟨_,rfl⟩
   obtain ⟨ff,r5⟩:∃ ff:Fin 16->List aK,(λd:Fin 16=>QD (onC d.val ws) (build (L-1) (bD (bB l d) 1)))=ff:=⟨_,rfl⟩
   have I2:Hid (∀ d:Fin 16,N.ks.getD d.val eB=rr d):=hid (λd=>by rw [<-hN,<-congrFun hrr d]; exact kJ (λi=>ref (build (L-1) (bD (bB l i) 1))) d);have I3:Hid (∀ d,(rr d).size=0->ff d=[]):=hid (λd hz=>by
    rw [<-congrFun r5 d];rw [<-congrFun hrr d] at hz;exact Pj (hgd.2.2 d) (by omega) (hfi d) hz)
   have u0:Hid (∀ d:Fin 16,ff d=if onC d.val ws=[]/\(rr d).size=32 then [rr d] else ll d):=hid (λd=>by
    rw [<-congrFun r5 d,<-congrFun hrr d,<-congrFun hll d];rfl)
   have hX:jO ws (.br λd=>build (L-1) (bD (bB l d) 1))=dW ff 16:=by
    rw [En,<-r5];rfl
   rw [hN] at hl HC;have HL:=hid hl;have lh:=hid (λd wz hb=>hBg hL0 d wz hb);have oY:=hid (λd a' n' c' wz hI=>fW hL0 d a' n' c' wz hI);have HI:Hid (∀ (e:Fin 16) a' n' c' a3 n3 c3 wz,cK wz a' n' c' (bD (bB l e) 1)->iM wz a3 n3 c3 (onC e.val ws)->Calls prog 18 #[.slice a' n' c',.slice a3 n3 c3] wz (rX wz (ll e))):=hid (λe a' n' c' a3 n3 c3 wz hI hw3=>by
    have:=gz hL0 e a' n' c' a3 n3 c3 wz hI hw3;have e2:=congrFun hll e;try dsimp only at e2
    rw [e2] at this;exact this)
   rw [hX] at hxl ⊢;clear h hl hRs hBg fW gv gz hall ok f hnl ih hne ht hN d9 hf2 hgd hfi hfu hX hrr hll r5 hW my hwl;go_enter func18,ntmps18;go_wp2_with fail
   refine HC.out.mono ?_;rintro e w1 ⟨a1,n1,c1,rfl,hp1,hb1⟩;have HB1:=hid hb1;have hNew:=Rg.Own.new w1 (ndC nd0 none 0 0) 56;have HN:=hid hNew;have HP:=hid hp1;clear hb1 hNew hp1 HC;obtain ⟨g,hg⟩:=av w1.heap.size
   have HG:=hid hg;rw [hg] at HN;clear hg;go_wp2_with (first
    | (refine ay (aX _ _ _ g HG.out.symm rfl) ?_)
    | (refine bY HN.out rfl N a1 n1 c1 HL.out rfl _ _ rfl rfl rfl rfl ?_; intro w4 hO4 cN; have cn:=hid hO4; have cg:Hid (Below w1.heap.size w1 w4):=hid (cN.below (al1 _ _) (Nat.le_of_eq HG.out)); have k0:w4.cell? ⟨g,0,none⟩=some (.int .i64 3):=cY.out ▸ aU (j:=0) hO4 rfl; have k1:=(bP hO4).2.1; clear hO4 cN))
   have ap:=hid (bst HB1.out cg.out);have pH:Hid (bA w4 a1 n1 c1 N.p):=hid (HP.out.below cg.out);have tl:=hid (O7.out.below ap.out);have hsw:=ap.out.size;clear HB1 cg HN HP HG;have wt:=k0;clear k0 k1;have I4:Hid (∀ j,j<=16->(dW ff j).length<=65000):=hid (λj hj=>Nat.le_trans (BI ff (16-j) j (by omega)) hxl);go_loopw [10,11,12,13] (λv i _ _ wr=>∃ j:Nat,j<=16/\i = .int .i64 j/\Hid (wr.ownsRow w4.heap.size 9 1 v (dW ff j).length ((dW ff j).map Value.string))/\Hid (Below w4.heap.size w4 wr)) (λ_ i _ _ _=>16-(intOf i).toNat)
   case atStart=>exact ⟨0,Nat.zero_le _,rfl,hid (World.ownsRow_nil _ _ _ _),hid aG⟩
   case round =>
    obtain ⟨j,hj,rfl,HR,s0⟩:=hrel;by_cases hlt:j<16
    .obtain ⟨wo,rfl⟩:=au wr
     have I5:=hid (bst ap.out s0.out);have hji:(j:Int)<16:=by omega
     have HS:=hid (vI ff hlt);have hl1:=I4.out (j+1) (by omega);have I6:=hid (tl.out.below s0.out);go_wp2_with fail
     go_loopw [12,13] (λv i wr=>∃ q:Nat,q<=n2/\i = .int .i64 q/\Hid (kY wo.heap.size wr v (onC j (ws.take q)))/\Hid (Below wo.heap.size wo wr)) (λ_ i _=>n2-(intOf i).toNat)
     case atStart=>exact ⟨0,Nat.zero_le _,rfl,hid (kY.nil _ _),hid aG⟩
     case round =>
      obtain ⟨i,hi,rfl,ik,fh⟩:=hrel;by_cases OK:i<n2
      .obtain ⟨bw,ow,⟨h1,h2,h3⟩,rfl,hbw,p7,lg⟩:=I6.out.at' i OK;have hcw:wr.cell? ⟨bw,ow+i,none⟩=some (.slice h1 h2 h3):=aV fh.out p7;have hbs:=lg.below fh.out;have Hs:=hid (BsP.old (h:=(h1,h2,h3)) lg);have hii:(i:Int)<(n2:Int):=by omega
       have hil:i<ws.length:=by rw [gA.out]; exact OK
       have cX:=hid (RZ j ws hil);have hol:(onC j (ws.take i)).length<=1000000:=Nat.le_trans (RL j _) (by rw [List.length_take]; omega);generalize ws.getD i []=x at *
       have hxn:x.length=h2:=hbs.len;have iS:=hid hbs;clear hbw p7 lg hil;cases x with
       | nil =>
        obtain rfl:h2=0:=hxn.symm;have hst:=cX.out;rw [if_neg (λe=>e.1 rfl),List.append_nil] at hst;have gE:=hid hst;clear hst cX hbs;have D8:=hid (ik.out);go_wp2;go_roundw
        case rel=>exact ⟨i+1,by omega,by go_num,hid (by rw [gE.out]; exact ik.out),fh⟩
        case measure=>simp [intOf]; omega
       | cons ch r =>
        have hp:0<h2:=by rw [<-hxn]; simp
        obtain ⟨b1,o1,rfl,_,hc1⟩:=hbs.at' 0 hp;have hc1':wr.cell? ⟨b1,o1,none⟩=some (.int .u8 ch.toNat):=by simpa using hc1
        have p0:(0:Int)<(h2:Int):=by omega
        have p1:decide ((0:Int)<(h2:Int))=true:=aI p0;have p2:decide ((h2:Int)>0)=true:=aI p0;have p3:decide (0<h2)=true:=aI hp;have hc256:(ch.toNat:Int)<256:=by have:=ch.toNat_lt; omega
        have hwc:IntKind.i64.wrap (ch.toNat:Int)=ch.toNat:=IntWalk.i64_in _ (by omega);have hst:=cX.out;clear hbs hc1 cX;by_cases hcj:ch.toNat=j
        .have e1:((ch.toNat:Int)==(j:Int))=true:=by rw [hcj]; simp
         have e2:decide ((ch.toNat:Int)=(j:Int))=true:=aI (by omega);have e3:(ch.toNat==j)=true:=by rw [hcj]; simp
         have e4:decide (ch.toNat=j)=true:=aI hcj;rw [if_pos ⟨by simp,hcj⟩] at hst;have gE:=hid hst;have AF:1<=h2:=hp;have ON:=hcw;have ZY:=hid ON;have hal:=al1 wr (.cells #[wv (bZ (some ⟨b1,o1,none⟩) h3 1,h2-1,h3-1)] 42);have I0:=hid (Rg.Own.new wr #[wv (bZ (some ⟨b1,o1,none⟩) h3 1,h2-1,h3-1)] 42);have qk:=hid (ik.out.below hal);have r4:=hid (bst fh.out hal)
         have I1:Hid (BsP (λb=>u12.ownBlock≠some b) (wr.alloc (.cells #[wv (bZ (some ⟨b1,o1,none⟩) h3 1,h2-1,h3-1)] 42)) (bZ (some ⟨b1,o1,none⟩) h3 1,h2-1,h3-1) r):=hid (by
          have hb4:=r4.out;have h5:=Hs.out.kept hb4.size λb hp _=>hb4.block b hp;exact (Cb h5 1 AF).to λb _ hp e=>by have:=(qk.out.lt b e).1; omega)
         have hBw:=r4.out.size;clear hst ON hal;go_wp2_with (first
          | (refine ay (jI (a:=some ⟨b1,o1,none⟩) (n:=h2) (c:=h3) (i:=1) gY jf AF ⟨_,_,rfl,rfl,rfl⟩) ?_)
          | (refine ay (tN (h:=(bZ (some ⟨b1,o1,none⟩) h3 1,h2-1,h3-1)) wr.heap.size rfl ⟨_,rfl,rfl⟩) ?_)
          | (refine oh qk.out I0.out I1.out hol hBw rfl ⟨_,_,rfl,rfl,rfl⟩ ?_; intro v' wd hrd hgd2 hld; have eL:=hid hrd; have jz:Hid (Below wo.heap.size wo wd):=hid (r4.out.grown hgd2 r4.out.size (λk hk=>(qk.out.lt k hk).1)); clear hrd hgd2 hld))
         go_roundw
         case rel=>exact ⟨i+1,by omega,by go_num,hid (by rw [gE.out]; exact eL.out),jz⟩
         case measure=>simp [intOf]; omega
        .have e1:((ch.toNat:Int)==(j:Int))=false:=by rw [beq_eq_false_iff_ne]; omega
         have e2:decide ((ch.toNat:Int)=(j:Int))=false:=decide_eq_false (by omega);have e3:(ch.toNat==j)=false:=by rw [beq_eq_false_iff_ne]; exact hcj
         have e4:decide (ch.toNat=j)=false:=decide_eq_false hcj;rw [if_neg (λe=>hcj e.2),List.append_nil] at hst;have gE:=hid hst;clear hst;have D8:=hid (ik.out);go_wp2;go_roundw
         case rel=>exact ⟨i+1,by omega,by go_num,hid (by rw [gE.out]; exact ik.out),fh⟩
         case measure=>simp [intOf]; omega
      .have htk:ws.take i=ws:=List.take_of_length_le (by rw [gA.out]; omega);have hge:¬ ((i:Int)<(n2:Int)):=by omega
       rw [htk] at ik;obtain ⟨a3,c3,e3,hw3⟩:=ik.out.done;subst e3;have ey:=hid (bst I5.out fh.out);have km:=ey.out.size;have HOr:=cn.out.below (bst s0.out fh.out);have OF:wr.cell? ⟨g,3+j,none⟩=some (.string (rr ⟨j,hlt⟩)):=I2.out ⟨j,hlt⟩ ▸ nJ HOr HL.out j hlt;have r6:=hid (u0.out ⟨j,hlt⟩);have r7:=hid (I3.out ⟨j,hlt⟩);obtain ⟨RJ,AH⟩:=av (rr ⟨j,hlt⟩)
       rw [AH] at OF r6 r7;obtain ⟨m,hm⟩:=av ((onC j ws).length)
       rw [hm] at hw3 ⊢;have HW3:=hid hw3;have hnm:onC j ws=[]↔m=0:=by rw [<-hm]; exact List.length_eq_zero_iff.symm
       clear ik hw3 HOr htk hm AH;by_cases hz:RJ.size=0
       .have hE:=No.dU hz;have hf0:=r7.out hz;have yd:Hid (wr.ownsRow w4.heap.size 9 1 u10 (dW ff (j+1)).length ((dW ff (j+1)).map Value.string)):=hid (by
         rw [HS.out,hf0,List.append_nil];exact ng HR.out fh.out)
        have cT:=hid (bst s0.out fh.out);subst hE;clear hf0 r6 r7;go_wp2;go_roundw
        case rel=>exact ⟨j+1,by omega,by go_num,yd,cT⟩
        case measure=>simp [intOf]; omega
       .have hRe:=Ni.dz (s:=RJ) (by omega);have hRl:(RJ.toList==[])=false:=by
         rw [ByteArray.toList_eq] at hRe ⊢;cases hd:RJ.data.toList with
         | nil=>rw [hd] at hRe; cases hRe
         | cons _ _=>rfl
        have u1:Hid (dW ff (j+1)=dW ff j++if onC j ws=[]/\RJ.size=32 then [RJ] else ll ⟨j,hlt⟩):=hid (by rw [HS.out,r6.out]);clear r6 r7 hz HS;by_cases hm0:m=0
        .have m1:((m:Int)==0)=true:=by rw [hm0]; rfl
         have m2:decide ((m:Int)=0)=true:=aI (by omega);have m3:(m==0)=true:=by rw [hm0]; rfl
         have m4:decide (m=0)=true:=aI hm0;have hon:=hnm.2 hm0;clear hnm;subst hm0;by_cases h32:RJ.size=32
         .have cG:=u1.out;rw [if_pos ⟨hon,h32⟩] at cG;have dg:=hid cG;clear cG hon;have s1:((RJ.size:Int)==32)=true:=by rw [h32]; rfl
          have s2:decide ((RJ.size:Int)=32)=true:=aI (by omega);have s3:(RJ.size==32)=true:=by rw [h32]; rfl
          have s4:decide (RJ.size=32)=true:=aI h32;have gS:=hid (row_one wr RJ);have bj:=al1 wr (.cells #[.string RJ] 9);have j9:=hid (ng HR.out (bst fh.out bj));have cT:=hid (bst s0.out (bst fh.out bj));have hsz:=cT.out.size;have hyl:(dW ff j).length+[RJ].length<=1000000:=by
           rw [dg.out,List.length_append] at hl1;omega
          clear bj;go_wp2_with (first
           | (at_builtin; refine dO rfl _ _ rfl rfl rfl j9.out gS.out hyl hsz ?_))
          intro v' ai h10 cr _;have hlk:=j9.out.lt;have cD:Hid (Below w4.heap.size w4 ai):=hid (cT.out.grown cr hsz (λk hk=>(hlk k hk).1));have db:Hid (ai.ownsRow w4.heap.size 9 1 v' (dW ff (j+1)).length ((dW ff (j+1)).map Value.string)):=hid (by rw [dg.out,List.length_append,List.map_append]; exact h10);clear h10 cr;go_wp2;go_roundw
          case rel=>exact ⟨j+1,by omega,by go_num,db,cD⟩
          case measure=>simp [intOf]; omega
         .have cG:=u1.out;rw [if_neg (λe=>h32 e.2)] at cG;have dg:=hid cG;clear cG hon;have s1:((RJ.size:Int)==32)=false:=by rw [beq_eq_false_iff_ne]; omega
          have s2:decide ((RJ.size:Int)=32)=false:=decide_eq_false (by omega);have s3:(RJ.size==32)=false:=by rw [beq_eq_false_iff_ne]; exact h32
          have s4:decide (RJ.size=32)=false:=decide_eq_false h32;go_wp2_with fail
          refine (lh.out ⟨j,hlt⟩ wr ey.out).mono ?_;rintro e w7 ⟨a7,n7,c7,rfl,AI,cP⟩;have AK:=hid AI;have cC:=hid cP;clear AI cP;go_wp2_with fail
          refine (oY.out ⟨j,hlt⟩ a7 n7 c7 w7 AK.out).mono ?_;rintro e w8 ⟨a8,n8,c8,rfl,gi,cJ⟩;have gO:=hid gi;have du:=hid (bst cC.out cJ);have pe:=hid (HW3.out.below du.out);clear gi cJ AK cC;go_wp2_with fail
          refine (HI.out ⟨j,hlt⟩ a8 n8 c8 a3 0 c3 w8 gO.out pe.out).mono ?_;rintro e w9 ⟨v9,rfl,dC,bj⟩;have hZ:=bst du.out bj;have j9:=hid (ng HR.out (bst fh.out hZ));have cT:=hid (bst s0.out (bst fh.out hZ));have gS:=hid dC;have hsz:=cT.out.size;have hyl:(dW ff j).length+(ll ⟨j,hlt⟩).length<=1000000:=by
           rw [dg.out,List.length_append] at hl1;omega
          clear dC bj hZ gO pe;go_wp2_with (first
           | (at_builtin; refine dO rfl _ _ rfl rfl rfl j9.out gS.out hyl hsz ?_))
          intro v' ai h10 cr _;have hlk:=j9.out.lt;have cD:Hid (Below w4.heap.size w4 ai):=hid (cT.out.grown cr hsz (λk hk=>(hlk k hk).1));have db:Hid (ai.ownsRow w4.heap.size 9 1 v' (dW ff (j+1)).length ((dW ff (j+1)).map Value.string)):=hid (by rw [dg.out,List.length_append,List.map_append]; exact h10);clear h10 cr;go_wp2;go_roundw
          case rel=>exact ⟨j+1,by omega,by go_num,db,cD⟩
          case measure=>simp [intOf]; omega
        .have m1:((m:Int)==0)=false:=by rw [beq_eq_false_iff_ne]; omega
         have m2:decide ((m:Int)=0)=false:=decide_eq_false (by omega);have m3:(m==0)=false:=by rw [beq_eq_false_iff_ne]; exact hm0
         have m4:decide (m=0)=false:=decide_eq_false hm0;have cG:=u1.out;rw [if_neg (λe=>hm0 (hnm.1 e.1))] at cG;have dg:=hid cG;have V6:=hid hm0;clear cG hnm hm0;go_wp2_with fail
         refine (lh.out ⟨j,hlt⟩ wr ey.out).mono ?_;rintro e w7 ⟨a7,n7,c7,rfl,AI,cP⟩;have AK:=hid AI;have cC:=hid cP;clear AI cP;go_wp2_with fail
         refine (oY.out ⟨j,hlt⟩ a7 n7 c7 w7 AK.out).mono ?_;rintro e w8 ⟨a8,n8,c8,rfl,gi,cJ⟩;have gO:=hid gi;have du:=hid (bst cC.out cJ);have pe:=hid (HW3.out.below du.out);clear gi cJ AK cC;go_wp2_with fail
         refine (HI.out ⟨j,hlt⟩ a8 n8 c8 a3 m c3 w8 gO.out pe.out).mono ?_;rintro e w9 ⟨v9,rfl,dC,bj⟩;have hZ:=bst du.out bj;have j9:=hid (ng HR.out (bst fh.out hZ));have cT:=hid (bst s0.out (bst fh.out hZ));have gS:=hid dC;have hsz:=cT.out.size;have hyl:(dW ff j).length+(ll ⟨j,hlt⟩).length<=1000000:=by
          rw [dg.out,List.length_append] at hl1;omega
         clear dC bj hZ gO pe;go_wp2_with (first
          | (at_builtin; refine dO rfl _ _ rfl rfl rfl j9.out gS.out hyl hsz ?_))
         intro v' ai h10 cr _;have hlk:=j9.out.lt;have cD:Hid (Below w4.heap.size w4 ai):=hid (cT.out.grown cr hsz (λk hk=>(hlk k hk).1));have db:Hid (ai.ownsRow w4.heap.size 9 1 v' (dW ff (j+1)).length ((dW ff (j+1)).map Value.string)):=hid (by rw [dg.out,List.length_append,List.map_append]; exact h10);clear h10 cr;go_wp2;go_roundw
         case rel=>exact ⟨j+1,by omega,by go_num,db,cD⟩
         case measure=>simp [intOf]; omega
    .obtain rfl:j=16:=by omega
     have HE:Hid (rX w (dW ff 16) (.returned _) wr):=hid ⟨_,rfl,wW HR.out hsw,bst ap.out s0.out⟩;go_wp2;go_ret;exact HE.out
theorem RA (L:Nat):L<=64->Ub L:=by
 induction L using Nat.strongRecOn with
 | ind L ih=>exact λhL=>Xa hL λm hm=>ih m hm (by omega)
end Ew
end
section
open Go.RowKit
namespace Sx
open Tr Ni Pk Ky No Rf Rl Tm
open Sm (Tab)
def Zp (w:World) (l:aL) (e:Ending) (w':World):Prop:=∃ r:Hdl,e = .returned (.slice r.1 r.2.1 r.2.2)/\BsP (λb=>w.heap.size<=b) w' r l/\Below w.heap.size w w'
theorem Kr (s:aK) (hs:s.size<=1000) (w:World) :
  Calls prog 64 #[.string s] w (Zp w (iB s)):=by
 obtain ⟨m,hm⟩:=av (2*s.size)
 have hmk:=run_make_row' (P:=prog) 42 5 (.int .u8 0) 1 underlying42 Ni.mK rfl .i64 .i64 m (by omega) (by omega);have e:((m:Nat):Int)=2*(s.size:Int):=by omega
 rw [e] at hmk;have HS:=hid (Spr.start w s);rw [hm] at HS;have HM:=hid hm;have hm2:m<=2*s.size:=by omega
 clear e hm;go_enter func64,ntmps64;go_wp2_with fail
 refine (fZ _ _).mono ?_;rintro e w1 ⟨rfl,rfl⟩;go_wp2;clear hmk;go_loopw [14] (λi wr=>∃ k:Nat,k<=m/\i = .int .i64 k/\Spr w s k wr) (λi _=>m-(intOf i).toNat)
 case atStart=>exact ⟨0,Nat.zero_le _,rfl,HS.out⟩
 case round =>
  obtain ⟨k,hk,rfl,hS⟩:=hrel;by_cases hlt:k<m
  .have hc:=hS.2.1;have hz:=hS.1.lt;have hcell:wr.cell? ⟨w.heap.size+1,k,none⟩=some (.int .u8 0):=by
    rw [hS.1.cell (by rw [HM.out]; exact hlt)]; simp
   have hfr:=hS.1.frozen k;go_wp2_with fail
   refine (qc _ s k (by unfold maxLen; omega) (by omega) _ hc).mono ?_;rintro e w2 ⟨rfl,rfl⟩;go_wp2;go_roundw
   case rel=>exact ⟨k+1,by omega,by go_num,hS.next (by rw [HM.out]; exact hlt)⟩
   case measure=>simp [intOf]; omega
  .obtain rfl:k=m:=by omega
   have HG:Hid (bA wr (some ⟨w.heap.size+1,0,none⟩) k k (iB s)):=hid (by
    refine bA.ofRow (iB s) (by unfold maxLen; omega) (by have:=hS.1; rw [HM.out] at this; exact this) (by rw [gQ,HM.out]) (λj hj=>?_);rw [if_pos hj,mg s j (by rw [HM.out]; exact hj)])
   have hB:=hS.2.2;go_wp2;go_ret;exact ⟨(some ⟨w.heap.size+1,0,none⟩,k,k),rfl,⟨HG.out,λad e _=>by obtain rfl:=(Option.some.inj e).symm; exact Nat.le_succ _⟩,hB⟩
theorem Sv (k:aL) (hk:k.length=32) (w:World) :
  Calls prog 34 #[.agg (kc k)] w (Zp w (bT k)):=by
 have h0:bA (w.alloc (.cells (kc k) 25)) (some ⟨w.heap.size,0,none⟩) k.length k.length k:=bA.new w k (by unfold maxLen; omega) _ _ rfl;rw [hk] at h0;have hcv:=kZ h0;obtain ⟨s,hs⟩:=av (⟨k.toArray⟩:aK)
 have hsz:s.size=32:=by rw [<-hs]; show k.toArray.size=32; simp [hk]
 have HP:Hid (bT k=Ni.iB s):=hid (by unfold bT; rw [hs]);have F0:=hid (λwx=>Kr s (by omega) wx);rw [hs] at hcv;obtain ⟨C,hC⟩:=av (kc k)
 rw [hC] at hcv ⊢;clear h0 hs hC hsz hk;go_enter func34,ntmps34;go_wp2_with fail
 refine (F0.out _).mono ?_;rintro e w1 ⟨r,rfl,hx,hb⟩;go_wp2;go_ret;exact ⟨r,rfl,by rw [HP.out]; exact hx.to λb _ hp=>Nat.le_trans (by simp) hp,((Below.refl w.heap.size w).alloc aF _).trans (hb.mono (by simp))⟩
theorem Ms (a b:aJ) (n m c d:Nat) (x y:aL) (w:World) (ha:bA w a n c x) (hb:bA w b m d y) :
  Calls prog 161 #[.slice a n c,.slice b m d] w λe w'=>e = .returned (.bool (decide (x=y)))/\w=w':=by
 have h1:=kZ ha;have h2:=kZ hb;have HE:Hid (((⟨x.toArray⟩:aK).toList==(⟨y.toArray⟩:aK).toList)=decide (x=y)):=hid (by
  rw [str_eq];by_cases e:x=y
  .subst e; simp
  .rw [decide_eq_false e,decide_eq_false (λg=>e (by
    have:=congrArg (λb:aK=>b.data.toList) g;simpa using this))])
 clear ha hb;generalize hX:(⟨x.toArray⟩:aK)=X at *
 generalize hY:(⟨y.toArray⟩:aK)=Y at *
 go_enter func161,ntmps161;go_wp2;go_ret;exact ⟨by rw [<-HE.out]; rfl,rfl⟩
theorem Ld (a b:aJ) (n m c d:Nat) (x y:aL) (hn:n<=m) (hm:m<=1000000) (w:World) (ha:bA w a n c x) (hb:bA w b m d y) :
  Calls prog 134 #[.slice b m d,.slice a n c] w λe w'=>e = .returned (.bool (decide (x<+:y)))/\w=w':=by
 have HL:=hid (Ms b a n n d c (y.take n) x w (MP hb n hn) ha);have HR:Hid (decide (y.take n=x)=decide (x<+:y)):=hid (by
  have:=ha.len;by_cases e:x<+:y
  .rw [aI e,aI];rw [<-this];exact (List.prefix_iff_eq_take.1 e).symm
  .rw [decide_eq_false e,decide_eq_false];intro g;exact e (by rw [<-g]; exact List.take_prefix _ _))
 have hmd:=hb.1;have hi:(n:Int)<=(m:Int):=by omega
 have hc:n<=d:=by omega
 clear ha hb;go_enter func134,ntmps134;go_wp2_with (first
  | (refine Rg.runW (by rfl) _ _ (Aq (j:=n) gY jf hc ⟨_,_,rfl,rfl,rfl⟩) ?_))
 refine HL.out.mono ?_;rintro e w1 ⟨rfl,rfl⟩;go_wp2;go_ret;exact ⟨by rw [<-HR.out]; rfl,rfl⟩
theorem PV (a b:aJ) (n m c d:Nat) (x y:aL) (hn:m<n) (w:World) (ha:bA w a n c x) (hb:bA w b m d y) :
  Calls prog 134 #[.slice b m d,.slice a n c] w λe w'=>e = .returned (.bool (decide (x<+:y)))/\w=w':=by
 have HR:Hid (decide (x<+:y)=false):=hid (decide_eq_false λh=>by
  have h1:=h.length_le;have h2:=ha.len;have h3:=hb.len;omega)
 have hi:¬ (n:Int)<=(m:Int):=by omega
 have hi2:decide ((n:Int)<=(m:Int))=false:=decide_eq_false hi;rw [HR.out];clear ha hb HR;go_enter func134,ntmps134;go_wp2;go_ret;exact ⟨rfl,rfl⟩
theorem Vj (a b:aJ) (n m c d:Nat) (x y:aL) (hm:m<=1000000) (w:World) (ha:bA w a n c x) (hb:bA w b m d y) :
  Calls prog 134 #[.slice b m d,.slice a n c] w λe w'=>e = .returned (.bool (decide (x<+:y)))/\w=w':=by
 by_cases h:n<=m
 .exact Ld a b n m c d x y h hm w ha hb
 .exact PV a b n m c d x y (by omega) w ha hb
theorem Ro (a b:aJ) (n m c d:Nat) (x y:aL) (hm:m<=1000000) (w:World) (ha:bA w a n c x) (hb:bA w b m d y) :
  Calls prog 99 #[.slice b m d,.slice a n c] w λe w'=>e = .returned (if x<+:y then .tuple #[.slice (bZ b d n) (m-n) (d-n),.bool true] else .tuple #[.slice b m d,.bool false])/\(x<+:y->n<=m)/\w=w':=by
 have HP:=hid (Vj a b n m c d x y hm w ha hb);have hlen:x<+:y->n<=m:=λh=>by
  have h1:=h.length_le;have h2:=ha.len;have h3:=hb.len;omega
 have HL:=hid hlen;clear ha hb;by_cases h:x<+:y
 .have hnm:=hlen h;rw [if_pos h];rw [aI h] at HP;clear hlen h;go_enter func99,ntmps99;go_wp2_with fail
  refine HP.out.mono ?_;rintro e w1 ⟨rfl,rfl⟩;go_wp2_with (first
   | (refine ay (jI gY jf hnm ⟨_,_,rfl,rfl,rfl⟩) ?_))
  go_ret2
  exact ⟨rfl,HL.out,rfl⟩
 .rw [if_neg h];rw [decide_eq_false h] at HP;clear hlen h;go_enter func99,ntmps99;go_wp2_with fail
  refine HP.out.mono ?_;rintro e w1 ⟨rfl,rfl⟩;go_wp2;go_ret2
  exact ⟨rfl,HL.out,rfl⟩
theorem OH {w:World} {xs:List Pa} (h:Ew.kY B w v xs):∃ a c,v = .slice a xs.length c:=by
 obtain ⟨_,_,ho,_⟩:=h;rcases ho.2 with ⟨rfl,h0⟩ | ⟨g,cap,cur,rfl,_⟩
 .exact ⟨_,_,by rw [h0]⟩
 .exact ⟨_,_,rfl⟩
theorem KI (a b:aJ) (n m c d:Nat) (ws:List Pa) (q:Pa) (w:World) (hW:Ew.iM w a n c ws) (hB:bA w b m d q) (hn:n<=1000) (hk:∀ x∈ws,x.length<=64) :
  Calls prog 66 #[.slice a n c,.slice b m d] w λe w'=>∃ v,e = .returned v/\Ew.kY w.heap.size w' v (onP q ws)/\Below w.heap.size w w':=by
 have HW:=hid hW;have HB:=hid hB;have HK:=hid hk;have HL:=hid hW.len;clear hW hB hk;go_enter func66,ntmps66;go_wp2;go_loopw [5,12] (λv0 i wr=>∃ (j:Nat) (v:Value),v=v0/\j<=n/\i = .int .i64 j/\Hid (Ew.kY w.heap.size wr v (onP q (ws.take j)))/\Hid (Below w.heap.size w wr)) (λ_ i _=>n-(intOf i).toNat)
 case atStart=>exact ⟨0,_,rfl,Nat.zero_le _,rfl,hid (Ew.kY.nil _ _),hid aG⟩
 case round =>
  obtain ⟨j,v,rfl,hj,rfl,HR,cA⟩:=hrel;by_cases hlt:j<n
  .have i1:(j:Int)<(n:Int):=by omega
   obtain ⟨k,off,⟨ha,hm,hc⟩,rfl,cI,hcell,hbs⟩:=HW.out.at' j hlt;have hjl:j<ws.length:=by rw [HL.out]; exact hlt
   have cX:=hid (Jq q ws hjl);have hxl:(ws.getD j []).length<=64:=HK.out _ (by rw [List.getD_eq_getElem?_getD,List.getElem?_eq_getElem hjl]; exact List.getElem_mem _);have hol:=Gm q (ws.take j);rw [List.length_take] at hol;have s8:Hid ((onP q (ws.take j)).length<=1000000):=hid (by omega);have HC:=hid ((Below.cell (p:=⟨k,off+j,none⟩) cA.out cI).trans hcell);have AM:=hid (Ro b ha m hm d hc q (ws.getD j []) (by have:=hbs.len; have h2:(ws.getD j []).length=hm:=this; omega) wr (HB.out.below cA.out) (hbs.below cA.out))
   have ja:Hid (∀ w2,Below wr.heap.size wr w2->BsP (λz=>v.ownBlock≠some z) w2 (ha,hm,hc) (ws.getD j [])):=hid (λw2 hb=>by
    have h1:=(BsP.old (h:=(ha,hm,hc)) hbs).kept (w':=w2) (Nat.le_trans cA.out.size hb.size) λz hz _=>(hb.block z (aH hz cA.out.size)).trans (cA.out.block z hz);exact h1.to λz _ hz e=>by have:=(HR.out.lt z e).1; omega)
   obtain ⟨x,hx⟩:=av (ws.getD j [])
   rw [hx] at cX AM ja;have V7:=hid (show m=q.length from HB.out.len.symm);clear hcell hbs hxl hx hjl cI hol;by_cases hq:q<+:x
   .rw [if_pos hq] at cX AM;have HQ:=hid hq;clear hq;go_wp2_with (first
     | (refine ay (Ew.lU HC.out ⟨_,rfl,rfl⟩) ?_))
    refine AM.out.mono ?_;rintro e w1 ⟨rfl,hle,rfl⟩;have hA:=al1 wr (.cells #[Ew.wv (bZ ha hc m,hm-m,hc-m)] 42);have HA:=hid hA;have ke:Hid (BsP (λz=>v.ownBlock≠some z) (wr.alloc (.cells #[Ew.wv (bZ ha hc m,hm-m,hc-m)] 42)) (bZ ha hc m,hm-m,hc-m) (x.drop q.length)):=hid (by
     rw [<-V7.out];exact Ew.Cb (ja.out _ hA) m (hle HQ.out))
    have mw:=hid (HR.out.below hA);have dd:Hid (w.heap.size<=(wr.alloc (.cells #[Ew.wv (bZ ha hc m,hm-m,hc-m)] 42)).heap.size):=hid (Nat.le_trans cA.out.size hA.size);clear hA hle;go_wp2_with (first
     | (refine ay (Ew.tN (h:=(bZ ha hc m,hm-m,hc-m)) wr.heap.size rfl ⟨_,rfl,rfl⟩) ?_)
     | (refine Ew.oh mw.out (Rg.Own.new wr _ _) ke.out s8.out dd.out rfl ⟨_,_,rfl,rfl,rfl⟩ ?_))
    intro v' w5 ej hg5 _;have ew:=hid ej;have ae:Hid (Below w.heap.size w w5):=hid ((cA.out.trans (HA.out.mono cA.out.size)).grown hg5 dd.out (λg hg=>(mw.out.lt g hg).1));clear ej hg5;go_wp2;go_roundw
    case rel=>exact ⟨j+1,_,rfl,by omega,by go_num,by rw [cX.out]; exact ew,ae⟩
    case measure=>simp [intOf]; omega
   .rw [if_neg hq] at cX AM;clear hq;go_wp2_with (first
     | (refine ay (Ew.lU HC.out ⟨_,rfl,rfl⟩) ?_))
    refine AM.out.mono ?_;rintro e w1 ⟨rfl,hle,rfl⟩;go_wp2;go_roundw
    case rel=>exact ⟨j+1,_,rfl,by omega,by go_num,by rw [cX.out,List.append_nil]; exact HR,cA⟩
    case measure=>simp [intOf]; omega
  .obtain rfl:j=n:=by omega
   have af:Hid (Ew.kY w.heap.size wr v (onP q ws)):=hid (by
    have:=HR.out;rwa [<-HL.out,List.take_length] at this)
   go_wp2;go_ret;exact ⟨v,rfl,af.out,cA.out⟩
end Sx
end
section
open Go.RowKit Go.ChangeShapes Go.WideShapes Go.Deep
namespace Ew
open Tr Ni Pk Ky Tm
section
variable {H:Type} {enc:TypeId × Value->H} {w:World} {fuel:Nat} {cs:List Value} {x:DataW H × List MemPlace}
def wC (k:aL):List Value:=k.map λb=>Value.int .u8 b.toNat
theorem BU {k:aL} (h:k.length=32):(wC k).length=32:=by simp [wC,h]
def qy (w:World) (a:aJ) (n c:Nat) (l:List (aL)):Prop :=
 n<=c/\c<=maxLen/\l.length=n/\(a=none->c=0)/\(∀ x∈l,x.length=32)/\∀ j,j<n->∃ b off,a=some ⟨b,off,none⟩/\b<w.heap.size/\w.rangeAt b (off+j*32) (wC (l.getD j []))
theorem qy.len {w:World} {n:Nat} {l:List (aL)} (h:qy w a n c l):l.length=n:=h.2.2.1
theorem qy.keys {w:World} {n:Nat} {l:List (aL)} (h:qy w a n c l):∀ x∈l,x.length=32:=h.2.2.2.2.1
theorem qy.at' {w:World} {n:Nat} {l:List (aL)} (h:qy w a n c l) (j:Nat) (hj:j<n):∃ b off,a=some ⟨b,off,none⟩/\b<w.heap.size/\w.rangeAt b (off+j*32) (wC (l.getD j []))/\(l.getD j []).length=32:=by
 obtain ⟨b,off,e,hlt,hp⟩:=h.2.2.2.2.2 j hj;refine ⟨b,off,e,hlt,hp,h.keys _ ?_⟩;have hl:=h.len;rw [List.getD_eq_getElem?_getD,List.getElem?_eq_getElem (by omega)];exact List.getElem_mem _
theorem qy.below {w w':World} {n:Nat} {l:List (aL)} (h:qy w a n c l) (hb:Below w.heap.size w w'):qy w' a n c l :=
 ⟨h.1,h.2.1,h.2.2.1,h.2.2.2.1,h.2.2.2.2.1,λj hj=>by
  obtain ⟨b,off,e,hlt,hp⟩:=h.2.2.2.2.2 j hj;exact ⟨b,off,e,aH hlt hb.size,λi v hv=>aV hb (hp i v hv)⟩⟩
theorem Km:prog.cellsOf 23=1:=by kernel_rfl
theorem Ov:prog.cellsOf 22=1:=by kernel_rfl
theorem JY:prog.cellsOf 27=35:=by kernel_rfl
theorem Wh (h:DataW.trod enc prog w 0 (λ_=>true) true fuel 23 cs=some x):∃ a n cap l,cs=[.slice a n cap]/\qy w a n cap l:=by
 rcases open_slice underlying23 h with ⟨rfl,_⟩ | ⟨ad,len,cap,m,n,D,Pl,rfl,_,hl,hm,hmm,_,hel⟩
 .exact ⟨none,0,0,[],rfl,⟨aF,Nat.zero_le _,rfl,λ_=>rfl,λ_ h=>(by cases h),λ_ h=>absurd h (Nat.not_lt_zero _)⟩⟩
 .have hmm':m=cap:=by simpa using hmm
  subst hmm';have cell:∀ i,i<m->∃ y:aL,y.length=32/\∀ j,j<32->w.cell? ((ad.add (i*32)).add j)=(wC y)[j]? := λi hi=>by
   obtain ⟨cs',h1,h2⟩:=hel i hi;obtain ⟨y,hy,rfl⟩:=LB h2;obtain ⟨_,hcl,hat⟩:=World.cells?_some h1;rw [uO] at hat;exact ⟨y,hy,hat⟩
  obtain ⟨F,hF⟩:=choose_lt (α:=aL) cell;refine ⟨some ad,len,m,(List.range len).map F,rfl,hl,hm,by simp,λe=>(by cases e),λx hx=>?_,λj hj=>?_⟩
  .obtain ⟨i,hi,rfl⟩:=List.mem_map.1 hx;exact (hF i (by have:=List.mem_range.1 hi; omega)).1
  .have ti:=hF j (by omega);have z8:=hF 0 (by omega);obtain ⟨b,off,spot⟩:=ad;have hc0:=z8.2 0 (by omega);have hp0:(wC (F 0))[0]? = some ((wC (F 0))[0]'(by rw [BU z8.1]; omega)):=List.getElem?_eq_getElem _;rw [hp0] at hc0;have hspot:spot=none:=by simpa [Addr.add] using World.cell?_spot hc0
   subst hspot;have hget:((List.range len).map F).getD j []=F j:=by simp [List.getD,hj]
   rw [hget];have hat:w.rangeAt b (off+j*32) (wC (F j)):=λi v hv=>by
    have hi:i<32:=by
     have:=(List.getElem?_eq_some_iff.1 hv).1;rwa [BU ti.1] at this
    have:=ti.2 i hi;rw [Addr.add_mid,Addr.add_mid] at this;rw [this,hv]
   refine ⟨b,off,rfl,?_,hat⟩;have hz:=hat 0 ((wC (F j))[0]'(by rw [BU ti.1]; omega)) (List.getElem?_eq_getElem _);exact World.block_lt_of_cell? w _ hz
end
def EM (a:aJ) (n c:Nat) (D:Int) (ka:aJ) (kn kc2:Nat) (k:aL):aM:=(.slice a n c :: .int .i64 D :: .slice ka kn kc2::wC k).toArray
theorem Xh {H:Type} {enc:TypeId × Value->H} {w:World} {base:Nat} {v:Value} {d:DataW H} {p:List MemPlace}
  (hv:Value.okWide prog w .any base 27 v) (h:DataW.Trod enc prog w 0 (λ_=>true) true 27 v d p) :
  ∃ (a:aJ) (n c:Nat) (l:List Tr.Pair) (D:Int) (ka:aJ) (kn kc2:Nat) (ks:List (aL)) (k:aL),v = .agg (EM a n c D ka kn kc2 k)/\mq w a n c l/\(Lit.int .i64 D).wf=true/\qy w ka kn kc2 ks/\k.length=32:=by
 obtain ⟨cs,rfl,hsz⟩:=okWide_struct underlying27 hv;obtain ⟨fuel,hf⟩:=h;obtain ⟨xs,n,_,hx,hl,hlen,hat⟩:=DataW.trod_struct underlying27 hf;obtain ⟨cl⟩:=cs;have hcl:(Value.agg ⟨cl⟩).cells.toList=cl:=rfl;rw [hcl] at hl hat;rw [JY] at hl
 match cl,hl with
 | v0::v1::v2::r,hl =>
  have hr:r.length=32:=by simpa using hl
  match xs,hlen with
  | [y0,y1,y2,y3],_ =>
   have g0:DataW.trod enc prog w 0 (λ_=>true) true n 22 (((v0::v1::v2::r).drop 0).take (prog.cellsOf 22))=some y0:=hat 0 _ rfl;have g1:DataW.trod enc prog w 0 (λ_=>true) true n 3 (((v0::v1::v2::r).drop 1).take (prog.cellsOf 3))=some y1:=hat 1 _ rfl;have g2:DataW.trod enc prog w 0 (λ_=>true) true n 23 (((v0::v1::v2::r).drop 2).take (prog.cellsOf 23))=some y2:=hat 2 _ rfl
   have g3:DataW.trod enc prog w 0 (λ_=>true) true n 25 (((v0::v1::v2::r).drop 3).take (prog.cellsOf 25))=some y3:=hat 3 _ rfl;rw [Ov] at g0;rw [OB] at g1;rw [Km] at g2;rw [uO] at g3;have e3:((v0::v1::v2::r).drop 3).take 32=r:=List.take_of_length_le (by simp [hr]);rw [e3] at g3;obtain ⟨a,m,c,l,e0,hP⟩:=WW g0;obtain ⟨D,e1,_,hD⟩:=DataW.trod_int underlying3 g1;obtain ⟨ka,kn,kc2,ks,e2,hK⟩:=Wh g2;obtain ⟨k,hk,hk2⟩:=LB g3;simp at e0 e1 e2;subst e0 e1 e2
   refine ⟨a,m,c,l,D,ka,kn,kc2,ks,k,?_,hP,hD,hK,hk⟩;unfold EM wC;rw [hk2]
end Ew
end
section
open Go.RowKit
namespace Sx
open Tr Ni Pk Ky No Rf Rl Tm
open Sm (Tab)
structure Kp (M0:Mp) (w0:World) (M:Mp) (w:World):Prop where
 size:w0.heap.size<=w.heap.size
 block:∀ k,k<w0.heap.size->M0.at_ k=none->w.heap[k]? = w0.heap[k]?
 mono:∀ k t,M0.at_ k=some t->M.at_ k=some t
 fresh:∀ k,k<w0.heap.size->M0.at_ k=none->M.at_ k=none
 foot:∀ k,k<w0.heap.size->M.ft k->M0.ft k
theorem Kp.refl (M:Mp) (w:World):Kp M w M w:=⟨aF,λ_ _ _=>rfl,λ_ _ h=>h,λ_ _ h=>h,λ_ _ h=>h⟩
theorem XT (M0:Mp) (w0:World):JOk w0.heap.size (λ_=>False) (Kp M0 w0) :=
 ⟨λ_ _ _ _ hj _ hs hk hm hf hx=>⟨Nat.le_trans hj.size hs,λk hl h0=>(hk k hl (hj.fresh k hl h0)).trans (hj.block k hl h0),λk t h=>hm k t (hj.mono k t h),λk hl h0=>hx k hl (hj.fresh k hl h0),λk hl h=>hj.foot k hl (hf k hl h)⟩,λ_ _ _ _ _ h=>h.elim,λ_ h=>h.elim,λ_ _ hj=>hj.size⟩
section
variable {M0 M:Mp} {w0 w:World}
theorem Kp.cell (h:Kp M0 w0 M w) {b o:Nat} (hb:b<w0.heap.size) (hm:M0.at_ b=none):w.cell? ⟨b,o,none⟩=w0.cell? ⟨b,o,none⟩:=World.cell?_of_block (w:=w0) (h.block b hb hm)
theorem Kp.bs (h:Kp M0 w0 M w) (hi:Inv M0 w0) {n:Nat} {l:aL} (g:bA w0 a n c l):bA w a n c l:=by
 refine ⟨g.1,g.2.1,g.2.2.1,g.2.2.2.1,λj hj=>?_⟩;obtain ⟨b,off,e,hlt,hc⟩:=g.2.2.2.2 j hj;exact ⟨b,off,e,aH hlt h.size,by rw [h.cell hlt (hi.eG hc)]; exact hc⟩
theorem Kp.ws (h:Kp M0 w0 M w) (hi:Inv M0 w0) {n:Nat} {l:List Pa} (g:Ew.iM w0 a n c l) (hf:∀ ad,a=some ad->¬ M0.ft ad.block):Ew.iM w a n c l :=
 ⟨g.1,g.2.1,g.2.2.1,g.2.2.2.1,λj hj=>by
  obtain ⟨b,off,x,e,hlt,hp,hb⟩:=g.2.2.2.2 j hj;exact ⟨b,off,x,e,aH hlt h.size,by rw [h.cell hlt (lM hi (hf _ e))]; exact hp,h.bs hi hb⟩⟩
theorem Kp.bx (h:Kp M0 w0 M w) (hi:Inv M0 w0) {cs:aM} (b:Bx M0 w0 g cs t):Bx M w g cs t:=⟨⟨aH b.o.1 h.size,(h.block g b.o.1 (lM hi b.n)).trans b.o.2⟩,λe=>b.n (h.foot g b.o.1 e),b.h⟩
end
def RK (ws:List Pa) (st:Pa) (s:T):Du:=if onP st ws=[] then none else some (eD (onP st ws) s,dL (eD (onP st ws) s))
theorem LG (ws:List Pa):nM (RK ws)=sW ws:=by
 funext st s;unfold nM RK sW;by_cases h:(ref s).size=32
 .rw [if_pos h,if_pos h];by_cases hd:onP st ws=[]
  .rw [if_pos hd,if_pos hd]; rfl
  .rw [if_neg hd,if_neg hd]; rfl
 .rw [if_neg h,if_neg h]
theorem Mq {ws:List Pa} {st:Pa} {s:T} (hs:dL s=0):lN (RK ws) st s=dL (sW ws st s):=by
 unfold lN RK sW;by_cases h:(ref s).size=32
 .rw [if_pos h,if_pos h];by_cases hd:onP st ws=[]
  .rw [if_pos hd,if_pos hd]; rfl
  .rw [if_neg hd,if_neg hd]; rfl
 .rw [if_neg h,if_neg h]; exact hs.symm
theorem PK {t:T} (g:Tr.Good t L) (hL:L<=64) (f:Fine t) (hf:Tr.Full t) (ws:List Pa):OkF (nM (RK ws)) (lN (RK ws)) t/\rW (nM (RK ws)) t=eD ws t/\jQ (lN (RK ws)) t (bC t).length=dL (eD ws t):=by
 have e:∀ j,j<(bC t).length->lN (RK ws) ((dK t).getD j []) ((bC t).getD j .nil)=dL (sW ws ((dK t).getD j []) ((bC t).getD j .nil)):=λj hj=>Mq (IG g f hf hj);have h:=TI g hL f (Ot ws);rw [LG];refine ⟨h.congr e,Iw ws t,?_⟩;rw [Bh (C:=λst s=>dL (sW ws st s)) e,DF _ _ (nY hf),Iw]
theorem Zv (a:aJ) (n c:Nat):∀ (j:Nat) (x:Int),(#[Value.slice a n c]:aM)[j]? ≠ some (Value.int .u8 x):=λj x h=>by
 match j,h with
 | 0,h=>simp at h
 | j+1,h=>simp at h
theorem Cz {w:World} {b:Nat} (hc:w.cell? ⟨b,0,none⟩=some v) (ho:∃ x,o.op = .load 41 x/\ev x = .pointer (some ⟨b,0,none⟩)) :
  (execOp ev o).run prog w = .ok (.value v) w:=by
 obtain ⟨x,ho,hx⟩:=ho;unfold execOp;simp [ho,hx,go_sem,hc]
def MU (L:Nat):Prop:=∀ (x:T),Tr.Good x L->Fine x->Tr.Full x->∀ (ws:List Pa),(∀ y∈ws,y.length<=64)->∀ (M:Mp) (w:World) (p a:aJ) (n c:Nat),n<=1000->Ew.iM w a n c ws->(∀ ad,a=some ad->¬ M.ft ad.block)->Inv M w->Tab w->IsT M p x->
 Calls prog 35 #[tv p,.slice a n c] w (iC (λ_=>False) (λ_ _=>True) M w (eD ws x) (dL (eD ws x)))
theorem xY {q:Pa} {ws:List Pa} (h:∀ y∈ws,y.length<=64):∀ y∈onP q ws,y.length<=64:=λy hy=>by
 obtain ⟨z,hz,rfl⟩:=List.mem_map.1 hy;have:=h z (List.mem_filter.1 hz).1;rw [List.length_drop];omega
theorem Oa {M0:Mp} {w0:World} (hi0:Inv M0 w0) {pb bs:Nat} (hbs:w0.heap.size<=bs) {a:aJ} {n c:Nat} (hpb:Bx M0 w0 pb #[.slice a n c] 41) {ws:List Pa} (hws:Ew.iM w0 a n c ws) (hwf:∀ ad,a=some ad->¬ M0.ft ad.block) (hn:n<=1000) (hsh:∀ y∈ws,y.length<=64) (st:Pa) (s:T) (L:Nat) (gr:MU L) (g:Tr.Good s L) (f:Fine s) (hf:Tr.Full s) :
  Ay (λ_=>False) (JB (Kp M0 w0) bs (.func (.func 65) #[] #[.pointer (some ⟨pb,0,none⟩)]) 84) 65 #[.pointer (some ⟨pb,0,none⟩)] st s (RK ws st s):=by
 have hJ2:=(XT M0 w0).box hbs (.func (.func 65) #[] #[.pointer (some ⟨pb,0,none⟩)]) 84;obtain ⟨vS,At⟩:=av (Value.func (.func 65) #[] #[.pointer (some ⟨pb,0,none⟩)])
 rw [At] at hJ2 ⊢;clear At;intro M w b m d p hj hi hT hB ht;show Calls prog 65 #[.slice b m d,.agg #[.pointer p],.pointer (some ⟨pb,0,none⟩)] w _;obtain ⟨w1,hw1⟩:=au ((w.alloc (.cells #[.pointer p] 31)).alloc (.cells (chA none 0) 81))
 have hb1:Below w.heap.size w w1:=by rw [hw1]; exact al2 _ _ _
 have ag:Rg.Own w1 w.heap.size #[.pointer p] 31:=by rw [hw1]; exact (Rg.Own.new _ _ _).below (al1 _ _)
 have hX1:Rg.Own w1 (w.heap.size+1) (chA none 0) 81:=by
  have:=Rg.Own.new (w.alloc (.cells #[.pointer p] 31)) (chA none 0) 81;rw [hw1];simpa using this
 have hS1:=(Sg.start hJ2 hi hT hj).below hJ2 hb1;have oX:=hid (KI a b n m c d ws st w1 (hS1.j.1.ws hi0 hws hwf) (hB.below hb1) hn hsh);have HC:Hid (w1.cell? ⟨pb,0,none⟩=some (.slice a n c)):=hid (Tm.aU (j:=0) (hS1.j.1.bx hi0 hpb).o rfl);have cd:=hid hS1;have bd:Hid (Bx M w1 (w.heap.size+1) (chA none 0) 81):=hid ⟨hX1,hi.free (Nat.le_succ _),kD _ _⟩;have bc:Hid (Bx M w1 w.heap.size #[.pointer p] 31):=hid ⟨ag,hi.free aF,bX _⟩;have HW1:=hid hw1;have HJ:=hid hJ2;have HT:=hid ht
 have ap:Hid (bs+1<=w.heap.size/\0<w.heap.size):=hid ⟨hJ2.sz M w hj,hT.pos⟩;have s9:Hid ((onP st ws).length<=1000/\∀ y∈onP st ws,y.length<=64):=hid ⟨Nat.le_trans (Gm st ws) (by rw [hws.len]; exact hn),xY hsh⟩;have fp:=hid (gr s g f hf (onP st ws) s9.out.2 M);obtain ⟨gT,ct⟩:=av w.heap.size
 obtain ⟨gX,cf⟩:=av (w.heap.size+1)
 have ce:Hid (gX=w.heap.size+1):=hid cf.symm;have eE:Hid (w.heap.size=gT):=hid ct;rw [cf] at bd;rw [ct] at bc;clear hb1 ag hX1 hS1 hi hT hj ht hB hJ2 gr hw1 ct cf hws hwf hn hsh hpb hbs g f hf hi0;by_cases h1:onP st ws=[]
 .have hr:RK ws st s=none:=if_pos h1;rw [hr];rw [h1] at oX;clear h1 hr fp s9;go_enter func65,ntmps65;go_wp2_with (first
   | (refine ay (bJ _ _ _ gX (by rw [ce.out]; simp) rfl) ?_; rw [<-HW1.out,eE.out])
   | (refine ay (Cz HC.out ⟨_,rfl,rfl⟩) ?_))
  refine oX.out.mono ?_;rintro e w2 ⟨v,rfl,hR,hb2⟩;obtain ⟨a2,c2,rfl⟩:=OH hR;have HS2:=hid (cd.out.below HJ.out hb2);have cv:=hid (bd.out.below hb2);have af:Hid (∀ w9,Rg.Upd w2 gX w9->Jj (λ_=>False) (JB (Kp M0 w0) bs vS 84) M w none (.returned (.tuple #[.agg (chA none 0),.bool false])) w9):=hid (λw9 hu=>by
   have h:=HS2.out.upd HJ.out ap.out.1 ap.out.2 hu (by rw [ce.out]; exact Nat.le_succ _) cv.out.n;exact ⟨rfl,h.f,h.i,h.t,h.j⟩)
  clear hR hb2 oX bd bc cd HC;go_wp2_with (first
   | (refine ay (bK Dx ⟨_,rfl,rfl⟩) ?_)
   | (refine bE cv.out.o rfl none 0 rfl _ _ rfl rfl rfl rfl ?_; intro w9 al aq; have bi:Hid (Rg.Own w9 gX (chA none 0) 81):=hid al; have cM:=hid (af.out w9 aq); clear al aq))
  exact bodyPost_ret (Ar (u:=5) (v:=6) rfl _ rfl bi.out) rfl cM.out
 .have hr:RK ws st s=some (eD (onP st ws) s,dL (eD (onP st ws) s)):=if_neg h1;rw [hr];have hpos:(onP st ws).length≠0:=λe=>h1 (List.length_eq_zero_iff.1 e);obtain ⟨t',ht'⟩:=av (eD (onP st ws) s)
  rw [ht'] at fp ⊢;obtain ⟨k,hk⟩:=av (dL t')
  rw [hk] at fp ⊢;obtain ⟨cc,hcc⟩:=av (gH k)
  have fS:=hid hcc;clear hr h1 ht' hk hcc;go_enter func65,ntmps65;go_wp2_with (first
   | (refine ay (bJ _ _ _ gX (by rw [ce.out]; simp) rfl) ?_; rw [<-HW1.out,eE.out])
   | (refine ay (Cz HC.out ⟨_,rfl,rfl⟩) ?_))
  refine oX.out.mono ?_;rintro e w2 ⟨v,rfl,hR,hb2⟩;have hlt:=hR.lt;obtain ⟨a2,c2,rfl,hW2⟩:=hR.done;have HS2:=hid (cd.out.below HJ.out hb2);have cv:=hid (bd.out.below hb2);have dm:=hid (bc.out.below hb2);have u2:=hid (fp.out w2 p a2 (onP st ws).length c2 s9.out.1 hW2 (λad e=>cd.out.i.free (by subst e; exact (hlt ad.block rfl).1)) HS2.out.i HS2.out.t HT.out);obtain ⟨l,hl⟩:=av ((onP st ws).length)
  rw [hl] at hpos u2 ⊢;have b0:((l:Int)==0)=false:=by rw [beq_eq_false_iff_ne]; omega
  have b1:decide ((l:Int)=0)=false:=decide_eq_false (by omega);have b2:(l==0)=false:=by rw [beq_eq_false_iff_ne]; exact hpos
  have b3:decide (l=0)=false:=decide_eq_false hpos;clear hR hb2 hlt hW2 oX bd bc cd HC fp s9 hl hpos;go_wp2_with (first
   | (refine ay (aT (Tm.aU (j:=0) dm.out.o rfl) ⟨_,rfl,rfl⟩) ?_))
  refine u2.out.mono ?_;rintro e w3 ⟨q,M3,rfl,ht3,f3,i3,t3,_⟩;rw [fS.out];have cL:=hid (HS2.out.fn HJ.out f3 i3 t3);have cU:=hid (Bx.fn cv.out HS2.out.i f3);have af:Hid (∀ w9,Rg.Upd w3 gX w9->Jj (λ_=>False) (JB (Kp M0 w0) bs vS 84) M w (some (t',k)) (.returned (.tuple #[.agg (chA q cc),.bool true])) w9):=hid (λw9 hu=>by
   have h:=cL.out.upd HJ.out ap.out.1 ap.out.2 hu (by rw [ce.out]; exact Nat.le_succ _) cU.out.n;exact ⟨q,M3,by rw [<-fS.out],ht3,h.f,h.i,h.t,h.j⟩)
  clear ht3 f3 i3 t3 u2 cv dm HS2 b0 b1 b2 b3;go_wp2_with (first
   | (refine bE cU.out.o rfl q cc rfl _ _ rfl rfl rfl rfl ?_; intro w9 al aq; have bi:Hid (Rg.Own w9 gX (chA q cc) 81):=hid al; have cM:=hid (af.out w9 aq); clear al aq))
  exact bodyPost_ret (Ar (u:=5) (v:=6) rfl _ rfl bi.out) rfl cM.out
theorem Wv {L:Nat} (hL:L<=64) (ih:∀ m,m<L->MU m):MU L:=by
 intro x g f hf ws hsh M w p a n c hn hws hwf hi hT ht;obtain ⟨c1,c2,c3⟩:=PK g hL f hf ws;obtain ⟨w1,hw1⟩:=au ((w.alloc (.cells #[.pointer p] 31)).alloc (.cells #[.slice a n c] 41))
 obtain ⟨w2,hw2⟩:=au (w1.alloc (.cells (chA none 0) 81))
 have hb1:Below w.heap.size w w1:=by rw [hw1]; exact al2 _ _ _
 have hs1:w1.heap.size=w.heap.size+2:=by rw [hw1]; simp
 have dy:Below w1.heap.size w1 w2:=by rw [hw2]; exact al1 _ _
 have hb2:=bst hb1 dy;have hO:Rg.Own w2 w.heap.size #[.pointer p] 31:=by
  refine Rg.Own.below ?_ dy;rw [hw1];exact (Rg.Own.new _ _ _).below (al1 _ _)
 have hP:Rg.Own w2 (w.heap.size+1) #[.slice a n c] 41:=by
  refine Rg.Own.below ?_ dy;have:=Rg.Own.new (w.alloc (.cells #[.pointer p] 31)) #[.slice a n c] 41;rw [hw1];simpa using this
 have hX:Rg.Own w2 (w.heap.size+2) (chA none 0) 81:=by
  have:=Rg.Own.new w1 (chA none 0) 81;rw [hs1] at this;rw [hw2];exact this
 have hfr:∀ k,w.heap.size<=k->¬ M.ft k:=λk hk=>hi.free hk;have im:=hid (λ(w3:World) (bt:Nat) (hb3:Below w2.heap.size w2 w3) (hx:Bx M w3 bt #[.pointer p] 31)=>by
  have u4:=bst hb2 hb3;have hi3:=hi.below u4;have h:=Dw (XT M w3) 65 #[.pointer (some ⟨w.heap.size+1,0,none⟩)] (enters_of func65 (by kernel_rfl) rfl) M p x L g hL f (RK ws) c1
   (λj bs hjl hbs _=>by
    obtain ⟨_,f',hf',L',hl,g'⟩:=kL g f _ (qd hjl);exact Oa hi3 hbs ⟨hP.below hb3,hfr _ (Nat.le_succ _),Zv _ _ _⟩ (hws.below u4) hwf hn hsh _ _ L' (ih L' hl) g' f' (hf' hf)) bt w3 hi3 ht (hT.below u4 hT.pos) (Kp.refl M w3) hx
  rwa [c2,c3] at h)
 have HX:Hid (Bx M w2 (w.heap.size+2) (chA none 0) 81):=hid ⟨hX,hfr _ (by omega),kD _ _⟩;have HO:=hid hO;have HB2:=hid hb2;have HI:=hid hi;have HW1:=hid hw1;have HW2:=hid hw2;have HZ:Hid (0<w.heap.size):=hid hT.pos;obtain ⟨t',ht'⟩:=av (eD ws x)
 rw [ht'] at im ⊢;obtain ⟨k,hk⟩:=av (dL t')
 rw [hk] at im ⊢;obtain ⟨cc,hcc⟩:=av (gH k)
 have fS:=hid hcc;obtain ⟨gT,ct⟩:=av w.heap.size
 obtain ⟨gP,tS⟩:=av (w.heap.size+1)
 obtain ⟨gX,cf⟩:=av (w.heap.size+2)
 have HG:Hid (w.heap.size=gT/\w.heap.size+1=gP/\gX=w.heap.size+2/\w1.heap.size=gX):=hid ⟨ct,tS,cf.symm,by rw [hs1]; exact cf⟩;rw [cf] at HX;rw [ct] at HO;rw [tS] at im;clear c1 c2 c3 hb1 hs1 dy hb2 hO hP hX hfr hi hT ht hws hwf hw1 hw2 ht' hk hcc ct tS cf g f hf hsh ih hn;have fY:∀ (fn:Fn) (first cap:aM) (w:World),(Instr.makeFunc fn first cap).run prog w = .ok (.func fn first cap) w:=λ_ _ _ _=>rfl;have hgo:Calls prog 35 #[.agg #[.pointer p],.slice a n c] w (iC (λ_=>False) (λ_ _=>True) M w t' k):=by
  go_enter func35,ntmps35;go_wp2_with (first
   | (refine ay (bJ _ _ _ gX (by first | exact HG.out.2.2.2.symm | (rw [<-HG.out.2.2.2,HW1.out]) | simp [HG.out.2.2.1]) rfl) ?_; rw [<-HW1.out,<-HW2.out,HG.out.1,show gT+1=gP by rw [<-HG.out.1]; exact HG.out.2.1])
   | (refine ay (aT (Tm.aU (j:=0) HO.out rfl) ⟨_,rfl,rfl⟩) ?_))
  refine (zA p w2).mono ?_;rintro e w3 ⟨rfl,hO3,hb3⟩;have e9:=hid (im.out w3 w2.heap.size hb3 ⟨hO3,HI.out.free HB2.out.size,bX _⟩);have cU:=hid (HX.out.below hb3);have HB3:=hid (bst HB2.out hb3);clear hO3 hb3 im HX HO;go_wp2_with fail
  refine e9.out.mono ?_;rintro e w4 ⟨q,M4,rfl,oE,f4,i4,t4,j4⟩;rw [fS.out];have hF:Fnw M M4 w w4:=(Fnw.of (Fr.below M HB3.out)).trans f4 λ_ h=>h.elim;have n9:=Bx.fn cU.out (HI.out.below HB3.out) f4;have df:=hid n9;have af:Hid (∀ w9,Rg.Upd w4 gX w9->iC (λ_=>False) (λ_ _=>True) M w t' k (.returned (.agg (chA q cc))) w9):=hid (λw9 hu=>⟨q,M4,by rw [<-fS.out],oE,Fk.upd hF hu (by have:=HG.out; omega),i4.upd hu n9.n,mM t4 hu (by have:=HG.out; have:=HZ.out; omega),trivial⟩);clear oE f4 i4 t4 j4 hF n9 e9 cU;go_wp2_with (first
   | (refine bE df.out.o rfl q cc rfl _ _ rfl rfl rfl rfl ?_; intro w9 al aq; have bi:Hid (Rg.Own w9 gX (chA q cc) 81):=hid al; have cM:=hid (af.out w9 aq); clear al aq))
  exact bodyPost_ret (jR rfl _ rfl bi.out) rfl cM.out
 exact hgo
theorem OT (L:Nat):L<=64->MU L:=by
 induction L using Nat.strongRecOn with
 | ind L ih=>exact λhL=>Wv hL λm hm=>ih m hm (by omega)
theorem ug (M:Mp) (p:aJ) (t:T) (k:aL) (hk:k.length=32) (w:World) (hi:Inv M w) (ht:IsT M p t) (hg:Tr.Good t 64) :
  Calls prog 14 #[tv p,.agg (kc k)] w λe w'=>e = .returned (.bool (Tr.get t (path k)).isSome)/\Below w.heap.size w w':=by
 obtain ⟨w1,hw1⟩:=au ((w.alloc (.cells #[.pointer p] 31)).alloc (.cells (kc k) 25))
 have hb1:Below w.heap.size w w1:=by rw [hw1]; exact al2 _ _ _
 have ag:Rg.Own w1 w.heap.size #[.pointer p] 31:=by rw [hw1]; exact (Rg.Own.new _ _ _).below (al1 _ _)
 have hK1:Rg.Own w1 (w.heap.size+1) (kc k) 25:=by
  have:=Rg.Own.new (w.alloc (.cells #[.pointer p] 31)) (kc k) 25;rw [hw1];simpa using this
 have nm:=hid (uI M p t k hk w1 (hi.below hb1) ht hg);have bc:=hid ag;have dr:=hid hK1.2;have HB1:=hid hb1;have HW1:=hid hw1;have cH:=hid hk;clear hb1 ag hK1 hw1 hi ht hg hk;have hgo:Calls prog 14 #[.agg #[.pointer p],.agg (kc k)] w λe w'=>e = .returned (.bool (Tr.get t (path k)).isSome)/\Below w.heap.size w w':=by
  obtain ⟨v,hv⟩:=av (Tr.get t (path k))
  rw [hv] at nm ⊢;obtain ⟨C,hC⟩:=av (kc k)
  have D9:=hid hC;rw [hC] at nm HW1 ⊢;clear hv hC;go_enter func14,ntmps14;go_wp2_with (first
   | (rw [<-HW1.out]; refine ay (aT (Tm.aU (j:=0) bc.out rfl) ⟨_,rfl,rfl⟩) ?_)
   | (refine ay (aT (Tm.aU (j:=0) bc.out rfl) ⟨_,rfl,rfl⟩) ?_)
   | (refine Rg.run rfl (.agg C) _ (by rw [<-D9.out]; exact bO cH.out dr.out ⟨_,rfl,rfl⟩) ?_))
  refine nm.out.mono ?_;rintro e w2 ⟨rfl,hb2⟩;have HB2:=hid (bst HB1.out hb2);clear hb2 nm;rcases v with _ | _ | v;all_goals
   dsimp only [Db];go_wp2;go_ret;exact ⟨rfl,HB2.out⟩
 exact hgo
theorem Jg (M:Mp) (p:aJ) (t:T) (g:Tr.Good t 64) (f:Fine t) (hf:Tr.Full t) (a:aJ) (n c:Nat) (l:List (aL)) (hn:n<=1000) (w:World) (hK:Ew.qy w a n c l) (hi:Inv M w) (ht:IsT M p t) (hT:Tab w) :
  Calls prog 12 #[tv p,.slice a n c] w (wH M w (eD (l.map bT) t)):=by
 obtain ⟨w1,hw1⟩:=au ((w.alloc (.cells #[.pointer p] 31)).alloc (.cells #[.pointer none] 31))
 have hb1:Below w.heap.size w w1:=by rw [hw1]; exact al2 _ _ _
 have ag:Rg.Own w1 w.heap.size #[.pointer p] 31:=by rw [hw1]; exact (Rg.Own.new _ _ _).below (al1 _ _)
 have hX1:Rg.Own w1 (w.heap.size+1) #[.pointer none] 31:=by
  have:=Rg.Own.new (w.alloc (.cells #[.pointer p] 31)) #[.pointer none] 31;rw [hw1];simpa using this
 have mt:=hid hK;have ro:=hid hK.len;have bc:=hid ag;have bd:=hid hX1;have HB1:=hid hb1;have HW1:=hid hw1;have HI:=hid hi;have HT:=hid hT;have Dd:=hid ht;have Hp:Hid (∀ y∈l.map bT,y.length<=64):=hid (λy hy=>by
  obtain ⟨x,hx,rfl⟩:=List.mem_map.1 hy;rw [nT x (hK.keys x hx)];exact aF)
 have fp:=hid (λa c wx hw=>OT 64 aF t g f hf (l.map bT) Hp.out M wx p a l.length c (by rw [hK.len]; exact hn) hw);obtain ⟨gX,cf⟩:=av (w.heap.size+1)
 have ce:Hid (gX=w.heap.size+1):=hid cf.symm;rw [cf] at bd;clear hb1 ag hX1 hw1 hi hT ht hK g f hf cf;obtain ⟨t',ht'⟩:=av (eD (l.map bT) t)
 rw [ht'] at fp ⊢;clear ht';have hgo:Calls prog 12 #[.agg #[.pointer p],.slice a n c] w (wH M w t'):=by
  go_enter func12,ntmps12;go_wp2_with (first
   | (refine ay (aW _ _ _ gX (by rw [ce.out]; simp) rfl) ?_; rw [<-HW1.out]))
  go_loopw [5,10] (λv0 i wr=>∃ (j:Nat) (v:Value),v=v0/\j<=n/\i = .int .i64 j/\Hid (Ew.kY w1.heap.size wr v ((l.map bT).take j))/\Hid (Below w1.heap.size w1 wr)) (λ_ i _=>n-(intOf i).toNat)
  case atStart=>exact ⟨0,_,rfl,Nat.zero_le _,rfl,hid (Ew.kY.nil _ _),hid aG⟩
  case round =>
   obtain ⟨j,v,rfl,hj,rfl,HR,cA⟩:=hrel;by_cases hlt:j<n
   .have i1:(j:Int)<(n:Int):=by omega
    obtain ⟨b,off,rfl,hblt,hrg,hkl⟩:=mt.out.at' j hlt;have hjl:j<l.length:=by rw [ro.out]; exact hlt
    have ky:Hid ((l.map bT).take (j+1)=(l.map bT).take j++[bT (l.getD j [])]):=hid (by
     rw [List.take_succ_eq_append_getElem (by rw [List.length_map]; exact hjl)];simp [List.getD,hjl])
    have s8:Hid (((l.map bT).take j).length<=1000000):=hid (by rw [List.length_take]; omega);have hbr:=bst HB1.out cA.out;have ww:Hid (wr.rangeAt b (off+j*32) ((l.getD j []).map λb=>Value.int .u8 b.toNat)):=hid (λi v hv=>aV hbr (hrg i v hv));obtain ⟨k,hk⟩:=av (l.getD j [])
    rw [hk] at ky hkl ww;have cH:=hid hkl;have AN:Rg.Own (wr.alloc (.cells (kc zk) 25)) wr.heap.size (kc zk) 25:=Rg.Own.new _ _ _;have ov:=hid AN;have HHk:=hid (jX k);clear hblt hrg hkl hjl hbr hk AN;go_wp2_with (first
     | (refine ay (cZ cH.out ww.out ⟨_,rfl,rfl⟩) ?_)
     | (refine ay (oI _ _ _ wr.heap.size rfl rfl) ?_)
     | (refine Df ov.out rfl k cH.out rfl _ _ rfl rfl rfl rfl ?_; intro w3 hO3 hu3; have am:=hid hO3.2; have HB3:Hid (Below wr.heap.size wr w3):=hid (hu3.below (al1 _ _) aF); clear hO3 hu3)
     | (refine ay (bO cH.out am.out ⟨_,rfl,rfl⟩) ?_))
    refine (Sv k cH.out w3).mono ?_;rintro e w4 ⟨⟨ra,rm,rc⟩,rfl,hr4,hb4⟩;have hA:=al1 w4 (.cells #[Ew.wv (ra,rm,rc)] 42);have gm:Below wr.heap.size wr w4:=bst HB3.out hb4;have mw:=hid ((HR.out.below gm).below hA);have ke:Hid (BsP (λz=>v.ownBlock≠some z) (w4.alloc (.cells #[Ew.wv (ra,rm,rc)] 42)) (ra,rm,rc) (bT k)):=hid (by
     have h1:=hr4.kept (w':=w4.alloc (.cells #[Ew.wv (ra,rm,rc)] 42)) hA.size λz _ hz=>hA.block z hz;exact h1.to λz _ hz e=>by
      have h2:=(HR.out.lt z e).2;have h3:=HB3.out.size;omega)
    have dd:Hid (w1.heap.size<=(w4.alloc (.cells #[Ew.wv (ra,rm,rc)] 42)).heap.size):=hid (Nat.le_trans (Nat.le_trans cA.out.size gm.size) hA.size);have De:Hid (Below w1.heap.size w1 (w4.alloc (.cells #[Ew.wv (ra,rm,rc)] 42))):=hid (bst (bst cA.out gm) hA);clear hA gm hr4 hb4 HB3 am;go_wp2_with (first
     | (refine ay (Ew.tN (h:=(ra,rm,rc)) w4.heap.size rfl ⟨_,rfl,rfl⟩) ?_)
     | (refine Ew.oh mw.out (Rg.Own.new w4 _ _) ke.out s8.out dd.out rfl ⟨_,_,rfl,rfl,rfl⟩ ?_))
    intro v' w5 ej hg5 _;have ew:=hid ej;have ae:Hid (Below w1.heap.size w1 w5):=hid (De.out.grown hg5 dd.out (λg hg=>(mw.out.lt g hg).1));clear ej hg5;go_wp2;go_roundw
    case rel=>exact ⟨j+1,_,rfl,by omega,by go_num,by rw [ky.out]; exact ew,ae⟩
    case measure=>simp [intOf]; omega
   .obtain rfl:j=n:=by omega
    have hR:=HR.out;rw [List.take_of_length_le (by rw [List.length_map,ro.out]; exact aF)] at hR;have hlo:=hR.lt;obtain ⟨a2,c2,rfl,hW⟩:=hR.done;have hbr:=bst HB1.out cA.out;rw [List.length_map] at hW hlo;have OR:=hid (fp.out a2 c2 wr hW (λad e=>HI.out.free (by subst e; exact Nat.le_trans HB1.out.size (hlo ad.block rfl).1)) (HI.out.below hbr) (HT.out.below hbr HT.out.pos) Dd.out);have OS:=hid (bd.out.below cA.out);have HOr:=hid (bc.out.below cA.out);have ey:=hid hbr;rw [List.length_map];clear hR hlo hW hbr HR fp bd bc;go_wp2_with (first
     | (refine ay (aT (Tm.aU (j:=0) HOr.out rfl) ⟨_,rfl,rfl⟩) ?_))
    refine OR.out.mono ?_;rintro e w5 ⟨q,M5,rfl,rN,f5,i5,t5,_⟩;have ml:Bx M5 w5 gX #[.pointer none] 31:=Bx.fn ⟨OS.out,HI.out.free (by rw [ce.out]; exact Nat.le_succ _),bX _⟩ (HI.out.below ey.out) f5;have dq:=hid ml;obtain ⟨cc,hcc⟩:=av (gH (dL t'))
    rw [hcc];have af:Hid (∀ w9,Rg.Upd w5 gX w9->wH M w t' (.returned (tv q)) w9):=hid (λw9 hu=>⟨q,M5,rfl,rN,Fk.upd ((Fnw.of (Fr.below M ey.out)).trans f5 λ_ h=>h.elim) hu (by rw [ce.out]; exact Nat.le_succ _),i5.upd hu ml.n,mM t5 hu (by have:=ce.out; have:=HT.out.pos; omega)⟩);clear rN f5 i5 t5 ml hcc OR OS HOr;go_wp2_with (first
     | (refine ay (zF ⟨_,rfl,rfl⟩) ?_)
     | (refine aZ dq.out.o (by simp) q rfl _ _ rfl rfl rfl ?_; intro w9 al aq; have bi:Hid (Rg.Own w9 gX #[.pointer q] 31):=hid al; have cM:=hid (af.out w9 aq); clear al aq))
    exact bodyPost_ret (eu (q:=4) rfl _ rfl bi.out) rfl cM.out
 exact hgo
def mJ:T->Bool
 | .stub _=>true
 | _=>false
def YC (M:Mp) (w:World) (v:Value) (e:Ending) (w':World):Prop:=e = .returned v/\Fr M M w w'/\Inv M w'/\Tab w'
theorem sM (M:Mp) (p:aJ) (t:T) (L:Nat) (g:Tr.Good t L) (hL:L<=64) (f:Fine t) (w:World) (hi:Inv M w) (ht:IsT M p t) (hT:Tab w) :
  Calls prog 27 #[tv p] w (YC M w (.bool (mJ t))):=by
 obtain ⟨w1,hw1⟩:=au (w.alloc (.cells #[.pointer p] 31))
 have ag:Rg.Own w1 w.heap.size #[.pointer p] 31:=by rw [hw1]; exact Rg.Own.new _ _ _
 have hb1:Below w.heap.size w w1:=by rw [hw1]; exact al1 _ _
 have lA:=hid (sw M p t L g hL f w1 (hi.below hb1) ht (hT.below hb1 hT.pos));have bc:Hid (Bx M w1 w.heap.size #[.pointer p] 31):=hid ⟨ag,hi.free aF,bX _⟩;have HB1:=hid hb1;have HI:=hid hi;have HW1:=hid hw1;have de:Hid ((bM t).ks.length=16):=hid (dP t);have hkd:(bM t).kd=0/\(p=none/\mJ t=false\/p.isNone=false/\mJ t=true)\/(bM t).kd≠0/\mJ t=false:=by
  cases t with
  | nil=>exact .inl ⟨rfl,.inl ⟨ht.qR.2 rfl,rfl⟩⟩
  | stub r =>
   refine .inl ⟨rfl,.inr ⟨?_,rfl⟩⟩;cases p with
   | none=>exact absurd (show T.stub r = .nil from ht) (by intro e; cases e)
   | some a=>rfl
  | leaf p v=>exact .inr ⟨by show (1:Int)≠0; decide,rfl⟩
  | ext q s=>exact .inr ⟨by show (2:Int)≠0; decide,rfl⟩
  | br ks=>exact .inr ⟨by show (3:Int)≠0; decide,rfl⟩
 obtain ⟨N,hN⟩:=av (bM t)
 have HN:=hid hN;rw [hN] at de hkd;obtain ⟨b,hb⟩:=av (mJ t)
 rw [hb] at hkd ⊢;clear ag hb1 hi g f hN ht hT hw1 hb;have hgo:Calls prog 27 #[.agg #[.pointer p]] w (YC M w (.bool b)):=by
  go_enter func27,ntmps27;go_wp2_with (first
   | (rw [<-HW1.out]; refine ay (aT (Tm.aU (j:=0) bc.out.o rfl) ⟨_,rfl,rfl⟩) ?_)
   | (refine ay (aT (Tm.aU (j:=0) bc.out.o rfl) ⟨_,rfl,rfl⟩) ?_))
  refine lA.out.mono ?_;rintro e w2 ⟨na,nn,nc,ka,kc,ps,rfl,_,_,_,_,_,f2,i2,t2⟩;rw [HN.out];have dm:=hid (bc.out.frm (HI.out.below HB1.out) f2);have fm:Hid (Fr M M w w2/\Inv M w2/\Tab w2):=hid ⟨(Fr.below M HB1.out).trans HI.out f2,i2,t2⟩;have nh:dQ (w2.alloc (.cells (ndC nd0 none 0 0) 56)) w2.heap.size nd0 none 0 0:=Rg.Own.new _ _ _;have eC:=hid nh;obtain ⟨w3,hw3⟩:=au ((w2.alloc (.cells (ndC nd0 none 0 0) 56)).setRow w2.heap.size (ndC N na nn nc))
  have hb3:Below w2.heap.size w2 w3:=by rw [hw3]; exact bU (al1 _ _) aF _
  have hO3:dQ w3 w2.heap.size N na nn nc:=by rw [hw3]; exact dD nh
  have c0:=(bP hO3).1;have am:=hid (dm.out.below hb3);have HW3:=hid hw3;have af:Hid (∀ w9,Below w3.heap.size w3 w9->YC M w (.bool b) (.returned (.bool b)) w9):=hid (λw9 h9=>by
   have hb:=bst hb3 h9;exact ⟨rfl,fm.out.1.trans HI.out (Fr.below M hb),fm.out.2.1.below hb,fm.out.2.2.below hb fm.out.2.2.pos⟩)
  clear f2 i2 t2 nh hb3 hO3 hw3 lA bc dm;rcases hkd with ⟨h0,hp⟩ | ⟨h0,rfl⟩
  .rw [h0] at c0;rcases hp with ⟨rfl,rfl⟩ | ⟨hp,rfl⟩
   .have HE:=hid (iJ none w3);clear h0;go_wp2_with (first
     | (refine ay (aX _ _ _ w2.heap.size rfl rfl) ?_)
     | (refine bG eC.out rfl N na nn nc de.out rfl _ _ rfl rfl rfl rfl ?_; rw [<-HW3.out])
     | (refine ay (aT (Tm.aU (j:=0) am.out.o rfl) ⟨_,rfl,rfl⟩) ?_)
     | (refine Rg.runW (by rfl) _ _ (aT (Tm.aU (j:=0) am.out.o rfl) ⟨_,rfl,rfl⟩) ?_))
    refine HE.out.mono ?_;rintro e w4 ⟨rfl,hb4⟩;go_wp2;go_ret;exact af.out _ hb4
   .have HE:=hid (iJ p w3);rw [hp] at HE;clear h0 hp;go_wp2_with (first
     | (refine ay (aX _ _ _ w2.heap.size rfl rfl) ?_)
     | (refine bG eC.out rfl N na nn nc de.out rfl _ _ rfl rfl rfl rfl ?_; rw [<-HW3.out])
     | (refine ay (aT (Tm.aU (j:=0) am.out.o rfl) ⟨_,rfl,rfl⟩) ?_)
     | (refine Rg.runW (by rfl) _ _ (aT (Tm.aU (j:=0) am.out.o rfl) ⟨_,rfl,rfl⟩) ?_))
    refine HE.out.mono ?_;rintro e w4 ⟨rfl,hb4⟩;go_wp2;go_ret;exact af.out _ hb4
  .have k1:(N.kd==0)=false:=by rw [beq_eq_false_iff_ne]; exact h0
   have k2:decide (N.kd=0)=false:=decide_eq_false h0;clear h0;go_wp2_with (first
    | (refine ay (aX _ _ _ w2.heap.size rfl rfl) ?_)
    | (refine bG eC.out rfl N na nn nc de.out rfl _ _ rfl rfl rfl rfl ?_; rw [<-HW3.out])
    | (refine ay (aT (Tm.aU (j:=0) am.out.o rfl) ⟨_,rfl,rfl⟩) ?_))
   go_ret;exact af.out _ aG
 exact hgo
def Lg (bt bm ba gR gP gG:Nat) (R:aK) (pk:aJ):List (Nat × Value × TypeId) :=
 [(bt,.map (some bm),139),(ba,.func (.func 48) #[] #[.pointer (some ⟨gR,0,none⟩),.pointer (some ⟨gP,0,none⟩),.pointer (some ⟨gG,0,none⟩)],109),
  (gG,.func (.func 81) #[] #[.pointer (some ⟨bt,0,none⟩),.pointer (some ⟨ba,0,none⟩)],109),(gR,.string R,9),(gP,.pointer pk,31)]
theorem ZH (bt bm ba gR gP gG:Nat) (R:aK) (pk:aJ):(gG,Value.func (.func 81) #[] #[.pointer (some ⟨bt,0,none⟩),.pointer (some ⟨ba,0,none⟩)],109)∈Lg bt bm ba gR gP gG R pk:=List.mem_cons_of_mem _ (List.mem_cons_of_mem _ List.mem_cons_self)
theorem ZF (bt bm ba gR gP gG:Nat) (R:aK) (pk:aJ):(gR,Value.string R,9)∈Lg bt bm ba gR gP gG R pk:=List.mem_cons_of_mem _ (List.mem_cons_of_mem _ (List.mem_cons_of_mem _ List.mem_cons_self))
theorem ZC (bt bm ba gR gP gG:Nat) (R:aK) (pk:aJ):(gP,Value.pointer pk,31)∈Lg bt bm ba gR gP gG R pk:=List.mem_cons_of_mem _ (List.mem_cons_of_mem _ (List.mem_cons_of_mem _ (List.mem_cons_of_mem _ List.mem_cons_self)))
def JG (J:Mp->World->Prop) (pk:aJ) (k:T) (M:Mp) (w:World):Prop:=J M w/\IsT M pk k
theorem XK {J:Mp->World->Prop} (h:JOk B K J) (pk:aJ) (k:T):JOk B K (JG J pk k) :=
 ⟨λM M' w w' hj hi hs hk hm hf hx=>⟨h.fr M M' w w' hj.1 hi hs hk hm hf hx,hj.2.mono hm⟩,λM w hj hi=>h.kc M w hj.1 hi,h.lt,λM w hj=>h.sz M w hj.1⟩
abbrev MG (B bt bm ba gR gP gG:Nat) (R:aK) (pk:aJ) (k:T):Mp->World->Prop:=MJ B (Lg bt bm ba gR gP gG R pk) bm (RT (dh R k) (dM R))
theorem Jd {B bt bm ba gR gP gG:Nat} {R:aK} {pk:aJ} {k:T} (ei:∀ x∈Lg bt bm ba gR gP gG R pk,x.1<B) (eh:bm<B) (st:Pa) (s:T)
  (gr:∀ (M:Mp) (w:World) (p:aJ),MG B bt bm ba gR gP gG R pk k M w->IsT M pk k->Inv M w->Tab w->IsT M p s->Calls prog 81 #[tv p,.pointer (some ⟨bt,0,none⟩),.pointer (some ⟨ba,0,none⟩)] w (iC (λk=>k=bm) (MG B bt bm ba gR gP gG R pk k) M w (dh R k s) (dM R s))) :
  FM (λk=>k=bm) (JG (MG B bt bm ba gR gP gG R pk k) pk k) 50 #[.pointer (some ⟨gG,0,none⟩)] st s (dh R k s) (dM R s):=by
 have hJ:JOk B (λk=>k=bm) (JG (MG B bt bm ba gR gP gG R pk k) pk k):=XK (DJ (Fy (dh R k) (dM R)) ei eh) pk k;intro M w a m c p hj hi hT hB ht;show Calls prog 50 #[.slice a m c,.agg #[.pointer p],.pointer (some ⟨gG,0,none⟩)] w _;obtain ⟨w1,hw1⟩:=au ((w.alloc (.cells #[.pointer p] 31)).alloc (.cells (chA none 0) 81))
 have hb1:Below w.heap.size w w1:=by rw [hw1]; exact al2 _ _ _
 have ag:Rg.Own w1 w.heap.size #[.pointer p] 31:=by rw [hw1]; exact (Rg.Own.new _ _ _).below (al1 _ _)
 have hX1:Rg.Own w1 (w.heap.size+1) (chA none 0) 81:=by
  have:=Rg.Own.new (w.alloc (.cells #[.pointer p] 31)) (chA none 0) 81;rw [hw1];simpa using this
 have hS1:=(Sg.start hJ hi hT hj).below hJ hb1;have HC:=hid (gr M w1 p hS1.j.1 hS1.j.2 hS1.i hS1.t ht);have pf:Hid (w1.cell? ⟨gG,0,none⟩=some (.func (.func 81) #[] #[.pointer (some ⟨bt,0,none⟩),.pointer (some ⟨ba,0,none⟩)])):=hid (Tm.aU (j:=0) (hS1.j.1.bx _ (ZH bt bm ba gR gP gG R pk)).o rfl);have bd:Hid (Bx M w1 (w.heap.size+1) (chA none 0) 81):=hid ⟨hX1,hi.free (Nat.le_succ _),kD _ _⟩;have bc:=hid ag;have cd:=hid hS1;have HJ:=hid hJ;have HW1:=hid hw1
 have ap:Hid (B<=w.heap.size/\0<w.heap.size/\bm<w.heap.size):=hid ⟨hJ.sz M w hj,hT.pos,by have:=hJ.sz M w hj; omega⟩;obtain ⟨gX,cf⟩:=av (w.heap.size+1)
 have ce:Hid (gX=w.heap.size+1):=hid cf.symm;rw [cf] at bd;obtain ⟨J,hJe⟩:=av (MG B bt bm ba gR gP gG R pk k)
 rw [hJe] at HC cd HJ ⊢;obtain ⟨t',ht'⟩:=av (dh R k s)
 obtain ⟨n,hn⟩:=av (dM R s)
 obtain ⟨cc,hcc⟩:=av (gH n)
 have fS:=hid hcc;rw [ht',hn] at HC ⊢;clear hb1 ag hX1 hS1 hi hT hj ht hB hJ gr hw1 hJe ht' hn hcc cf ei eh;go_enter func50,ntmps50;go_wp2_with (first
  | (refine ay (bJ _ _ _ gX (by rw [ce.out]; simp) rfl) ?_; rw [<-HW1.out])
  | (refine ay (XM pf.out ⟨_,rfl,rfl⟩) ?_)
  | (refine ay (aT (Tm.aU (j:=0) bc.out rfl) ⟨_,rfl,rfl⟩) ?_))
 refine HC.out.mono ?_;rintro e w2 ⟨q,M2,rfl,ht2,f2,i2,t2,j2⟩;rw [fS.out];have HS2:=hid (cd.out.call f2 i2 t2 ⟨j2,cd.out.j.2.mono f2.mono⟩);have cv:=hid (bd.out.fk cd.out.i f2 (by have:=ap.out; have:=ce.out; omega));have af:Hid (∀ w9,Rg.Upd w2 gX w9->iC (λk=>k=bm) (JG J pk k) M w t' n (.returned (.agg (chA q cc))) w9):=hid (λw9 hu=>by
  rw [<-fS.out];exact (HS2.out.upd HJ.out ap.out.1 ap.out.2.1 hu (by rw [ce.out]; exact Nat.le_succ _) cv.out.n).chg n ht2)
 clear ht2 f2 i2 t2 j2 HC bd bc pf;go_wp2_with (first
  | (refine bE cv.out.o rfl q cc rfl _ _ rfl rfl rfl rfl ?_; intro w9 al aq; have bi:Hid (Rg.Own w9 gX (chA q cc) 81):=hid al; have cM:=hid (af.out w9 aq); clear al aq))
 exact bodyPost_ret (jR rfl _ rfl bi.out) rfl cM.out
structure Gr (B:Nat) (K:Nat->Prop) (J:Mp->World->Prop) (pk:aJ) (k:T) (M:Mp) (w0:World) (gX gT:Nat) (p:aJ) (w:World):Prop where
 s:Sg K (JG J pk k) M w0 M w
 x:Bx M w gX (chA none 0) 81
 o:Bx M w gT #[.pointer p] 31
theorem Gr.fr {B:Nat} {K:Nat->Prop} {J:Mp->World->Prop} {pk:aJ} {k:T} {M:Mp} {w0 w w':World} {gX gT:Nat} {p:aJ} (h:Gr B K J pk k M w0 gX gT p w) (hJ:JOk B K (JG J pk k)) (f:Fr M M w w') (i:Inv M w') (t:Tab w'):Gr B K J pk k M w0 gX gT p w':=⟨h.s.fr hJ f i t,h.x.frm h.s.i f,h.o.frm h.s.i f⟩
def zT (gT gR:Nat) (p:aJ) (R:aK) (w:World):Prop:=Rg.Own w gT #[.pointer p] 31/\Rg.Own w gR #[.string R] 9
theorem JQ {B bt bm ba gR gP gG:Nat} {R:aK} {pk:aJ} {k:T} (ei:∀ x∈Lg bt bm ba gR gP gG R pk,x.1<B) (eh:bm<B) (hR:ref k=R) (hk:k ≠ .nil) (fg:Fine k) (M:Mp) (p:aJ) (x:T) (L:Nat) (g:Tr.Good x L) (hL:L<=64) (f:Fine x) (hfit:Fits R k x L)
  (gr:∀ s,s∈bC x->∀ (M:Mp) (w:World) (p:aJ),MG B bt bm ba gR gP gG R pk k M w->IsT M pk k->Inv M w->Tab w->IsT M p s->Calls prog 81 #[tv p,.pointer (some ⟨bt,0,none⟩),.pointer (some ⟨ba,0,none⟩)] w (iC (λk=>k=bm) (MG B bt bm ba gR gP gG R pk k) M w (dh R k s) (dM R s)))
  (w:World) (hi:Inv M w) (ht:IsT M p x) (hT:Tab w) (hj:MG B bt bm ba gR gP gG R pk k M w) (hpk:IsT M pk k) :
  Calls prog 48 #[tv p,.pointer (some ⟨gR,0,none⟩),.pointer (some ⟨gP,0,none⟩),.pointer (some ⟨gG,0,none⟩)] w (iC (λk=>k=bm) (MG B bt bm ba gR gP gG R pk k) M w (dh R k x) (dM R x)):=by
 have hJ:JOk B (λk=>k=bm) (JG (MG B bt bm ba gR gP gG R pk k) pk k):=XK (DJ (Fy (dh R k) (dM R)) ei eh) pk k;obtain ⟨w1,hw1⟩:=au ((w.alloc (.cells #[.pointer p] 31)).alloc (.cells (chA none 0) 81))
 have hb1:Below w.heap.size w w1:=by rw [hw1]; exact al2 _ _ _
 have ag:Rg.Own w1 w.heap.size #[.pointer p] 31:=by rw [hw1]; exact (Rg.Own.new _ _ _).below (al1 _ _)
 have hX1:Rg.Own w1 (w.heap.size+1) (chA none 0) 81:=by
  have:=Rg.Own.new (w.alloc (.cells #[.pointer p] 31)) (chA none 0) 81;rw [hw1];simpa using this
 have hS1:=(Sg.start hJ hi hT ⟨hj,hpk⟩).below hJ hb1;have pP:=hid (λ(w2:World) (h2:Sg (λk=>k=bm) (JG (MG B bt bm ba gR gP gG R pk k) pk k) M w M w2)=>zx hJ 50 #[.pointer (some ⟨gG,0,none⟩)] (enters_of func50 (by kernel_rfl) rfl) (λ_ s=>dh R k s) (λ_ s=>dM R s) M p x L g hL f (UM hR hk fg g hL f hfit) (λj hjl=>Jd ei eh _ _ (gr _ (qd hjl))) w2 h2.i ht h2.t h2.j);have eQ:=hid (λ(wx:World) (hi:Inv M wx) (hT:Tab wx)=>tZ M p x L g hL f wx hi ht hT)
 have pg:=hid (λ(wx:World) (hi:Inv M wx) (hT:Tab wx)=>sM M p x L g hL f wx hi ht hT);obtain ⟨gT,ct⟩:=av w.heap.size
 obtain ⟨gX,cf⟩:=av (w.heap.size+1)
 have HH:Hid (Gr B (λk=>k=bm) (MG B bt bm ba gR gP gG R pk k) pk k M w gX gT p w1):=hid ⟨hS1,by rw [<-cf]; exact ⟨hX1,hi.free (Nat.le_succ _),kD _ _⟩,by rw [<-ct]; exact ⟨ag,hi.free aF,bX _⟩⟩;have i8:Hid (∀ wz,Gr B (λk=>k=bm) (MG B bt bm ba gR gP gG R pk k) pk k M w gX gT p wz->zT gT gR p R wz):=hid (λwz h=>⟨h.o.o,(h.s.j.1.bx _ (ZF bt bm ba gR gP gG R pk)).o⟩)
 have nf:Hid (∀ wz,Gr B (λk=>k=bm) (MG B bt bm ba gR gP gG R pk k) pk k M w gX gT p wz->wz.cell? ⟨gP,0,none⟩=some (.pointer pk)):=hid (λwz h=>Tm.aU (j:=0) (h.s.j.1.bx _ (ZC bt bm ba gR gP gG R pk)).o rfl);have HJ:=hid hJ;have HW1:=hid hw1;have ap:Hid (B<=w.heap.size/\0<w.heap.size/\bm<w.heap.size):=hid ⟨hj.s,hT.pos,by have:=hj.s; omega⟩;have ce:Hid (gX=w.heap.size+1/\w.heap.size=gT):=hid ⟨cf.symm,ct⟩;have cX:=hid (str_eq (ref x) R)
 have ib:Hid (mJ x=true/\ref x=R->dh R k x=k/\dM R x=1):=hid (λh=>by
  cases x with
  | stub r =>
   have e:r=R:=h.2;exact ⟨if_pos e,if_pos e⟩
  | _=>exact absurd h.1 (by intro e; cases e))
 have dE:Hid (¬ (mJ x=true/\ref x=R)->rW (λ_ s=>dh R k s) x=dh R k x/\jQ (λ_ s=>dM R s) x (bC x).length=dM R x):=hid (λh=>by
  cases x with
  | stub r =>
   have e:r≠R:=λe=>h ⟨rfl,e⟩;exact ⟨(if_neg e).symm,(if_neg e).symm⟩
  | nil=>exact uo λe=>e
  | leaf p v=>exact uo λe=>e
  | ext q s=>exact uo λe=>e
  | br ks=>exact uo λe=>e)
 obtain ⟨J,hJe⟩:=av (MG B bt bm ba gR gP gG R pk k)
 rw [hJe] at pP HH i8 nf HJ ⊢;obtain ⟨t',ht'⟩:=av (dh R k x)
 obtain ⟨n,hn⟩:=av (dM R x)
 obtain ⟨cc,hcc⟩:=av (gH n)
 have fS:=hid hcc;rw [ht',hn] at ib dE ⊢;obtain ⟨r,hr⟩:=av (ref x)
 rw [hr] at eQ cX ib dE;obtain ⟨b,hb⟩:=av (mJ x)
 rw [hb] at pg ib dE;clear hb1 ag hX1 hS1 hi hT hj ht hJ gr hw1 hJe ht' hn hcc cf ct ei eh hr hb g f hfit fg hR hk hpk;by_cases hq:r=R
 .have he:(r.toList==R.toList)=true:=by rw [cX.out]; exact aI hq
  have HQ:=hid hq;clear hq;cases b with
  | true =>
   go_enter func48,ntmps48;go_wp2_with (first
    | (refine ay (bJ _ _ _ gX (by rw [ce.out.1]; simp) rfl) ?_; rw [<-HW1.out,ce.out.2]))
   have H:Hid (Gr B (λk=>k=bm) J pk k M w gX gT p w1.drew):=hid (by
    have hb:Below w1.heap.size w1 w1.drew:=below_drewN aG 1;exact HH.out.fr HJ.out (Fr.below M hb) (HH.out.s.i.below hb) (HH.out.s.t.below hb HH.out.s.t.pos))
   refine aB (S:=zT gT gR p R) (i8.out _ H.out) λhld=>?_;refine ah 0 ?_ (hy:=by intro wz hSw; (refine aT (Tm.aU (j:=0) (show zT gT gR p R wz from hSw).1 rfl) ?_; exact ⟨_,rfl,rfl⟩));try simp only [Act.put,ak]
   refine ah 2 ?_ (hy:=by intro wz hSw; (refine Sl (v:=.string R) (Tm.aU (j:=0) (show zT gT gR p R wz from hSw).2 rfl) ?_; exact ⟨_,rfl,rfl⟩));try simp only [Act.put,ak]
   refine aj 1 λK hK=>?_;go_simp;go_at_call 28
   (with_reducible refine (eQ.out _ H.out.s.i H.out.s.t).mono ?_)
   rintro e eq ⟨rfl,fx,ix,tx⟩;replace H:=hid (H.out.fr HJ.out fx ix tx);refine hK.out _ _ (i8.out _ H.out) λhld=>?_;clear hK K fx ix tx;try simp only [Act.put,ak]
   refine ah 3 ?_ (hy:=by intro wz hSw; (have q2:=he; go_simp <;> with_reducible rfl));try simp only [Act.put,ak]
   refine ah 4 ?_;try simp only [Act.put,ak]
   refine ah 5 ?_ (hy:=by intro wz hSw; (refine aT (Tm.aU (j:=0) (show zT gT gR p R wz from hSw).1 rfl) ?_; exact ⟨_,rfl,rfl⟩));try simp only [Act.put,ak]
   refine aj 6 λK hK=>?_;go_simp;go_at_call 27
   (with_reducible refine (pg.out _ H.out.s.i H.out.s.t).mono ?_)
   rintro e wv1 ⟨rfl,fx,ix,tx⟩;replace H:=hid (H.out.fr HJ.out fx ix tx);refine hK.out _ _ (i8.out _ H.out) λhld=>?_;clear hK K fx ix tx;try simp only [Act.put,ak]
   refine ah 7 ?_;try simp only [Act.put,ak]
   refine aA ?_;clear hld;obtain ⟨wa,kO⟩:=au wv1
   subst kO;have ex:=hid (nf.out _ H.out);have zt:=hid H.out.x;have af:Hid (∀ w9,Rg.Upd wa gX w9->iC (λk=>k=bm) J M w t' n (.returned (.agg (chA pk 1))) w9):=hid (λw9 hu=>by
    obtain ⟨e1,e2⟩:=ib.out ⟨by simp,HQ.out⟩;rw [e1,e2];obtain ⟨q,M',h1,h2,h3,h4,h5,h6⟩:=(H.out.s.upd HJ.out ap.out.1 ap.out.2.1 hu (by rw [ce.out.1]; exact Nat.le_succ _) H.out.x.n).chg 1 H.out.s.j.2;exact ⟨q,M',h1,h2,h3,h4,h5,h6.1⟩)
   clear HH H pP he;go_wp2_with (first
    | (refine ay (aT ex.out ⟨_,rfl,rfl⟩) ?_)
    | (refine ay (bK (CW pk 1) ⟨_,rfl,rfl⟩) ?_)
    | (refine bE zt.out.o rfl pk 1 rfl _ _ rfl rfl rfl rfl ?_; intro w9 al aq; have bi:Hid (Rg.Own w9 gX (chA pk 1) 81):=hid al; have cM:=hid (af.out w9 aq); clear al aq))
   exact bodyPost_ret (jR rfl _ rfl bi.out) rfl cM.out
  | false =>
   go_enter func48,ntmps48;go_wp2_with (first
    | (refine ay (bJ _ _ _ gX (by rw [ce.out.1]; simp) rfl) ?_; rw [<-HW1.out,ce.out.2]))
   have H:Hid (Gr B (λk=>k=bm) J pk k M w gX gT p w1.drew):=hid (by
    have hb:Below w1.heap.size w1 w1.drew:=below_drewN aG 1;exact HH.out.fr HJ.out (Fr.below M hb) (HH.out.s.i.below hb) (HH.out.s.t.below hb HH.out.s.t.pos))
   refine aB (S:=zT gT gR p R) (i8.out _ H.out) λhld=>?_;refine ah 0 ?_ (hy:=by intro wz hSw; (refine aT (Tm.aU (j:=0) (show zT gT gR p R wz from hSw).1 rfl) ?_; exact ⟨_,rfl,rfl⟩));try simp only [Act.put,ak]
   refine ah 2 ?_ (hy:=by intro wz hSw; (refine Sl (v:=.string R) (Tm.aU (j:=0) (show zT gT gR p R wz from hSw).2 rfl) ?_; exact ⟨_,rfl,rfl⟩));try simp only [Act.put,ak]
   refine aj 1 λK hK=>?_;go_simp;go_at_call 28
   (with_reducible refine (eQ.out _ H.out.s.i H.out.s.t).mono ?_)
   rintro e eq ⟨rfl,fx,ix,tx⟩;replace H:=hid (H.out.fr HJ.out fx ix tx);refine hK.out _ _ (i8.out _ H.out) λhld=>?_;clear hK K fx ix tx;try simp only [Act.put,ak]
   refine ah 3 ?_ (hy:=by intro wz hSw; (have q2:=he; go_simp <;> with_reducible rfl));try simp only [Act.put,ak]
   refine ah 4 ?_;try simp only [Act.put,ak]
   refine ah 5 ?_ (hy:=by intro wz hSw; (refine aT (Tm.aU (j:=0) (show zT gT gR p R wz from hSw).1 rfl) ?_; exact ⟨_,rfl,rfl⟩));try simp only [Act.put,ak]
   refine aj 6 λK hK=>?_;go_simp;go_at_call 27
   (with_reducible refine (pg.out _ H.out.s.i H.out.s.t).mono ?_)
   rintro e wv1 ⟨rfl,fx,ix,tx⟩;replace H:=hid (H.out.fr HJ.out fx ix tx);refine hK.out _ _ (i8.out _ H.out) λhld=>?_;clear hK K fx ix tx;try simp only [Act.put,ak]
   refine ah 7 ?_;try simp only [Act.put,ak]
   refine aA ?_;clear hld;obtain ⟨wa,kO⟩:=au wv1
   subst kO;have bi:=hid H.out.o;have AR:Hid (Calls prog 49 #[tv p,.func (.func 50) #[] #[.pointer (some ⟨gG,0,none⟩)]] wa (iC (λk=>k=bm) (JG J pk k) M wa t' n)):=hid (by
    obtain ⟨e1,e2⟩:=dE.out (λh=>by cases h.1);rw [<-e1,<-e2];exact pP.out wa H.out.s)
   clear HH pP he;have fY:∀ (fn:Fn) (first cap:aM) (w:World),(Instr.makeFunc fn first cap).run prog w = .ok (.func fn first cap) w:=λ_ _ _ _=>rfl;go_wp2_with (first
    | (refine ay (aT (Tm.aU (j:=0) bi.out.o rfl) ⟨_,rfl,rfl⟩) ?_))
   refine AR.out.mono ?_;rintro e w3 ⟨q,M3,rfl,ht3,f3,i3,t3,j3⟩;rw [fS.out];have cL:=hid (H.out.s.call f3 i3 t3 j3);have cU:=hid (H.out.x.fk H.out.s.i f3 (by have:=ap.out; have:=ce.out; omega));have af:Hid (∀ w9,Rg.Upd w3 gX w9->iC (λk=>k=bm) J M w t' n (.returned (.agg (chA q cc))) w9):=hid (λw9 hu=>by
    rw [<-fS.out];obtain ⟨q,M',h1,h2,h3,h4,h5,h6⟩:=(cL.out.upd HJ.out ap.out.1 ap.out.2.1 hu (by rw [ce.out.1]; exact Nat.le_succ _) cU.out.n).chg n ht3;exact ⟨q,M',h1,h2,h3,h4,h5,h6.1⟩)
   clear ht3 f3 i3 t3 j3 AR H bi;go_wp2_with (first
    | (refine bE cU.out.o rfl q cc rfl _ _ rfl rfl rfl rfl ?_; intro w9 al aq; have bi:Hid (Rg.Own w9 gX (chA q cc) 81):=hid al; have cM:=hid (af.out w9 aq); clear al aq))
   exact bodyPost_ret (jR rfl _ rfl bi.out) rfl cM.out
 .have he:(r.toList==R.toList)=false:=by rw [cX.out]; exact decide_eq_false hq
  have HQ:=hid hq;clear hq;go_enter func48,ntmps48;go_wp2_with (first
   | (refine ay (bJ _ _ _ gX (by rw [ce.out.1]; simp) rfl) ?_; rw [<-HW1.out,ce.out.2]))
  have H:Hid (Gr B (λk=>k=bm) J pk k M w gX gT p w1.drew):=hid (by
   have hb:Below w1.heap.size w1 w1.drew:=below_drewN aG 1;exact HH.out.fr HJ.out (Fr.below M hb) (HH.out.s.i.below hb) (HH.out.s.t.below hb HH.out.s.t.pos))
  refine aB (S:=zT gT gR p R) (i8.out _ H.out) λhld=>?_;refine ah 0 ?_ (hy:=by intro wz hSw; (refine aT (Tm.aU (j:=0) (show zT gT gR p R wz from hSw).1 rfl) ?_; exact ⟨_,rfl,rfl⟩));try simp only [Act.put,ak]
  refine ah 2 ?_ (hy:=by intro wz hSw; (refine Sl (v:=.string R) (Tm.aU (j:=0) (show zT gT gR p R wz from hSw).2 rfl) ?_; exact ⟨_,rfl,rfl⟩));try simp only [Act.put,ak]
  refine aj 1 λK hK=>?_;go_simp;go_at_call 28
  (with_reducible refine (eQ.out _ H.out.s.i H.out.s.t).mono ?_)
  rintro e eq ⟨rfl,fx,ix,tx⟩;replace H:=hid (H.out.fr HJ.out fx ix tx);refine hK.out _ _ (i8.out _ H.out) λhld=>?_;clear hK K fx ix tx;try simp only [Act.put,ak]
  refine ah 3 ?_ (hy:=by intro wz hSw; (have q2:=he; go_simp <;> with_reducible rfl));try simp only [Act.put,ak]
  refine ah 4 ?_;try simp only [Act.put,ak]
  refine Rg.takeL (i:=5) (v:=undef) rfl (by kernel_rfl) (by kernel_rfl) (by kernel_rfl) (λ_ _ _ h=>h) (Or.inr ⟨by rfl,rfl⟩) (by assumption) ?_;try simp only [Act.put,ak]
  refine Rg.takeL (i:=6) (v:=undef) rfl (by kernel_rfl) (by kernel_rfl) (by kernel_rfl) (λ_ _ _ h=>h) (Or.inr ⟨by rfl,rfl⟩) (by assumption) ?_;try simp only [Act.put,ak]
  refine ah 7 ?_;try simp only [Act.put,ak]
  refine aA ?_;clear hld;obtain ⟨wa,kO⟩:=au eq
  subst kO;have bi:=hid H.out.o;have AR:Hid (Calls prog 49 #[tv p,.func (.func 50) #[] #[.pointer (some ⟨gG,0,none⟩)]] wa (iC (λk=>k=bm) (JG J pk k) M wa t' n)):=hid (by
   obtain ⟨e1,e2⟩:=dE.out (λh=>HQ.out h.2);rw [<-e1,<-e2];exact pP.out wa H.out.s)
  clear HH pP he;have fY:∀ (fn:Fn) (first cap:aM) (w:World),(Instr.makeFunc fn first cap).run prog w = .ok (.func fn first cap) w:=λ_ _ _ _=>rfl;go_wp2_with (first
   | (refine ay (aT (Tm.aU (j:=0) bi.out.o rfl) ⟨_,rfl,rfl⟩) ?_))
  refine AR.out.mono ?_;rintro e w3 ⟨q,M3,rfl,ht3,f3,i3,t3,j3⟩;rw [fS.out];have cL:=hid (H.out.s.call f3 i3 t3 j3);have cU:=hid (H.out.x.fk H.out.s.i f3 (by have:=ap.out; have:=ce.out; omega));have af:Hid (∀ w9,Rg.Upd w3 gX w9->iC (λk=>k=bm) J M w t' n (.returned (.agg (chA q cc))) w9):=hid (λw9 hu=>by
   rw [<-fS.out];obtain ⟨q,M',h1,h2,h3,h4,h5,h6⟩:=(cL.out.upd HJ.out ap.out.1 ap.out.2.1 hu (by rw [ce.out.1]; exact Nat.le_succ _) cU.out.n).chg n ht3;exact ⟨q,M',h1,h2,h3,h4,h5,h6.1⟩)
  clear ht3 f3 i3 t3 j3 AR H bi;go_wp2_with (first
   | (refine bE cU.out.o rfl q cc rfl _ _ rfl rfl rfl rfl ?_; intro w9 al aq; have bi:Hid (Rg.Own w9 gX (chA q cc) 81):=hid al; have cM:=hid (af.out w9 aq); clear al aq))
  exact bodyPost_ret (jR rfl _ rfl bi.out) rfl cM.out
theorem JR {B bt bm ba gR gP gG:Nat} {R:aK} {pk:aJ} {k:T} (ei:∀ x∈Lg bt bm ba gR gP gG R pk,x.1<B) (eh:bm<B) (hR:ref k=R) (hk:k ≠ .nil) (fg:Fine k) (L:Nat):L<=64->∀ (x:T),Tr.Good x L->Fine x->Fits R k x L->∀ (M:Mp) (w:World) (p:aJ),MG B bt bm ba gR gP gG R pk k M w->IsT M pk k->Inv M w->Tab w->IsT M p x->
  Calls prog 81 #[tv p,.pointer (some ⟨bt,0,none⟩),.pointer (some ⟨ba,0,none⟩)] w (iC (λk=>k=bm) (MG B bt bm ba gR gP gG R pk k) M w (dh R k x) (dM R x)):=by
 induction L using Nat.strongRecOn with
 | ind L ih =>
  intro hL x g f hfit M w p hj hpk hi hT ht;exact OP (dh R k) (dM R) ei eh bt ba 48 #[.pointer (some ⟨gR,0,none⟩),.pointer (some ⟨gP,0,none⟩),.pointer (some ⟨gG,0,none⟩)] (by simp [Lg]) (by simp [Lg]) (enters_of func48 (by kernel_rfl) rfl) M p x w hi ht hT hj λw1 hj1 hi1 hT1 =>
   JQ ei eh hR hk fg M p x L g hL f hfit (λs hs M w p hj hpk hi hT ht=>by
    obtain ⟨_,f',_,_⟩:=kL g f s hs;obtain ⟨L',hl,g',AS⟩:=IQ g f hfit s hs;exact ih L' hl (by omega) s g' f' AS M w p hj hpk hi hT ht) w1 hi1 ht hT1 hj1 hpk
def AQ (M:Mp) (w:World) (t:T) (n:Nat) (e:Ending) (w':World):Prop:=∃ q M',e = .returned (.tuple #[tv q,.int .i64 (gH n)])/\IsT M' q t/\Fnw M M' w w'/\Inv M' w'/\Tab w'
structure Sq (M:Mp) (w0:World) (gT gK gX:Nat) (p pk:aJ) (w:World):Prop where
 f:Fnw M M w0 w
 i:Inv M w
 t:Tab w
 o:Bx M w gT #[.pointer p] 31
 k:Bx M w gK #[.pointer pk] 31
 x:Bx M w gX #[.pointer none] 31
section
variable {M:Mp} {w0 w w':World} {gT gK gX:Nat} {p pk:aJ}
theorem Sq.fr (h:Sq M w0 gT gK gX p pk w) (f:Fr M M w w') (i:Inv M w') (t:Tab w'):Sq M w0 gT gK gX p pk w':=⟨h.f.trans (Fnw.of f) λ_ h=>h.elim,i,t,h.o.frm h.i f,h.k.frm h.i f,h.x.frm h.i f⟩
theorem Sq.below (h:Sq M w0 gT gK gX p pk w) (hb:Below w.heap.size w w'):Sq M w0 gT gK gX p pk w':=h.fr (Fr.below M hb) (h.i.below hb) (h.t.below hb h.t.pos)
end
theorem Tz {M:Mp} {w:World} {p pk:aJ} (hi:Inv M w) (hT:Tab w):∃ w1,w1=((w.alloc (.cells #[.pointer p] 31)).alloc (.cells #[.pointer pk] 31)).alloc (.cells #[.pointer none] 31)/\Sq M w w.heap.size (w.heap.size+1) (w.heap.size+2) p pk w1/\((w.alloc (.cells #[.pointer p] 31)).alloc (.cells #[.pointer pk] 31)).heap.size=w.heap.size+2:=by
 obtain ⟨w1,hw1⟩:=au ((w.alloc (.cells #[.pointer p] 31)).alloc (.cells #[.pointer pk] 31))
 have hb1:Below w.heap.size w w1:=by rw [hw1]; exact al2 _ _ _
 have hs1:w1.heap.size=w.heap.size+2:=by rw [hw1]; simp
 have hO:Rg.Own w1 w.heap.size #[.pointer p] 31:=by rw [hw1]; exact (Rg.Own.new _ _ _).below (al1 _ _)
 have hK:Rg.Own w1 (w.heap.size+1) #[.pointer pk] 31:=by
  have:=Rg.Own.new (w.alloc (.cells #[.pointer p] 31)) #[.pointer pk] 31;rw [hw1];simpa using this
 have hX:=Rg.Own.new w1 #[.pointer none] 31;rw [hs1] at hX;have hA:=al1 w1 (.cells #[.pointer none] 31);have hb:=bst hb1 hA;have hfr:∀ k,w.heap.size<=k->¬ M.ft k:=λk hk=>hi.free hk;rw [<-hw1];exact ⟨_,rfl,⟨Fnw.of (Fr.below M hb),hi.below hb,hT.below hb hT.pos,⟨hO.below hA,hfr _ aF,bX _⟩,⟨hK.below hA,hfr _ (Nat.le_succ _),bX _⟩,⟨hX,hfr _ (by omega),bX _⟩⟩,hs1⟩
theorem Pe (M:Mp) (p pk:aJ) (t k:T) (L Lk:Nat) (g:Tr.Good t L) (hL:L<=64) (f:Fine t) (gk:Tr.Good k Lk) (hLk:Lk<=64) (fk:Fine k) (hk:k ≠ .nil) (hks:¬ eX k) (hfit:Fits (ref k) k t L) (w:World) (hi:Inv M w) (ht:IsT M p t) (hpk:IsT M pk k) (hT:Tab w) :
  Calls prog 23 #[tv p,tv pk] w (AQ M w (dh (ref k) k t) (dM (ref k) t)):=by
 obtain ⟨w1,hw1,hS1,hs⟩:=Tz (p:=p) (pk:=pk) hi hT;have hnn:pk.isNone=false:=by
  cases pk with
  | none=>exact absurd (show k = .nil from hpk) hk
  | some a=>rfl
 have hnb:mJ k=false:=by
  cases k with
  | stub r=>exact absurd trivial hks
  | _=>rfl
 have cd:=hid hS1;have HW1:=hid hw1;have dd:=hid hs;have Dd:=hid ht;have ex:=hid hpk;have HZ:Hid (0<w.heap.size):=hid hT.pos;have HE:=hid (iJ pk w1);rw [hnn] at HE;have pg:=hid (λwx (hi:Inv M wx) (hT:Tab wx)=>sM M pk k Lk gk hLk fk wx hi hpk hT);rw [hnb] at pg;have eQ:=hid (λwx (hi:Inv M wx) (hT:Tab wx)=>tZ M pk k Lk gk hLk fk wx hi hpk hT);obtain ⟨R,hR⟩:=av (ref k)
 have HR:=hid hR;rw [hR] at eQ hfit ⊢;have AT:Hid (∀ k,w.heap.size<=k->¬ M.ft k):=hid (λk hk=>hi.free hk);have cW:=hid (λ(B bt bm ba gR gP gG:Nat) ei eh=>JR (B:=B) (bt:=bt) (bm:=bm) (ba:=ba) (gR:=gR) (gP:=gP) (gG:=gG) (pk:=pk) ei eh hR hk fk L hL t g f hfit M);obtain ⟨gX,cf⟩:=av (w.heap.size+2)
 have ce:Hid (gX=w.heap.size+2):=hid cf.symm;obtain ⟨gT,ct⟩:=av w.heap.size
 obtain ⟨gK,Dg⟩:=av (w.heap.size+1)
 have HG2:Hid (w.heap.size=gT/\w.heap.size+1=gK):=hid ⟨ct,Dg⟩;rw [cf,Dg,ct] at cd;rw [ct] at Dg cf;obtain ⟨t',ht'⟩:=av (dh R k t)
 obtain ⟨n,hn⟩:=av (dM R t)
 have jx:Hid (dh R k t=t'/\dM R t=n):=hid ⟨ht',hn⟩;rw [ht',hn];clear hS1 hw1 hs hi ht hpk hT cf Dg ct hnn hnb g f gk fk hk hks hfit hR ht' hn;have fY:∀ (fn:Fn) (first cap:aM) (w:World),(Instr.makeFunc fn first cap).run prog w = .ok (.func fn first cap) w:=λ_ _ _ _=>rfl;have hgo:Calls prog 23 #[.agg #[.pointer p],.agg #[.pointer pk]] w (AQ M w t' n):=by
  go_enter func23,ntmps23;go_wp2_with (first
   | (refine ay (aW _ _ _ gX (by rw [ce.out,dd.out]) rfl) ?_; rw [<-HW1.out,HG2.out.1,show gT+1=gK by rw [<-HG2.out.1]; exact HG2.out.2])
   | (refine ay (aT (Tm.aU (j:=0) cd.out.k.o rfl) ⟨_,rfl,rfl⟩) ?_))
  refine HE.out.mono ?_;rintro e w2 ⟨rfl,hb2⟩;have HS2:=hid (cd.out.below hb2);clear hb2 HE cd;go_wp2_with (first
   | (refine Rg.runW (by rfl) _ _ (aT (Tm.aU (j:=0) HS2.out.k.o rfl) ⟨_,rfl,rfl⟩) ?_))
  refine (pg.out w2 HS2.out.i HS2.out.t).mono ?_;rintro e w3 ⟨rfl,f3,i3,t3⟩;have cL:=hid (HS2.out.fr f3 i3 t3);clear f3 i3 t3 HS2 pg;go_wp2_with (first
   | (refine ay (aT (Tm.aU (j:=0) cL.out.k.o rfl) ⟨_,rfl,rfl⟩) ?_))
  refine (eQ.out w3 cL.out.i cL.out.t).mono ?_;rintro e w4 ⟨rfl,f4,i4,t4⟩;have dv:=hid (cL.out.fr f4 i4 t4);have P0:=Rg.Own.new w4 #[.string ⟨#[]⟩] 9;have AW:=hid P0;obtain ⟨w5,wA⟩:=au (w4.setCell ⟨w4.heap.size,0,none⟩ (.string R))
  clear f4 i4 t4 cL eQ P0 wA w5;go_wp2_with (first
   | (refine ay (YU _ _ _ w4.heap.size rfl rfl) ?_)
   | (refine jB AW.out YW rfl _ _ rfl rfl rfl ?_; intro w5 b8 ax; have ae:Hid (Below w4.heap.size w4 w5):=hid (ax.below (al1 _ _) aF); have bz:Hid (Rg.Own w5 w4.heap.size #[.string R] 9):=hid b8; clear b8 ax)
   | (refine ay (Zg _ _ _ w5.heap.size rfl rfl) ?_))
  obtain ⟨w6,lb⟩:=au (w5.alloc (.cells #[.nilFunc] 109))
  have qt:Below w5.heap.size w5 w6:=by rw [lb]; exact al1 _ _
  have pC:Hid (Rg.Own w6 w5.heap.size #[.nilFunc] 109):=hid (by rw [lb]; exact Rg.Own.new _ _ _);have lw:=hid (bz.out.below qt);have io:=hid (dv.out.below (bst ae.out qt));rw [<-lb];obtain ⟨gR,hgR⟩:=av w4.heap.size
  obtain ⟨gG,I8⟩:=av w5.heap.size
  have I9:Hid (w.heap.size<=gR/\gR<gG/\gG<w6.heap.size/\gX<gR/\gT=w.heap.size/\gK=w.heap.size+1/\gX=w.heap.size+2):=hid (by
   have h1:=dv.out.f.size;have h2:=bz.out.1;have h3:=pC.out.1;have h4:=dv.out.x.o.1;have h5:=HG2.out;have h6:=ce.out;omega)
  rw [hgR] at lw;rw [I8] at pC;rw [hgR,I8];clear qt lb hgR I8 dv ae bz AW;refine (KW 48 #[.pointer (some ⟨gR,0,none⟩),.pointer (some ⟨gK,0,none⟩),.pointer (some ⟨gG,0,none⟩)] w6).mono ?_;rintro e w7 ⟨rfl,ha,hm,hbt,cP⟩;have r1:=hid (pC.out.below cP);have V8:Hid (∀ w8,Rg.Own w8 gG #[.func (.func 81) #[] #[.pointer (some ⟨w6.heap.size+2,0,none⟩),.pointer (some ⟨w6.heap.size,0,none⟩)]] 109->Rg.Upd w7 gG w8->
    Bx M w8 gT #[.pointer p] 31/\Calls prog 81 #[tv p,.pointer (some ⟨w6.heap.size+2,0,none⟩),.pointer (some ⟨w6.heap.size,0,none⟩)] w8 (λe w'=>∃ q M',e = .returned (.agg (chA q (gH n)))/\IsT M' q t'/\Fnw M M' w w'/\Inv M' w'/\Tab w'/\Bx M' w' gX #[.pointer none] 31)):=hid (λw8 hg hu=>by
   have hs7:=cP.size;have hsi:=I9.out;have h67:=io.out.f.size;have Hh:=(Array.getElem?_eq_some_iff.1 hbt.2).1;have mT:=io.out.below cP;have hfr:=AT.out;have kw:=hu.size;have j1:Sq M w gT gK gX p pk w8:=⟨Fk.upd mT.f hu (by omega),mT.i.upd hu (hfr _ (by omega)),mM mT.t hu (by have:=HZ.out; omega),mT.o.upd hu (by omega),mT.k.upd hu (by omega),mT.x.upd hu (by omega)⟩
   have hj:MJ w8.heap.size (Lg (w6.heap.size+2) (w6.heap.size+1) w6.heap.size gR gK gG R pk) (w6.heap.size+1) (RT (dh R k) (dM R)) M w8:=by
    refine ⟨λx hx=>?_,Br ((hu.block _ (by omega)).trans hm) _,hfr _ (by omega),aF⟩;unfold Lg at hx;rcases List.mem_cons.1 hx with rfl | hx
    .exact ⟨hbt.upd hu (by show w6.heap.size+2≠gG; omega),hfr _ (by show w.heap.size<=w6.heap.size+2; omega),Vq _⟩
    .rcases List.mem_cons.1 hx with rfl | hx
     .exact ⟨ha.upd hu (by show w6.heap.size≠gG; omega),hfr _ (by show w.heap.size<=w6.heap.size; omega),Hw _ _⟩
     .rcases List.mem_cons.1 hx with rfl | hx
      .exact ⟨hg,hfr _ (by show w.heap.size<=gG; omega),Hw _ _⟩
      .rcases List.mem_cons.1 hx with rfl | hx
       .exact ⟨(lw.out.below cP).upd hu (by show gR≠gG; omega),hfr _ (by show w.heap.size<=gR; omega),Yp _⟩
       .rw [List.mem_singleton.1 hx];exact j1.k
   refine ⟨j1.o,?_⟩;refine (cW.out w8.heap.size _ _ _ gR gK gG (λx hx=>(hj.bx x hx).o.1) hj.m.lt w8 p hj ex.out j1.i j1.t Dd.out).mono ?_;rintro e w' ⟨q,M',he,hq,AC,hi',ht',_⟩;rw [jx.out.2] at he;rw [jx.out.1] at hq;exact ⟨q,M',he,hq,j1.f.trans AC (λk hk=>.inr (by omega)),hi',ht',j1.x.fk j1.i AC (by omega)⟩)
  clear ha hm hbt cP pC lw cW io;go_wp2_with (first
   | (refine jB r1.out ZB rfl _ _ rfl rfl rfl ?_; intro w8 il kw; have Ds:=hid il; obtain ⟨cJ,hc8⟩:=V8.out w8 il kw; have lv:=hid cJ; have P1:=hid hc8; clear il kw cJ hc8)
   | (refine ay (XM (Tm.aU (j:=0) Ds.out rfl) ⟨_,rfl,rfl⟩) ?_)
   | (refine ay (aT (Tm.aU (j:=0) lv.out.o rfl) ⟨_,rfl,rfl⟩) ?_))
  refine P1.out.mono ?_;rintro e w9 ⟨q,M9,rfl,P2,f9,i9,t9,x9⟩;obtain ⟨c,hc⟩:=av (gH n)
  have P3:=hid (Rg.Own.new w9 (chA none 0) 81);have nl:Hid (∀ wa,Below w9.heap.size w9 wa->Bx M9 wa gX #[.pointer none] 31/\∀ wz,Rg.Upd wa.drew gX wz->AQ M w t' n (.returned (.tuple #[tv q,.int .i64 c])) wz):=hid (λwa hb=>by
   have x9:=x9.below hb;have hd:Below wa.heap.size wa wa.drew:=below_drewN aG 1;have hb':=bst hb hd;have fa:Fnw M M9 w wa.drew:=f9.trans (Fnw.of (Fr.below M9 hb')) λ_ h=>h.elim;exact ⟨x9,λwz hu=>⟨q,M9,by rw [<-hc],P2,Fk.upd fa hu (by have:=I9.out; omega),(i9.below hb').upd hu x9.n,mM (t9.below hb' t9.pos) hu (by have:=I9.out; have:=HZ.out; omega)⟩⟩)
  have oa:Hid (w9.heap.size≠gX):=hid (by have:=x9.o.1; omega);rw [hc];clear P2 f9 i9 t9 x9 P1 lv Ds r1 hc;obtain ⟨gC,Id⟩:=av w9.heap.size
  have P4:=hid Id;rw [Id] at oa P3;clear Id;go_wp2_with (first
   | (refine ay (bJ _ _ _ gC P4.out.symm rfl) ?_)
   | (refine bE P3.out rfl q c rfl _ _ rfl rfl rfl rfl ?_; intro wb hOb hub; have bi:Hid (Rg.Own wb gC (chA q c) 81):=hid hOb; obtain ⟨ph,P5⟩:=nl.out wb (hub.below (al1 _ _) (Nat.le_of_eq P4.out)); have zt:=hid ph; have af:=hid P5; clear hOb hub ph P5))
  refine aB (S:=λwz=>Rg.Own wz gC (chA q c) 81) (bi.out.drew) λhld=>?_;refine ah 0 ?_;try simp only [Act.put,ak]
  refine ah 1 ?_ (hy:=by intro wz hSw; (refine aT (Tm.aU (j:=0) hSw rfl) ?_; exact ⟨_,rfl,rfl⟩));try simp only [Act.put,ak]
  refine ah 2 ?_;try simp only [Act.put,ak]
  refine ah 3 ?_ (hy:=by intro wz hSw; (have q0:=Tm.aU (j:=1) hSw rfl; go_simp <;> with_reducible rfl));try simp only [Act.put,ak]
  refine aj 4 λK hK=>?_;refine aY (by rfl) zt.out.o (off:=0) (by simp) q ⟨_,_,rfl,rfl,rfl⟩ ?_;rintro wv hn hu;have If:Hid (Rg.Own wv gX #[.pointer q] 31):=hid hn;have Ix:=hid (af.out wv hu);refine hK.out _ _ (hld.upd hu (by have:=oa.out; omega)) λhld=>?_;clear hK K hn hu;try simp only [Act.put,ak]
  refine ah 5 ?_;try simp only [Act.put,ak]
  refine aA ?_;clear hld;go_wp2;exact bodyPost_ret (uE (q:=4) (u:=5) rfl _ rfl If.out) rfl Ix.out
 exact hgo
end Sx
end
end Go.Proofs.YtlcplcgigjagpaaGreatDoor
