/-
 The contract of Make.
-/
import Derived.Test.YtoipgepkhomfgaaGreatDoorPd13
open Go.Lib (hid)
open Go.Proofs.Tryz
set_option linter.unusedSimpArgs false
set_option linter.unusedVariables false
set_option maxHeartbeats 40000000
set_option maxRecDepth 100000
namespace Go.Proofs.YtoipgepkhomfgaaGreatDoor
variable {w w' w0 w1:World} {B:Nat} {v x:Value} {ops:Array Oper} {o:Oper} {q:aK} {e:TypeId} {ev:Operand->Value}
section
open Go.RowKit
namespace Tm
open Tr Ni Pk Ky No Rf Rl
open Sm (Tab)
theorem VP (M:Mp) (N:Nd) (ts:List T) (hM:Mk N ts) (pa:aK) (pn pc:Nat) (ps:List (aK)) (hA:Are M ps ts) (ka:aK) (kn kc:Nat) (hn:kn<=1000000) (w:World) (hi:Inv M w) (hT:Tab w) (hB:bf w pa pn pc N.p) (hP:iQ w ka kn kc ps) :
  Calls prog 175 #[.agg (ndC N pa pn pc),.slice ka kn kc] w (NJ M w (makeT N ts) 0):=by
 obtain ⟨w2,hw2,hN,hX,hb2⟩:∃ w2,w2=(w.alloc (.cells (ndC N pa pn pc) 69)).alloc (.cells #[.pointer none] 35)/\dZ w2 w.heap.size N pa pn pc/\Rg.Own w2 (w.heap.size+1) #[.pointer none] 35/\Below w.heap.size w w2:=by
  refine ⟨_,rfl,(Rg.Own.new _ _ _).below (al1 _ _),?_,al2 _ _ _⟩;have:=Rg.Own.new (w.alloc (.cells (ndC N pa pn pc) 69)) #[.pointer none] 35;simpa using this
 have hkn:(bF N.ks).length=kn:=by rw [hM.refs,List.length_map,<-hA.1]; exact hP.2.2.1
 have hpn:pn<=1000000:=by have:=hB.len; have:=hM.pl; omega
 have HN:=hid hN;have HX:=hid hX;have HB:=hid hb2;have kx:=hid (hB.below hb2);have HP:=hid (hP.below hb2);have HI:=hid (hi.below hb2);have Hb:=HI;have sq:=hid (hT.below hb2 hT.pos);have HL:=hid hM.ks;have HW:Hid (_=_):=hid hw2;have fh:=hid (Ig N pa pn pc hM.ks w2);have ya:=hid (λwz hz=>Cr hM.ks hM.may hM.v hM.few pa pn pc wz hz)
 have ae:Hid (∀ w5 w8 e,Fr M M w2 w5->Tab w5->dz M w5 (makeT N ts) e w8->∃ p,e = .returned (tv p)/\∀ w9,Rg.Upd w8 (w.heap.size+1) w9->NJ M w (makeT N ts) 0 (.returned (.tuple #[tv p,.int .i64 0])) w9):=hid (λw5 w8 e f t g=>Sv hi hT.pos hb2 hX (Nat.le_succ _) f t g)
 have hU:Hid (∀ w5,iQ w5 ka kn kc ps->∀ wz,Below w5.heap.size w5 wz->Calls prog 191 #[.agg (ndC N pa pn pc),.slice ka kn kc] wz λe w'=>∃ va vn vc,e = .returned (.slice va vn vc)/\Ks0 M w5.heap.size w' va vn vc (fq (makeT N ts))/\Below wz.heap.size wz w'):=hid (λw5 hp wz hb=>by
  refine (zY M N hM.ks pa pn pc ps ts hA hM.kd' ka kn kc wz (hp.below hb) hn).mono ?_;rintro e w' ⟨va,vn,vc,he,hk,hb'⟩;exact ⟨va,vn,vc,he,hk.lo hb.size,hb'⟩)
 have yb:=hid (zm (makeT N ts) N.kd N.v hM.k hM.mv hM.ms);have gp:=hid hM.mp;have yd:=hid hM.mn;have lj:Hid (M.at_ w.heap.size=none/\M.at_ (w.heap.size+1)=none):=hid ⟨hi.out aG,hi.out (by omega)⟩;have HM:=hid hM;have HA:=hid hA;obtain ⟨TT,ir⟩:=ay (makeT N ts)
 rw [ir] at ae hU yb gp yd ⊢;obtain ⟨gN,hgN⟩:=ay w.heap.size
 obtain ⟨gT,eo⟩:=ay (w.heap.size+1)
 have hgg:gN≠gT:=by omega
 have lk:Hid (gT=w.heap.size+1):=hid eo.symm;rw [eo] at HX ae lj;rw [hgN] at HN lj;have Hc:Hid (_=_):=hid hgN;have Hd:=hid hkn;clear hN hX hb2 hB hP hi hT hM hA hw2 ir hkn eo hgN;have hgo:Calls prog 175 #[.agg (ndC N pa pn pc),.slice ka kn kc] w (NJ M w TT 0):=by
  go_enter func175,ntmps175;go_wp2_with (first
   | (refine aA (aX _ _ _ gT (by rw [lk.out]; simp) rfl) ?_; rw [<-HW.out,Hc.out])
   | (refine aA (bR HN.out HL.out ⟨_,rfl,rfl⟩) ?_))
  refine fh.out.mono ?_;rintro e w3 ⟨a3,n3,c3,rfl,ll,ec,hb3⟩;obtain rfl:kn=n3:=by rw [<-ll.2.2.1]; exact Hd.out.symm
  have ix:=hid (HN.out.below hb3);have cN:=hid (HX.out.below hb3);have HB3:=hid (hb3);have cR:=hid (kx.out.below hb3);have cn:=hid ll;have sr:Hid (∀ b off,a3=some ⟨b,off,none⟩->M.at_ b=none):=hid (λb off e=>HI.out.out (ec b off e));clear ll ec hb3 fh HX kx HW;go_wp2_with (first
   | (refine aA (bR ix.out HL.out ⟨_,rfl,rfl⟩) ?_))
  refine (ya.out w3 cR.out).mono ?_;rintro e w4 ⟨rfl,hb4⟩;have o8:=hid (ix.out.below hb4);have di:=hid (cN.out.below hb4);have dj:=hid (cR.out.below hb4);have bc:=hid (bst HB3.out hb4);have du:=hid (cn.out.below hb4);have lL:=hid (HP.out.below bc.out);have HI4:=hid (HI.out.below bc.out);have ia:=hid (sq.out.below bc.out sq.out.pos);have c0:=(dD o8.out).1;clear hb4 ix cN HB3 cR cn ya HP HI sq;go_upto_region 4 with fail
  go_cut [36] (λv wx=>v = .bool false/\Hid (Below w4.heap.size w4 wx))
  case first =>
   rcases HM.out.kd with ⟨h1,h2⟩ | ⟨h1,s,hts,hs1,hs2⟩ | ⟨h1,h2⟩
   .rw [h1] at c0;clear h1 h2;go_wp2_with fail
    go_meet
    exact ⟨rfl,hid aH⟩
   .rw [h1] at c0;have hps:ps.length=1:=by rw [HA.out.1,hts]; rfl
    have hk1:kn=1:=by rw [<-lL.out.2.2.1]; exact hps
    obtain ⟨b,off,hka,hlt,hc⟩:=lL.out.2.2.2.2 0 (by omega);have ht:=HA.out.2 0 (by omega);rw [hts] at ht;have ht':IsT M (ps.getD 0 none) s:=ht;have ot:=λwz (hb:Below w4.heap.size w4 wz)=>Tm.dA M (ps.getD 0 none) s wz (HI4.out.below hb) ht';obtain ⟨p,hp⟩:=ay (ps.getD 0 none)
    rw [hp] at hc ot;have fh:=hid ot;obtain ⟨K,hK⟩:=ay (dB s)
    rw [hK] at fh hs1 hs2;have k1:(K==1)=false:=by rw [beq_eq_false_iff_ne]; exact hs1
    have k2:(K==2)=false:=by rw [beq_eq_false_iff_ne]; exact hs2
    have k1':decide (K=1)=false:=decide_eq_false hs1;have k2':decide (K=2)=false:=decide_eq_false hs2;rw [Nat.add_zero] at hc;have HC:=hid hc;clear h1 hps ht ht' ot hp hK hts;subst hk1;subst hka;go_wp2_with (first
     | (refine aA (aU HC.out ⟨_,rfl,rfl⟩) ?_)
     | (refine Rg.runW ?hw _ _ (aU HC.out ⟨_,rfl,rfl⟩) ?_; case hw=>rfl))
    refine (fh.out w4 aH).mono ?_;rintro e w5 ⟨rfl,hb5⟩;have ss:=hid ((Below.cell (p:=⟨b,off,none⟩) hb5 hlt).trans HC.out);have aa:=hid hb5;clear hb5;go_wp2_with (first
     | (refine aA (aU ss.out ⟨_,rfl,rfl⟩) ?_)
     | (refine Rg.runW ?hw _ _ (aU ss.out ⟨_,rfl,rfl⟩) ?_; case hw=>rfl))
    refine (fh.out w5 aa.out).mono ?_;rintro e w6 ⟨rfl,hb6⟩;have bi:=hid (bst aa.out hb6);clear hb6;go_wp2_with fail
    go_meet
    exact ⟨rfl,bi⟩
   .rw [h1] at c0;clear h1 h2;go_wp2_with fail
    go_meet
    exact ⟨rfl,hid aH⟩
  case rest =>
  obtain ⟨rfl,aa⟩:=hcut;obtain ⟨wd,hwd⟩:=au wc
  subst hwd;have fl:=hid (o8.out.below aa.out);have ye:=hid (di.out.below aa.out);have ml:=hid (dj.out.below aa.out);have yf:=hid (du.out.below aa.out);have sC:=hid (lL.out.below aa.out);have pv:=hid (HI4.out.below aa.out);have yh:=hid (ia.out.below aa.out ia.out.pos);have mm:Hid (Fr M M w2 wd):=hid (Fr.below M (bst bc.out aa.out));have HEq:=hid (Ed M ps ts ka kn kc a3 kn c3 wd sC.out HA.out HM.out.fine (by rw [<-HM.out.refs]; exact yf.out) sr.out hn pv.out yh.out);clear o8 di dj du lL HI4 ia aa bc yf c0;go_wp2_with fail
  refine HEq.out.mono ?_;rintro e w5 ⟨rfl,cq,hi5,eK⟩;have gR:Hid (dZ w5 gN N pa pn pc):=hid (jM fl.out cq lj.out.1);have fy:=hid (jM ye.out cq lj.out.2);have sE:=hid (mP pv.out ml.out cq);have yi:=hid (sC.out.frm pv.out cq);have qT:=hid hi5;replace ae:=hid (λw8 e g=>ae.out w5 w8 e (mm.out.trans Hb.out cq) eK g);replace hU:=hid (hU.out w5 yi.out);have Hh:Hid (∀ wz,Below w5.heap.size w5 wz->Calls prog 115 #[.slice pa pn pc] wz (JW wz N.p)):=hid (λwz hb=>qh pa pn pc N.p hpn wz (sE.out.below hb))
  clear cq hi5 eK HEq fl ye ml sC pv yh mm;go_wp2_with fail
  have bo:Hid (Below w5.heap.size w5 w5.drew):=hid aH.drew;refine aC (S:=λw'=>dZ w' gN N pa pn pc) (gR.out.drew) λhld=>?_;refine ah 0 ?_;try simp only [Act.put,ak]
  refine ah 1 ?_ (hy:=by intro wz hSw; (have q0:=(dD hSw).1; go_simp <;> with_reducible rfl));try simp only [Act.put,ak]
  refine ah 2 ?_;try simp only [Act.put,ak]
  refine ah 3 ?_ (hy:=by intro wz hSw; (have q0:=(dD hSw).2.1; go_simp <;> with_reducible rfl));try simp only [Act.put,ak]
  refine ah 5 ?_;try simp only [Act.put,ak]
  refine ah 6 ?_ (hy:=by intro wz hSw; (have q0:=(dD hSw).2.2; go_simp <;> with_reducible rfl));try simp only [Act.put,ak]
  refine ah 7 ?_ (hy:=by intro wz hSw; (refine bR hSw HL.out ?_; exact ⟨_,rfl,rfl⟩));try simp only [Act.put,ak]
  refine ah 8 ?_;try simp only [Act.put,ak]
  refine aj 4 λK hK=>?_;go_simp;go_at_call 115
  (with_reducible refine (Hh.out _ bo.out).mono ?_)
  rintro e gr ⟨a7,n7,c7,rfl,oj,hbx⟩;have cm:=hid (oj.weak bo.out.size);replace bo:=hid (bst bo.out hbx);clear oj;refine hK.out _ _ (hld.below hbx) λhld=>?_;clear hK K hbx;try simp only [Act.put,ak]
  refine aj 9 λK hK=>?_;go_simp;go_at_call 191
  (with_reducible refine (hU.out _ bo.out).mono ?_)
  rintro e wv1 ⟨va,vn,vc,rfl,hks,hbx⟩;have ju:=hid hks;replace cm:=hid (cm.out.below hbx);replace bo:=hid (bst bo.out hbx);clear hks;refine hK.out _ _ (hld.below hbx) λhld=>?_;clear hK K hbx;try simp only [Act.put,ak]
  refine ah 10 ?_ (hy:=by intro wz hSw; (refine bL (yb.out a7 n7 c7 va vn vc) ?_; exact ⟨_,rfl,rfl⟩));try simp only [Act.put,ak]
  refine aj 11 λK hK=>?_;refine Rg.meetAlloc (by rfl) (jd (t:=TT) ⟨_,rfl,rfl⟩) ?_;rintro wv2 b11 cD h11 hbx;have cg:w5.heap.size<=b11:=by rw [cD]; exact bo.out.size
  replace cm:=hid (cm.out.below hbx);replace ju:=hid (ju.out.below hbx);replace bo:=hid (bst bo.out hbx);obtain ⟨Hi,mr,hE⟩:=ae.out _ _ (vU qT.out bo.out cg yd.out h11.2 (by rw [gp.out]; exact cm.out.1) (λad e _=>Or.inr (cm.out.2 ad e)) ju.out);obtain rfl:Hi=some ⟨b11,0,none⟩:=by cases mr; rfl
  have HE:=hid hE;clear hE mr cD;refine hK.out _ _ (hld.below hbx) λhld=>?_;clear hK K hbx;try simp only [Act.put,ak]
  refine ah 12 ?_;try simp only [Act.put,ak]
  refine aj 13 λK hK=>?_;refine eD (by rfl) (fy.out.below bo.out) (off:=0) (by simp) (some ⟨b11,0,none⟩) ⟨_,_,rfl,rfl,rfl⟩ ?_;rintro pw hn hu;have Hj:Hid (Rg.Own pw gT #[.pointer (some ⟨b11,0,none⟩)] 35):=hid hn;have Hm:=hid (HE.out _ hu);refine hK.out _ _ (hld.upd hu hgg) λhld=>?_;clear hK K hn hu;try simp only [Act.put,ak]
  refine ah 14 ?_;try simp only [Act.put,ak]
  refine aB ?_;clear hld;go_wp2;exact bodyPost_ret (jq (q:=4) (u:=5) rfl _ rfl Hj.out) rfl Hm.out
 exact hgo
theorem PW {ps:List (aK)} (h:w.ownsRow B 35 1 v ps.length (ps.map Value.pointer)):∃ a c,v = .slice a ps.length c/\iQ w a ps.length c ps:=by
 have h':=h;rcases h.2 with ⟨rfl,h0⟩ | ⟨g,cap,cur,rfl,_⟩
 .exact ⟨none,0,by rw [h0],by omega,Nat.zero_le _,rfl,λ_=>rfl,λj hj=>absurd hj (by omega)⟩
 .obtain ⟨_,_,hlt,hnc,hcm,hc⟩:=DU h';exact ⟨_,cap,rfl,hnc,hcm,rfl,λe=>(by cases e),λj hj=>⟨g,0,rfl,hlt,by rw [Nat.zero_add]; exact hc j hj⟩⟩
theorem Ro {w:World} {b n:Nat} {D:DataW Value} (hO:Shf w b n D) (s:aL) (hs:s.size<=1000000) (h32:32<=s.size) (e0:aL) (p:aK) (lv:Nat) (hh:Maps.has D (kK s)=true) (hat:∀ z,D.atKey (kK s) z = .held (.agg (bO e0 p lv))) :
  Calls prog 174 #[.map (some b),.string s] w λe w'=>e = .returned (.tuple #[.agg (bO e0 p lv),.int .i64 0])/\Below w.heap.size w w':=by
 have hs':s.size<=maxLen:=by unfold maxLen; omega
 obtain ⟨w1,hw1⟩:=au (w.alloc (.cells (bO eB none 0) 110))
 have hb1:Below w.heap.size w w1:=by rw [hw1]; exact al1 _ _
 have ab:Rg.Own w1 w.heap.size (bO eB none 0) 110:=by rw [hw1]; exact Rg.Own.new _ _ _
 have hlt:=hO.lt;have hS1:Shf w1 b n D:=by rw [hw1]; exact hO.alloc _
 have bd:=hid ab;have HB1:=hid hb1;have bj:=hid hS1;have HW:Hid (_=_):=hid hw1;have HH:=hid hh;have HA:=hid hat;have HN:=hid (oQ w1 w1.heap.size rfl);have d1:decide ((s.size:Int)<32)=false:=decide_eq_false (by omega);have d2:decide (s.size<32)=false:=decide_eq_false (by omega);clear ab hb1 hS1 hw1 hh hat hO;go_enter func174,ntmps174;go_wp2_with (first
  | (refine aA (bP _ _ _ w.heap.size rfl rfl) ?_; rw [<-HW.out])
  | (refine aA (zo bj.out hs' HH.out HA.out ⟨_,_,rfl,rfl,rfl⟩) ?_)
  | (refine aA (bP _ _ _ w1.heap.size rfl rfl) ?_)
  | (refine cu HN.out rfl e0 p lv rfl _ _ rfl rfl rfl rfl ?_; intro w2 hO2 hu2; have c8:=hid hO2; have HB2:Hid (Below w1.heap.size w1 w2):=hid (hu2.below (al1 _ _) aG); have HR2:=hid (bd.out.below HB2.out); clear hO2 hu2)
  | (refine aA (vv c8.out ⟨_,rfl,rfl⟩) ?_)
  | (refine cu HR2.out rfl e0 p lv rfl _ _ rfl rfl rfl rfl ?_; intro w3 hO3 hu3; have ag:=hid hO3; have me:=hid hu3; clear hO3 hu3))
 exact bodyPost_ret (uZ (q:=4) (u:=5) rfl _ rfl ag.out) rfl ⟨rfl,me.out.below (bst HB1.out HB2.out) aG⟩
def Ug (M:Mp) (w:World) (t:T) (lv:Nat) (e:Ending) (w':World):Prop:=∃ p M',e = .returned (.tuple #[.agg (bO (bE t) p lv),.int .i64 0])/\IsT M' p t/\Fr M M' w w'/\Inv M' w'/\Tab w'
structure Prt (t:T):Prop where
 fine:Fine t
 ns:¬ dQ t
 good:∃ L,L<=64/\Tr.Good t L
theorem Whl.prt {t:T} (h:Whl t):Prt t:=⟨h.fine,h.ns,h.good⟩
theorem Prt.size {t:T} (h:Prt t) (hn:t ≠ .nil):(bE t).size<=900000:=by
 obtain ⟨L,hL,hg⟩:=h.good;exact (jl hg hL h.fine hn h.ns).2.2.1
theorem IL {t:T} (hx:Prt t) (hn:t ≠ .nil) (w:World):Calls prog 152 #[.string (bE t)] w λe w'=>∃ a n c,e = .returned (.tuple #[.agg (ndC (bg t) a n c),.int .i64 0])/\bf w' a n c (bg t).p/\Below w.heap.size w w':=by
 obtain ⟨L,hL,hg⟩:=hx.good;obtain ⟨h1,h2,h3,_⟩:=jl hg hL hx.fine hn hx.ns;have WF:sO (bE t).data.toList=some (bg t):=by
  rw [h2];show sO (jB (bg t)).toArray.toList=_;exact get_put (cK t) h1
 refine (Ii (bE t) (by omega) w).mono ?_;rintro e w' ⟨N,a,n,c,er,rfl,hor,hbs,_,hb⟩;rw [WF] at hor;rcases hor with ⟨rfl,hN⟩ | ⟨_,_,hN⟩
 .obtain rfl:=Option.some.inj hN;exact ⟨a,n,c,rfl,hbs.1,hb⟩
 .cases hN
theorem xC {M:Mp} {w:World} {b n:Nat} {f:Fs} {D:DataW Value} (hS:ShS M w b f n D) {t:T} (hx:Prt t) (hn:t ≠ .nil) :
  Calls prog 106 #[.map (some b),.string (bE t)] w (Le w (((aY t).map ref).filter λs=>!gone f s)):=by
 have da:∀ (fn:Fn) (first cap:aN) (w:World),(Instr.makeFunc fn first cap).run prog w = .ok (.func fn first cap) w:=λ_ _ _ _=>rfl;obtain ⟨L,hL,hg⟩:=hx.good;have hks:=(jl hg hL hx.fine hn hx.ns).2.2.2.2.2;have hkr:=sD hg hL hx.fine;have hkl:=pK t;have hsz:∀ s∈(aY t).map ref,s.size<=100:=λs hs=>hks s (by rw [<-hkr] at hs; exact (List.mem_filter.1 hs).1);obtain ⟨w1,hw1⟩:=au (w.alloc (.cells #[.map (some b)] 113))
 have hb1:Below w.heap.size w w1:=by rw [hw1]; exact al1 _ _
 have hc1:w1.cell? ⟨w.heap.size,0,none⟩=some (.map (some b)):=by rw [hw1]; exact UY w _ _
 have hlt:=hS.lt;have iz:=hid (IL hx hn w1);have hK:∀ a' n' c' w2,Calls prog 133 #[.agg (ndC (bg t) a' n' c')] w2 (Le w2 ((aY t).map ref)):=λa' n' c' w2=>by
  have:=Gr (bg t) a' n' c' (cK t) w2;rw [hkr] at this;exact this
 have HK:=hid hK;have HD:Hid (∀ w4 v w5,Below w1.heap.size w1 w4->w5.ownsRow w4.heap.size 9 1 v ((aY t).map ref).length (((aY t).map ref).map Value.string)->Below w4.heap.size w4 w5->Calls prog 153 #[v,.func (Fn.func 154) #[] #[.pointer (some ⟨w.heap.size,0,none⟩)]] w5 λe w'=>Le w (((aY t).map ref).filter λs=>!gone f s) e w'):=hid (λw4 v w5 cE h5 sL=>by
  have hs1:=hb1.size;have hs4:=cE.size;have Hn:=sL.size;have hg1:=World.block_lt_of_cell? w1 _ hc1;refine (uO (gone f) w.heap.size ((aY t).map ref) (by rw [List.length_map]; omega) w4.heap.size v w5 h5 Hn (λs hs wz hbz _ _=>?_)).mono ?_
  .have h1z:Below w1.heap.size w1 wz:=(cE.trans (sL.mono hs4)).trans (hbz.mono hs4);exact GX ((hS.below hb1 hlt).below h1z (by omega)) w.heap.size ((h1z.cell (p:=⟨w.heap.size,0,none⟩) hg1).trans hc1) s (by have:=hsz s hs; omega)
  .rintro e w6 ⟨v',rfl,h6,hb6⟩;exact ⟨v',rfl,EK h6 (by omega),((hb1.trans (cE.mono hs1)).trans (sL.mono (by omega))).trans (hb6.mono (by omega))⟩)
 have HW:Hid (_=_):=hid hw1;have ca:=hid (cK t);obtain ⟨N,hN⟩:=ay (bg t)
 rw [hN] at iz HK ca;obtain ⟨E,hE⟩:=ay (bE t)
 rw [hE] at iz ⊢;clear hE hN hK hw1 hb1 hc1 hlt hsz hkl hkr hks hg hL hS hx hn;go_enter func106,ntmps106;go_wp2_with (first
  | (rw [<-HW.out]))
 refine iz.out.mono ?_;rintro e w2 ⟨na,nn,nc,rfl,_,hb2⟩;have mt:dZ (w2.alloc (.cells (ndC nd0 none 0 0) 69)) w2.heap.size nd0 none 0 0:=Rg.Own.new _ _ _;have fl:=hid mt;have HB2:=hid hb2;clear mt hb2 iz HW;go_wp2_with (first
  | (refine aA (bD _ _ _ w2.heap.size rfl rfl) ?_)
  | (refine jC fl.out rfl N na nn nc ca.out rfl _ _ rfl rfl rfl rfl ?_; intro w4 hO4 fR; have b8:=hid hO4; have bc:Hid (Below w2.heap.size w2 w4):=hid (fR.below (al1 _ _) aG); clear hO4 fR)
  | (refine aA (bR b8.out ca.out ⟨_,rfl,rfl⟩) ?_))
 refine (HK.out na nn nc w4).mono ?_;rintro e w5 ⟨v5,rfl,h5,hb5⟩;have HD5:=hid (HD.out w4 v5 w5 (bst HB2.out bc.out) h5 hb5);clear h5 hb5 HD HK HB2 bc b8 fl;go_wp2_with fail
 refine HD5.out.mono ?_;rintro e w6 ⟨v6,rfl,h6,hb6⟩;have HE:=hid (show Le w _ (.returned v6) w6 from ⟨v6,rfl,h6,hb6⟩);clear h6 hb6 HD5;go_wp2;go_ret;exact HE.out
def lvP (f:Fs) (u:T):Nat:=match f (ref u) with
 | some (_,_,lv)=>lv
 | none=>1
def lu (f:Fs) (l:List T):Nat:=l.foldl (λm u=>max m (lvP f u)) 0
def Kn (f:Fs) (u:T):Prop:=(∃ lv,f (ref u)=some (bE u,u,lv)/\0<lv/\lv<=64/\32<=(ref u).size)\/(∃ r,u = .stub r/\r.size=32/\f r=none)
def Rdp (f:Fs) (t:T):Prop:=∀ u∈aY t,Kn f u
theorem Kn.le {f:Fs} {u:T} (h:Kn f u):lvP f u<=64:=by
 unfold lvP;rcases h with ⟨lv,e,_,h2,_⟩ | ⟨r,rfl,_,e⟩
 .rw [e]; exact h2
 .rw [show ref (.stub r)=r from rfl,e]; exact by decide
theorem Kn.gone {f:Fs} {u:T} (h:Kn f u):gone f (ref u)=true:=by
 unfold Tm.gone;rcases h with ⟨lv,e,h1,_⟩ | ⟨r,rfl,_,e⟩
 .rw [e]; exact aJ h1
 .rw [show ref (.stub r)=r from rfl,e]
theorem RH (f:Fs) (l:List T) (j:Nat) (hj:j<l.length):lu f (l.take (j+1))=max (lu f (l.take j)) (lvP f (l.getD j .nil)):=by
 unfold lu;rw [List.take_add_one,List.getElem?_eq_getElem hj,List.foldl_append];simp [List.getD,hj]
theorem MP (f:Fs) (B:Nat):∀ (l:List T) (m:Nat),m<=B->(∀ u∈l,lvP f u<=B)->l.foldl (λm u=>max m (lvP f u)) m<=B
 | [],m,h,_=>h
 | u::r,m,h,hl=>MP f B r _ (Nat.max_le.2 ⟨h,hl u List.mem_cons_self⟩) λz hz=>hl z (List.mem_cons_of_mem _ hz)
theorem Rdp.max {f:Fs} {t:T} (h:Rdp f t) (j:Nat):lu f ((aY t).take j)<=64:=MP f 64 _ 0 (Nat.zero_le _) λu hu=>(h u (List.mem_of_mem_take hu)).le
def Fj (M:Mp) (w:World) (u:T) (lv:Nat) (e:Ending) (w':World):Prop:=∃ e0 p M',e = .returned (.tuple #[.agg (bO e0 p lv),.int .i64 0])/\IsT M' p u/\Fr M M' w w'/\Inv M' w'/\Below w.heap.size w w'/\∀ k,k<w.heap.size->M'.ft k->M.ft k
theorem Mg (p:aK):prog.built 110 [(1,tv p),(2,.int .i64 1)]=some (bO eB p 1):=by kernel_rfl
theorem PN {M:Mp} {w:World} {b n:Nat} {D:DataW Value} (hO:Shf w b n D) (hi:Inv M w) (s:aL) (hs:s.size=32) (hh:Maps.has D (kK s)=false) :
  Calls prog 174 #[.map (some b),.string s] w (Fj M w (.stub s) 1):=by
 have hs':s.size<=maxLen:=by unfold maxLen; omega
 obtain ⟨w1,hw1⟩:=au (w.alloc (.cells (bO eB none 0) 110))
 have hb1:Below w.heap.size w w1:=by rw [hw1]; exact al1 _ _
 have ab:Rg.Own w1 w.heap.size (bO eB none 0) 110:=by rw [hw1]; exact Rg.Own.new _ _ _
 have hS1:Shf w1 b n D:=by rw [hw1]; exact hO.alloc _
 have bd:=hid ab;have HB1:=hid hb1;have bj:=hid hS1;have HW:Hid (_=_):=hid hw1;have HH:=hid hh;have HN:=hid (oQ w1 w1.heap.size rfl);have HE:Hid (∀ w2,Below w1.heap.size w1 w2->Calls prog 127 #[.string s] w2 λe w3=>∃ p,e = .returned (tv p)/\Rg.Own w3 w.heap.size (bO eB none 0) 110/\∀ w4,Rg.Upd w3 w.heap.size w4->Fj M w (.stub s) 1 (.returned (.tuple #[.agg (bO eB p 1),.int .i64 0])) w4):=hid (λw2 bu=>by
  have hb2:Below w.heap.size w w2:=bst hb1 bu;have hi2:=hi.below hb2;have hk:mq s=1:=by
   unfold mq;rw [if_neg (by omega),if_pos hs]
  refine (DV M s hs' (.inl hk) w2 hi2).mono ?_;rintro e w3 ⟨p,M',rfl,ht,f,i,hb3,hf⟩;have hO3:Rg.Own w3 w.heap.size (bO eB none 0) 110:=(ab.below bu).below hb3;have hs2:=hb2.size;refine ⟨p,rfl,hO3,λw4 hu=>⟨eB,p,M',rfl,ht,(((Fr.below M hb2).trans hi f).upd hu aG),i.upd hu λh=>hi.free aG (hf _ (ab.below bu).1 h),hu.below (bst hb2 hb3) aG,λk hk h=>hf k (by omega) h⟩⟩)
 have d1:decide ((s.size:Int)<32)=false:=decide_eq_false (by omega);have d2:decide (s.size<32)=false:=decide_eq_false (by omega);clear ab hb1 hS1 hw1 hh hO hi;go_enter func174,ntmps174;go_wp2_with (first
  | (refine aA (bP _ _ _ w.heap.size rfl rfl) ?_; rw [<-HW.out])
  | (refine aA (Aq bj.out hs' HH.out ⟨_,_,rfl,rfl,rfl⟩) ?_)
  | (refine aA (bP _ _ _ w1.heap.size rfl rfl) ?_)
  | (refine cu HN.out rfl eB none 0 rfl _ _ rfl rfl rfl rfl ?_; intro w2 hO2 hu2; have HB2:Hid (Below w1.heap.size w1 w2):=hid (hu2.below (al1 _ _) aG); have HD:=hid (HE.out w2 HB2.out); clear hO2 hu2))
 refine HD.out.mono ?_;rintro e w3 ⟨p,rfl,hO3,hF⟩;have ag:=hid hO3;have HF:=hid hF;clear hO3 hF HD HE;go_wp2_with (first
  | (refine aA (bL (Mg p) ⟨_,rfl,rfl⟩) ?_)
  | (refine cu ag.out rfl eB p 1 rfl _ _ rfl rfl rfl rfl ?_; intro w4 hO4 fR; have b8:=hid hO4; have jx:=hid (HF.out w4 fR); clear hO4 fR))
 exact bodyPost_ret (uZ (q:=4) (u:=5) rfl _ rfl b8.out) rfl jx.out
theorem QJ {M:Mp} {b n:Nat} {f:Fs} {D:DataW Value} (hS:ShS M w b f n D) (hi:Inv M w) {u:T} (hsz:(ref u).size<=100) (hk:Kn f u) :
  Calls prog 174 #[.map (some b),.string (ref u)] w (Fj M w u (lvP f u)):=by
 rcases hk with ⟨lv,hf,_,_,h32⟩ | ⟨r,rfl,h32,hf⟩
 .obtain ⟨hh,p,htp,hat⟩:=hS.some_ _ _ _ _ (by unfold maxLen; omega) hf;have hl:lvP f u=lv:=by unfold lvP; rw [hf]
  refine (Ro hS.own _ (by omega) h32 _ p lv hh hat).mono ?_;rintro e w' ⟨rfl,hb⟩;exact ⟨_,p,M,by rw [hl],htp,Fr.below M hb,hi.below hb,hb,λ_ _ h=>h⟩
 .have hl:lvP f (.stub r)=1:=by unfold lvP; rw [show ref (.stub r)=r from rfl,hf]
  rw [hl];exact PN hS.own hi r h32 (hS.none_ r (by unfold maxLen; omega) hf)
theorem Fr.grown {M M':Mp} {b:Nat} (f:Fr M M' w w1) (hg:w1.grownBy w' (some b)) (hb:w.heap.size<=b):Fr M M' w w' :=
 ⟨hg.os.trans f.os,hg.tape.trans f.tape,hg.output.trans f.output,Nat.le_trans f.size hg.size,λk hk hm=>(hg.block k (aI hk f.size) (λe=>by have:=Option.some.inj e; omega)).trans (f.block k hk hm),f.mono,f.fresh,f.grow,f.foot⟩
structure GQ (M:Mp) (w:World) (b:Nat) (f:Fs) (n:Nat) (M':Mp) (w':World) (D':DataW Value):Prop where
 fr:∀ Ms ws,Inv Ms ws->Fr Ms M ws w->ws.heap.size<=b->Fr Ms M' ws w'
 size:w.heap.size<=w'.heap.size
 block:∀ k,k<w.heap.size->M.at_ k=none->k≠b->w'.heap[k]? = w.heap[k]?/\M'.at_ k=none
 foot:∀ k,k<w.heap.size->¬ M.ft k->¬ gq w k->¬ M'.ft k
 i:Inv M' w'
 t:Tab w'
 s:ShS M' w' b f n D'
theorem qb (e:aL) (p:aK) (lv:Nat):∀ (j:Nat) (x:Int),(bO e p lv)[j]? ≠ some (Value.int .u8 x):=λj x h=>by
 match j,h with
 | 0,h=>simp [bO] at h
 | 1,h=>simp [bO] at h
 | 2,h=>simp [bO] at h
 | j+3,h=>simp [bO] at h
theorem Fr.TL {M M':Mp} {ob:Option Nat} (f:Fr M M' w w1) (hg:w1.grownBy w' ob) (hb:∀ k,ob=some k->w.heap.size<=k):Fr M M' w w' :=
 ⟨hg.os.trans f.os,hg.tape.trans f.tape,hg.output.trans f.output,Nat.le_trans f.size hg.size,λk hk hm=>(hg.block k (aI hk f.size) (λe=>by have:=hb k e.symm; omega)).trans (f.block k hk hm),f.mono,f.fresh,f.grow,f.foot⟩
theorem tab_grownO {ob:Option Nat} (t:Tab w) (hg:w.grownBy w' ob) (hb:∀ k,ob=some k->0 < k):Tab w':=λi hi=>by
 rw [World.cell?_of_block (hg.block 0 t.pos (λe=>by have:=hb _ e.symm; omega))];exact t i hi
theorem LG {rest:List Oper} {a:Go.Act} {Q:Exit->Go.Act->World->Prop} {b2:Nat} {ps:List (aK)} (hR:w.ownsRow B 35 1 v ps.length (ps.map Value.pointer)) (h2:Rg.Own w b2 (mD [q]) 35) (hn:ps.length<=1000000) (hB:B<=w.heap.size) (hgd:o.guard=none)
  (ho:∃ s y,o.op = .call { callee:=.builtin .append,args:=#[s,y],argTypes:=#[122,122] }/\a.eval s=v/\a.eval y = .slice (some ⟨b2,0,none⟩) 1 1)
  (H:∀ v' w',w'.ownsRow B 35 1 v' (ps.length+1) (ps.map Value.pointer++[.pointer q])->w.grownBy w' v.ownBlock->(v'.ownBlock=v.ownBlock\/v'.ownBlock=some w.heap.size)->wpList prog ops Q rest (a.put o.dst v') w'):wpList prog ops Q (o::rest) a w:=by
 obtain ⟨s,y',ho,hs,hy⟩:=ho;obtain ⟨i0,z0,hi,hz,hsz,hby,hzc⟩:=jF;obtain ⟨v',w',hr,h3,h4,_,h5⟩:=run_append_own_at (P:=prog) w B 122 o.type 35 i0 z0 1 8 underlying122 hi hz hsz hby hzc (by decide) v ps.length _ hR ⟨b2,0,none⟩ 1 1 [.pointer q] rfl
  (λj u hu=>by
   have hj:j=0:=by
    have:=(List.getElem?_eq_some_iff.1 hu).1;simp at this;omega
   subst hj;have hu':Value.pointer q=u:=by simpa using hu
   rw [Addr.add_mid,<-hu'];exact Tm.aV h2 rfl)
  (λu hu=>by rw [List.mem_singleton.1 hu]; rfl) (by unfold maxLen; omega) (by omega) hB
 refine eZ hgd v' w' ?_ (H v' w' h3 h4 h5);unfold execOp;simp only [ho,resolve,invoke,builtin,Sem.run_bind,Sem.run_pure,Result.andThen_ok,List.map_toArray,List.map_cons,List.map_nil,hs,hy,hr]
theorem Kv {M:Mp} {w:World} {b n:Nat} {f:Fs} {D:DataW Value} (hS:ShS M w b f n D) (hi:Inv M w) (hT:Tab w) {t:T} (hx:Prt t) (hn:t ≠ .nil) (hr:Rdp f t) :
  Calls prog 155 #[.map (some b),.string (bE t)] w (Ug M w t (lu f (aY t)+1)):=by
 obtain ⟨i0,z0,hi0,hz0,hz1,hz2,hz3⟩:=jF;have HI:Hid (_/\_/\_/\_/\_):=hid ⟨hi0,hz0,hz1,hz2,hz3⟩;obtain ⟨L,hL,hg⟩:=hx.good;have hks:=(jl hg hL hx.fine hn hx.ns).2.2.2.2.2;have hkr:=sD hg hL hx.fine;have hkl:=pK t;have hlt:=hS.lt;obtain ⟨w1,hw1⟩:=au (w.alloc (.cells (bO eB none 0) 110))
 have hb1:Below w.heap.size w w1:=by rw [hw1]; exact al1 _ _
 have ab:Rg.Own w1 w.heap.size (bO eB none 0) 110:=by rw [hw1]; exact Rg.Own.new _ _ _
 have iz:=hid (IL hx hn w1);have hK:∀ a' n' c' w2,Calls prog 133 #[.agg (ndC (bg t) a' n' c')] w2 (Le w2 ((aY t).map ref)):=λa' n' c' w2=>by
  have:=Gr (bg t) a' n' c' (cK t) w2;rw [hkr] at this;exact this
 have HK:=hid hK;have hi1:=hi.below hb1;have hT1:=hT.below hb1 hT.pos;have Pp:∀ (Mj:Mp) (w2:World) (pa:aK) (pn pc:Nat) (v:Value) (ps:List (aK)),(Fr M Mj w1 w2/\Inv Mj w2/\Tab w2)->Below w1.heap.size w1 w2->bf w2 pa pn pc (bg t).p->w2.ownsRow w1.heap.size 35 1 v ps.length (ps.map Value.pointer)->Are Mj ps (aY t)->
   Calls prog 175 #[.agg (ndC (bg t) pa pn pc),v] w2 λe w'=>∃ p M',e = .returned (.tuple #[tv p,.int .i64 0])/\IsT M' p t/\Rg.Own w' w.heap.size (bO eB none 0) 110/\∀ w3,Below w'.heap.size w' w3->Rg.Own w3 w.heap.size (bO eB none 0) 110/\∀ w4,Rg.Upd w3 w.heap.size w4->Fr M M' w w4/\Inv M' w4/\Tab w4:=λMj w2 pa pn pc v ps ⟨fj,ij,tj⟩ hb2 hp2 hr2 hA=>by
  obtain ⟨a,c,rfl,hP⟩:=PW hr2;have hpl:ps.length<=16:=by rw [hA.1]; exact hkl
  have hat:Mj.at_ w.heap.size=none:=fj.fresh _ ab.1 (hi.out aG);have hnb:=cZ ab (qb _ _ _);have WN:¬ Mj.ft w.heap.size:=fj.box (hi.free aG) ab.1 hnb;refine (VP Mj (bg t) (aY t) (Wm hg hL hx.fine hn hx.ns) pa pn pc ps hA a ps.length c (by omega) w2 ij tj hp2 hP).mono ?_;rw [Cn hg hL hx.fine hn hx.ns];rintro e w' ⟨p,M',rfl,ht,f',i',t'⟩;have f0:=((Fr.below M hb1).trans hi fj).trans hi f';have oa:=jM (ab.below hb2) f' hat;refine ⟨p,M',rfl,ht,oa,λw3 hb3=>⟨oa.below hb3,λw4 hu=>?_⟩⟩
  have hnf:¬ M'.ft w.heap.size:=f'.box WN (ab.below hb2).1 (cZ (ab.below hb2) (qb _ _ _));refine ⟨((f0.trans hi (Fr.below M' hb3)).upd hu aG),(i'.below hb3).upd hu hnf,Tab.upd (t'.below hb3 t'.pos) hu hT.pos⟩
 have Hp:=hid Pp;have Pr:∀ (j:Nat),j<(aY t).length->∃ lv,lvP f ((aY t).getD j .nil)=lv/\lv<=64/\∀ Mj wz,(Fr M Mj w1 wz/\Inv Mj wz/\Tab wz)->Calls prog 174 #[.map (some b),.string (ref ((aY t).getD j .nil))] wz (Fj Mj wz ((aY t).getD j .nil) lv):=λj hj=>by
  have hm:(aY t).getD j .nil∈aY t:=by
   rw [List.getD_eq_getElem?_getD,List.getElem?_eq_getElem hj];exact List.getElem_mem hj
  have hsz:(ref ((aY t).getD j .nil)).size<=100:=hks _ (by
   have:ref ((aY t).getD j .nil)∈bF (bg t).ks:=by rw [hkr]; exact List.mem_map.2 ⟨_,hm,rfl⟩
   exact (List.mem_filter.1 this).1)
  exact ⟨_,rfl,(hr _ hm).le,λMj wz ⟨fj,ij,_⟩=>QJ ((hS.below hb1 hlt).frm hi1 fj) ij hsz (hr _ hm)⟩
 have Ps:=hid Pr;have hmx:∀ j,lu f ((aY t).take j)<=64:=λj=>hr.max j;have Pu:=hid (RH f (aY t));have hB0:lu f ((aY t).take 0)=0:=rfl;have gd:lu f ((aY t).take (aY t).length)=lu f (aY t):=by rw [List.take_length]
 have cH:=hid gd;have hs1:=hb1.size;have HB1:=hid hb1;have bd:=hid ab;have HI1:=hid hi1;have HT1:=hid hT1;have HW:Hid (_=_):=hid hw1;have ca:=hid (cK t);have Hs:=hid hmx;obtain ⟨N,hN⟩:=ay (bg t)
 rw [hN] at iz HK ca Hp;obtain ⟨E,hE⟩:=ay (bE t)
 unfold Ug;rw [hE] at iz ⊢;obtain ⟨ts,hts⟩:=ay (aY t)
 rw [hts] at HK Hp Ps Pu cH hkl Hs ⊢;clear hB0 gd hmx Pr Pp hK hi1 hT1 hw1 hb1 ab hlt hkr hks hL hg hS hi hT hx hn hr hN hE hts hi0 hz0 hz1 hz2 hz3;go_enter func155,ntmps155;go_wp2_with (first
  | (refine aA (bP _ _ _ w.heap.size rfl rfl) ?_; rw [<-HW.out]))
 refine iz.out.mono ?_;rintro e w2 ⟨na,nn,nc,rfl,hp2,hb2⟩;have mt:dZ (w2.alloc (.cells (ndC nd0 none 0 0) 69)) w2.heap.size nd0 none 0 0:=Rg.Own.new _ _ _;have fl:=hid mt;have HB2:=hid hb2;have px:=hid hp2;clear mt hb2 hp2 iz HW;go_wp2_with (first
  | (refine aA (bD _ _ _ w2.heap.size rfl rfl) ?_)
  | (refine jC fl.out rfl N na nn nc ca.out rfl _ _ rfl rfl rfl rfl ?_; intro w4 hO4 fR; have b8:=hid hO4; have bc:Hid (Below w2.heap.size w2 w4):=hid (fR.below (al1 _ _) aG); clear hO4 fR)
  | (refine aA (bR b8.out ca.out ⟨_,rfl,rfl⟩) ?_))
 refine (HK.out na nn nc w4).mono ?_;rintro e w5 ⟨v5,rfl,h5,hb5⟩;obtain ⟨ka,kc,rfl,hst⟩:=fO.oF h5;have cw:=hid hst;have hnc:=hst.1;have hcm:=hst.2.1;unfold maxLen at hcm;have aa:=hid (bst (bst HB2.out bc.out) hb5);have az:=hid (b8.out.below hb5);have yi:=hid ((px.out.below bc.out).below hb5);have hs5:=aa.out.size;obtain ⟨m,hm⟩:=ay ((ts.map ref).length)
 have hml:ts.length=m:=by rw [<-hm,List.length_map]
 rw [hm] at hnc hst;have sR:=hid hst;have HL:=hid hml;rw [hml] at hkl;rw [hm];obtain ⟨gN,hgN⟩:=ay w2.heap.size
 rw [hgN] at az;rw [hgN];clear h5 hb5 hst hm hml hgN HK HB2 bc b8 fl px cw;go_wp2_with fail
 go_loopw [8,9,26] (λv0 vl i wr=>∃ (j:Nat) (ps:List (aK)) (Mj:Mp) (v:Value),v=v0/\j<=m/\i = .int .i64 j/\vl = .int .i64 (lu f (ts.take j):Nat)/\ps.length=j/\Hid (wr.ownsRow w5.heap.size 35 1 v ps.length (ps.map Value.pointer))/\Hid (Are Mj ps (ts.take j))/\Hid (Below w5.heap.size w5 wr)/\Hid (Fr M Mj w1 wr/\Inv Mj wr/\Tab wr)/\Hid (∀ k,v.ownBlock=some k->¬ Mj.ft k)) (λ_ _ i _=>m-(intOf i).toNat)
 case atStart=>exact ⟨0,[],M,_,rfl,Nat.zero_le _,rfl,rfl,rfl,hid (World.ownsRow_nil _ _ _ _),hid ⟨rfl,λj hj=>absurd hj (Nat.not_lt_zero _)⟩,hid aH,hid ⟨Fr.below M aa.out,HI1.out.below aa.out,HT1.out.below aa.out HT1.out.pos⟩,hid (λk e=>by cases e)⟩
 case round =>
  obtain ⟨j,ps,Mj,v,hv,hj,rfl,rfl,hpl,HR,HA,HB,H3,uC⟩:=hrel;subst hv;have hsr:=HB.out.size;have Hv:=hid (bst aa.out HB.out);by_cases hlt:j<m
  .obtain ⟨lv,hlv,PA,rd⟩:=Ps.out j (by rw [HL.out]; exact hlt);have I0:=hid (rd Mj wr H3.out);have HS:=hid (Pu.out j (by rw [HL.out]; exact hlt));rw [hlv] at HS;have WP:=Hs.out j;obtain ⟨kb,ko,rfl,hkb,hkc⟩:=sR.out.at' j hlt;have sT:=(Below.cell (p:=⟨kb,ko+j,none⟩) HB.out hkb).trans hkc;have hmr:(ts.map ref).getD j eB=ref (ts.getD j .nil):=by
    have h1:j<ts.length:=by rw [HL.out]; exact hlt
    simp [List.getD,h1]
   rw [hmr] at sT;have hji:(j:Int)<m:=by omega
   obtain ⟨s,hs⟩:=ay (ref (ts.getD j .nil))
   rw [hs] at I0 sT;have fw:Hid (ts.take (j+1)=ts.take j++[ts.getD j .nil]):=hid (by
    have h1:j<ts.length:=by rw [HL.out]; exact hlt
    rw [List.take_add_one,List.getElem?_eq_getElem h1];simp [List.getD,h1])
   obtain ⟨mj,yk⟩:=ay (lu f (ts.take j))
   rw [yk] at HS WP ⊢;clear rd hlv hmr hkc hs hkb yk;go_wp2_with fail
   refine I0.out.mono ?_;rintro e w6 ⟨e0,p,M6,rfl,htp,f6,i6,hb6,g6⟩;have py:=hid htp;have bi:=hid hb6;have H6:Hid (Fr M M6 w1 w6/\Inv M6 w6/\Tab w6):=hid ⟨H3.out.1.trans HI1.out f6,i6,H3.out.2.2.below hb6 H3.out.2.2.pos⟩;have jt:Hid (∀ k,v.ownBlock=some k->¬ M6.ft k):=hid (λk e h=>uC.out k e (g6 k (HR.out.lt k e).2 h));have oe:Hid (Are M6 ps (ts.take j)):=hid (HA.out.mono f6.mono);clear htp f6 i6 g6;have X0:=hid (oQ w6 w6.heap.size rfl);have hs6:=hb6.size;clear hb6 I0 sT;go_wp2_with (first
    | (refine aA (bP _ _ _ w6.heap.size rfl rfl) ?_)
    | (refine cu X0.out rfl e0 p lv rfl _ _ rfl rfl rfl rfl ?_; intro w7 cY cQ; have iu:=hid cY; have cm:Hid (Below w6.heap.size w6 w7):=hid (cQ.below (al1 _ _) aG); have PB:=bst bi.out cm.out; have ip:=hid (qY HR.out PB); have hs7:w5.heap.size<=w7.heap.size:=(by have:=PB.size; omega); have c72:w7.cell? ⟨w6.heap.size,2,none⟩=some (.int .i64 lv):=aV (j:=2) cY rfl; have c71:w7.cell? ⟨w6.heap.size,1,none⟩=some (.pointer p):=aV (j:=1) cY rfl; clear cY cQ)
    | (refine aA (aU (off:=1) c71 ⟨_,rfl,rfl⟩) ?_)
    | (refine aA (En w7.heap.size rfl ⟨_,rfl,rfl⟩) ?_)
    | (
      at_builtin
      refine LG (B:=w5.heap.size) (b2:=w7.heap.size) (q:=p) (ip.out.alloc _) (Rg.Own.new w7 _ _) (by omega) (by have:=(show Below w7.heap.size w7 (w7.alloc (.cells (mD [p]) 35)) from al1 _ _).size; omega) rfl ⟨_,_,rfl,rfl,rfl⟩ ?_;intro v' w8 gt cS re;have hlk:=ip.out.lt;have hw7:Below w7.heap.size w7 (w7.alloc (.cells (mD [p]) 35)):=al1 _ _;have I1:Hid (Below w5.heap.size w5 w8):=hid (((bst HB.out (bst bi.out cm.out)).trans (hw7.mono hs7)).grown cS (by have:=hw7.size; omega) (λk hk=>(hlk k hk).1))
      have c82:w8.cell? ⟨w6.heap.size,2,none⟩=some (.int .i64 lv):=by
       have h6:w6.heap.size<w7.heap.size:=World.block_lt_of_cell? w7 _ c72;rw [World.cell?_of_block (cS.block w6.heap.size (aI h6 hw7.size) (λe=>by have:=(HR.out.lt _ e.symm).2; omega)),hw7.cell (p:=⟨w6.heap.size,2,none⟩) h6];exact c72
      have sc:Hid (w8.ownsRow w5.heap.size 35 1 v' (ps++[p]).length ((ps++[p]).map Value.pointer)):=hid (by rw [List.length_append,List.map_append]; exact gt);have v9:Hid (Are M6 (ps++[p]) (ts.take (j+1))):=hid (by
       rw [fw.out];exact oe.out.snoc ⟨rfl,λq hq=>by
        obtain rfl:q=0:=by simp at hq; exact hq
        exact py.out⟩)
      have pA:=bst cm.out hw7;have DD:=H6.out.2.1.below pA;have PC:=H6.out.2.2.below pA H6.out.2.2.pos;have hz1:=HT1.out.pos;have H8:Hid (Fr M M6 w1 w8/\Inv M6 w8/\Tab w8):=hid ⟨(H6.out.1.trans HI1.out (Fr.below M6 pA)).TL cS (λk e=>Nat.le_trans hs5 (hlk k e).1),DD.keep cS.size (λk hk=>cS.block k (DD.lt_ k hk) λe=>jt.out k e.symm hk),tab_grownO PC cS (λk e=>aI (aI hz1 hs5) (hlk k e).1)⟩;have X1:Hid (∀ k,v'.ownBlock=some k->¬ M6.ft k):=hid (λk e=>by
       rcases re with e2 | e2
       .exact jt.out k (by rw [<-e2]; exact e)
       .rw [e2] at e;obtain rfl:=Option.some.inj e;exact DD.free aG)
      clear gt cS hw7 hlk pA DD PC hz1 re))
   go_roundw
   case rel=>exact ⟨j+1,ps++[p],M6,_,rfl,by omega,by go_num,by rw [HS.out]; congr 1; omega,by simp [hpl],sc,v9,I1,H8,X1⟩
   case measure=>simp [intOf]; omega
  .obtain rfl:j=m:=by omega
   have X2:Hid (Are Mj ps ts):=hid (by have:=HA.out; rwa [List.take_of_length_le (by rw [HL.out]; exact aG)] at this);have hme:lu f (ts.take j)=lu f ts:=by rw [List.take_of_length_le (by rw [HL.out]; exact aG)]
   have yl:=Hs.out j;rw [hme] at yl ⊢;obtain ⟨mx,hmx⟩:=ay (lu f ts)
   rw [hmx] at yl ⊢;have HOr:=hid (az.out.below HB.out);have X3:IntKind.i64.wrap ((mx:Int)+1)=(mx:Int)+1:=IntWalk.i64_in _ (by omega);have X4:=hid hmx;clear hme hmx;go_wp2_with (first
    | (refine aA (bR HOr.out ca.out ⟨_,rfl,rfl⟩) ?_))
   refine (Hp.out Mj wr na nn nc _ ps H3.out Hv.out (yi.out.below HB.out) (EK HR.out (by omega)) X2.out).mono ?_;rintro e w6 ⟨p,M',rfl,ht,cz,PF⟩;have uv:=hid ht;have GT:=hid PF;have jt:=hid (Rg.Own.new w6 #[.pointer none] 35);clear ht cz PF;go_wp2_with (first
    | (refine aA (aX _ _ _ w6.heap.size rfl rfl) ?_)
    | (refine aZ jt.out (by decide) p rfl _ _ rfl rfl rfl ?_; intro w7 cY cQ; have iu:Hid (Rg.Own w7 w6.heap.size #[.pointer p] 35):=hid cY; have cm:Hid (Below w6.heap.size w6 w7):=hid (cQ.below (al1 _ _) aG); obtain ⟨ym,sh⟩:=GT.out w7 cm.out; have I2:=hid ym; have X5:=hid sh; clear cY cQ ym sh)
    | (refine aA (aU (aV (j:=0) iu.out rfl) ⟨_,rfl,rfl⟩) ?_)
    | (refine aA (bL (Io E p ((mx:Int)+1)) ?_) ?_; · exact ⟨_,rfl,rfl⟩)
    | (refine cu I2.out rfl E p (mx+1) rfl _ _ rfl rfl rfl rfl ?_; intro w8 ff jj; have oc:=hid ff; have ux:=hid jj; clear ff jj))
   exact bodyPost_ret (uZ (q:=4) (u:=5) rfl _ rfl oc.out) rfl ⟨p,M',by rw [X4.out]; rfl,uv.out,X5.out w8 ux.out⟩
theorem GA {g n cap:Nat} {xs:List Value} (h:w.ownsRow B e 1 (.slice (some ⟨g,0,none⟩) (n+1) cap) (n+1) (xs++[x])):w.ownsRow B e 1 (.slice (some ⟨g,0,none⟩) n cap) n xs:=by
 obtain ⟨h1,h2⟩:=h;have hl:xs.length=n:=by simpa using h1
 rcases h2 with ⟨h2,_⟩ | ⟨g',cap',cur,e,hg,hh,hnc,hcm,hsz,htk⟩
 .cases h2
 .injection e with e1 e2 e3;injection e1 with e1;injection e1 with e1;subst e1 e3;refine ⟨by omega,.inr ⟨g,cap,cur,rfl,hg,hh,by omega,hcm,hsz,?_⟩⟩;have h3:=congrArg (List.take n) htk;rw [List.take_take,List.take_left' hl] at h3;rw [Nat.mul_one,<-h3];congr 1;omega
theorem DN {ed:List aL} {s:aL} (h:w.ownsRow B 9 1 v (ed++[s]).length ((ed++[s]).map Value.string)):∃ g cap,v = .slice (some ⟨g,0,none⟩) (ed.length+1) cap/\w.cell? ⟨g,ed.length,none⟩=some (.string s)/\ed.length+1<=cap/\cap<=maxLen/\w.ownsRow B 9 1 (.slice (some ⟨g,0,none⟩) ed.length cap) ed.length (ed.map Value.string):=by
 have h':=h;rcases h.2 with ⟨_,h2⟩ | ⟨g,cap,cur,rfl,hg,hh,hnc,hcm,hsz,htk⟩
 .rw [List.length_append] at h2;simp at h2
 .have hl:(ed++[s]).length=ed.length+1:=by simp
  rw [hl] at hnc htk h' ⊢;refine ⟨g,cap,rfl,?_,hnc,hcm,GA (x:=.string s) (by simpa using h')⟩;rw [cell_of_row w g _ _ _ _ hh,<-Array.getElem?_toList];have h3:=congrArg (λl:List Value=>l[ed.length]?) htk;simp only [List.getElem?_take_of_lt (show ed.length<(ed.length+1)*1 by omega)] at h3;rw [h3];simp
def Kp (M0:Mp) (w0:World) (b:Nat) (M:Mp) (w:World):Prop:=∀ k,k<w0.heap.size->M0.at_ k=none->k≠b->w.heap[k]? = w0.heap[k]?/\M.at_ k=none/\(¬ M0.ft k->¬ gq w0 k->¬ M.ft k)
theorem Kp.refl (M:Mp) (w:World) (b:Nat):Kp M w b M w:=λ_ _ hm _=>⟨rfl,hm,λh _=>h⟩
theorem Kp.off {M0 M:Mp} {b:Nat} (h:Kp M0 w0 b M w) (hk:∀ k,k<w0.heap.size->k≠b->w'.heap[k]? = w.heap[k]?):Kp M0 w0 b M w':=λk hl hm hb=>⟨(hk k hl hb).trans (h k hl hm hb).1,(h k hl hm hb).2⟩
theorem Kp.grew {M0 M M':Mp} {b n:Nat} {f:Fs} {D:DataW Value} (h:Kp M0 w0 b M w) (hs:w0.heap.size<=w.heap.size) (g:GQ M w b f n M' w' D):Kp M0 w0 b M' w':=λk hl hm hb=>by
 obtain ⟨h1,h2,h3⟩:=h k hl hm hb;obtain ⟨g1,g2⟩:=g.block k (by omega) h2 hb;refine ⟨g1.trans h1,g2,λn1 n2=>g.foot k (by omega) (h3 n1 n2) λ⟨j,x,hc⟩=>n2 ⟨j,x,?_⟩⟩;rw [<-hc];exact (World.cell?_of_block h1).symm
structure Rd (M0:Mp) (w0:World) (Ms:Mp) (ws:World) (B b:Nat) (M:Mp) (w:World) (f:Fs) (n:Nat) (D:DataW Value) (wl:List aL) (v:Value):Prop where
 fr:Fr Ms M ws w
 i:Inv M w
 t:Tab w
 s:ShS M w b f n D
 row:w.ownsRow (B+1) 9 1 v wl.length (wl.map Value.string)
 ra:∀ k,v.ownBlock=some k->M.at_ k=none/\k≠b
 bx:Rg.Own w B (bO eB none 0) 110
 bn:¬ M.ft B
 ba:M.at_ B=none
 kp:Kp M0 w0 b M w
 sz:w0.heap.size<=B
theorem Rd.below {M0:Mp} {w0:World} {Ms:Mp} {ws:World} {B b:Nat} {M:Mp} {w w':World} {f:Fs} {n:Nat} {D:DataW Value} {wl:List aL} {v:Value} (h:Rd M0 w0 Ms ws B b M w f n D wl v) (hws:Inv Ms ws) (hb:Below w.heap.size w w'):Rd M0 w0 Ms ws B b M w' f n D wl v :=
 ⟨h.fr.trans hws (Fr.below M hb),h.i.below hb,h.t.below hb h.t.pos,h.s.below hb h.s.lt,qY h.row hb,h.ra,h.bx.below hb,h.bn,h.ba,h.kp.off λk hl _=>hb.block k (by have:=h.bx.1; have:=h.sz; omega),h.sz⟩
theorem Rd.grew {M0:Mp} {w0:World} {Ms:Mp} {ws:World} {B b:Nat} {M M':Mp} {w w':World} {f f':Fs} {n n':Nat} {D D':DataW Value} {wl:List aL} {v:Value} (h:Rd M0 w0 Ms ws B b M w f n D wl v) (hws:Inv Ms ws) (hle:ws.heap.size<=b) (hB:B≠b) (g:GQ M w b f' n' M' w' D'):Rd M0 w0 Ms ws B b M' w' f' n' D' wl v:=by
 have hbl:=g.block B h.bx.1 h.ba hB;refine ⟨g.fr Ms ws hws h.fr hle,g.i,g.t,g.s,dI h.row λk e=>(g.block k (h.row.lt k e).2 (h.ra k e).1 (h.ra k e).2).1,λk e=>⟨(g.block k (h.row.lt k e).2 (h.ra k e).1 (h.ra k e).2).2,(h.ra k e).2⟩,⟨aI h.bx.1 g.size,hbl.1.trans h.bx.2⟩,g.foot B h.bx.1 h.bn (cZ h.bx (qb _ _ _)),hbl.2,h.kp.grew (by have:=h.bx.1; have:=h.sz; omega) g,h.sz⟩
theorem Rd.push {M0:Mp} {Ms:Mp} {ws:World} {b:Nat} {M:Mp} {f:Fs} {n:Nat} {D:DataW Value} {wl ys:List aL} {v':Value} (h:Rd M0 w0 Ms ws B b M w f n D wl v) (hws:ws.heap.size<=B) (hn:∀ k,v.ownBlock=some k->¬ M.ft k) (hr:w'.ownsRow (B+1) 9 1 v' (wl++ys).length ((wl++ys).map Value.string)) (hg:w.grownBy w' v.ownBlock) (hl:v'.ownBlock=v.ownBlock\/v'.ownBlock=some w.heap.size):Rd M0 w0 Ms ws B b M w' f n D (wl++ys) v':=by
 have hbn:∀ k,v.ownBlock=some k->B<k/\k<w.heap.size:=λk e=>by have:=h.row.lt k e; omega
 refine ⟨?_,h.i.keep hg.size λk hk=>hg.block k (h.i.lt_ k hk) λe=>hn k e.symm hk,λi hi=>?_,h.s.same (hg.block b h.s.lt λe=>(h.ra b e.symm).2 rfl) (λ_ _ h=>h) h.s.nf,hr,λk e=>?_,⟨aI h.bx.1 hg.size,(hg.block B h.bx.1 λe=>by have:=hbn B e.symm; omega).trans h.bx.2⟩,h.bn,h.ba,h.kp.off λk hl _=>hg.block k (by have:=h.bx.1; have:=h.sz; omega) (λe=>by have:=hbn k e.symm; have:=h.sz; omega),h.sz⟩
 .exact ⟨hg.os.trans h.fr.os,hg.tape.trans h.fr.tape,hg.output.trans h.fr.output,Nat.le_trans h.fr.size hg.size,λk hk hm=>(hg.block k (aI hk h.fr.size) λe=>by have:=hbn k e.symm; omega).trans (h.fr.block k hk hm),h.fr.mono,h.fr.fresh,h.fr.grow,h.fr.foot⟩
 .rw [World.cell?_of_block (hg.block 0 h.t.pos λe=>by have:=hbn 0 e.symm; omega)];exact h.t i hi
 .rcases hl with e2 | e2
  .exact h.ra k (by rw [<-e2]; exact e)
  .rw [e2] at e;obtain rfl:=Option.some.inj e;exact ⟨h.i.out aG,λe=>by have:=h.s.lt; omega⟩
def TV (M0:Mp) (w0:World) (b:Nat) (Ms:Mp) (ws:World) (t:T) (lv:Nat) (e:Ending) (w':World):Prop:=∃ p M',e = .returned (.tuple #[.agg (bO (bE t) p lv),.int .i64 0])/\IsT M' p t/\Fr Ms M' ws w'/\Inv M' w'/\Tab w'/\Kp M0 w0 b M' w'
def EH (fe:Fs):Nat->Fs->List aL->Prop
 | 0,f,wl=>wl=[]/\f=fe
 | k+1,f,wl=>∃ ed t,wl=ed++[ref t]/\f (ref t)=some (bE t,.nil,0)/\Prt t/\t ≠ .nil/\(ref t).size<=1000/\Rdp f t/\EH fe k (mg f (ref t) (bE t,t,lu f (aY t)+1)) ed
theorem Pn {M:Mp} {w:World} {b n:Nat} {f:Fs} {D:DataW Value} (hS:ShS M w b f n D) (hnn:n<=1000) (hi:Inv M w) (hT:Tab w) {t:T} (hx:Prt t) (hn:t ≠ .nil) (hr:Rdp f t) (hsz:(ref t).size<=1000000) (hf:f (ref t)=some (bE t,.nil,0)) :
  Calls prog 107 #[.map (some b),.string (ref t)] w λe w'=>e = .returned (.int .i64 0)/\∃ M' D',GQ M w b (mg f (ref t) (bE t,t,lu f (aY t)+1)) (n+1) M' w' D':=by
 have hs':(ref t).size<=maxLen:=by unfold maxLen; omega
 obtain ⟨_,p0,hp0,hat⟩:=hS.some_ _ _ _ _ hs' hf;obtain rfl:p0=none:=hp0.oC.2 rfl;have hlt:=hS.lt;obtain ⟨w1,hw1⟩:=au (w.alloc (.cells (bO eB none 0) 110))
 have hb1:Below w.heap.size w w1:=by rw [hw1]; exact al1 _ _
 have ab:Rg.Own w1 w.heap.size (bO eB none 0) 110:=by rw [hw1]; exact Rg.Own.new _ _ _
 have bd:=hid ab;have HA:=hid hat;have g9:=hid hS.own;have HW:Hid (_=_):=hid hw1;have HF:Hid (∀ w2,Rg.Own w2 w.heap.size (bO (bE t) none 0) 110->Rg.Upd w1 w.heap.size w2->Calls prog 155 #[.map (some b),.string (bE t)] w2 λe w'=>∃ p D1,e = .returned (.tuple #[.agg (bO (bE t) p (lu f (aY t)+1)),.int .i64 0])/\D1=D/\Rg.Own w' w.heap.size (bO (bE t) none 0) 110/\
   ∀ w4,Rg.Upd w' w.heap.size w4->Shf w4 b n D/\∀ w5,Shf w5 b (n+1) (D.put (kK (ref t)) (.held (.agg (bO (bE t) p (lu f (aY t)+1)))))->w4.grownBy w5 (some b)->∃ M' D',GQ M w b (mg f (ref t) (bE t,t,lu f (aY t)+1)) (n+1) M' w5 D'):=hid (λw2 hO2 hu2=>by
  have hb2:Below w.heap.size w w2:=hu2.below hb1 aG;have hi2:=hi.below hb2;have eW:=hT.below hb2 hT.pos;have hS2:=hS.below hb2 hlt;refine (Kv hS2 hi2 eW hx hn hr).mono ?_;rintro e w3 ⟨p,M',rfl,ht,f3,i3,t3⟩;have hg0:M.at_ w.heap.size=none:=hi.out aG;have hO3:=jM hO2 f3 hg0;have I3:¬ M'.ft w.heap.size:=f3.box (hi.free aG) hO2.1 (cZ hO2 (qb _ _ _));have ll:=hS2.frm hi2 f3;refine ⟨p,D,rfl,rfl,hO3,λw4 fR=>?_⟩;have hne:b≠w.heap.size:=by omega
  have ur:ShS M' w4 b f n D:=ll.same (fR.block b hne) (λ_ _ h=>h) ll.nf;have i4:=i3.upd fR I3;have t4:=Tab.upd t3 fR hT.pos;have f4:Fr M M' w w4:=((Fr.below M hb2).trans hi f3).upd fR aG;refine ⟨ur.own,λw5 ap hg5=>⟨M',_,⟨λMs ws hws hfs hle=>((hfs.trans hws f4)).grown hg5 hle,Nat.le_trans f4.size hg5.size,λk hk hm hkb=>⟨(hg5.block k (aI hk f4.size) (λe=>hkb (Option.some.inj e))).trans (f4.block k hk hm),f4.fresh k hk hm⟩,λk hk h1 h2=>f4.box h1 hk h2,?_,?_,ur.put hs' ap ht⟩⟩⟩
  .exact i4.keep hg5.size λk hk=>hg5.block k (i4.lt_ k hk) λe=>by
    obtain rfl:k=b:=Option.some.inj e;exact ur.nf hk
  .have hb0:b≠0:=λe=>by
    subst e;obtain ⟨es,clock,h1,_⟩:=ur.own;have h2:=t4 0 (by omega);rw [World.cell?,h1] at h2;cases h2
   intro i hi';rw [World.cell?_of_block (hg5.block 0 t4.pos (λe=>hb0 (Option.some.inj e).symm))];exact t4 i hi')
 obtain ⟨s,hs⟩:=ay (ref t)
 obtain ⟨E,hE⟩:=ay (bE t)
 obtain ⟨lv,hlv⟩:=ay (lu f (aY t)+1)
 rw [hs] at hs' HA;rw [hs,hE,hlv] at HF;rw [hs,hE,hlv];rw [hE] at HA;clear hs hE hlv ab hb1 hw1 hlt hat hp0 hf hr hn hx hi hT hS hsz;go_enter func107,ntmps107;go_wp2_with (first
  | (refine aA (vV g9.out hs' HA.out ⟨_,_,rfl,rfl,rfl⟩) ?_)
  | (refine aA (bP _ _ _ w.heap.size rfl rfl) ?_; rw [<-HW.out])
  | (refine cu bd.out rfl E none 0 rfl _ _ rfl rfl rfl rfl ?_; intro w2 hO2 hu2; have c0:w2.cell? ⟨w.heap.size,0,none⟩=some (.string E):=aV (j:=0) hO2 rfl; have c2:w2.cell? ⟨w.heap.size,2,none⟩=some (.int .i64 0):=aV (j:=2) hO2 rfl; have HG:=hid (HF.out w2 hO2 hu2); clear hO2 hu2))
 refine HG.out.mono ?_;rintro e w3 ⟨p,D1,rfl,rfl,hO3,r4⟩;have ag:=hid hO3;have eL:=hid r4;clear hO3 r4 HG HF HA bd HW g9;go_wp2_with (first
  | (refine cu ag.out rfl E p lv rfl _ _ rfl rfl rfl rfl ?_; intro w4 hO4 fR; obtain ⟨hs4,jz⟩:=eL.out w4 fR; have b8:=hid hO4; have du:=hid hs4; have jx:=hid jz; clear hO4 fR hs4 jz)
  | (refine aA (vv b8.out ⟨_,rfl,rfl⟩) ?_)
  | (refine Ng du.out (by unfold maxLen; omega) hs' (.agg (bO E p lv)) rfl _ _ _ rfl rfl rfl rfl ?_; intro w5 ap hg5; have HE:=hid (jx.out w5 ap hg5); clear ap hg5))
 go_ret;exact ⟨rfl,HE.out⟩
theorem Pt {Ms:Mp} {ws:World} (hws:Inv Ms ws) {M:Mp} {w:World} {b n:Nat} {f:Fs} {D:DataW Value} (hfr:Fr Ms M ws w) (hle:ws.heap.size<=b) (hS:ShS M w b f n D) (hi:Inv M w) (hT:Tab w) {t:T} (hx:Prt t) (hn:t ≠ .nil) (hsz:(ref t).size<=1000) (hf:f (ref t)=some (bE t,.nil,0))
  {iS:List aL} (hk0:iS≠[]) (yn:(((aY t).map ref).filter λs=>!gone f s)=iS) {k0:Nat} {fe:Fs} (hch:EH fe k0 f (ref t::iS)) (hnn:n+k0<=900) {lv:Nat} (hfe:fe (ref t)=some (bE t,t,lv)) :
  Calls prog 63 #[.map (some b),.string (ref t)] w (TV M w b Ms ws t lv):=by
 have hlt:=hS.lt;have hs0:=hfr.size;obtain ⟨w1,hw1⟩:=au ((w.alloc (.cells (bO eB none 0) 110)).alloc (.cells #[.string (ref t)] 9))
 have hb1:Below w.heap.size w w1:=by rw [hw1]; exact al2 _ _ _
 have ab:Rg.Own w1 w.heap.size (bO eB none 0) 110:=by rw [hw1]; exact (Rg.Own.new _ _ _).below (al1 _ _)
 have ja:w1.ownsRow (w.heap.size+1) 9 1 (.slice (some ⟨w.heap.size+1,0,none⟩) 1 1) [ref t].length ([ref t].map Value.string):=by
  have:=World.ownsRow_lit (e:=9) (size:=1) (base:=w.heap.size+1) (w.alloc (.cells (bO eB none 0) 110)) #[.string (ref t)] 1 (by simp) (by unfold maxLen; decide) rfl;rw [hw1];simpa using this
 have PH:Rd M w Ms ws w.heap.size b M w1 f n D [ref t] (.slice (some ⟨w.heap.size+1,0,none⟩) 1 1):=⟨hfr.trans hws (Fr.below M hb1),hi.below hb1,hT.below hb1 hT.pos,hS.below hb1 hlt,ja,λk e=>by
  have e':w.heap.size+1=k:=Option.some.inj e;exact ⟨hi.out (by omega),by omega⟩,ab,hi.free aG,hi.out aG,(Kp.refl M w b).off λk hl _=>hb1.block k hl,aG⟩
 have dd:=hid PH;have uC:Hid (∀ k,(Value.slice (some ⟨w.heap.size+1,0,none⟩) 1 1).ownBlock=some k->¬ M.ft k):=hid (λk e=>by
  have e':w.heap.size+1=k:=Option.some.inj e;exact hi.free (by omega))
 have DE:=hid hws;have I4:=hid hT.pos;have ib:Hid (ws.heap.size<=b/\w.heap.size≠b/\ws.heap.size<=w.heap.size):=hid ⟨hle,by omega,hs0⟩;have HW:Hid (_=_):=hid hw1;have HX:=hid hx;have HN:=hid hn;have eJ:=hid hsz;have ve:=hid hf;have PJ:=hid yn;have wj:=hid hk0;have vf:=hid hch;have PM:=hid hfe;have DG:w1.heap.size=w.heap.size+2:=by rw [hw1]; simp
 clear hw1 hb1 ab ja PH hlt hs0 hfr hle hS hi hT hx hn hsz hf hk0 yn hch hfe hws DG;obtain ⟨s0,hs0⟩:=ay (ref t)
 have sX:=hid hs0;rw [hs0] at dd eJ ve vf PM HW ⊢;clear hs0;go_enter func63,ntmps63;go_wp2_with (first
  | (refine aA (bP _ _ _ w.heap.size rfl rfl) ?_)
  | (rw [<-HW.out]))
 go_loopg [6] (k0+1) (λk v0 wr=>∃ (v:Value) (M':Mp) (f':Fs) (n':Nat) (D':DataW Value) (wl:List aL),v=v0/\n'+k<=901/\Hid (Rd M w Ms ws w.heap.size b M' wr f' n' D' wl v)/\Hid ((k=k0+1/\f'=f/\wl=[s0]/\∀ q,v.ownBlock=some q->¬ M'.ft q)\/(k<=k0/\wl.length<=100/\EH fe k f' wl)))
 case atStart=>exact ⟨_,M,f,n,D,[s0],rfl,by omega,dd,hid (.inl ⟨rfl,rfl,rfl,uC.out⟩)⟩
 case round =>
  obtain ⟨v,M',f',n',D',wl,hv,hnk,HR,HC⟩:=hrel;subst hv;clear dd uC HW;rcases HC.out with ⟨pB,I5,hwl,hnf⟩ | ⟨pB,sY,hc⟩
  .subst I5;have uC:=hid hnf;have dl:=HR;have hR2:=HR.out;rw [hwl] at hR2;obtain ⟨g,cap,rfl,hcell,hcap,hcm,_⟩:=DN (ed:=[]) (s:=s0) hR2.row;obtain ⟨_,p0,hp0,hat⟩:=hR2.s.some_ s0 _ _ _ (by have:=eJ.out; unfold maxLen; omega) ve.out;obtain rfl:p0=none:=hp0.oC.2 rfl;have HA:=hid hat;have g9:=hid hR2.s.own;have HR2:=hid hR2;have hs':s0.size<=maxLen:=by have:=eJ.out; unfold maxLen; omega
   have pC:=hid (xC hR2.s HX.out HN.out);have hx0:iS.length≠0:=λe=>wj.out (List.length_eq_zero_iff.1 e);have hx16:iS.length<=16:=by
    rw [<-PJ.out];exact Nat.le_trans (List.length_filter_le _ _) (by rw [List.length_map]; exact pK t)
   rw [PJ.out] at pC;obtain ⟨E,hE⟩:=ay (bE t)
   rw [hE] at pC HA;simp only [List.length_nil] at hcell hcap hR2;have hi0:(0:Int)<(iS.length:Int):=by omega
   unfold maxLen at hcm;clear hwl hnf hR2 hp0 hat hE HC dl HR;go_wp2_with (first
    | (refine aA (vV g9.out hs' HA.out ⟨_,_,rfl,rfl,rfl⟩) ?_)
    | (refine aA (tF ⟨_,rfl,rfl⟩) ?_))
   refine pC.out.mono ?_;rintro e w6 ⟨v6,rfl,h6,hb6⟩;obtain ⟨a6,c6,rfl⟩:=gM h6;have X6:=hid h6;have eM:=hid (HR2.out.below DE.out hb6);have t1:w.heap.size+1<=w6.heap.size:=eM.out.bx.1;have hxl:[s0].length+iS.length<=1000000:=by simp only [List.length_cons,List.length_nil]; omega
   have X7:=hid eM.out.row;clear h6 hb6 pC HA g9 HR2;go_wp2_with (first
    | (at_builtin; refine wL (xs:=[s0]) (ys:=iS) (B:=w.heap.size+1) rfl _ _ rfl rfl rfl X7.out X6.out hxl t1 ?_))
   intro v' w7 h7 ic yo;have ip:=hid (eM.out.push ib.out.2.2 uC.out h7 ic yo);clear h7 ic yo;go_wp2;go_roundg k0
   case measure=>omega
   case rel=>exact ⟨v',M',f',n',D',_,rfl,by omega,ip,hid (.inr ⟨aG,by simp only [List.length_append,List.length_cons,List.length_nil]; omega,vf.out⟩)⟩
  .cases gk with
   | zero =>
    obtain ⟨hwl,I5⟩:=hc;subst hwl I5;obtain ⟨a,cc,rfl⟩:=gM HR.out.row;have hs':s0.size<=maxLen:=by have:=eJ.out; unfold maxLen; omega
    obtain ⟨_,p,hp,hat⟩:=HR.out.s.some_ s0 _ _ _ hs' PM.out;have HA:=hid hat;have g9:=hid HR.out.s.own;have HP:=hid hp;have pD:=hid HR.out.bx;have HFin:Hid (∀ w9,Rg.Upd wr w.heap.size w9->Fr Ms M' ws w9/\Inv M' w9/\Tab w9/\Kp M w b M' w9):=hid (λw9 hu=>⟨HR.out.fr.upd hu ib.out.2.2,HR.out.i.upd hu HR.out.bn,Tab.upd HR.out.t hu I4.out,HR.out.kp.off λk hl _=>hu.block k (by omega)⟩);obtain ⟨E,hE⟩:=ay (bE t)
    have HE:=hid hE;rw [hE] at HA;clear hat hp hE HC HR;go_wp2_with (first
     | (refine aA (vV g9.out hs' HA.out ⟨_,_,rfl,rfl,rfl⟩) ?_)
     | (refine cu pD.out rfl E p lv rfl _ _ rfl rfl rfl rfl ?_; intro w9 ax aE; have ce:=hid ax; have mu:=hid (HFin.out w9 aE); clear ax aE))
    exact bodyPost_ret (uZ (q:=4) (u:=5) rfl _ rfl ce.out) rfl ⟨p,M',by rw [HE.out]; rfl,HP.out,mu.out⟩
   | succ k =>
    obtain ⟨ed,u,rfl,hfu,hxu,hnu,I6,I7,hcn⟩:=hc;obtain ⟨g,cap,rfl,hcell,hcap,hcm,hcut⟩:=DN HR.out.row;have hs':(ref u).size<=maxLen:=by unfold maxLen; omega
    obtain ⟨_,p0,hp0,hat⟩:=HR.out.s.some_ (ref u) _ _ _ hs' hfu;obtain rfl:p0=none:=hp0.oC.2 rfl;have HA:=hid hat;have g9:=hid HR.out.s.own;have pC:=hid (xC HR.out.s hxu hnu);have yp:Hid ((((aY u).map ref).filter λs=>!gone f' s)=[]):=hid (List.filter_eq_nil_iff.2 λs hs=>by
     obtain ⟨z,hz,rfl⟩:=List.mem_map.1 hs;rw [(I7 z hz).gone]; decide)
    rw [yp.out] at pC;have t7:Hid (∀ w6,Below wr.heap.size wr w6->Calls prog 107 #[.map (some b),.string (ref u)] w6 λe w'=>e = .returned (.int .i64 0)/\∃ M2 D2,GQ M' w6 b (mg f' (ref u) (bE u,u,lu f' (aY u)+1)) (n'+1) M2 w' D2):=hid (λw6 hb6=>by
     have h6:=HR.out.below DE.out hb6;exact Pn h6.s (by omega) h6.i h6.t hxu hnu I7 (by omega) hfu)
    have pH:=hid hcn;obtain ⟨E,hE⟩:=ay (bE u)
    obtain ⟨s,hs⟩:=ay (ref u)
    have yq:=hcm;unfold maxLen at yq;rw [hE] at pC HA t7 pH;rw [hs] at HA t7 pH hcell hs' HR;obtain ⟨m,hm⟩:=ay ed.length
    have ta:=hid hm;have X8:m+1<=100:=by
     rw [List.length_append] at sY;simp only [List.length_cons,List.length_nil] at sY;omega
    rw [hm] at hcell hcap;rw [hm];have hi1:(0:Int)<((m+1:Nat):Int):=by omega
    have hni:(m:Int)<((m+1:Nat):Int):=by omega
    have hw1:IntKind.i64.wrap (((m+1:Nat):Int)-1)=(m:Int):=by
     rw [show ((m+1:Nat):Int)-1=(m:Int) by omega];exact IntWalk.i64_in _ (by omega)
    clear hcut hat hp0 hfu hxu hnu I6 I7 hcn hE hs hcm sY hm HC;go_wp2_with (first
     | (refine aA (vV g9.out hs' HA.out ⟨_,_,rfl,rfl,rfl⟩) ?_)
     | (refine aA (tF ⟨_,rfl,rfl⟩) ?_))
    refine pC.out.mono ?_;rintro e w6 ⟨v6,rfl,h6,hb6⟩;obtain ⟨a6,c6,rfl⟩:=gM h6;have PP:=hid (t7.out w6 hb6);have eM:=hid (HR.out.below DE.out hb6);clear h6 hb6 pC HA g9 HR t7 hcell;go_wp2_with fail
    refine PP.out.mono ?_;rintro e w7 ⟨rfl,M2,D2,ic⟩;have ip:=hid (eM.out.grew DE.out ib.out.1 ib.out.2.1 ic);have sc:Hid (Rd M w Ms ws w.heap.size b M2 w7 (mg f' s (E,u,lu f' (aY u)+1)) (n'+1) D2 ed (.slice (some ⟨g,0,none⟩) m cap)):=hid (by
     have h:=ip.out;have hrow:=h.row;rw [<-ta.out];have hc2:w7.ownsRow (w.heap.size+1) 9 1 (.slice (some ⟨g,0,none⟩) ed.length cap) ed.length (ed.map Value.string):=GA (x:=.string s) (by simpa using hrow);exact ⟨h.fr,h.i,h.t,h.s,hc2,λk e=>h.ra k e,h.bx,h.bn,h.ba,h.kp,h.sz⟩)
    clear ic PP eM ip;go_wp2_with (first
     | (refine aA (pX (j:=m) qy AP (by omega) ⟨_,_,rfl,rfl,rfl⟩) ?_))
    go_roundg k
    case measure=>omega
    case rel=>exact ⟨_,M2,_,n'+1,D2,ed,rfl,by omega,sc,hid (.inr ⟨by omega,by rw [ta.out]; omega,pH.out⟩)⟩
open Go.Maps
theorem JR {k l:aM} (hk:k.length=32) (hl:l.length=32) (w:World):(Op.equalIn 10000 48 (.agg (Sm.kc k)) (.agg (Sm.kc l))).run prog w = .ok (decide (k=l)) w:=by
 obtain ⟨i0,hi,_⟩:=info_parts Cc.mW;rw [show (10000:Nat)=9999+1 from rfl,run_equalIn_array w 9999 (Sm.kc k) (Sm.kc l) underlying48 hi,Sj];have:=CJ k l w 9998 (List.range 32) (λi h=>by rw [hk,hl]; have:=List.mem_range.1 h; omega);rw [VG hk hl] at this;exact this
theorem TD {k l:aM} (hk:k.length=32) (hl:l.length=32) (w:World):(binOp .eql 48 (.agg (Sm.kc k)) (.agg (Sm.kc l))).run prog w = .ok (.bool (decide (k=l))) w:=by
 rw [run_eql_struct,JR hk hl w];rfl
theorem xY {k l:aM} (hk:k.length=32) (hl:l.length=32) (ho:∃ x y tt,o.op = .binOp .eql 48 x y tt/\ev x = .agg (Sm.kc k)/\ev y = .agg (Sm.kc l)) :
  (execOp ev o).run prog w = .ok (.value (.bool (decide (k=l)))) w:=by
 obtain ⟨x,y,tt,ho,hx,hy⟩:=ho;unfold execOp;have hg:=Sm.OB;simp [ho,hx,hy,run_eqGuard_agg,hg,TD hk hl,Result.andThen]
theorem RQ (c:Nat) (r:aM) (hr:r.length=32) (w:World) (hO:Rg.Own w c (Sm.kc r) 48) (hT:Tab w) (s:aL) (hs:s.size<=900000) :
  Calls prog 61 #[.string s,.pointer (some ⟨c,0,none⟩)] w λe w'=>e = .returned (.bool (decide (fI s=r)))/\Below w.heap.size w w':=by
 have yr:Hid (∀ wz,Below w.heap.size w wz->Calls prog 34 #[.string s] wz λe w'=>e = .returned (.agg (Sm.kc (fI s)))/\Below wz.heap.size wz w'):=hid (λwz hb=>BA s hs wz (hT.below hb hT.pos));have cl:=hid (iJ s);have mw:=hid hr;have HO:=hid hO;obtain ⟨K,hK⟩:=ay (fI s)
 rw [hK] at yr cl ⊢;clear hK hr hO hT hs;go_enter func61,ntmps61;go_wp2_with fail
 refine aC (S:=λw'=>Below w.heap.size w w') (aH.drew) λhld=>?_;refine ah 0 ?_;try simp only [Act.put,ak]
 refine ah 2 ?_ (hy:=by intro wz hSw; (refine Sm.qj _ _ _ c r mw.out ?_ (HO.out.below hSw); exact ⟨_,rfl,rfl⟩));try simp only [Act.put,ak]
 refine aj 1 λK hK=>?_;go_simp;go_at_call 34
 (with_reducible refine (yr.out _ hld).mono ?_)
 rintro e gr ⟨rfl,hbx⟩;refine hK.out _ _ (Below.trans hld (hbx.mono hld.size)) λhld=>?_;clear hK K;try simp only [Act.put,ak]
 refine ah 3 ?_ (hy:=by intro wz hSw; (refine xY cl.out mw.out ?_; exact ⟨_,_,_,rfl,rfl,rfl⟩));try simp only [Act.put,ak]
 refine ah 4 ?_;try simp only [Act.put,ak]
 refine aB ?_;go_wp2;go_ret;exact ⟨rfl,hld⟩
def gD (xs:List aL):Fs:=xs.foldl (λf s=>if (f (ofP s)).isSome then f else mg f (ofP s) (s,.nil,0)) λ_=>none
theorem Mc (xs:List aL) (j:Nat) (hj:j<xs.length):gD (xs.take (j+1))=if (gD (xs.take j) (ofP (xs.getD j eB))).isSome then gD (xs.take j) else mg (gD (xs.take j)) (ofP (xs.getD j eB)) (xs.getD j eB,.nil,0):=by
 unfold gD;rw [List.take_add_one,List.getElem?_eq_getElem hj,List.foldl_append];simp [List.getD,hj]
theorem yE (s:aL):(ofP s).size<=32:=by
 unfold ofP;split
 .omega
 .show (oh s).toArray.size<=32;rw [List.size_toArray,jX];exact aG
theorem LD {M:Mp} (xs:List aL) (hx:∀ s∈xs,s.size<=900000) (a:aK) (n c:Nat) (w:World) (h:fO w a n c xs) (hn:n<=100) (hi:Inv M w) (hT:Tab w) :
  Calls prog 62 #[.slice a n c] w λe w'=>e = .returned (.map (some w.heap.size))/\(∃ D,ShS M w' w.heap.size (gD xs) n D)/\Below w.heap.size w w':=by
 have hmm:=@run_makeMap prog;have hl:=h.len;have hnc:=h.1;have hcm:=h.2.1;unfold maxLen at hcm;have H:=hid h;have HL:=hid hl;have HX:=hid hx;have HT:=hid hT;have sX:Hid (ShS M (w.alloc (.map #[] 0)) w.heap.size (gD (xs.take 0)) 0 (.map [])):=hid ⟨World.ownsMap_made _ _ _ _,λs _ _=>by rw [Maps.has_eq]; rfl,λs e t lv _ he=>(by cases he),hi.free aG⟩;clear h hl hx hi hT;go_enter func62,ntmps62;go_wp2
 go_loopw [12] (λi wr=>∃ (j:Nat) (D:DataW Value),j<=n/\i = .int .i64 j/\Hid (ShS M wr w.heap.size (gD (xs.take j)) j D)/\Hid (Below w.heap.size w wr)) (λi _=>n-(intOf i).toNat)
 case atStart=>exact ⟨0,.map [],Nat.zero_le _,rfl,sX,hid (al1 _ _)⟩
 case round =>
  obtain ⟨j,D,hj,rfl,HS,HB⟩:=hrel;clear sX;by_cases hlt:j<n
  .obtain ⟨b,off,rfl,hblt,hcj⟩:=H.out.at' j hlt;have hc':=(Below.cell (p:=⟨b,off+j,none⟩) HB.out hblt).trans hcj;have hm:xs.getD j eB∈xs:=yG (by rw [HL.out]; exact hlt);have dC:=hid (Em (xs.getD j eB) (HX.out _ hm) wr (HT.out.below HB.out HT.out.pos));have cw:=hid (Mc xs j (by rw [HL.out]; exact hlt));have hof:=yE (xs.getD j eB);have hs':(ofP (xs.getD j eB)).size<=maxLen:=by unfold maxLen; omega
   obtain ⟨F,hF⟩:=ay (gD (xs.take j))
   rw [hF] at cw HS;obtain ⟨K,hK⟩:=ay (xs.getD j eB)
   rw [hK] at dC hc' cw hs';obtain ⟨R,hR⟩:=ay (ofP K)
   rw [hR] at dC cw hs';clear hcj hm hof hF hK hR;go_wp2_with fail
   refine dC.out.mono ?_;rintro e w5 ⟨rfl,hb5⟩;have aa:=hid (bst HB.out hb5);have lm:=hid (HS.out.below hb5 HS.out.lt);have g9:=hid lm.out.own;have HN:=hid (oQ w5 w5.heap.size rfl);have s6:=lm.out.lt;have PQ:w.heap.size<=w5.heap.size:=aa.out.size;clear hb5 dC HS HB;cases hf:F R with
   | none =>
    have HH:=hid (lm.out.none_ R hs' hf);have tb:Hid (gD (xs.take (j+1))=mg F R (K,.nil,0)):=hid (by rw [cw.out,hf]; rfl);clear hf cw;go_wp2_with (first
     | (refine aA (Aq g9.out hs' HH.out ⟨_,_,rfl,rfl,rfl⟩) ?_)
     | (refine aA (bP _ _ _ w5.heap.size rfl rfl) ?_)
     | (refine cu HN.out rfl eB none 0 rfl _ _ rfl rfl rfl rfl ?_; intro w6 cz db; have bi:Hid (Below w5.heap.size w5 w6):=hid (db.below (al1 _ _) aG); have e9:=hid (lm.out.below bi.out s6); have I9:=hid e9.out.own; clear cz db)
     | (refine aA (bL (Kt K) ?_) ?_; · exact ⟨_,rfl,rfl⟩)
     | (refine Ng I9.out (by unfold maxLen; omega) hs' (.agg (bO K none 0)) rfl _ _ _ rfl rfl rfl rfl ?_; intro w7 cY ic))
    have rf:Hid (ShS M w7 w.heap.size (gD (xs.take (j+1))) (j+1) (D.put (kK R) (.held (.agg (bO K none 0))))):=hid (by rw [tb.out]; exact e9.out.put hs' cY (IsT.zero M));have cm:Hid (Below w.heap.size w w7):=hid ((bst aa.out bi.out).grown ic (bst aa.out bi.out).size (λk hk=>by cases hk; exact aG));clear cY ic;go_roundw
    case rel=>exact ⟨j+1,_,by omega,by go_num,rf,cm⟩
    case measure=>simp [intOf]; omega
   | some x =>
    obtain ⟨e,t,lv⟩:=x;obtain ⟨hh,p,_,hat⟩:=lm.out.some_ R e t lv hs' hf;have HH:=hid hh;have HA:=hid hat;have tb:Hid (gD (xs.take (j+1))=F):=hid (by rw [cw.out,hf]; rfl);clear hf cw hh hat;go_wp2_with (first
     | (refine aA (zo g9.out hs' HH.out HA.out ⟨_,_,rfl,rfl,rfl⟩) ?_)
     | (refine aA (bP _ _ _ w5.heap.size rfl rfl) ?_)
     | (refine cu HN.out rfl e p lv rfl _ _ rfl rfl rfl rfl ?_; intro w6 cz db; have bi:Hid (Below w5.heap.size w5 w6):=hid (db.below (al1 _ _) aG); have e9:=hid (lm.out.below bi.out s6); clear cz db))
    have rf:Hid (ShS M w6 w.heap.size (gD (xs.take (j+1))) (j+1) D):=hid (by
     rw [tb.out];have h:=e9.out;exact ⟨h.own.mono (Nat.le_succ _),h.none_,h.some_,h.nf⟩)
    have cm:=hid (bst aa.out bi.out);go_roundw
    case rel=>exact ⟨j+1,D,by omega,by go_num,rf,cm⟩
    case measure=>simp [intOf]; omega
  .obtain rfl:j=n:=by omega
   have HE:Hid ((∃ D,ShS M wr w.heap.size (gD xs) j D)/\Below w.heap.size w wr):=hid (by
    have h:=HS.out;rw [List.take_of_length_le (by rw [HL.out]; exact aG)] at h;exact ⟨⟨D,h⟩,HB.out⟩)
   go_wp2;go_ret;exact ⟨rfl,HE.out⟩
end Tm
end
end Go.Proofs.YtoipgepkhomfgaaGreatDoor
