/-
 The contract of the plain answers' Block: the words' row.
-/
import Derived.Test.YtokaiemgjngcoaaGreatDoorVy4
import Derived.Deep.RegionHeldLaw
import Derived.Deep.RegionLaw
import Derived.Deep.AppendLies
import Derived.Deep.DrawnRows
open Go.Lib (hid)
open Go.Proofs.Tryz
set_option linter.unusedSimpArgs false
set_option linter.unusedVariables false
set_option maxHeartbeats 40000000
set_option maxRecDepth 100000
namespace Go.Proofs.YtokaiemgjngcoaaGreatDoor
variable {w:World} {a:aL} {B cap n:Nat} {t:TypeId} {v:Value}
section
open Go.RowKit
namespace Sh
attribute [local go_sem ↓] Go.wp_at_zero Go.wp_at_succ
theorem QY:(prog.info? 121).map (λi=>(i.zero,i.size,i.bytes))=some (some (.int .u64 0),1,8):=by kernel_rfl
def wv (l:List Nat):List Value:=l.map λ(x:Nat)=>Value.int .u64 (x:Int)
theorem EB (l:List Nat) (x:Nat):wv (l++[x])=wv l++[.int .u64 x]:=by simp [wv]
theorem Aq (l:List Nat) (j:Nat) (h:j<l.length):(wv l)[j]? = some (.int .u64 (l.getD j 0:Nat)):=by simp [wv,List.getD,h]
def vO (w:World) (a:aL) (n cap:Nat) (l:List Nat):Prop :=
 n<=cap/\cap<=maxLen/\l.length=n/\(a=none->cap=0)/\∀ j,j<n->∃ b off,a=some ⟨b,off,none⟩/\b<w.heap.size/\w.cell? ⟨b,off+j,none⟩=some (.int .u64 (l.getD j 0:Nat))
theorem VJ {l:List Nat} (h:vO w a n cap l):∀ ad,a=some ad->∀ j u,(wv l)[j]? = some u->w.cell? (ad.add j)=some u:=by
 intro ad had j u hu;have hj:j<l.length:=by
  rcases Nat.lt_or_ge j l.length with h1 | h1
  .exact h1
  .rw [List.getElem?_eq_none (by simpa [wv] using h1)] at hu; cases hu
 rw [Aq l j hj] at hu;obtain ⟨b,off,e,_,hc⟩:=h.2.2.2.2 j (by have:=h.2.2.1; omega);rw [had] at e;cases e;have e2:(⟨b,off,none⟩:Addr).add j=⟨b,off+j,none⟩:=by unfold Addr.add; split <;> simp_all
 rw [e2,hc];exact hu
theorem vO.below {w':World} {l:List Nat} (h:vO w a n cap l) (hb:Below w.heap.size w w'):vO w' a n cap l:=by
 refine ⟨h.1,h.2.1,h.2.2.1,h.2.2.2.1,λj hj=>?_⟩;obtain ⟨b,off,h1,h2,h3⟩:=h.2.2.2.2 j hj;exact ⟨b,off,h1,aJ h2 hb.size,by rw [hb.cell (p:=⟨b,off+j,none⟩) h2]; exact h3⟩
def W8 (w:World) (b:Nat) (l:List Nat):Prop:=b<w.heap.size/\∀ j,j<8->w.cell? ⟨b,j,none⟩=some (.int .u64 (l.getD j 0:Nat))
theorem W8.new (w:World) (t:TypeId) (a0 a1 a2 a3 a4 a5 a6 a7:Nat) :
  W8 (w.alloc (.cells #[.int .u64 a0,.int .u64 a1,.int .u64 a2,.int .u64 a3,.int .u64 a4,.int .u64 a5,.int .u64 a6,.int .u64 a7] t)).drew w.heap.size [a0,a1,a2,a3,a4,a5,a6,a7]:=by
 refine ⟨by simp,λj hj=>?_⟩;show (w.alloc _).cell? _=_;rw [World.cell?_alloc_mark]
 match j,hj with
 | 0,_=>rfl
 | 1,_=>rfl
 | 2,_=>rfl
 | 3,_=>rfl
 | 4,_=>rfl
 | 5,_=>rfl
 | 6,_=>rfl
 | 7,_=>rfl
theorem vO.sS {l:List Nat} (h:w.ownsRow B t 1 v n (wv l)):∃ a cap,v = .slice a n cap/\vO w a n cap l:=by
 have hl:l.length=n:=by simpa [wv] using h.1
 rcases h.2 with ⟨rfl,hz⟩ | ⟨g,cap,cur,rfl,hbg,hg,hnc,hcm,hcs,htake⟩
 .have e:l=[]:=List.eq_nil_of_length_eq_zero (by rw [hl]; exact hz);subst e;subst hz;exact ⟨none,0,rfl,aH,Nat.zero_le _,rfl,λ_=>rfl,λ_ hj=>absurd hj (Nat.not_lt_zero _)⟩
 .refine ⟨_,_,rfl,hnc,hcm,hl,λe=>(by cases e),λj hj=>⟨g,0,rfl,(Array.getElem?_eq_some_iff.1 hg).1,?_⟩⟩;have:=h.cells (g:=g) rfl j _ (Aq l j (by omega));have e:(⟨g,0,none⟩:Addr).add j=⟨g,0+j,none⟩:=by unfold Addr.add; split <;> simp_all
  rw [e] at this;exact this
def VX (w:World) (l:List Nat) (e:Ending) (w':World):Prop:=∃ a cap,e = .returned (.slice a 8 cap)/\vO w' a 8 cap l/\Below w.heap.size w w'
theorem NW (a:aL) (cap:Nat) (hs:List Nat) (s:aM) (hsz:s.size=64) (w:World) (hw:vO w a 8 cap hs) (hlt:∀ x∈hs,x<4294967296) :
  Calls prog 71 #[.slice a 8 cap,.string s] w (VX w (kY (lu s) hs)):=by
 obtain ⟨i0,hi,hz0,hz1,hz2⟩:=info_parts QY;have HI:Hid (_/\_/\_/\_):=hid ⟨hi,hz0,hz1,hz2⟩;have HW:=hid hw;have HL:=hid hlt;have HG:=hid (Cn s);have HQ:=hid (wU s);clear hw hlt hi hz0 hz1 hz2;obtain ⟨g,hg⟩:=aA (lu s)
 rw [hg];have HQ:Hid (∀ q (h:q<s.size),s[q].toNat=g q):=hid (by rw [<-hg]; exact HQ.out);rw [hg] at HG;clear hg;go_enter func71,ntmps71;go_wp2;go_loopw [5,6] (λv i wr=>∃ k:Nat,k<=64/\i = .int .i64 k/\Hid (wr.ownsRow w.heap.size 121 1 v k (wv (jR g k)))/\Below w.heap.size w wr) (λ_ i _=>64-(intOf i).toNat)
 case atStart=>exact ⟨0,Nat.zero_le _,rfl,hid (World.ownsRow_nil _ _ _ _),aI⟩
 case round =>
  obtain ⟨k,hk,rfl,HO,hB⟩:=hrel;by_cases hlt:k<64
  .by_cases h16:k<16
   .have HN:Hid (wv (jR g (k+1))=wv (jR g k)++[.int .u64 (ji g k 4:Nat)]):=hid (by rw [jR,EB,xZ,if_pos h16]);have hsz:=hB.size;go_wp2;go_loop [7,8] (λx kk=>∃ j:Nat,j<=4/\kk = .int .i64 (4*k+j:Nat)/\x = .int .u64 (ji g k j:Nat)) (λ_ kk=>4*k+4-(intOf kk).toNat)
    case atStart=>exact ⟨0,Nat.zero_le _,rfl,rfl⟩
    case round =>
     obtain ⟨j,hj,rfl,rfl⟩:=hrel;obtain ⟨p,hp⟩:=aA (4*k+j)
     have HP:=hid (AB g HG.out k j);have hxl:ji g k j<4294967296:=aJ HP.out (Nat.pow_le_pow_right (n:=256) (by decide) hj);by_cases ZI:j<4
     .have hpl:p<4*k+4:=by omega
      have hps:p<s.size:=by omega
      have hq:=HQ.out p hps;have ZJ:=HG.out p;have HX:Hid (ji g k (j+1)=256*ji g k j+g p):=hid (by rw [ji,hp]);have hx2:ji g k j<16777216:=aJ HP.out (Nat.pow_le_pow_right (n:=256) (by decide) (show j<=3 by omega));obtain ⟨x,hx⟩:=aA (ji g k j)
      rw [hx] at HX hx2 ⊢;rw [hp];have Za:=hid hp;clear hx hxl HP hp;obtain ⟨y,hy⟩:=aA (s[p].toNat)
      have hyb:y<256:=by omega
      go_wp2;go_round
      case rel=>exact ⟨j+1,by omega,by have:=Za.out; go_num,by rw [HX.out,<-hq,hy]; go_num⟩
      case measure=>simp [intOf]; omega
     .obtain rfl:j=4:=by omega
      have hpe:p=4*k+4:=hp.symm;rw [hp];obtain ⟨x,hx⟩:=aA (ji g k 4)
      rw [hx] at HN hxl ⊢;clear hx HP hp;go_wp2_with (at_builtin; refine wpList_append_own _ rfl _ _ 122 rfl w.heap.size 121 i0 (.int .u64 0) 1 8 underlying122 HI.out.1 HI.out.2.1 HI.out.2.2.1 HI.out.2.2.2 rfl (by decide) _ _ _ rfl (HO.out.alloc _) ⟨wr.heap.size,0,none⟩ 1 1 [.int .u64 x] rfl rfl ?c1 ?c2 ?c3 ?c4 ?c5 ?_)
      case c2=>first | rfl | (intro u hu; simp at hu; subst hu; rfl)
      case c3=>unfold maxLen; omega
      case c4=>omega
      case c5=>first | omega | (simp; omega)
      intro v' w2 hown2 hgrow _;have hlt':=HO.out.lt;go_wp2;go_roundw
      case rel=>exact ⟨k+1,by omega,by go_num,hid (by rw [HN.out]; exact hown2),(hB.alloc hsz _).grown hgrow (by simp; omega) (λg hg=>(hlt' g hg).1)⟩
      case measure=>simp [intOf]; omega
   .obtain ⟨p,rfl⟩:∃ p,k=p+16:=⟨k-16,by omega⟩
    obtain ⟨l,hl⟩:=aA (jR g (p+16))
    have hN:wv (jR g (p+16+1))=wv l++[.int .u64 ((l.getD p 0+sg0 (l.getD (p+1) 0)+l.getD (p+9) 0+sg1 (l.getD (p+14) 0))%4294967296:Nat)]:=by
     rw [jR,EB,hl,xZ,if_neg (by omega)];rw [show p+16-16=p by omega,show p+16-15=p+1 by omega,show p+16-7=p+9 by omega,show p+16-2=p+14 by omega]
    have hll:l.length=p+16:=by rw [<-hl]; exact iQ g _
    have hlb:∀ x∈l,x<4294967296:=by rw [<-hl]; exact uM g HG.out _
    have hO:=HO.out;rw [hl] at hO;clear HO hl;obtain ⟨b,c,rfl,hbg,hbw⟩:=hO.form (by omega);have hcell:∀ j,j<p+16->wr.cell? ⟨b,j,none⟩=some (.int .u64 (l.getD j 0:Nat)):=λj hj=>by
     have:=hO.cells (g:=b) rfl j _ (Aq l j (by omega));have e:(⟨b,0,none⟩:Addr).add j=⟨b,j,none⟩:=by unfold Addr.add; split <;> simp_all
     rw [e] at this;exact this
    have HO:=hid hO;have c0:=hcell p (by omega);have c1:=hcell (p+1) (by omega);have c9:=hcell (p+9) (by omega);have c14:=hcell (p+14) (by omega);have b0:=getD_lt hlb p;have b1:=getD_lt hlb (p+1);have b9:=getD_lt hlb (p+9);have b14:=getD_lt hlb (p+14);have hsz:=hB.size;obtain ⟨x0,hx0⟩:=aA (l.getD p 0)
    obtain ⟨x1,hx1⟩:=aA (l.getD (p+1) 0)
    obtain ⟨x9,sl⟩:=aA (l.getD (p+9) 0)
    obtain ⟨cF,pm⟩:=aA (l.getD (p+14) 0)
    rw [hx0] at hN c0 b0;rw [hx1] at hN c1 b1;rw [sl] at hN c9 b9;rw [pm] at hN c14 b14;have HN:=hid hN;clear hN hcell hO hx0 hx1 sl pm hlb hll;have HT1:=hid (lC x1 7 b1 (by omega));have HT2:=hid (lC x1 18 b1 (by omega));have HT3:=hid (BZ x1 3 b1 (by omega));have rB:=hid (lC cF 17 b14 (by omega));have sb:=hid (lC cF 19 b14 (by omega));have Hb:=hid (BZ cF 10 b14 (by omega));have t1:=bN 7 x1 b1;have t2:=bN 18 x1 b1;have t4:=bN 17 cF b14;have t5:=bN 19 cF b14;have PA:=TM x1 b1;have PB:=RP cF b14
    have t3:gM x1 3<4294967296:=by rw [lU]; exact Nat.lt_of_le_of_lt (Nat.div_le_self _ _) b1
    have t6:gM cF 10<4294967296:=by rw [lU]; exact Nat.lt_of_le_of_lt (Nat.div_le_self _ _) b14
    have t12:=Nat.xor_lt_two_pow (n:=32) t1 t2;have t45:=Nat.xor_lt_two_pow (n:=32) t4 t5;have e1:=u64_xor_nat _ _ (show bg x1 7<18446744073709551616 by omega) (show bg x1 18<18446744073709551616 by omega);have e2:=u64_xor_nat _ _ (show bg x1 7 ^^^ bg x1 18<18446744073709551616 by omega) (show gM x1 3<18446744073709551616 by omega);have e4:=u64_xor_nat _ _ (show bg cF 17<18446744073709551616 by omega) (show bg cF 19<18446744073709551616 by omega)
    have e5:=u64_xor_nat _ _ (show bg cF 17 ^^^ bg cF 19<18446744073709551616 by omega) (show gM cF 10<18446744073709551616 by omega);have q0:bg x1 7 ^^^ bg x1 18 ^^^ gM x1 3=sg0 x1:=rfl;have q1:bg cF 17 ^^^ bg cF 19 ^^^ gM cF 10=sg1 cF:=rfl;rw [q0] at e2;rw [q1] at e5;clear t12 t45 q0 q1 t1 t2 t3 t4 t5 t6 b1 b14;obtain ⟨y1,hy1⟩:=aA (bg x1 7 ^^^ bg x1 18)
    obtain ⟨y4,hy4⟩:=aA (bg cF 17 ^^^ bg cF 19)
    rw [hy1] at e1 e2;rw [hy4] at e4 e5;clear hy1 hy4;obtain ⟨a1,ha1⟩:=aA (bg x1 7)
    obtain ⟨a2,ha2⟩:=aA (bg x1 18)
    obtain ⟨a3,W6⟩:=aA (gM x1 3)
    obtain ⟨a4,W7⟩:=aA (bg cF 17)
    obtain ⟨a5,W9⟩:=aA (bg cF 19)
    obtain ⟨a6,Wa⟩:=aA (gM cF 10)
    obtain ⟨z0,hz0⟩:=aA (sg0 x1)
    obtain ⟨z1,hz1⟩:=aA (sg1 cF)
    rw [ha1] at HT1 e1;rw [ha2] at HT2 e1;rw [W6] at HT3 e2;rw [W7] at rB e4;rw [W9] at sb e4;rw [Wa] at Hb e5;rw [hz0] at HN e2 PA;rw [hz1] at HN e5 PB;clear ha1 ha2 W6 W7 W9 Wa hz0 hz1;have jt:=hid (sM (x0+z0+x9+z1) (by omega));go_wp2_with fail
    refine (HT1.out _).mono ?_;rintro e w1 ⟨rfl,rfl⟩;go_wp2_with fail
    refine (HT2.out _).mono ?_;rintro e w1 ⟨rfl,rfl⟩;go_wp2_with fail
    refine (HT3.out _).mono ?_;rintro e w1 ⟨rfl,rfl⟩;go_wp2_with fail
    refine (rB.out _).mono ?_;rintro e w1 ⟨rfl,rfl⟩;go_wp2_with fail
    refine (sb.out _).mono ?_;rintro e w1 ⟨rfl,rfl⟩;go_wp2_with fail
    refine (Hb.out _).mono ?_;rintro e w1 ⟨rfl,rfl⟩;go_wp2_with fail
    clear e1 e2 e4 e5;obtain ⟨V,hV⟩:=aA ((x0+z0+x9+z1)%4294967296)
    rw [hV] at jt HN;clear hV;have w0:IntKind.i64.wrap (p:Int)=p:=by rw [IntKind.wrap_i64]; omega
    have w9:IntKind.i64.wrap ((p:Int)+16-7)=(p:Int)+9:=by rw [IntKind.wrap_i64]; omega
    have l0:(0:Int)<=(p:Int):=by omega
    have l1:(p:Int)<(p:Int)+16:=by omega
    have l2:(0:Int)<=(p:Int)+9:=by omega
    have l3:(p:Int)+9<(p:Int)+16:=by omega
    have l4:((p:Int)+9).toNat=p+9:=by omega
    have v1:IntKind.u64.wrap ((x0:Int)+z0)=(x0:Int)+z0:=by rw [IntKind.wrap_u64]; omega
    have v2:IntKind.u64.wrap ((x0:Int)+z0+x9)=(x0:Int)+z0+x9:=by rw [IntKind.wrap_u64]; omega
    have v3:IntKind.u64.wrap ((x0:Int)+z0+x9+z1)=(x0:Int)+z0+x9+z1:=by rw [IntKind.wrap_u64]; omega
    have ee:((x0+z0+x9+z1:Nat):Int)=(x0:Int)+z0+x9+z1:=by omega
    rw [ee] at jt;clear ee;go_region_law (first
     | (go_simp; go_at_call 117; refine (jt.out _).mono ?_; rintro e w1 ⟨rfl,rfl⟩; dsimp only)
     | (refine step_append_lies _ (by rfl) _ _ _ (by rfl) w.heap.size 121 i0 _ 1 8 underlying122 HI.out.1 HI.out.2.1 HI.out.2.2.1 HI.out.2.2.2 rfl (by omega) _ (p+16) _ (by rfl) ((HO.out.alloc _).drew) ⟨wr.heap.size,0,none⟩ 1 1 [.int .u64 V] (by rfl) (by rfl) (World.news_of_block (cs:=#[.int .u64 V]) (t:=121) (fr:=(0,0)) (heap_alloc_new wr _)) (by simp [Value.oneCell']) (by omega) (by unfold maxLen; omega) (by omega) (by simp; omega) (wr.heap.size+1) (by simp) ?_; intro gg cp w2 hown2 hgrow hat PT))
    all_goals
     go_wp2;have hlt':=HO.out.lt;go_roundw
     case rel=>exact ⟨p+16+1,by omega,by go_num,hid (by rw [HN.out]; exact hown2),(Below.drew (hB.alloc hsz _)).grown hgrow (by simp; omega) (λg hg=>(hlt' g hg).1)⟩
     case measure=>simp [intOf]; omega
  .obtain rfl:k=64:=by omega
   have hO:=HO.out;obtain ⟨b,c,rfl,hbg,hbw⟩:=hO.form (by omega);have hsz:=hB.size;have hwr:=(HW.out.below hB).below ((Below.refl wr.heap.size wr).alloc aH (.cells #[] 121));obtain ⟨hb,off,rfl,hblt,hcr⟩:=hwr.2.2.2.2 0 (by omega);clear hcr hblt hk hlt;have Wb:=hid (VJ hwr);have HE:Hid ((wr.alloc (.cells #[] 121)).ownsRow w.heap.size 121 1 (.slice (some ⟨wr.heap.size,0,none⟩) 0 0) 0 []):=hid ⟨rfl,.inr ⟨wr.heap.size,0,_,rfl,hsz,heap_alloc_new wr _,aH,Nat.zero_le _,by simp,by simp⟩⟩
   have Fo:Hid ((wv hs).length=8*1):=hid (by have:=HW.out.2.2.1; simp [wv,this]);clear hwr hO;go_wp2_with (at_builtin; refine wpList_append_own _ rfl _ _ 122 rfl w.heap.size 121 i0 (.int .u64 0) 1 8 underlying122 HI.out.1 HI.out.2.1 HI.out.2.2.1 HI.out.2.2.2 rfl (by decide) _ _ _ rfl HE.out ⟨hb,off,none⟩ 8 cap (wv hs) rfl Fo.out ?d1 ?d2 ?d3 ?d4 ?d5 ?_)
   all_goals first
    | exact Wb.out _ rfl
    | (intro u hu; simp [wv] at hu; obtain ⟨_,_,rfl⟩:=hu; rfl)
    | decide
    | (unfold maxLen; omega)
    | (simp; omega)
    | skip
   intro v' w2 hown2 hgrow hnn;clear hnn;have HX:Hid (vO w2 (some ⟨hb,off,none⟩) 8 cap hs):=hid ((HW.out.below hB).below (((Below.refl wr.heap.size wr).alloc aH _).grown hgrow (by simp) (λg hg=>by simp [Value.ownBlock] at hg; omega)));have hB2:Below w.heap.size w w2:=(hB.alloc hsz _).grown hgrow (by simp; omega) (λg hg=>by simp [Value.ownBlock] at hg; omega);have HZ:Hid (∀ j,j<64->w2.cell? ⟨b,j,none⟩=some (.int .u64 ((jR g 64).getD j 0:Nat))):=hid (λj hj=>by
    have:=(HO.out).cells (g:=b) rfl j _ (Aq (jR g 64) j (by rw [iQ]; exact hj));have e:(⟨b,0,none⟩:Addr).add j=⟨b,j,none⟩:=by unfold Addr.add; split <;> simp_all
    rw [e] at this;have e2:=(((Below.refl wr.heap.size wr).alloc aH (.cells #[] 121)).grown hgrow (by simp) (λg hg=>by simp [Value.ownBlock] at hg; omega)).cell (p:=⟨b,j,none⟩) hbw;rw [e2];exact this)
   obtain ⟨b2,c2,rfl,Fs,xx⟩:=hown2.form (by omega);have HV:Hid (W8 w2 b2 hs):=hid ⟨xx,λj hj=>by
    have:=hown2.cells (g:=b2) rfl j _ (Aq hs j (by have:=HW.out.2.2.1; omega));have e:(⟨b2,0,none⟩:Addr).add j=⟨b2,j,none⟩:=by unfold Addr.add; split <;> simp_all
    rw [e] at this;exact this⟩
   have hb2:b<w2.heap.size:=by have:=hgrow.size; simp at this; omega
   clear HO hown2 HE hgrow Wb Fo HW hB hbg hbw hsz;obtain ⟨ws,hws⟩:=aA (jR g 64)
   have Fo:Hid (∀ x∈ws,x<4294967296):=hid (by rw [<-hws]; exact uM g HG.out 64);have Wc:=sec hws;rw [hws] at HZ;clear hws;go_wp2;go_loopw [11,12] (λv i wx=>∃ k bb cc:Nat,k<=64/\i = .int .i64 k/\v = .slice (some ⟨bb,0,none⟩) 8 cc/\Hid (W8 wx bb (rA ws hs k))/\Below w2.heap.size w2 wx) (λ_ i _=>64-(intOf i).toNat)
   case atStart=>exact ⟨0,b2,c2,by omega,rfl,rfl,HV,aI⟩
   case round =>
    obtain ⟨k,bb,cc,hk,rfl,rfl,HV,hBx⟩:=hrel;by_cases hlt:k<64
    .have hV:=HV.out;have oY:=λj=>getD_lt (uL ws hs HL.out k) j;have HR:Hid (rA ws hs (k+1)=rM (kN k) (ws.getD k 0) (rA ws hs k)):=hid rfl;have cw:=HZ.out k hlt;rw [<-hBx.cell (p:=⟨b,k,none⟩) hb2] at cw;have bw:=getD_lt Fo.out k;obtain ⟨wk,hwk⟩:=aA (ws.getD k 0)
     rw [hwk] at cw bw HR;clear hwk;obtain ⟨L,hL⟩:=aA (rA ws hs k)
     rw [hL] at hV oY HR;clear HV hL;have c0:=hV.2 0 (by omega);have c1:=hV.2 1 (by omega);have c2':=hV.2 2 (by omega);have c3:=hV.2 3 (by omega);have c4:=hV.2 4 (by omega);have c5:=hV.2 5 (by omega);have c6:=hV.2 6 (by omega);have c7:=hV.2 7 (by omega);have hbb:=hV.1;have b0:=oY 0;have b1:=oY 1;have b2':=oY 2;have b3:=oY 3;have b4:=oY 4;have b5:=oY 5;have b6:=oY 6;have b7:=oY 7;have hR:=HR.out;unfold rM at hR;clear HR hV oY;obtain ⟨x0,hx0⟩:=aA (L.getD 0 0)
     obtain ⟨x1,hx1⟩:=aA (L.getD 1 0)
     obtain ⟨x2,hx2⟩:=aA (L.getD 2 0)
     obtain ⟨x3,hx3⟩:=aA (L.getD 3 0)
     obtain ⟨x4,hx4⟩:=aA (L.getD 4 0)
     obtain ⟨x5,hx5⟩:=aA (L.getD 5 0)
     obtain ⟨x6,hx6⟩:=aA (L.getD 6 0)
     obtain ⟨x7,hx7⟩:=aA (L.getD 7 0)
     rw [hx0,hx1,hx2,hx3,hx4,hx5,hx6,hx7] at hR;rw [hx0] at c0 b0;rw [hx1] at c1 b1;rw [hx2] at c2' b2';rw [hx3] at c3 b3;rw [hx4] at c4 b4;rw [hx5] at c5 b5;rw [hx6] at c6 b6;rw [hx7] at c7 b7;have HR:=sec hR;clear hR hx0 hx1 hx2 hx3 hx4 hx5 hx6 hx7;clear hk Fs xx;go_wp2_with fail
     have hpk:=GQ x4 x5 x6 b4;have hmo:=Gt x0 x1 x2 b0 b1;obtain ⟨m4,Fi⟩:=aA (4294967295-x4)
     have v4:IntKind.u64.wrap (4294967295-(x4:Int))=(m4:Int):=by rw [IntKind.wrap_u64]; omega
     have bm:m4<4294967296:=by omega
     have A1:=u64_and_nat x4 x5 (by omega) (by omega);have A2:=u64_and_nat m4 x6 (by omega) (by omega);have A3:=u64_or_nat (x4 &&& x5) (m4 &&& x6) (Nat.lt_of_le_of_lt Nat.and_le_left (by omega)) (Nat.lt_of_le_of_lt Nat.and_le_left (by omega));have hp:(x4 &&& x5) ||| (m4 &&& x6)=xO x4 x5 x6:=by unfold xO; rw [Fi]
     rw [hp] at A3;have A4:=u64_and_nat x0 x1 (by omega) (by omega);have A5:=u64_and_nat x0 x2 (by omega) (by omega);have A6:=u64_or_nat (x0 &&& x1) (x0 &&& x2) (Nat.lt_of_le_of_lt Nat.and_le_left (by omega)) (Nat.lt_of_le_of_lt Nat.and_le_left (by omega));have A7:=u64_and_nat x1 x2 (by omega) (by omega);have A8:=u64_or_nat ((x0 &&& x1) ||| (x0 &&& x2)) (x1 &&& x2) (Nat.lt_trans (Nat.or_lt_two_pow (n:=32) (Nat.lt_of_le_of_lt Nat.and_le_left (by omega)) (Nat.lt_of_le_of_lt Nat.and_le_left (by omega))) (by decide)) (Nat.lt_of_le_of_lt Nat.and_le_left (by omega))
     have hq:(x0 &&& x1) ||| (x0 &&& x2) ||| (x1 &&& x2)=AY x0 x1 x2:=rfl
     rw [hq] at A8;obtain ⟨pk,l9⟩:=aA (xO x4 x5 x6)
     obtain ⟨mo,ld⟩:=aA (AY x0 x1 x2)
     rw [l9] at hpk A3;rw [ld] at hmo A8;have I6:=sec l9;have I7:=sec ld;have ZK:=hid v4;clear hp hq l9 ld Fi;generalize x4 &&& x5=p1 at A1 A3;generalize m4 &&& x6=p2 at A2 A3;generalize (x0 &&& x1) ||| (x0 &&& x2)=q3 at A6 A8
     generalize x0 &&& x1=q1 at A4 A6;generalize x0 &&& x2=q2 at A5 A6;generalize x1 &&& x2=q5 at A7 A8;go_quiet (fail)
     obtain ⟨n1,rfl⟩:=ay nq
     go_wp2_with fail
     go_quiet (fail)
     obtain ⟨n2,rfl⟩:=ay nq
     go_wp2_with fail
     clear A1 A2 A3 A4 A5 A6 A7 A8 v4;have xt:=below_drewN (below_drewN hBx n1) n2;have ik:bb<((wr.drewN n1).drewN n2).heap.size:=hbb;have d0:((wr.drewN n1).drewN n2).cell? ⟨bb,0,none⟩=_:=c0;have d1:((wr.drewN n1).drewN n2).cell? ⟨bb,1,none⟩=_:=c1;have d2:((wr.drewN n1).drewN n2).cell? ⟨bb,2,none⟩=_:=c2';have d3:((wr.drewN n1).drewN n2).cell? ⟨bb,3,none⟩=_:=c3;have d4:((wr.drewN n1).drewN n2).cell? ⟨bb,4,none⟩=_:=c4;have d5:((wr.drewN n1).drewN n2).cell? ⟨bb,5,none⟩=_:=c5
     have d6:((wr.drewN n1).drewN n2).cell? ⟨bb,6,none⟩=_:=c6;have d7:((wr.drewN n1).drewN n2).cell? ⟨bb,7,none⟩=_:=c7;have dw:((wr.drewN n1).drewN n2).cell? ⟨b,k,none⟩=_:=cw;clear c0 c1 c2' c3 c4 c5 c6 c7 cw hBx hbb;generalize (wr.drewN n1).drewN n2=wy at xt ik d0 d1 d2 d3 d4 d5 d6 d7 dw ⊢;have HD:Hid (wy.cell? ⟨bb,0,none⟩=_/\wy.cell? ⟨bb,1,none⟩=_/\wy.cell? ⟨bb,2,none⟩=_/\wy.cell? ⟨bb,3,none⟩=_/\wy.cell? ⟨bb,4,none⟩=_/\wy.cell? ⟨bb,5,none⟩=_/\wy.cell? ⟨bb,6,none⟩=_):=hid ⟨d0,d1,d2,d3,d4,d5,d6⟩
     clear d0 d1 d2 d3 d4 d5 d6;have Q4:(wy.cell? ⟨bb,7,none⟩=some (.int .u64 (x7:Nat))/\wy.cell? ⟨b,k,none⟩=some (.int .u64 (wk:Nat)))/\Below wy.heap.size wy wy:=⟨⟨d7,dw⟩,aI⟩
     have hby:b<wy.heap.size:=aJ hb2 xt.size;have We:Hid (∀ wa wb:World,((wa.cell? ⟨bb,7,none⟩=some (.int .u64 (x7:Nat))/\wa.cell? ⟨b,k,none⟩=some (.int .u64 (wk:Nat)))/\Below wy.heap.size wy wa)->Below wa.heap.size wa wb->((wb.cell? ⟨bb,7,none⟩=some (.int .u64 (x7:Nat))/\wb.cell? ⟨b,k,none⟩=some (.int .u64 (wk:Nat)))/\Below wy.heap.size wy wb)):=hid (λwa wb h1 h2=>by
      have h3:=h1.2.trans (h2.mono h1.2.size);exact ⟨⟨(h3.cell (p:=⟨bb,7,none⟩) ik).trans Q4.1.1,(h3.cell (p:=⟨b,k,none⟩) hby).trans Q4.1.2⟩,h3⟩)
     clear Q4;have HT1:=hid (vZ x4 6 6 rfl b4 (by omega));have HT2:=hid (vZ x4 11 11 rfl b4 (by omega));have HT3:=hid (vZ x4 25 25 rfl b4 (by omega));have HKK:=hid (WT k hlt);have tB:=RH x4 b4;have e1:=u64_xor_nat (bg x4 6) (bg x4 11) (Nat.lt_trans (bN 6 x4 b4) (by decide)) (Nat.lt_trans (bN 11 x4 b4) (by decide));have e2:=u64_xor_nat (bg x4 6 ^^^ bg x4 11) (bg x4 25) (Nat.lt_trans (Nat.xor_lt_two_pow (n:=32) (bN 6 x4 b4) (bN 11 x4 b4)) (by decide)) (Nat.lt_trans (bN 25 x4 b4) (by decide));have hq:bg x4 6 ^^^ bg x4 11 ^^^ bg x4 25=bs1 x4:=rfl;rw [hq] at e2
     have kb:=Xc k;have kx:Sec (xN (kN k) wk x4 x5 x6 x7=(x7+bs1 x4+pk+kN k+wk)%4294967296):=sec (by unfold xN; rw [I6.out]);obtain ⟨B1,hB1⟩:=aA (bs1 x4)
     obtain ⟨kk,hkk⟩:=aA (kN k)
     rw [hB1] at e2 tB;rw [hkk] at kb HKK;rw [hB1,hkk] at kx;have HB1:=sec hB1;have Wf:=sec hkk;clear hB1 hkk hq;generalize bg x4 6 ^^^ bg x4 11=y1 at e1 e2;generalize bg x4 6=a1 at HT1 e1;generalize bg x4 11=a2 at HT2 e1;generalize bg x4 25=a3 at HT3 e2;have jt:=hid (sM (x7+B1+pk+kk+wk) (by omega));have ee:((x7+B1+pk+kk+wk:Nat):Int)=(x7:Int)+B1+pk+kk+wk:=by omega
     rw [ee] at jt;have v1:IntKind.u64.wrap ((x7:Int)+B1)=(x7:Int)+B1:=by rw [IntKind.wrap_u64]; omega
     have v2:IntKind.u64.wrap ((x7:Int)+B1+pk)=(x7:Int)+B1+pk:=by rw [IntKind.wrap_u64]; omega
     have v3:IntKind.u64.wrap ((x7:Int)+B1+pk+kk)=(x7:Int)+B1+pk+kk:=by rw [IntKind.wrap_u64]; omega
     have v4:IntKind.u64.wrap ((x7:Int)+B1+pk+kk+wk)=(x7:Int)+B1+pk+kk+wk:=by rw [IntKind.wrap_u64]; omega
     have PC:(x7+B1+pk+kk+wk)%4294967296<4294967296:=Nat.mod_lt _ (by omega);obtain ⟨X,hX⟩:=aA ((x7+B1+pk+kk+wk)%4294967296)
     rw [hX] at jt PC kx;clear ee hX;have l0:(0:Int)<=(k:Int):=by omega
     have l1:(k:Int)<64:=by omega
     go_region_held3 (λw'=>(w'.cell? ⟨bb,7,none⟩=some (.int .u64 (x7:Nat))/\w'.cell? ⟨b,k,none⟩=some (.int .u64 (wk:Nat)))/\Below wy.heap.size wy w') (first | exact ⟨⟨d7,dw⟩,aI.drew⟩ | exact We.out _ _ (by assumption) (by assumption) | assumption)
      (first
       | (go_at_call 115; (with_reducible refine (HT1.out _).mono ?_); rintro e w1 ⟨rfl,rfl⟩)
       | (go_at_call 115; (with_reducible refine (HT2.out _).mono ?_); rintro e w1 ⟨rfl,rfl⟩)
       | (go_at_call 115; (with_reducible refine (HT3.out _).mono ?_); rintro e w1 ⟨rfl,rfl⟩)
       | (go_at_call 118; refine (HKK.out _).mono ?_; rintro e w1 ⟨rfl,hb1⟩)
       | (go_at_call 117; refine (jt.out _).mono ?_; rintro e w1 ⟨rfl,rfl⟩))
     clear v1 v2 v3 v4 e1 e2 l0 l1 HT1 HT2 HT3 HKK jt hb1;rename_i Wg;have hS:=Wg.2;clear Wg
     have Q5:Hid (∀ wa:World,Below wy.heap.size wy wa->wa.cell? ⟨bb,0,none⟩=some (.int .u64 (x0:Nat))/\wa.cell? ⟨bb,1,none⟩=some (.int .u64 (x1:Nat))/\wa.cell? ⟨bb,2,none⟩=some (.int .u64 (x2:Nat))/\wa.cell? ⟨bb,3,none⟩=some (.int .u64 (x3:Nat))/\wa.cell? ⟨bb,4,none⟩=some (.int .u64 (x4:Nat))/\wa.cell? ⟨bb,5,none⟩=some (.int .u64 (x5:Nat))/\wa.cell? ⟨bb,6,none⟩=some (.int .u64 (x6:Nat))):=hid (λwa h=>⟨(h.cell (p:=⟨bb,0,none⟩) ik).trans HD.out.1,(h.cell (p:=⟨bb,1,none⟩) ik).trans HD.out.2.1,(h.cell (p:=⟨bb,2,none⟩) ik).trans HD.out.2.2.1,(h.cell (p:=⟨bb,3,none⟩) ik).trans HD.out.2.2.2.1,(h.cell (p:=⟨bb,4,none⟩) ik).trans HD.out.2.2.2.2.1,(h.cell (p:=⟨bb,5,none⟩) ik).trans HD.out.2.2.2.2.2.1,(h.cell (p:=⟨bb,6,none⟩) ik).trans HD.out.2.2.2.2.2.2⟩)
     clear d7 dw We;have HT1:=hid (vZ x0 2 2 rfl b0 (by omega));have HT2:=hid (vZ x0 13 13 rfl b0 (by omega));have HT3:=hid (vZ x0 22 22 rfl b0 (by omega));have PF:=Sn x0 b0;have e1:=u64_xor_nat (bg x0 2) (bg x0 13) (Nat.lt_trans (bN 2 x0 b0) (by decide)) (Nat.lt_trans (bN 13 x0 b0) (by decide));have e2:=u64_xor_nat (bg x0 2 ^^^ bg x0 13) (bg x0 22) (Nat.lt_trans (Nat.xor_lt_two_pow (n:=32) (bN 2 x0 b0) (bN 13 x0 b0)) (by decide)) (Nat.lt_trans (bN 22 x0 b0) (by decide));have hq:bg x0 2 ^^^ bg x0 13 ^^^ bg x0 22=bs0 x0:=rfl;rw [hq] at e2
     have kz:Sec (yN x0 x1 x2=(bs0 x0+mo)%4294967296):=sec (by unfold yN; rw [I7.out]);obtain ⟨B0,hB0⟩:=aA (bs0 x0)
     rw [hB0] at e2 PF kz;clear hB0 hq;generalize bg x0 2 ^^^ bg x0 13=z1 at e1 e2;generalize bg x0 2=a4 at HT1 e1;generalize bg x0 13=a5 at HT2 e1;generalize bg x0 22=a6 at HT3 e2;have jt:=hid (sM (B0+mo) (by omega));have ee:((B0+mo:Nat):Int)=(B0:Int)+mo:=by omega
     rw [ee] at jt;have PH:(B0+mo)%4294967296<4294967296:=Nat.mod_lt _ (by omega);obtain ⟨Y,hY⟩:=aA ((B0+mo)%4294967296)
     rw [hY] at jt PH kz;clear ee hY;go_wp2_with fail
     (with_reducible refine (HT1.out _).mono ?_)
     rintro e w3 ⟨rfl,rfl⟩;go_wp2_with fail
     (with_reducible refine (HT2.out _).mono ?_)
     rintro e w3 ⟨rfl,rfl⟩;go_wp2_with fail
     (with_reducible refine (HT3.out _).mono ?_)
     rintro e w3 ⟨rfl,rfl⟩;go_wp2_with fail
     (with_reducible refine (jt.out _).mono ?_)
     rintro e w3 ⟨rfl,rfl⟩;go_wp2_with fail
     clear HT1 HT2 HT3 jt e1 e2;have ee:((X+Y:Nat):Int)=(X:Int)+Y:=by omega
     have ti:((x3+X:Nat):Int)=(x3:Int)+X:=by omega
     have pA:=hid (sM (X+Y) (by omega));have HL2:=hid (sM (x3+X) (by omega));rw [ee] at pA;rw [ti] at HL2;have v1:IntKind.u64.wrap ((X:Int)+Y)=(X:Int)+Y:=by rw [IntKind.wrap_u64]; omega
     have v2:IntKind.u64.wrap ((x3:Int)+X)=(x3:Int)+X:=by rw [IntKind.wrap_u64]; omega
     have HRR:Sec (rA ws hs (k+1)=[(X+Y)%4294967296,x0,x1,x2,(x3+X)%4294967296,x4,x5,x6]):=sec (by rw [HR.out,Wf.out,kx.out,kz.out]);obtain ⟨N0,hN0⟩:=aA ((X+Y)%4294967296)
     obtain ⟨N4,np⟩:=aA ((x3+X)%4294967296)
     rw [hN0] at pA HRR;rw [np] at HL2 HRR;clear ee ti hN0 np HR kx kz I7 I6 Wf HB1;have kw:=hid (Q5.out _ hS.drew)
     have EQ:Hid (∀ (wa:World) (o:Obj),((wa.cell? ⟨bb,0,none⟩=some (.int .u64 (x0:Nat))/\wa.cell? ⟨bb,1,none⟩=some (.int .u64 (x1:Nat))/\wa.cell? ⟨bb,2,none⟩=some (.int .u64 (x2:Nat))/\wa.cell? ⟨bb,3,none⟩=some (.int .u64 (x3:Nat))/\wa.cell? ⟨bb,4,none⟩=some (.int .u64 (x4:Nat))/\wa.cell? ⟨bb,5,none⟩=some (.int .u64 (x5:Nat))/\wa.cell? ⟨bb,6,none⟩=some (.int .u64 (x6:Nat)))/\Below wy.heap.size wy wa)->((wa.alloc o).cell? ⟨bb,0,none⟩=some (.int .u64 (x0:Nat))/\(wa.alloc o).cell? ⟨bb,1,none⟩=some (.int .u64 (x1:Nat))/\(wa.alloc o).cell? ⟨bb,2,none⟩=some (.int .u64 (x2:Nat))/\(wa.alloc o).cell? ⟨bb,3,none⟩=some (.int .u64 (x3:Nat))/\(wa.alloc o).cell? ⟨bb,4,none⟩=some (.int .u64 (x4:Nat))/\(wa.alloc o).cell? ⟨bb,5,none⟩=some (.int .u64 (x5:Nat))/\(wa.alloc o).cell? ⟨bb,6,none⟩=some (.int .u64 (x6:Nat)))/\Below wy.heap.size wy (wa.alloc o)):=hid (λwa o h=>⟨Q5.out _ (h.2.alloc h.2.size o),h.2.alloc h.2.size o⟩)
     go_region_held3 (λw'=>(w'.cell? ⟨bb,0,none⟩=some (.int .u64 (x0:Nat))/\w'.cell? ⟨bb,1,none⟩=some (.int .u64 (x1:Nat))/\w'.cell? ⟨bb,2,none⟩=some (.int .u64 (x2:Nat))/\w'.cell? ⟨bb,3,none⟩=some (.int .u64 (x3:Nat))/\w'.cell? ⟨bb,4,none⟩=some (.int .u64 (x4:Nat))/\w'.cell? ⟨bb,5,none⟩=some (.int .u64 (x5:Nat))/\w'.cell? ⟨bb,6,none⟩=some (.int .u64 (x6:Nat)))/\Below wy.heap.size wy w') (first | assumption | exact ⟨kw.out,hS.drew⟩ | exact EQ.out _ _ (by assumption))
      (first
       | (go_at_call 117; (with_reducible refine (pA.out _).mono ?_); rintro e w4 ⟨rfl,rfl⟩)
       | (go_at_call 117; (with_reducible refine (HL2.out _).mono ?_); rintro e w4 ⟨rfl,rfl⟩))
     rename_i hfin;have Zb:=hfin.2;clear hfin kw EQ Q5 v1 v2 pA HL2 HD;have yk:=hid (W8.new w1 121 N0 x0 x1 x2 N4 x4 x5 x6);go_wp2;go_roundw
     case rel=>exact ⟨k+1,w1.heap.size,8,by omega,by go_num,rfl,hid (by rw [HRR.out]; exact yk.out),xt.trans (Zb.mono xt.size)⟩
     case measure=>simp [intOf]; omega
    .have me:k=64:=by omega
     rw [me] at HV;clear me;have Wk:=hid (uL ws hs HL.out 64);have Wl:Sec (kY g hs=vK hs (rA ws hs 64) 8):=sec (by unfold kY; rw [Wc.out]);obtain ⟨L,hL⟩:=aA (rA ws hs 64)
     rw [hL] at HV Wk Wl;have ie:=hid (HX.out.below hBx);have HB3:=hid (hB2.trans (hBx.mono hB2.size));clear hL hk hBx hB2 HZ Fo Wc Fs xx hb2 HX;go_wp2;clear hlt;go_loopw [19,20] (λv i wz=>∃ q:Nat,q<=8/\i = .int .i64 q/\Hid (wz.ownsRow wr.heap.size 121 1 v q (wv (vK hs L q)))/\Below wr.heap.size wr wz) (λ_ i _=>8-(intOf i).toNat)
     case atStart=>exact ⟨0,by omega,rfl,hid (World.ownsRow_nil _ _ _ _),aI⟩
     case round =>
      obtain ⟨q,hq,rfl,HO,nl⟩:=hrel;have hBw:=HB3.out;by_cases hlt:q<8
      .have HN:Sec (wv (vK hs L (q+1))=wv (vK hs L q)++[.int .u64 ((hs.getD q 0+L.getD q 0)%4294967296:Nat)]):=sec (by rw [Nn,EB]);obtain ⟨hb',off',he,hbl,hcl⟩:=ie.out.2.2.2.2 q hlt;cases he;have ca:=(nl.cell (p:=⟨hb,off+q,none⟩) hbl).trans hcl;have cb:=(nl.cell (p:=⟨bb,q,none⟩) HV.out.1).trans (HV.out.2 q hlt);have ba:=getD_lt HL.out q;have bb':=getD_lt Wk.out q;obtain ⟨x,hx⟩:=aA (hs.getD q 0)
       obtain ⟨y,hy⟩:=aA (L.getD q 0)
       rw [hx] at ca ba HN;rw [hy] at cb bb' HN;clear hx hy hcl hbl;have jt:=hid (sM (x+y) (by omega));have ee:((x+y:Nat):Int)=(x:Int)+y:=by omega
       rw [ee] at jt;have v1:IntKind.u64.wrap ((x:Int)+y)=(x:Int)+y:=by rw [IntKind.wrap_u64]; omega
       obtain ⟨V,hV⟩:=aA ((x+y)%4294967296)
       rw [hV] at jt HN;clear ee hV;have hsz:=nl.size;have l0:(0:Int)<=(q:Int):=by omega
       have l1:(q:Int)<8:=by omega
       go_wp2_with fail
       go_region_law (first
        | (go_simp; go_at_call 117; refine (jt.out _).mono ?_; rintro e w1 ⟨rfl,rfl⟩; dsimp only)
        | (refine step_append_lies _ (by rfl) _ _ _ (by rfl) _ 121 i0 _ 1 8 underlying122 HI.out.1 HI.out.2.1 HI.out.2.2.1 HI.out.2.2.2 rfl (by omega) _ q _ (by rfl) ((HO.out.alloc _).drew) ⟨wr.heap.size,0,none⟩ 1 1 [.int .u64 V] (by rfl) (by rfl) (World.news_of_block (cs:=#[.int .u64 V]) (t:=121) (fr:=(0,0)) (heap_alloc_new wr _)) (by simp [Value.oneCell']) (by omega) (by unfold maxLen; omega) (by omega) (by simp; omega) (wr.heap.size+1) (by simp) ?_; intro gg cp w2 hown2 hgrow hat PT))
       all_goals
        go_wp2;have hlt':=HO.out.lt;go_roundw
        case rel=>exact ⟨q+1,by omega,by go_num,hid (by rw [HN.out]; exact hown2),(Below.drew (nl.alloc hsz _)).grown hgrow (by simp; omega) (λg hg=>(hlt' g hg).1)⟩
        case measure=>simp [intOf]; omega
      .obtain rfl:q=8:=by omega
       have HF:Sec (wr.ownsRow _ 121 1 u19 8 (wv (kY g hs))):=sec (by rw [Wl.out]; exact HO.out);clear HO ie HV HB3;go_wp2;go_ret;obtain ⟨a',cap',rfl,hw'⟩:=vO.sS HF.out;exact ⟨a',cap',rfl,hw',hBw.trans (nl.mono hBw.size)⟩
end Sh
end
end Go.Proofs.YtokaiemgjngcoaaGreatDoor
