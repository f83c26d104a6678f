/-
 The plain answer's Read: texts, and lists.
-/
import Derived.Test.YtokaiemgjngcoaaGreatDoorVy7
open Go.Lib (hid)
open Go.Proofs.Tryz
set_option linter.unusedSimpArgs false
set_option linter.unusedVariables false
set_option maxHeartbeats 40000000
set_option maxRecDepth 100000
namespace Go.Proofs.YtokaiemgjngcoaaGreatDoor
variable {w:World} {o:Oper} {B C:Nat} {v:Value} {ops:Array Oper} {a:Act} {Q:Exit->Act->World->Prop}
section
open Go.RowKit
namespace Rl
theorem Ee (s:aM) (d k:Nat) (dI lI:Int) (w:World) (dr:dI=d) (ef:lI+k=4096) (hk:k<=4096) (h:d<=64) (h2:k<4096) (hmax:s.size<=1000000) (c:UInt8) (t:aN) (hs:s.data.toList=c::t) (hc:128<=c.toNat) (hL:c.toNat<192) (h5:c.toNat%64<=55) (hlt:c.toNat%64<=t.length) (h1:c.toNat%64≠1):Calls prog 47 #[.string s,.int .i64 dI,.int .i64 lI] w (mR w (bR s.data.toList d k)):=by
 have HE:Hid (bR s.data.toList d k = .ok (.mk false (s.extract 1 (1+c.toNat%64)) [],1+c.toNat%64,k+1)):=hid (by
  rw [gG,if_neg (by omega),if_neg (by omega),hs,jP c t hc,if_pos h5];dsimp only;rw [if_neg (by rw [List.length_cons]; omega),if_neg (by simp; omega),if_neg (by omega),fO,hs])
 rw [HE.out];have hs0:0<s.size:=by rw [bF,hs]; simp
 have hne:=eO hs0;have hsl:t.length+1=s.size:=by rw [bF,hs]; rfl
 have hg0:=get_at s 0 hs0;rw [hs,List.getD_cons_zero] at hg0;have hcl:=c.toNat_lt;obtain ⟨C,hC⟩:=aA c.toNat
 rw [hC] at hcl;have hg1:(s[0]'hs0).toNat=C:=by rw [hg0,hC]
 rw [hC] at hc h5 hlt hL h1 ⊢;obtain ⟨n0,hn0⟩:=aA (C%64)
 have gS:(C:Int).tmod 64=(n0:Int):=by rw [Int.tmod_eq_emod_of_nonneg (by omega)]; omega
 have tG:n0<=55:=by omega
 rw [hn0] at hlt h5 h1 ⊢;have hq:((n0:Int)==1)=false:=by simp; omega
 have tI:decide (192<=(C:Int))=false:=by simp; omega
 have hlt2:n0<=s.size-1:=by omega
 clear hg0 hs hC HE;obtain ⟨h1,h2⟩:=fP w;obtain ⟨hR,hN,hB,hsz⟩:=h2 _ rfl;have H1:=hid h1;have HR:=hid hR;have HN:=hid hN;have HB:=hid hB;have eb:=hid hsz;clear h1 h2 hR hN hB hsz;go_enter func47,ntmps47;go_wp2_with (first
  | (refine aZ H1.out it0 none 0 0 rfl _ _ rfl rfl rfl rfl ?_)
  | (refine aZ HR.out it0 none 0 0 rfl _ _ rfl rfl rfl rfl ?_)
  | (refine aB (bY HN.out ?_) ?_; · exact ⟨_,rfl,rfl⟩)
  | (refine aZ HR.out (.mk false (s.extract 1 (1+n0)) []) none 0 0 rfl _ _ rfl rfl rfl rfl ?_))
 exact bodyPost_ret (dY rfl _ rfl (dX HR.out)) rfl ⟨none,0,0,_,_,rfl,by omega,by omega,bP.nil _ _,bI HB.out aH _⟩
theorem BO (s:aM) (d k:Nat) (dI lI:Int) (w:World) (dr:dI=d) (ef:lI+k=4096) (hk:k<=4096) (h:d<=64) (h2:k<4096) (hmax:s.size<=1000000) (c:UInt8) (t:aN) (hs:s.data.toList=c::t) (hc:128<=c.toNat) (hL:c.toNat<192) (h1:c.toNat%64=1) (hlt:1<=t.length) (hF:¬ (t.headD 0).toNat<128):Calls prog 47 #[.string s,.int .i64 dI,.int .i64 lI] w (mR w (bR s.data.toList d k)):=by
 have HE:Hid (bR s.data.toList d k = .ok (.mk false (s.extract 1 2) [],2,k+1)):=hid (by
  rw [gG,if_neg (by omega),if_neg (by omega),hs,jP c t hc,if_pos (by omega)];dsimp only;rw [if_neg (by rw [List.length_cons]; omega),if_neg (by simp; omega),if_neg (by
   rintro ⟨_,_,e⟩;exact hF e),h1,show (2:Nat)=1+1 from rfl,fO,hs])
 rw [HE.out];have hs0:0<s.size:=by rw [bF,hs]; simp
 have hne:=eO hs0;have hsl:t.length+1=s.size:=by rw [bF,hs]; rfl
 have hg0:=get_at s 0 hs0;rw [hs,List.getD_cons_zero] at hg0;have hcl:=c.toNat_lt;obtain ⟨C,hC⟩:=aA c.toNat
 rw [hC] at hcl;have hg1:(s[0]'hs0).toNat=C:=by rw [hg0,hC]
 rw [hC] at hc hL h1;have gS:(C:Int).tmod 64=1:=by rw [Int.tmod_eq_emod_of_nonneg (by omega)]; omega
 obtain ⟨X,hX⟩:=aA (s.extract 1 2)
 have xz:X.data.toList=t.take 1:=by
  have:=fO s 1 1;rw [show (1:Nat)+1=2 from rfl,hX,hs] at this;rw [this];rfl
 have hx0:0<X.size:=by rw [bF,xz,List.length_take]; omega
 have Ft:(X[0]'hx0)=t.headD 0:=by
  rw [get_at X 0 hx0,xz];cases t with
  | nil=>rfl
  | cons y ys=>rfl
 rw [<-Ft] at hF;have hxne:=eO hx0;have tI:decide (192<=(C:Int))=false:=by simp; omega
 have hlt2:1<=s.size-1:=by omega
 have Ze:=hid hX;clear hg0 hs hC HE xz Ft;obtain ⟨h1,h2⟩:=fP w;obtain ⟨hR,hN,hB,hsz⟩:=h2 _ rfl;have H1:=hid h1;have HR:=hid hR;have HN:=hid hN;have HB:=hid hB;have eb:=hid hsz;clear h1 h2 hR hN hB hsz;go_enter func47,ntmps47;go_wp2_with (first
  | (refine aZ H1.out it0 none 0 0 rfl _ _ rfl rfl rfl rfl ?_)
  | (refine aZ HR.out it0 none 0 0 rfl _ _ rfl rfl rfl rfl ?_)
  | (refine aB (bY HN.out ?_) ?_; · exact ⟨_,rfl,rfl⟩)
  | (refine aZ HR.out (.mk false X []) none 0 0 rfl _ _ rfl rfl rfl rfl ?_))
 exact bodyPost_ret (dY rfl _ rfl (dX HR.out)) rfl (by
  rw [Ze.out];exact ⟨none,0,0,_,_,rfl,by omega,by omega,bP.nil _ _,bI HB.out aH _⟩)
theorem Gs (s:aM) (d k:Nat) (dI lI:Int) (w:World) (dr:dI=d) (ef:lI+k=4096) (hk:k<=4096) (h:d<=64) (h2:k<4096) (hmax:s.size<=1000000) (c:UInt8) (t:aN) (hs:s.data.toList=c::t) (hc:128<=c.toNat) (hL:c.toNat<192) (h1:c.toNat%64=1) (hlt:1<=t.length) (hF:(t.headD 0).toNat<128):Calls prog 47 #[.string s,.int .i64 dI,.int .i64 lI] w (mR w (bR s.data.toList d k)):=by
 have HE:Hid (∃ c,bR s.data.toList d k = .error c):=hid (by
  rw [gG,if_neg (by omega),if_neg (by omega),hs,jP c t hc,if_pos (by omega)];dsimp only;rw [if_neg (by rw [List.length_cons]; omega),if_neg (by simp; omega),if_pos ⟨rfl,h1,hF⟩];exact ⟨_,rfl⟩)
 obtain ⟨r,hr⟩:=aA (bR s.data.toList d k)
 rw [hr] at HE ⊢;clear hr;have hs0:0<s.size:=by rw [bF,hs]; simp
 have hne:=eO hs0;have hsl:t.length+1=s.size:=by rw [bF,hs]; rfl
 have hg0:=get_at s 0 hs0;rw [hs,List.getD_cons_zero] at hg0;have hcl:=c.toNat_lt;obtain ⟨C,hC⟩:=aA c.toNat
 rw [hC] at hcl;have hg1:(s[0]'hs0).toNat=C:=by rw [hg0,hC]
 rw [hC] at hc hL h1;have gS:(C:Int).tmod 64=1:=by rw [Int.tmod_eq_emod_of_nonneg (by omega)]; omega
 obtain ⟨X,hX⟩:=aA (s.extract 1 2)
 have xz:X.data.toList=t.take 1:=by
  have:=fO s 1 1;rw [show (1:Nat)+1=2 from rfl,hX,hs] at this;rw [this];rfl
 have hx0:0<X.size:=by rw [bF,xz,List.length_take]; omega
 have Ft:(X[0]'hx0)=t.headD 0:=by
  rw [get_at X 0 hx0,xz];cases t with
  | nil=>rfl
  | cons y ys=>rfl
 rw [<-Ft] at hF;have hxne:=eO hx0;have tI:decide (192<=(C:Int))=false:=by simp; omega
 have hlt2:1<=s.size-1:=by omega
 clear hg0 hs hC xz Ft;obtain ⟨h1,h2⟩:=fP w;obtain ⟨hR,hN,hB,hsz⟩:=h2 _ rfl;have H1:=hid h1;have HR:=hid hR;have HN:=hid hN;have HB:=hid hB;have eb:=hid hsz;clear h1 h2 hR hN hB hsz;go_enter func47,ntmps47;go_wp2_with (first
  | (refine aZ H1.out it0 none 0 0 rfl _ _ rfl rfl rfl rfl ?_)
  | (refine aZ HR.out it0 none 0 0 rfl _ _ rfl rfl rfl rfl ?_)
  | (refine aB (bY HN.out ?_) ?_; · exact ⟨_,rfl,rfl⟩))
 exact bodyPost_ret (dY rfl _ rfl (dX HR.out)) rfl (jO 6 HE.out (by decide) rfl (bI HB.out aH _))
theorem xD (w w2:World) (hR:Rg.Own w2 w.heap.size (itC it0 none 0 0) 96) (hN:Rg.Own w2 (w.heap.size+1) (itC it0 none 0 0) 96) (hB:Below w.heap.size w w2) (hsz:w2.heap.size=w.heap.size+2) :
  Rg.Own (w2.alloc (.cells #[.bool false,.string ⟨#[]⟩,.slice none 0 0] 96)) (w.heap.size+2) (itC it0 none 0 0) 96/\
  ∀ w4,w4=(w2.alloc (.cells #[.bool false,.string ⟨#[]⟩,.slice none 0 0] 96)).setRow (w.heap.size+2) (itC (.mk true ⟨#[]⟩ []) none 0 0)->
   Rg.Own w4 w.heap.size (itC it0 none 0 0) 96/\Rg.Own w4 (w.heap.size+1) (itC it0 none 0 0) 96/\Rg.Own w4 (w.heap.size+2) (itC (.mk true ⟨#[]⟩ []) none 0 0) 96/\Below w.heap.size w w4/\w4.heap.size=w.heap.size+3:=by
 have h3:Rg.Own (w2.alloc Zit) (w.heap.size+2) (itC it0 none 0 0) 96:=by
  have h:Rg.Own (w2.alloc Zit) w2.heap.size (itC it0 none 0 0) 96:=Rg.Own.new w2 (itC it0 none 0 0) 96;rw [hsz] at h;exact h
 refine ⟨h3,λw4 hw4=>?_⟩;subst hw4;exact ⟨nA (hR.below (al1 _ _)) (by omega),nA (hN.below (al1 _ _)) (by omega),iW h3,bI (hB.alloc (by omega) _) (by omega) _,by simp [hsz]⟩
def VU (n:Nat):Except Int (List It × Nat)->Except Int (It × Nat × Nat)
 | .error e=>.error e
 | .ok (xs,k')=>.ok (.mk true ⟨#[]⟩ xs,n,k')
theorem aV {b o:Nat} {cs:aO} {T:TypeId} (h:Rg.Own w b cs T) (v:Value):Rg.Own (w.setCell ⟨b,o,none⟩ v) b (cs.setIfInBounds o v) T :=
 ⟨by simp; exact h.1,heap_setCell_same w b o cs T v h.2⟩
theorem jD {b g o:Nat} {cs:aO} {T:TypeId} (h:Rg.Own w b cs T) (v:Value) (hne:b≠g):Rg.Own (w.setCell ⟨g,o,none⟩ v) b cs T:=nR h (uh w g o v) hne
theorem lW.shape {xs:List It} (h:lW B w v xs):∃ a n c,v = .slice a n c:=by
 obtain ⟨hs,_,ho,_⟩:=h;rcases ho.2 with ⟨rfl,_⟩ | ⟨g,cap,cur,rfl,_⟩
 .exact ⟨_,_,_,rfl⟩
 .exact ⟨_,_,_,rfl⟩
theorem xg {b j:Nat} {cs:aO} {T:TypeId} (h:Rg.Own w b cs T):w.frozen? ⟨b,j,none⟩=false:=by
 simp [World.frozen?,h.2]
theorem Hq {rest:List Oper} {x:It} {A:aL} {N:Nat} (hw:Region.wanted o (yielded ops a.tmps)=true)
  (y:Operand) (ho:o.op = .buildSlice 94 1 #[(0,y)]) (hy:a.eval y = .agg (itC x A N C))
  (h:∀ w' b,Rg.Own w' b (itC x A N C) 96->Below w.heap.size w w'->wpList prog ops Q rest (a.put o.dst (.slice (some ⟨b,0,none⟩) 1 1)) w'):wpList prog ops Q (o::rest) a w :=
 wpList_step λ_ hK=>FQ hw ⟨y,ho,hy⟩ (λw' b h1 h2=>hK _ _ (h w' b h1 h2))
theorem Hf {rest:List Oper} {b2:Nat} {xs:List It} {x:It} {A:aL} {N:Nat} (hw:Region.wanted o (yielded ops a.tmps)=true)
  (hR:lW B w v xs) (h2:Rg.Own w b2 (itC x A N C) 96) (hI:iE (λb=>B<=b/\v.ownBlock≠some b) w x.xs A N C) (hn:xs.length<=4096) (hB:B<=w.heap.size)
  (s y:Operand) (ho:o.op = .call { callee:=.builtin .append,args:=#[s,y],argTypes:=#[94,94] }) (hs:a.eval s=v) (hy:a.eval y = .slice (some ⟨b2,0,none⟩) 1 1)
  (h:∀ v' w',lW B w' v' (xs++[x])->w.grownBy w' v.ownBlock->wpList prog ops Q rest (a.put o.dst v') w'):wpList prog ops Q (o::rest) a w :=
 wpList_step λ_ hK=>Gp hw ⟨s,y,ho,hs,hy⟩ hR h2 hI hn hB (λv' w' h1 h2=>hK _ _ (h v' w' h1 h2))
theorem DW (s:aM) (d k:Nat) (dI lI:Int) (w:World) (dr:dI=d) (ef:lI+k=4096) (hk:k<=4096) (h:d<=64) (h2:k<4096) (hmax:s.size<=1000000) (c:UInt8) (t:aN) (hs:s.data.toList=c::t) (hc:128<=c.toNat) (hL:192<=c.toNat) (h5:c.toNat%64<=55) (hlt:c.toNat%64<=t.length) (sc:∀ r:aM,r.size<s.size->RC r):Calls prog 47 #[.string s,.int .i64 dI,.int .i64 lI] w (mR w (bR s.data.toList d k)):=by
 have HE:Hid (bR s.data.toList d k=VU (1+c.toNat%64) (iZ (s.extract 1 (1+c.toNat%64)).data.toList (d+1) (k+1))):=hid (by
  have hx:(s.extract 1 (1+c.toNat%64)).data.toList=(s.data.toList.drop 1).take (c.toNat%64):=by rw [fO]
  rw [hx,gG,if_neg (by omega),if_neg (by omega),hs,jP c t hc,if_pos h5];dsimp only;rw [if_neg (by rw [List.length_cons]; omega),if_pos (by simp; omega)];rfl)
 rw [HE.out];subst dr;have hs0:0<s.size:=by rw [bF,hs]; simp
 have hne:=eO hs0;have hsl:t.length+1=s.size:=by rw [bF,hs]; rfl
 have hg0:=get_at s 0 hs0;rw [hs,List.getD_cons_zero] at hg0;have hcl:=c.toNat_lt;obtain ⟨C,hC⟩:=aA c.toNat
 rw [hC] at hcl;have hg1:(s[0]'hs0).toNat=C:=by rw [hg0,hC]
 rw [hC] at hc h5 hlt hL ⊢;obtain ⟨n0,hn0⟩:=aA (C%64)
 have gS:(C:Int).tmod 64=(n0:Int):=by rw [Int.tmod_eq_emod_of_nonneg (by omega)]; omega
 have tG:n0<=55:=by omega
 rw [hn0] at hlt h5 ⊢;have tI:decide (192<=(C:Int))=true:=by simp; omega
 have hlt2:n0<=s.size-1:=by omega
 obtain ⟨T,hT⟩:=aA (s.extract 1 (1+n0))
 have hTs:T.size<s.size:=by rw [<-hT]; simp; omega
 rw [hT];have qe:Hid (∀ r:aM,r.size<=T.size->RC r):=hid (λr hr=>sc r (by omega));obtain ⟨r0,hr0⟩:=aA (iZ T.data.toList (d+1) (k+1))
 have H0:Hid (r0=glue [] (iZ T.data.toList (d+1) (k+1))):=hid (by rw [vU,hr0]);rw [hr0];have K4:=hid hT;clear hg0 hs hC HE sc hr0 hT;obtain ⟨h1,h2⟩:=fP w;obtain ⟨hR,hN,hB,hsz⟩:=h2 _ rfl;obtain ⟨h3,h4⟩:=xD w _ hR hN hB hsz;obtain ⟨sd,np,tM,hB4,nt⟩:=h4 _ rfl;have Ax:=hid h3;have HR4:=hid sd;have s8:=hid np;have AC:=hid tM;have co:=hid hB4;have nv:=hid nt;have H1:=hid h1;have HR:=hid hR;have HN:=hid hN;have HB:=hid hB;have eb:=hid hsz;clear h3 h4 sd np tM hB4 nt h1 h2 hR hN hB hsz
 go_enter func47,ntmps47;go_wp2_with (first
  | (refine aZ H1.out it0 none 0 0 rfl _ _ rfl rfl rfl rfl ?_)
  | (refine aZ HR.out it0 none 0 0 rfl _ _ rfl rfl rfl rfl ?_)
  | (refine aB (bY HN.out ?_) ?_; · exact ⟨_,rfl,rfl⟩)
  | (refine aZ Ax.out (.mk true ⟨#[]⟩ []) none 0 0 rfl _ _ rfl rfl rfl rfl ?_))
 go_loopw [2,17] (λlv rs wr=>∃ (r:aM) (xs:List It) (kk:Nat) (lJ:Int) (v:Value),lv = .int .i64 lJ/\rs = .string r/\lJ+kk=4096/\r.size<=T.size/\kk<=4096/\xs.length<=kk/\Hid (r0=glue xs (iZ r.data.toList (d+1) kk))/\Hid (lW (w.heap.size+3) wr v xs)/\Hid (Rg.Own wr w.heap.size (itC it0 none 0 0) 96)/\Hid (Rg.Own wr (w.heap.size+1) (itC it0 none 0 0) 96)/\Hid (Rg.Own wr (w.heap.size+2) #[.bool true,.string ⟨#[]⟩,v] 96)/\Hid (Below w.heap.size w wr)/\w.heap.size+3<=wr.heap.size) (λ_ rs _=>pU rs)
 case atStart=>exact ⟨T,[],k+1,_,.slice none 0 0,rfl,congrArg Value.string K4.out,by omega,aH,by omega,Nat.zero_le _,hid H0.out,hid (lW.nil _ _),hid HR4.out,hid s8.out,hid AC.out,hid co.out,by have:=nv.out; omega⟩
 case round =>
  obtain ⟨r,xs,kk,lJ,v,rfl,rfl,K5,K6,hkk,hxk,gt,cA,dt,eM,kf,e8,qf⟩:=hrel;clear H0 HR4 s8 AC co nv Ax H1 HR HN HB eb;by_cases hne:r.data.toList=[]
  .have e1:(r.toList==[])=true:=by rw [ByteArray.toList_eq,hne]; rfl
   have e2:(r.toList != [])=false:=by rw [bne,e1]; rfl
   have e3:r.toList.isEmpty=true:=by rw [ByteArray.toList_eq,hne]; rfl
   have hg:=gt.out;rw [hne,zX] at hg;obtain ⟨a',n',c',hv,hI⟩:=cA.out.done (by omega);subst hg;subst hv;have HI:=hid hI;clear hI cA gt hne qe;go_wp2_with (first
    | (refine aB (bY (x:=.mk true ⟨#[]⟩ xs) kf.out ?_) ?_; · exact ⟨_,rfl,rfl⟩)
    | (refine aZ dt.out (.mk true ⟨#[]⟩ xs) a' n' c' rfl _ _ rfl rfl rfl rfl ?_))
   exact bodyPost_ret (dY rfl _ rfl (dX dt.out)) rfl ⟨a',n',c',_,_,rfl,by omega,by omega,bP.weak (jG HI.out (by omega) _) (by omega),bI e8.out aH _⟩
  .have e1:(r.toList==[])=false:=by rw [beq_eq_false_iff_ne,ByteArray.toList_eq]; exact hne
   have e2:(r.toList != [])=true:=by rw [bne,e1]; rfl
   have e3:r.toList.isEmpty=false:=by
    rw [ByteArray.toList_eq];cases hd:r.data.toList with
    | nil=>exact absurd hd hne
    | cons _ _=>rfl
   have hrd:=qe.out r K6 (d+1) kk ((d:Int)+1) lJ wr (by omega) (by omega) K5 hkk;have hlv:=cA.out.lt;cases hrr:bR r.data.toList (d+1) kk with
   | error c1 =>
    rw [hrr] at hrd;have HD:Hid (Calls prog 47 #[.string r,.int .i64 ((d:Int)+1),.int .i64 lJ] wr λe w'=>∃ c:Int,c≠0/\e = .returned (.tuple #[itV it0 none 0 0,.int .i64 0,.int .i64 0,.int .i64 c])/\Below wr.heap.size wr w'):=hid hrd;have hg:=gt.out;rw [Af hne hrr] at hg;subst hg;clear hrd hrr gt hne cA qe hlv;go_wp2_with fail
    with_reducible refine HD.out.mono ?_
    rintro e w1 ⟨c2,hc2,rfl,hb1⟩;have hne2:(c2 != 0)=true:=by simp; exact hc2
    have HT0:Hid (Rg.Own (w1.alloc (.cells #[.bool false,.string ⟨#[]⟩,.slice none 0 0] 96)) w1.heap.size (itC it0 none 0 0) 96):=hid (Rg.Own.new _ _ _);have hz1:=hb1.size;have HR1:=hid (nA (cs':=itC it0 none 0 0) ((dt.out.below hb1).below (al1 w1 (.cells #[.bool false,.string ⟨#[]⟩,.slice none 0 0] 96))) (show w.heap.size≠w1.heap.size by omega));have nw:=hid (nA (cs':=itC it0 none 0 0) ((eM.out.below hb1).below (al1 w1 (.cells #[.bool false,.string ⟨#[]⟩,.slice none 0 0] 96))) (show w.heap.size+1≠w1.heap.size by omega))
    have HB1:=hid (bI (bst (e8.out.trans (hb1.mono (by omega))) (al1 w1 (.cells #[.bool false,.string ⟨#[]⟩,.slice none 0 0] 96))) (show w.heap.size<=w1.heap.size by omega) (itC it0 none 0 0));clear hb1 HD;unfold itV;go_wp2_with (first
     | (refine aZ HT0.out it0 none 0 0 rfl _ _ rfl rfl rfl rfl ?_)
     | (refine aB (bY nw.out ?_) ?_; · exact ⟨_,rfl,rfl⟩)
     | (refine aZ HR1.out it0 none 0 0 rfl _ _ rfl rfl rfl rfl ?_))
    exact bodyPost_ret (dY rfl _ rfl (dX HR1.out)) rfl ⟨c2,hc2,rfl,bI HB1.out aH _⟩
   | ok q =>
    obtain ⟨x,n1,k2⟩:=q;rw [hrr] at hrd;have HD:Hid (Calls prog 47 #[.string r,.int .i64 ((d:Int)+1),.int .i64 lJ] wr λe w'=>∃ (a:aL) (nn cap:Nat) (nI lI:Int),e = .returned (.tuple #[itV x a nn cap,.int .i64 nI,.int .i64 lI,.int .i64 0])/\nI=n1/\lI+k2=4096/\bP wr.heap.size w' x.xs a nn cap/\Below wr.heap.size wr w'):=hid hrd;obtain ⟨p1,p2,p3,p4⟩:=(props r.data.toList.length).1 _ _ _ _ _ _ aH hrr;rw [<-bF] at p2;have hg:=gt.out;rw [wW hne p1 hrr] at hg;have nz:=hid hg
    have ff:Hid (∀ j,v.ownBlock=some j->w.heap.size+3<=j/\j<wr.heap.size):=hid hlv;clear hrd hrr gt hne hg hlv qe;unfold itV at HD;go_wp2_with fail
    with_reducible refine HD.out.mono ?_
    rintro e w1 ⟨A1,N1,C1,nI,K7,rfl,Kb,hl2,hI,hb1⟩;have hz1:=hb1.size;have HT0:Hid (Rg.Own (w1.alloc (.cells #[.bool false,.string ⟨#[]⟩,.slice none 0 0] 96)) w1.heap.size (itC it0 none 0 0) 96):=hid (Rg.Own.new _ _ _);obtain ⟨w3,hw3⟩:=ay ((w1.alloc (.cells #[.bool false,.string ⟨#[]⟩,.slice none 0 0] 96)).setRow w1.heap.size (itC x A1 N1 C1))
    have hz3:w3.heap.size=w1.heap.size+1:=by rw [hw3]; simp
    have hb3:Below w1.heap.size w1 w3:=by rw [hw3]; exact bI (al1 _ _) aH _
    have HT3:Hid (Rg.Own w3 w1.heap.size (itC x A1 N1 C1) 96):=hid (by rw [hw3]; exact iW HT0.out);have HR3:=hid ((dt.out.below hb1).below hb3);have i5:=hid ((eM.out.below hb1).below hb3);have tP:=(kf.out.below hb1).below hb3;have mu:=hid tP;have j1:=hid ((cA.out.below' hb1).below' hb3);have HB3:=hid (bst (e8.out.trans (hb1.mono (by omega))) hb3)
    have HI3:Hid (iE (λb=>w.heap.size+3<=b/\v.ownBlock≠some b) w3 x.xs A1 N1 C1):=hid ((iE.to hI (p':=λb=>w.heap.size+3<=b/\v.ownBlock≠some b) (λb _ hb=>⟨by omega,λe=>by have:=(ff.out b e).2; omega⟩)).stays hb3);have c2:w3.cell? ⟨w.heap.size+1+1,2,none⟩=some v:=by rw [cell_of_row w3 _ _ _ _ _ tP.2]; rfl
    have hl3:(w.heap.size+3)<=w3.heap.size:=by omega
    clear hb1 hI hb3 HD dt eM kf cA e8 tP;subst hw3;go_wp2_with (first
     | (refine aZ HT0.out x A1 N1 C1 rfl _ _ rfl rfl rfl rfl ?_)
     | (refine aB (bY HT3.out ?_) ?_; · exact ⟨_,rfl,rfl⟩)
     | (refine Hq (x:=x) (A:=A1) (N:=N1) (C:=C1) (by rfl) _ rfl rfl ?_; intro w4 b4 AD hb4)
     | (refine Hf (B:=w.heap.size+3) (v:=v) (by rfl) (j1.out.below' hb4) AD (HI3.out.stays hb4) (by omega) (by have:=hb4.size; omega) _ _ rfl rfl rfl ?_; intro v5 w5 mL hg5; obtain ⟨a5,n5,k5,rfl⟩:=mL.shape; have c8:=qo (mu.out.below hb4) hg5 (λe=>by have:=(ff.out _ e).1; omega); have c5:w5.cell? ⟨w.heap.size+1+1,2,none⟩=some v:=(by rw [cell_of_row w5 _ _ _ _ _ c8.2]; rfl); have f5:w5.frozen? ⟨w.heap.size+1+1,2,none⟩=false:=xg c8))
    obtain ⟨v5,hv5⟩:=aA (Value.slice a5 n5 k5)
    rw [hv5] at mL;have hvb:∀ b,b=w.heap.size\/b=w.heap.size+1\/b=w.heap.size+2->v.ownBlock≠some b:=λb hb e=>by have:=(ff.out b e).1; omega
    have tR:=hb4.size;have cG:Hid (Rg.Own (w5.setCell ⟨w.heap.size+2,2,none⟩ v5) (w.heap.size+2) #[.bool true,.string ⟨#[]⟩,v5] 96):=hid (aV c8 v5);have mw:=hid (jD (o:=2) (qo (HR3.out.below hb4) hg5 (hvb _ (.inl rfl))) v5 (show w.heap.size≠w.heap.size+2 by omega));have aq:=hid (jD (o:=2) (qo (i5.out.below hb4) hg5 (hvb _ (.inr (.inl rfl)))) v5 (show w.heap.size+1≠w.heap.size+2 by omega));have nB:=hid (mL.gb (uh w5 (w.heap.size+2) 2 v5) (by omega))
    have bd:Hid (Below w.heap.size w (w5.setCell ⟨w.heap.size+2,2,none⟩ v5)):=hid (((bst HB3.out hb4).grown hg5 (by omega) (λj hj=>by have:=(ff.out j hj).1; omega)).setCell (p:=⟨w.heap.size+2,2,none⟩) (by show w.heap.size<=w.heap.size+2; omega) _);have G8:=hg5.size;have G9:w.heap.size+3<=(w5.setCell ⟨w.heap.size+2,2,none⟩ v5).heap.size:=by simp; omega
    have hcut:(r.extract n1 r.size).size=r.size-n1:=by simp
    have Kd:=hid (ug r n1 p2);subst Kb;subst hv5;clear c8 mL hg5 hb4 AD mu i5 HR3 j1 HI3 HT3 HT0 HB3 hvb;go_wp2;go_roundw
    case rel=>exact ⟨r.extract n1 r.size,xs++[x],k2,K7,.slice a5 n5 k5,rfl,rfl,hl2,by omega,p4,by rw [List.length_append,List.length_singleton]; omega,hid (by rw [Kd.out]; exact nz.out),nB,mw,aq,cG,bd,G9⟩
    case measure=>simp [pU]; omega
end Rl
end
end Go.Proofs.YtokaiemgjngcoaaGreatDoor
