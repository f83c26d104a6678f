/-
 The plain answer's Read: long heads.
-/
import Derived.Test.YtokaiemgjngcoaaGreatDoorVy8
open Go.Lib (hid)
open Go.Proofs.Tryz
set_option linter.unusedSimpArgs false
set_option linter.unusedVariables false
set_option maxHeartbeats 40000000
set_option maxRecDepth 100000
namespace Go.Proofs.YtokaiemgjngcoaaGreatDoor
section
open Go.RowKit
namespace Rl
theorem FR (s:aM) (d k:Nat) (dI lI:Int) (w:World) (dr:dI=d) (ef:lI+k=4096) (hk:k<=4096) (h:d<=64) (h2:k<4096) (_hmax:s.size<=1000000) (c:UInt8) (t:aN) (hs:s.data.toList=c::t) (hc:128<=c.toNat) (h5:¬ c.toNat%64<=55) (hlt:t.length<c.toNat%64-55):Calls prog 47 #[.string s,.int .i64 dI,.int .i64 lI] w (mR w (bR s.data.toList d k)):=by
 have HE:Hid (∃ c,bR s.data.toList d k = .error c):=hid (by
  rw [gG,if_neg (by omega),if_neg (by omega),hs,jP c t hc,if_neg h5,if_pos hlt];exact ⟨_,rfl⟩)
 obtain ⟨r,hr⟩:=aA (bR s.data.toList d k)
 rw [hr] at HE ⊢;clear hr;have hs0:0<s.size:=by rw [bF,hs]; simp
 have hne:=eO hs0;have hsl:t.length+1=s.size:=by rw [bF,hs]; rfl
 have hg0:=get_at s 0 hs0;rw [hs,List.getD_cons_zero] at hg0;have hcl:=c.toNat_lt;obtain ⟨C,hC⟩:=aA c.toNat
 rw [hC] at hcl;have hg1:(s[0]'hs0).toNat=C:=by rw [hg0,hC]
 rw [hC] at hc h5 hlt;obtain ⟨m,hm⟩:=aA (C%64-55)
 obtain ⟨n0,hn0⟩:=aA (C%64)
 have gS:(C:Int).tmod 64=(n0:Int):=by rw [Int.tmod_eq_emod_of_nonneg (by omega)]; omega
 have G7:(n0:Int)-55=(m:Int):=by omega
 have tG:¬ n0<=55:=by omega
 have h8:m<=8:=by omega
 have hm1:1<=m:=by omega
 have hlt2:s.size<1+m:=by omega
 clear hg0 hs hC hn0 hm;obtain ⟨h1,h2⟩:=fP w;obtain ⟨hR,hN,hB,hsz⟩:=h2 _ rfl;have H1:=hid h1;have HR:=hid hR;have HN:=hid hN;have HB:=hid hB;have eb:=hid hsz;clear h1 h2 hR hN hB hsz;go_enter func47,ntmps47;go_wp2_with (first
  | (refine aZ H1.out it0 none 0 0 rfl _ _ rfl rfl rfl rfl ?_)
  | (refine aZ HR.out it0 none 0 0 rfl _ _ rfl rfl rfl rfl ?_)
  | (refine aB (bY HN.out ?_) ?_; · exact ⟨_,rfl,rfl⟩))
 exact bodyPost_ret (dY rfl _ rfl (dX HR.out)) rfl (jO 5 HE.out (by decide) rfl (bI HB.out aH _))
theorem DY (s:aM) (d k:Nat) (dI lI:Int) (w:World) (dr:dI=d) (ef:lI+k=4096) (hk:k<=4096) (h:d<=64) (h2:k<4096) (hmax:s.size<=1000000) (c:UInt8) (t:aN) (hs:s.data.toList=c::t) (hc:128<=c.toNat) (h5:¬ c.toNat%64<=55) (hlt:¬ t.length<c.toNat%64-55) (hz:t.headD 0=0):Calls prog 47 #[.string s,.int .i64 dI,.int .i64 lI] w (mR w (bR s.data.toList d k)):=by
 have HE:Hid (∃ c,bR s.data.toList d k = .error c):=hid (by
  rw [gG,if_neg (by omega),if_neg (by omega),hs,jP c t hc,if_neg h5,if_neg hlt,if_pos (.inl hz)];exact ⟨_,rfl⟩)
 obtain ⟨r,hr⟩:=aA (bR s.data.toList d k)
 rw [hr] at HE ⊢;clear hr;have hs0:0<s.size:=by rw [bF,hs]; simp
 have hne:=eO hs0;have hsl:t.length+1=s.size:=by rw [bF,hs]; rfl
 have hg0:=get_at s 0 hs0;rw [hs,List.getD_cons_zero] at hg0;have hcl:=c.toNat_lt;obtain ⟨C,hC⟩:=aA c.toNat
 rw [hC] at hcl;have hg1:(s[0]'hs0).toNat=C:=by rw [hg0,hC]
 rw [hC] at hc h5 hlt;obtain ⟨m,hm⟩:=aA (C%64-55)
 obtain ⟨n0,hn0⟩:=aA (C%64)
 have gS:(C:Int).tmod 64=(n0:Int):=by rw [Int.tmod_eq_emod_of_nonneg (by omega)]; omega
 have G7:(n0:Int)-55=(m:Int):=by omega
 have tG:¬ n0<=55:=by omega
 have h8:m<=8:=by omega
 have hm1:1<=m:=by omega
 have hlt2:¬ s.size<1+m:=by omega
 have hs1:1<s.size:=by omega
 have hg2:=get_at s 1 hs1;have fe:(s.data.toList.getD 1 0)=t.headD 0:=by
  rw [hs,List.getD_cons_succ];cases t with
  | nil=>rfl
  | cons y ys=>rfl
 rw [fe] at hg2;have hgz:(s[1]'hs1).toNat=0:=by rw [hg2,hz]; rfl
 clear hg0 hs hC hn0 hm hg2 fe;obtain ⟨h1,h2⟩:=fP w;obtain ⟨hR,hN,hB,hsz⟩:=h2 _ rfl;have H1:=hid h1;have HR:=hid hR;have HN:=hid hN;have HB:=hid hB;have eb:=hid hsz;clear h1 h2 hR hN hB hsz;go_enter func47,ntmps47;go_wp2_with (first
  | (refine aZ H1.out it0 none 0 0 rfl _ _ rfl rfl rfl rfl ?_)
  | (refine aZ HR.out it0 none 0 0 rfl _ _ rfl rfl rfl rfl ?_)
  | (refine aB (bY HN.out ?_) ?_; · exact ⟨_,rfl,rfl⟩))
 exact bodyPost_ret (dY rfl _ rfl (dX HR.out)) rfl (jO 6 HE.out (by decide) rfl (bI HB.out aH _))
theorem xW (s:aM) (d k:Nat) (dI lI:Int) (w:World) (dr:dI=d) (ef:lI+k=4096) (hk:k<=4096) (h:d<=64) (h2:k<4096) (hmax:s.size<=1000000) (c:UInt8) (t:aN) (hs:s.data.toList=c::t) (hc:128<=c.toNat) (h5:¬ c.toNat%64<=55) (hlt:¬ t.length<c.toNat%64-55) (hz:t.headD 0≠0)
  (hbad:dS (t.take (c.toNat%64-55))<=55\/t.length<c.toNat%64-55+dS (t.take (c.toNat%64-55))):Calls prog 47 #[.string s,.int .i64 dI,.int .i64 lI] w (mR w (bR s.data.toList d k)):=by
 have HE:Hid (∃ c,bR s.data.toList d k = .error c):=hid (by
  rw [gG,if_neg (by omega),if_neg (by omega),hs,jP c t hc,if_neg h5,if_neg hlt];by_cases hv:dS (t.take (c.toNat%64-55))<=55
  .rw [if_pos (.inr hv)];exact ⟨_,rfl⟩
  .rw [if_neg (by rintro (e | e); exact hz e; exact hv e)];dsimp only;rw [if_pos (by rw [List.length_cons]; omega)];exact ⟨_,rfl⟩)
 obtain ⟨r,hr⟩:=aA (bR s.data.toList d k)
 rw [hr] at HE ⊢;clear hr;have hs0:0<s.size:=by rw [bF,hs]; simp
 have hne:=eO hs0;have hsl:t.length+1=s.size:=by rw [bF,hs]; rfl
 have hg0:=get_at s 0 hs0;rw [hs,List.getD_cons_zero] at hg0;have hcl:=c.toNat_lt;obtain ⟨C,hC⟩:=aA c.toNat
 rw [hC] at hcl;have hg1:(s[0]'hs0).toNat=C:=by rw [hg0,hC]
 rw [hC] at hc h5 hlt hbad;obtain ⟨m,hm⟩:=aA (C%64-55)
 obtain ⟨n0,hn0⟩:=aA (C%64)
 have gS:(C:Int).tmod 64=(n0:Int):=by rw [Int.tmod_eq_emod_of_nonneg (by omega)]; omega
 have G7:(n0:Int)-55=(m:Int):=by omega
 have tG:¬ n0<=55:=by omega
 have h8:m<=8:=by omega
 have hm1:1<=m:=by omega
 rw [hm] at hbad;have hlt2:¬ s.size<1+m:=by omega
 have hdrop:s.data.toList.drop 1=t:=by rw [hs]; rfl
 have hs1:1<s.size:=by omega
 have hg2:=get_at s 1 hs1;have fe:(s.data.toList.getD 1 0)=t.headD 0:=by
  rw [hs,List.getD_cons_succ];cases t with
  | nil=>rfl
  | cons y ys=>rfl
 rw [fe] at hg2;obtain ⟨V,hV⟩:=aA (dS (t.take m))
 have HV:Hid (V=dS ((s.data.toList.drop 1).take m)):=hid (by rw [hdrop,hV]);rw [hV] at hbad;have hgz:((s[1]'hs1).toNat:Int)≠0:=by
  intro e;apply hz;rw [<-hg2];apply UInt8.toNat_inj.1;have:(0:UInt8).toNat=0:=rfl;omega
 have hgb:(((s[1]'hs1).toNat:Int)==0)=false:=by simp only [beq_eq_false_iff_ne]; exact hgz
 have At:V<=55\/s.size-(1+m)<V:=by omega
 clear hg0 hs hC hn0 hm hg2 fe hdrop hV hbad hz;obtain ⟨h1,h2⟩:=fP w;obtain ⟨hR,hN,hB,hsz⟩:=h2 _ rfl;have H1:=hid h1;have HR:=hid hR;have HN:=hid hN;have HB:=hid hB;have eb:=hid hsz;clear h1 h2 hR hN hB hsz;go_enter func47,ntmps47;go_wp2_with (first
  | (refine aZ H1.out it0 none 0 0 rfl _ _ rfl rfl rfl rfl ?_)
  | (refine aZ HR.out it0 none 0 0 rfl _ _ rfl rfl rfl rfl ?_)
  | (refine aB (bY HN.out ?_) ?_; · exact ⟨_,rfl,rfl⟩))
 go_loop [13,16] (λv i=>∃ q x:Nat,1<=q/\q<=m+1/\i = .int .i64 q/\v = .int .i64 x/\Hid (x=dS ((s.data.toList.drop 1).take (q-1)))) (λ_ i=>m+1-(intOf i).toNat)
 case atStart=>exact ⟨1,0,aH,by omega,rfl,rfl,hid rfl⟩
 case round =>
  obtain ⟨q,x,hq1,hqm,rfl,rfl,HX⟩:=hrel;by_cases z9:q<=m
  .have de:q<s.size:=by omega
   have hb:=(s[q]'de).toNat_lt;have q9:Hid (256*x+(s[q]'de).toNat=dS ((s.data.toList.drop 1).take (q+1-1))):=hid (by
    rw [show q+1-1=q by omega,mg _ q hq1 (by rw [<-bF]; exact de),iF,<-HX.out,get_at s q de,Nat.mul_comm])
   obtain ⟨y,hy⟩:=aA ((s[q]'de).toNat)
   rw [hy] at hb q9;by_cases hx32:x<4294967296
   .have hge:decide ((4294967296:Int)<=(x:Int))=false:=by simp; omega
    have hxb:x<=1099511627776:=by omega
    clear HX hx32;go_wp2;go_round
    case rel=>exact ⟨q+1,256*x+y,by omega,by omega,by go_num,by go_num,hid q9.out⟩
    case measure=>simp [intOf]; omega
   .have hge:decide ((4294967296:Int)<=(x:Int))=true:=by simp; omega
    clear HX q9 hx32;go_wp2_with (first
  | (refine aZ H1.out it0 none 0 0 rfl _ _ rfl rfl rfl rfl ?_)
  | (refine aZ HR.out it0 none 0 0 rfl _ _ rfl rfl rfl rfl ?_)
  | (refine aB (bY HN.out ?_) ?_; · exact ⟨_,rfl,rfl⟩))
    exact bodyPost_ret (dY rfl _ rfl (dX HR.out)) rfl (jO 5 HE.out (by decide) rfl (bI HB.out aH _))
  .obtain rfl:q=m+1:=by omega
   obtain rfl:x=V:=by rw [HX.out,HV.out]; rfl
   clear HX;by_cases hv:x<=55
   .go_wp2_with (first
  | (refine aZ H1.out it0 none 0 0 rfl _ _ rfl rfl rfl rfl ?_)
  | (refine aZ HR.out it0 none 0 0 rfl _ _ rfl rfl rfl rfl ?_)
  | (refine aB (bY HN.out ?_) ?_; · exact ⟨_,rfl,rfl⟩))
    exact bodyPost_ret (dY rfl _ rfl (dX HR.out)) rfl (jO 6 HE.out (by decide) rfl (bI HB.out aH _))
   .have hv2:s.size-(1+m)<x:=by omega
    go_wp2_with (first
  | (refine aZ H1.out it0 none 0 0 rfl _ _ rfl rfl rfl rfl ?_)
  | (refine aZ HR.out it0 none 0 0 rfl _ _ rfl rfl rfl rfl ?_)
  | (refine aB (bY HN.out ?_) ?_; · exact ⟨_,rfl,rfl⟩))
    exact bodyPost_ret (dY rfl _ rfl (dX HR.out)) rfl (jO 5 HE.out (by decide) rfl (bI HB.out aH _))
theorem DU (s:aM) (d k:Nat) (dI lI:Int) (w:World) (dr:dI=d) (ef:lI+k=4096) (hk:k<=4096) (h:d<=64) (h2:k<4096) (hmax:s.size<=1000000) (c:UInt8) (t:aN) (hs:s.data.toList=c::t) (hc:128<=c.toNat) (hL:c.toNat<192) (h5:¬ c.toNat%64<=55) (hlt:¬ t.length<c.toNat%64-55) (hz:t.headD 0≠0) (i1:¬ dS (t.take (c.toNat%64-55))<=55) (hfit:c.toNat%64-55+dS (t.take (c.toNat%64-55))<=t.length):Calls prog 47 #[.string s,.int .i64 dI,.int .i64 lI] w (mR w (bR s.data.toList d k)):=by
 have HE:Hid (bR s.data.toList d k = .ok (.mk false (s.extract (1+(c.toNat%64-55)) (1+(c.toNat%64-55)+dS (t.take (c.toNat%64-55)))) [],1+(c.toNat%64-55)+dS (t.take (c.toNat%64-55)),k+1)):=hid (by
  rw [gG,if_neg (by omega),if_neg (by omega),hs,jP c t hc,if_neg h5,if_neg hlt,if_neg (by rintro (e | e); exact hz e; exact i1 e)];dsimp only;rw [if_neg (by rw [List.length_cons]; omega),if_neg (by simp; omega),if_neg (by omega),fO,hs])
 rw [HE.out];have hs0:0<s.size:=by rw [bF,hs]; simp
 have hne:=eO hs0;have hsl:t.length+1=s.size:=by rw [bF,hs]; rfl
 have hg0:=get_at s 0 hs0;rw [hs,List.getD_cons_zero] at hg0;have hcl:=c.toNat_lt;obtain ⟨C,hC⟩:=aA c.toNat
 rw [hC] at hcl;have hg1:(s[0]'hs0).toNat=C:=by rw [hg0,hC]
 rw [hC] at hc h5 hlt i1 hfit hL ⊢;obtain ⟨m,hm⟩:=aA (C%64-55)
 obtain ⟨n0,hn0⟩:=aA (C%64)
 have gS:(C:Int).tmod 64=(n0:Int):=by rw [Int.tmod_eq_emod_of_nonneg (by omega)]; omega
 have G7:(n0:Int)-55=(m:Int):=by omega
 have tG:¬ n0<=55:=by omega
 have h8:m<=8:=by omega
 have hm1:1<=m:=by omega
 rw [hm] at i1 hfit ⊢;have hlt2:¬ s.size<1+m:=by omega
 have hdrop:s.data.toList.drop 1=t:=by rw [hs]; rfl
 have hs1:1<s.size:=by omega
 have hg2:=get_at s 1 hs1;have fe:(s.data.toList.getD 1 0)=t.headD 0:=by
  rw [hs,List.getD_cons_succ];cases t with
  | nil=>rfl
  | cons y ys=>rfl
 rw [fe] at hg2;obtain ⟨V,hV⟩:=aA (dS (t.take m))
 have HV:Hid (V=dS ((s.data.toList.drop 1).take m)):=hid (by rw [hdrop,hV]);rw [hV] at i1 hfit ⊢;have hgz:((s[1]'hs1).toNat:Int)≠0:=by
  intro e;apply hz;rw [<-hg2];apply UInt8.toNat_inj.1;have:(0:UInt8).toNat=0:=rfl;omega
 have hgb:(((s[1]'hs1).toNat:Int)==0)=false:=by simp only [beq_eq_false_iff_ne]; exact hgz
 have JT:V<=1000000:=by omega
 have At:¬ s.size-(1+m)<V:=by omega
 have tI:decide (192<=(C:Int))=false:=by simp; omega
 have hq:((V:Int)==1)=false:=by simp; omega
 clear hg0 hs hC hn0 hm hg2 fe hdrop hV hz HE;obtain ⟨h1,h2⟩:=fP w;obtain ⟨hR,hN,hB,hsz⟩:=h2 _ rfl;have H1:=hid h1;have HR:=hid hR;have HN:=hid hN;have HB:=hid hB;have eb:=hid hsz;clear h1 h2 hR hN hB hsz;go_enter func47,ntmps47;go_wp2_with (first
  | (refine aZ H1.out it0 none 0 0 rfl _ _ rfl rfl rfl rfl ?_)
  | (refine aZ HR.out it0 none 0 0 rfl _ _ rfl rfl rfl rfl ?_)
  | (refine aB (bY HN.out ?_) ?_; · exact ⟨_,rfl,rfl⟩))
 go_loop [13,16] (λv i=>∃ q x:Nat,1<=q/\q<=m+1/\i = .int .i64 q/\v = .int .i64 x/\Hid (x=dS ((s.data.toList.drop 1).take (q-1)))) (λ_ i=>m+1-(intOf i).toNat)
 case atStart=>exact ⟨1,0,aH,by omega,rfl,rfl,hid rfl⟩
 case round =>
  obtain ⟨q,x,hq1,hqm,rfl,rfl,HX⟩:=hrel;by_cases z9:q<=m
  .have de:q<s.size:=by omega
   have hb:=(s[q]'de).toNat_lt;have q9:Hid (256*x+(s[q]'de).toNat=dS ((s.data.toList.drop 1).take (q+1-1))):=hid (by
    rw [show q+1-1=q by omega,mg _ q hq1 (by rw [<-bF]; exact de),iF,<-HX.out,get_at s q de,Nat.mul_comm])
   obtain ⟨y,hy⟩:=aA ((s[q]'de).toNat)
   rw [hy] at hb q9;have hx32:x<4294967296:=by
    have h1:=Ci (s.data.toList.drop 1) (q-1) m (by omega);rw [<-HX.out,<-HV.out] at h1;omega
   have hge:decide ((4294967296:Int)<=(x:Int))=false:=by simp; omega
   have hxb:x<=1099511627776:=by omega
   clear HX hx32;go_wp2;go_round
   case rel=>exact ⟨q+1,256*x+y,by omega,by omega,by go_num,by go_num,hid q9.out⟩
   case measure=>simp [intOf]; omega
  .obtain rfl:q=m+1:=by omega
   obtain rfl:x=V:=by rw [HX.out,HV.out]; rfl
   clear HX;go_wp2_with (first
  | (refine aZ H1.out it0 none 0 0 rfl _ _ rfl rfl rfl rfl ?_)
  | (refine aZ HR.out it0 none 0 0 rfl _ _ rfl rfl rfl rfl ?_)
  | (refine aB (bY HN.out ?_) ?_; · exact ⟨_,rfl,rfl⟩)
    | (refine aZ HR.out (.mk false (s.extract (1+m) (1+m+x)) []) none 0 0 rfl _ _ rfl rfl rfl rfl ?_))
   exact bodyPost_ret (dY rfl _ rfl (dX HR.out)) rfl ⟨none,0,0,_,_,rfl,by omega,by omega,bP.nil _ _,bI HB.out aH _⟩
theorem DN (s:aM) (d k:Nat) (dI lI:Int) (w:World) (dr:dI=d) (ef:lI+k=4096) (hk:k<=4096) (h:d<=64) (h2:k<4096) (hmax:s.size<=1000000) (c:UInt8) (t:aN) (hs:s.data.toList=c::t) (hc:128<=c.toNat) (hL:192<=c.toNat) (h5:¬ c.toNat%64<=55) (hlt:¬ t.length<c.toNat%64-55) (hz:t.headD 0≠0) (i1:¬ dS (t.take (c.toNat%64-55))<=55) (hfit:c.toNat%64-55+dS (t.take (c.toNat%64-55))<=t.length) (sc:∀ r:aM,r.size<s.size->RC r):Calls prog 47 #[.string s,.int .i64 dI,.int .i64 lI] w (mR w (bR s.data.toList d k)):=by
 have HE:Hid (bR s.data.toList d k=VU (1+(c.toNat%64-55)+dS (t.take (c.toNat%64-55))) (iZ (s.extract (1+(c.toNat%64-55)) (1+(c.toNat%64-55)+dS (t.take (c.toNat%64-55)))).data.toList (d+1) (k+1))):=hid (by
  have hx:(s.extract (1+(c.toNat%64-55)) (1+(c.toNat%64-55)+dS (t.take (c.toNat%64-55)))).data.toList=(s.data.toList.drop (1+(c.toNat%64-55))).take (dS (t.take (c.toNat%64-55))):=by rw [fO]
  rw [hx,gG,if_neg (by omega),if_neg (by omega),hs,jP c t hc,if_neg h5,if_neg hlt,if_neg (by rintro (e | e); exact hz e; exact i1 e)];dsimp only;rw [if_neg (by rw [List.length_cons]; omega),if_pos (by simp; omega)];rfl)
 rw [HE.out];subst dr;have hs0:0<s.size:=by rw [bF,hs]; simp
 have hne:=eO hs0;have hsl:t.length+1=s.size:=by rw [bF,hs]; rfl
 have hg0:=get_at s 0 hs0;rw [hs,List.getD_cons_zero] at hg0;have hcl:=c.toNat_lt;obtain ⟨C,hC⟩:=aA c.toNat
 rw [hC] at hcl;have hg1:(s[0]'hs0).toNat=C:=by rw [hg0,hC]
 rw [hC] at hc h5 hlt i1 hfit hL ⊢;obtain ⟨m,hm⟩:=aA (C%64-55)
 obtain ⟨n0,hn0⟩:=aA (C%64)
 have gS:(C:Int).tmod 64=(n0:Int):=by rw [Int.tmod_eq_emod_of_nonneg (by omega)]; omega
 have G7:(n0:Int)-55=(m:Int):=by omega
 have tG:¬ n0<=55:=by omega
 have h8:m<=8:=by omega
 have hm1:1<=m:=by omega
 rw [hm] at i1 hfit ⊢;have hlt2:¬ s.size<1+m:=by omega
 have hdrop:s.data.toList.drop 1=t:=by rw [hs]; rfl
 have hs1:1<s.size:=by omega
 have hg2:=get_at s 1 hs1;have fe:(s.data.toList.getD 1 0)=t.headD 0:=by
  rw [hs,List.getD_cons_succ];cases t with
  | nil=>rfl
  | cons y ys=>rfl
 rw [fe] at hg2;obtain ⟨V,hV⟩:=aA (dS (t.take m))
 have HV:Hid (V=dS ((s.data.toList.drop 1).take m)):=hid (by rw [hdrop,hV]);rw [hV] at i1 hfit ⊢;have hgz:((s[1]'hs1).toNat:Int)≠0:=by
  intro e;apply hz;rw [<-hg2];apply UInt8.toNat_inj.1;have:(0:UInt8).toNat=0:=rfl;omega
 have hgb:(((s[1]'hs1).toNat:Int)==0)=false:=by simp only [beq_eq_false_iff_ne]; exact hgz
 have JT:V<=1000000:=by omega
 have At:¬ s.size-(1+m)<V:=by omega
 have tI:decide (192<=(C:Int))=true:=by simp; omega
 obtain ⟨T,hT⟩:=aA (s.extract (1+m) (1+m+V))
 have hTs:T.size<s.size:=by rw [<-hT]; simp; omega
 rw [hT];have qe:Hid (∀ r:aM,r.size<=T.size->RC r):=hid (λr hr=>sc r (by omega));obtain ⟨r0,hr0⟩:=aA (iZ T.data.toList (d+1) (k+1))
 have H0:Hid (r0=glue [] (iZ T.data.toList (d+1) (k+1))):=hid (by rw [vU,hr0]);rw [hr0];have K4:=hid hT;clear hg0 hs hC hn0 hm hg2 fe hdrop hV hz HE sc hr0 hT;obtain ⟨h1,h2⟩:=fP w;obtain ⟨hR,hN,hB,hsz⟩:=h2 _ rfl;obtain ⟨h3,h4⟩:=xD w _ hR hN hB hsz;obtain ⟨sd,np,tM,hB4,nt⟩:=h4 _ rfl;have Ax:=hid h3;have HR4:=hid sd;have s8:=hid np;have AC:=hid tM;have co:=hid hB4;have nv:=hid nt;have H1:=hid h1;have HR:=hid hR;have HN:=hid hN;have HB:=hid hB;have eb:=hid hsz;clear h3 h4 sd np tM hB4 nt h1 h2 hR hN hB hsz
 go_enter func47,ntmps47;go_wp2_with (first
  | (refine aZ H1.out it0 none 0 0 rfl _ _ rfl rfl rfl rfl ?_)
  | (refine aZ HR.out it0 none 0 0 rfl _ _ rfl rfl rfl rfl ?_)
  | (refine aB (bY HN.out ?_) ?_; · exact ⟨_,rfl,rfl⟩))
 go_loop [13,16] (λv i=>∃ q x:Nat,1<=q/\q<=m+1/\i = .int .i64 q/\v = .int .i64 x/\Hid (x=dS ((s.data.toList.drop 1).take (q-1)))) (λ_ i=>m+1-(intOf i).toNat)
 case atStart=>exact ⟨1,0,aH,by omega,rfl,rfl,hid rfl⟩
 case round =>
  obtain ⟨q,x,hq1,hqm,rfl,rfl,HX⟩:=hrel;by_cases z9:q<=m
  .have de:q<s.size:=by omega
   have hb:=(s[q]'de).toNat_lt;have q9:Hid (256*x+(s[q]'de).toNat=dS ((s.data.toList.drop 1).take (q+1-1))):=hid (by
    rw [show q+1-1=q by omega,mg _ q hq1 (by rw [<-bF]; exact de),iF,<-HX.out,get_at s q de,Nat.mul_comm])
   obtain ⟨y,hy⟩:=aA ((s[q]'de).toNat)
   rw [hy] at hb q9;have hx32:x<4294967296:=by
    have h1:=Ci (s.data.toList.drop 1) (q-1) m (by omega);rw [<-HX.out,<-HV.out] at h1;omega
   have hge:decide ((4294967296:Int)<=(x:Int))=false:=by simp; omega
   have hxb:x<=1099511627776:=by omega
   clear HX hx32;go_wp2;go_round
   case rel=>exact ⟨q+1,256*x+y,by omega,by omega,by go_num,by go_num,hid q9.out⟩
   case measure=>simp [intOf]; omega
  .obtain rfl:q=m+1:=by omega
   obtain rfl:x=V:=by rw [HX.out,HV.out]; rfl
   clear HX;go_wp2_with (first
  | (refine aZ H1.out it0 none 0 0 rfl _ _ rfl rfl rfl rfl ?_)
  | (refine aZ HR.out it0 none 0 0 rfl _ _ rfl rfl rfl rfl ?_)
  | (refine aB (bY HN.out ?_) ?_; · exact ⟨_,rfl,rfl⟩)
    | (refine aZ Ax.out (.mk true ⟨#[]⟩ []) none 0 0 rfl _ _ rfl rfl rfl rfl ?_))
   go_loopw [2,17] (λlv rs wr=>∃ (r:aM) (xs:List It) (kk:Nat) (lJ:Int) (v:Value),lv = .int .i64 lJ/\rs = .string r/\lJ+kk=4096/\r.size<=T.size/\kk<=4096/\xs.length<=kk/\Hid (r0=glue xs (iZ r.data.toList (d+1) kk))/\Hid (lW (w.heap.size+3) wr v xs)/\Hid (Rg.Own wr w.heap.size (itC it0 none 0 0) 96)/\Hid (Rg.Own wr (w.heap.size+1) (itC it0 none 0 0) 96)/\Hid (Rg.Own wr (w.heap.size+2) #[.bool true,.string ⟨#[]⟩,v] 96)/\Hid (Below w.heap.size w wr)/\w.heap.size+3<=wr.heap.size) (λ_ rs _=>pU rs)
   case atStart=>exact ⟨T,[],k+1,_,.slice none 0 0,rfl,congrArg Value.string K4.out,by omega,aH,by omega,Nat.zero_le _,hid H0.out,hid (lW.nil _ _),hid HR4.out,hid s8.out,hid AC.out,hid co.out,by have:=nv.out; omega⟩
   case round =>
    obtain ⟨r,xs,kk,lJ,v,rfl,rfl,K5,K6,hkk,hxk,gt,cA,dt,eM,kf,e8,qf⟩:=hrel;clear H0 HR4 s8 AC co nv Ax H1 HR HN HB eb;by_cases hne:r.data.toList=[]
    .have e1:(r.toList==[])=true:=by rw [ByteArray.toList_eq,hne]; rfl
     have e2:(r.toList != [])=false:=by rw [bne,e1]; rfl
     have e3:r.toList.isEmpty=true:=by rw [ByteArray.toList_eq,hne]; rfl
     have hg:=gt.out;rw [hne,zX] at hg;obtain ⟨a',n',c',hv,hI⟩:=cA.out.done (by omega);subst hg;subst hv;have HI:=hid hI;clear hI cA gt hne qe;go_wp2_with (first
      | (refine aB (bY (x:=.mk true ⟨#[]⟩ xs) kf.out ?_) ?_; · exact ⟨_,rfl,rfl⟩)
      | (refine aZ dt.out (.mk true ⟨#[]⟩ xs) a' n' c' rfl _ _ rfl rfl rfl rfl ?_))
     exact bodyPost_ret (dY rfl _ rfl (dX dt.out)) rfl ⟨a',n',c',_,_,rfl,by omega,by omega,bP.weak (jG HI.out (by omega) _) (by omega),bI e8.out aH _⟩
    .have e1:(r.toList==[])=false:=by rw [beq_eq_false_iff_ne,ByteArray.toList_eq]; exact hne
     have e2:(r.toList != [])=true:=by rw [bne,e1]; rfl
     have e3:r.toList.isEmpty=false:=by
      rw [ByteArray.toList_eq];cases hd:r.data.toList with
      | nil=>exact absurd hd hne
      | cons _ _=>rfl
     have hrd:=qe.out r K6 (d+1) kk ((d:Int)+1) lJ wr (by omega) (by omega) K5 hkk;have hlv:=cA.out.lt;cases hrr:bR r.data.toList (d+1) kk with
     | error c1 =>
      rw [hrr] at hrd;have HD:Hid (Calls prog 47 #[.string r,.int .i64 ((d:Int)+1),.int .i64 lJ] wr λe w'=>∃ c:Int,c≠0/\e = .returned (.tuple #[itV it0 none 0 0,.int .i64 0,.int .i64 0,.int .i64 c])/\Below wr.heap.size wr w'):=hid hrd;have hg:=gt.out;rw [Af hne hrr] at hg;subst hg;clear hrd hrr gt hne cA qe hlv;go_wp2_with fail
      with_reducible refine HD.out.mono ?_
      rintro e w1 ⟨c2,hc2,rfl,hb1⟩;have hne2:(c2 != 0)=true:=by simp; exact hc2
      have HT0:Hid (Rg.Own (w1.alloc (.cells #[.bool false,.string ⟨#[]⟩,.slice none 0 0] 96)) w1.heap.size (itC it0 none 0 0) 96):=hid (Rg.Own.new _ _ _);have hz1:=hb1.size;have HR1:=hid (nA (cs':=itC it0 none 0 0) ((dt.out.below hb1).below (al1 w1 (.cells #[.bool false,.string ⟨#[]⟩,.slice none 0 0] 96))) (show w.heap.size≠w1.heap.size by omega))
      have nw:=hid (nA (cs':=itC it0 none 0 0) ((eM.out.below hb1).below (al1 w1 (.cells #[.bool false,.string ⟨#[]⟩,.slice none 0 0] 96))) (show w.heap.size+1≠w1.heap.size by omega));have HB1:=hid (bI (bst (e8.out.trans (hb1.mono (by omega))) (al1 w1 (.cells #[.bool false,.string ⟨#[]⟩,.slice none 0 0] 96))) (show w.heap.size<=w1.heap.size by omega) (itC it0 none 0 0));clear hb1 HD;unfold itV;go_wp2_with (first
       | (refine aZ HT0.out it0 none 0 0 rfl _ _ rfl rfl rfl rfl ?_)
       | (refine aB (bY nw.out ?_) ?_; · exact ⟨_,rfl,rfl⟩)
       | (refine aZ HR1.out it0 none 0 0 rfl _ _ rfl rfl rfl rfl ?_))
      exact bodyPost_ret (dY rfl _ rfl (dX HR1.out)) rfl ⟨c2,hc2,rfl,bI HB1.out aH _⟩
     | ok q =>
      obtain ⟨x,n1,k2⟩:=q;rw [hrr] at hrd;have HD:Hid (Calls prog 47 #[.string r,.int .i64 ((d:Int)+1),.int .i64 lJ] wr λe w'=>∃ (a:aL) (nn cap:Nat) (nI lI:Int),e = .returned (.tuple #[itV x a nn cap,.int .i64 nI,.int .i64 lI,.int .i64 0])/\nI=n1/\lI+k2=4096/\bP wr.heap.size w' x.xs a nn cap/\Below wr.heap.size wr w'):=hid hrd;obtain ⟨p1,p2,p3,p4⟩:=(props r.data.toList.length).1 _ _ _ _ _ _ aH hrr;rw [<-bF] at p2;have hg:=gt.out;rw [wW hne p1 hrr] at hg;have nz:=hid hg
      have ff:Hid (∀ j,v.ownBlock=some j->w.heap.size+3<=j/\j<wr.heap.size):=hid hlv;clear hrd hrr gt hne hg hlv qe;unfold itV at HD;go_wp2_with fail
      with_reducible refine HD.out.mono ?_
      rintro e w1 ⟨A1,N1,C1,nI,K7,rfl,Kb,hl2,hI,hb1⟩;have hz1:=hb1.size;have HT0:Hid (Rg.Own (w1.alloc (.cells #[.bool false,.string ⟨#[]⟩,.slice none 0 0] 96)) w1.heap.size (itC it0 none 0 0) 96):=hid (Rg.Own.new _ _ _);obtain ⟨w3,hw3⟩:=ay ((w1.alloc (.cells #[.bool false,.string ⟨#[]⟩,.slice none 0 0] 96)).setRow w1.heap.size (itC x A1 N1 C1))
      have hz3:w3.heap.size=w1.heap.size+1:=by rw [hw3]; simp
      have hb3:Below w1.heap.size w1 w3:=by rw [hw3]; exact bI (al1 _ _) aH _
      have HT3:Hid (Rg.Own w3 w1.heap.size (itC x A1 N1 C1) 96):=hid (by rw [hw3]; exact iW HT0.out);have HR3:=hid ((dt.out.below hb1).below hb3);have i5:=hid ((eM.out.below hb1).below hb3);have tP:=(kf.out.below hb1).below hb3;have mu:=hid tP;have j1:=hid ((cA.out.below' hb1).below' hb3);have HB3:=hid (bst (e8.out.trans (hb1.mono (by omega))) hb3)
      have HI3:Hid (iE (λb=>w.heap.size+3<=b/\v.ownBlock≠some b) w3 x.xs A1 N1 C1):=hid ((iE.to hI (p':=λb=>w.heap.size+3<=b/\v.ownBlock≠some b) (λb _ hb=>⟨by omega,λe=>by have:=(ff.out b e).2; omega⟩)).stays hb3);have c2:w3.cell? ⟨w.heap.size+1+1,2,none⟩=some v:=by rw [cell_of_row w3 _ _ _ _ _ tP.2]; rfl
      have hl3:(w.heap.size+3)<=w3.heap.size:=by omega
      clear hb1 hI hb3 HD dt eM kf cA e8 tP;subst hw3;go_wp2_with (first
       | (refine aZ HT0.out x A1 N1 C1 rfl _ _ rfl rfl rfl rfl ?_)
       | (refine aB (bY HT3.out ?_) ?_; · exact ⟨_,rfl,rfl⟩)
       | (refine Hq (x:=x) (A:=A1) (N:=N1) (C:=C1) (by rfl) _ rfl rfl ?_; intro w4 b4 AD hb4)
       | (refine Hf (B:=w.heap.size+3) (v:=v) (by rfl) (j1.out.below' hb4) AD (HI3.out.stays hb4) (by omega) (by have:=hb4.size; omega) _ _ rfl rfl rfl ?_; intro v5 w5 mL hg5; obtain ⟨a5,n5,k5,rfl⟩:=mL.shape; have c8:=qo (mu.out.below hb4) hg5 (λe=>by have:=(ff.out _ e).1; omega); have c5:w5.cell? ⟨w.heap.size+1+1,2,none⟩=some v:=(by rw [cell_of_row w5 _ _ _ _ _ c8.2]; rfl); have f5:w5.frozen? ⟨w.heap.size+1+1,2,none⟩=false:=xg c8))
      obtain ⟨v5,hv5⟩:=aA (Value.slice a5 n5 k5)
      rw [hv5] at mL;have hvb:∀ b,b=w.heap.size\/b=w.heap.size+1\/b=w.heap.size+2->v.ownBlock≠some b:=λb hb e=>by have:=(ff.out b e).1; omega
      have tR:=hb4.size;have cG:Hid (Rg.Own (w5.setCell ⟨w.heap.size+2,2,none⟩ v5) (w.heap.size+2) #[.bool true,.string ⟨#[]⟩,v5] 96):=hid (aV c8 v5);have mw:=hid (jD (o:=2) (qo (HR3.out.below hb4) hg5 (hvb _ (.inl rfl))) v5 (show w.heap.size≠w.heap.size+2 by omega));have aq:=hid (jD (o:=2) (qo (i5.out.below hb4) hg5 (hvb _ (.inr (.inl rfl)))) v5 (show w.heap.size+1≠w.heap.size+2 by omega));have nB:=hid (mL.gb (uh w5 (w.heap.size+2) 2 v5) (by omega))
      have bd:Hid (Below w.heap.size w (w5.setCell ⟨w.heap.size+2,2,none⟩ v5)):=hid (((bst HB3.out hb4).grown hg5 (by omega) (λj hj=>by have:=(ff.out j hj).1; omega)).setCell (p:=⟨w.heap.size+2,2,none⟩) (by show w.heap.size<=w.heap.size+2; omega) _);have G8:=hg5.size;have G9:w.heap.size+3<=(w5.setCell ⟨w.heap.size+2,2,none⟩ v5).heap.size:=by simp; omega
      have hcut:(r.extract n1 r.size).size=r.size-n1:=by simp
      have Kd:=hid (ug r n1 p2);subst Kb;subst hv5;clear c8 mL hg5 hb4 AD mu i5 HR3 j1 HI3 HT3 HT0 HB3 hvb;go_wp2;go_roundw
      case rel=>exact ⟨r.extract n1 r.size,xs++[x],k2,K7,.slice a5 n5 k5,rfl,rfl,hl2,by omega,p4,by rw [List.length_append,List.length_singleton]; omega,hid (by rw [Kd.out]; exact nz.out),nB,mw,aq,cG,bd,G9⟩
      case measure=>simp [pU]; omega
theorem Fq (N:Nat) (hN:N<=1000000):∀ s:aM,s.size<=N->RC s:=by
 induction N using Nat.strongRecOn with
 | ind N ih =>
  intro s hs d k dI lI w dr hd ef hk;by_cases h1:64<d
  .exact Ku s d k dI lI w dr ef hk h1
  .by_cases h2:k=4096
   .exact OL s d k dI lI w dr ef hk (by omega) h2
   .by_cases h0:s.size=0
    .exact MF s d k dI lI w dr ef hk (by omega) (by omega) h0
    .have sc:∀ r:aM,r.size<s.size->RC r:=λr hr=>ih r.size (by omega) (by omega) r aH;cases hd:s.data.toList with
     | nil =>
      have:=dZ s;rw [hd] at this;exact absurd this.symm h0
     | cons c t =>
      rw [<-hd];by_cases hc:c.toNat<128
      .exact IG s d k dI lI w dr ef hk (by omega) (by omega) c t hd hc
      .by_cases h5:c.toNat%64<=55
       .by_cases hlt:t.length<c.toNat%64
        .exact BQ s d k dI lI w dr ef hk (by omega) (by omega) (by omega) c t hd (by omega) h5 hlt
        .by_cases hL:c.toNat<192
         .by_cases hn1:c.toNat%64=1
          .by_cases hF:(t.headD 0).toNat<128
           .exact Gs s d k dI lI w dr ef hk (by omega) (by omega) (by omega) c t hd (by omega) hL hn1 (by omega) hF
           .exact BO s d k dI lI w dr ef hk (by omega) (by omega) (by omega) c t hd (by omega) hL hn1 (by omega) hF
          .exact Ee s d k dI lI w dr ef hk (by omega) (by omega) (by omega) c t hd (by omega) hL h5 (by omega) hn1
         .exact DW s d k dI lI w dr ef hk (by omega) (by omega) (by omega) c t hd (by omega) (by omega) h5 (by omega) sc
       .by_cases hlt:t.length<c.toNat%64-55
        .exact FR s d k dI lI w dr ef hk (by omega) (by omega) (by omega) c t hd (by omega) h5 hlt
        .by_cases hz:t.headD 0=0
         .exact DY s d k dI lI w dr ef hk (by omega) (by omega) (by omega) c t hd (by omega) h5 hlt hz
         .by_cases hv:dS (t.take (c.toNat%64-55))<=55
          .exact xW s d k dI lI w dr ef hk (by omega) (by omega) (by omega) c t hd (by omega) h5 hlt hz (.inl hv)
          .by_cases hf:c.toNat%64-55+dS (t.take (c.toNat%64-55))<=t.length
           .by_cases hL:c.toNat<192
            .exact DU s d k dI lI w dr ef hk (by omega) (by omega) (by omega) c t hd (by omega) hL h5 hlt hz hv hf
            .exact DN s d k dI lI w dr ef hk (by omega) (by omega) (by omega) c t hd (by omega) (by omega) h5 hlt hz hv hf sc
           .exact xW s d k dI lI w dr ef hk (by omega) (by omega) (by omega) c t hd (by omega) h5 hlt hz (.inr (by omega))
theorem Dv (s:aM) (hs:s.size<=1000000) (w:World):Calls prog 47 #[.string s,.int .i64 0,.int .i64 4096] w (mR w (bR s.data.toList 0 0)) :=
 Fq s.size hs s aH 0 0 0 4096 w rfl (by omega) (by omega) (by omega)
end Rl
end
end Go.Proofs.YtokaiemgjngcoaaGreatDoor
