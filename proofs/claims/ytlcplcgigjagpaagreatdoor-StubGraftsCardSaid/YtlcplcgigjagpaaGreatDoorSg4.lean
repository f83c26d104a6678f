/-
 The contract of nib.Unpack.
-/
import Derived.Test.YtlcplcgigjagpaaGreatDoorSg3
open Go.Lib (hid)
open Go.Proofs.Tryz
set_option linter.unusedSimpArgs false
set_option linter.unusedVariables false
set_option maxHeartbeats 40000000
set_option maxRecDepth 100000
namespace Go.Proofs.YtlcplcgigjagpaaGreatDoor
variable {B d i q:Nat} {t:TypeId} {v:Value} {ev:Operand->Value} {o:Oper} {P:Program} {ops:Array Oper} {Q:Exit->Act->World->Prop}
section
open Go.RowKit
namespace Ni
theorem Gi (c:Nat) (s:aK) (hs:s.size<=maxLen) (hi:0<s.size) (w:World) (hc:w.cell? ⟨c,0,none⟩=some (.string s)) :
  Calls prog 133 #[.int .i64 0,.pointer (some ⟨c,0,none⟩)] w λe w'=>e = .returned (.int .u8 (dX s 0:Nat))/\w=w' :=
 pF c s 0 hs hi w hc
theorem Gv (c:Nat) (s:aK) (hs:s.size<=maxLen) (hi:0<s.size) (w:World) (hc:w.cell? ⟨c,0,none⟩=some (.string s)) :
  Calls prog 133 #[.int .i64 1,.pointer (some ⟨c,0,none⟩)] w λe w'=>e = .returned (.int .u8 (dX s 1:Nat))/\w=w' :=
 pF c s 1 hs hi w hc
theorem YS:∀ x:Fin 16,bits .and .u8 ((x:Nat):Int) 1=(((x:Nat)%2:Nat):Int):=by decide +kernel
theorem Za:∀ x:Fin 16,bits .and .u8 ((x:Nat):Int) 2=((2*((x:Nat)/2%2):Nat):Int):=by decide +kernel
theorem and1 (x:Nat) (h:x<16):bits .and .u8 (x:Int) 1=((x%2:Nat):Int):=YS ⟨x,h⟩
theorem ZE (x:Nat) (h:x<16):bits .and .u8 (x:Int) 2=((2*(x/2%2):Nat):Int):=Za ⟨x,h⟩
def Bad (s:aK):Prop:=(dX s 0%2=0/\(33<s.size\/3<dX s 0\/dX s 1≠0))\/(dX s 0%2=1/\(32<s.size\/3<dX s 0))
def qc (s:aK):Bool:=decide (dX s 0/2%2=1)
def nu (s:aK):aL:=(ig s).drop (2-dX s 0%2)
theorem KC (w:World) :
  Calls prog 198 #[.string ByteArray.empty] w λe w'=>e = .returned (.tuple #[.slice none 0 0,.bool false,.int .i64 5])/\w=w':=by
 go_enter func198,ntmps198;go_wp2;go_ret3
 exact ⟨rfl,rfl⟩
theorem dP {s:aK} (h:0<s.size):s.toList.isEmpty=false:=by
 rw [ByteArray.toList_eq];cases hd:s.data.toList with
 | nil =>
  have h1:s.data.toList.length=0:=by rw [hd]; rfl
  have h2:s.data.toList.length=s.size:=by simp
  omega
 | cons=>rfl
theorem KV (s:aK) (h0:0<s.size) (hs:s.size<=1000000) (hb:Bad s) (w:World) :
  Calls prog 198 #[.string s] w λe w'=>e = .returned (.tuple #[.slice none 0 0,.bool false,.int .i64 6])/\Below w.heap.size w w':=by
 have hmax:s.size<=maxLen:=by unfold maxLen; omega
 have HC:Hid (∀ wx:World,(wx.alloc (.cells #[.string s] 9)).cell? ⟨wx.heap.size,0,none⟩=some (.string s)):=hid (λwx=>by simp);have hne:=dP h0;have hx16:=wI s 0;have hand:=and1 (dX s 0) hx16;have T0:=hid (λc wx hc=>Gi c s hmax h0 wx hc);have T1:=hid (λc wx hc=>Gv c s hmax h0 wx hc);unfold Bad at hb;obtain ⟨x,hx⟩:=av (dX s 0)
 obtain ⟨y,hy⟩:=av (dX s 1)
 rw [hx] at hb hand hx16;rw [hy] at hb;simp only [hx] at T0;simp only [hy] at T1;clear hx hy hmax;rcases hb with ⟨hp,hb⟩ | ⟨hp,hb⟩
 .have hand0:bits .and .u8 (x:Int) 1=0:=by rw [hand,hp]; rfl
  clear hand hp;by_cases hb1:33<s.size
  .clear hb;go_enter func198,ntmps198;go_wp2_with fail
   refine (fT _ _).mono ?_;rintro e w1 ⟨rfl,rfl⟩;go_wp2_with fail
   refine (T0.out _ _ (HC.out _)).mono ?_;rintro e w2 ⟨rfl,rfl⟩;go_wp2;go_ret3
   exact ⟨rfl,aG.alloc aF _⟩
  .by_cases hb2:3<x
   .clear hb;go_enter func198,ntmps198;go_wp2_with fail
    refine (fT _ _).mono ?_;rintro e w1 ⟨rfl,rfl⟩;go_wp2_with fail
    refine (T0.out _ _ (HC.out _)).mono ?_;rintro e w2 ⟨rfl,rfl⟩;go_wp2;go_ret3
    exact ⟨rfl,aG.alloc aF _⟩
   .have hb3:((y:Int) != 0)=true:=by simp; omega
    clear hb;go_enter func198,ntmps198;go_wp2_with fail
    refine (fT _ _).mono ?_;rintro e w1 ⟨rfl,rfl⟩;go_wp2_with fail
    refine (T0.out _ _ (HC.out _)).mono ?_;rintro e w2 ⟨rfl,rfl⟩;go_wp2_with fail
    refine (T1.out _ _ (HC.out _)).mono ?_;rintro e w2 ⟨rfl,rfl⟩;go_wp2;go_ret3
    exact ⟨rfl,aG.alloc aF _⟩
 .have hand0:bits .and .u8 (x:Int) 1=1:=by rw [hand,hp]; rfl
  clear hand hp;by_cases hb1:32<s.size
  .clear hb;go_enter func198,ntmps198;go_wp2_with fail
   refine (fT _ _).mono ?_;rintro e w1 ⟨rfl,rfl⟩;go_wp2_with fail
   refine (T0.out _ _ (HC.out _)).mono ?_;rintro e w2 ⟨rfl,rfl⟩;go_wp2;go_ret3
   exact ⟨rfl,aG.alloc aF _⟩
  .have hb2:3<x:=by omega
   clear hb;go_enter func198,ntmps198;go_wp2_with fail
   refine (fT _ _).mono ?_;rintro e w1 ⟨rfl,rfl⟩;go_wp2_with fail
   refine (T0.out _ _ (HC.out _)).mono ?_;rintro e w2 ⟨rfl,rfl⟩;go_wp2;go_ret3
   exact ⟨rfl,aG.alloc aF _⟩
theorem yH (s:aK):dx (ig s)=true:=by
 unfold dx ig;rw [List.all_eq_true];intro x hx;simp only [List.mem_map,List.mem_range] at hx;obtain ⟨i,_,rfl⟩:=hx;have:=wI s i;simp only [UInt8.toNat_ofNat',decide_eq_true_eq]; omega
theorem Ve (s:aK) (a:aJ) (n cap:Nat) (w:World) (h:bq w a n cap (ig s)) (k:Nat) (hk:k<=n) (ki:Int) (hki:ki=k) :
  Calls prog 146 #[.slice a n cap,.int .i64 ki,.int .i64 n] w λe w'=>∃ a' n' c',e = .returned (.slice a' n' c')/\bq w a' n' c' ((ig s).drop k)/\w=w':=by
 subst hki;refine (Ye a n cap (ig s) k n hk aF w h).mono ?_;rintro e w' ⟨a',c',rfl,⟨hx,_⟩,rfl⟩;have e:((ig s).drop k).take (n-k)=(ig s).drop k:=List.take_of_length_le (by rw [List.length_drop,h.len]; exact aF);rw [e] at hx;exact ⟨a',_,c',rfl,hx,rfl⟩
def Unp (w:World) (s:aK) (e:Ending) (w':World):Prop :=
 ∃ a n cap,e = .returned (.tuple #[.slice a n cap,.bool (qc s),.int .i64 0])/\bq w' a n cap (nu s)/\Below w.heap.size w w'
theorem OB (s:aK) (h0:0<s.size) (hb:¬ Bad s) (w:World) :
  Calls prog 198 #[.string s] w (Unp w s):=by
 have hx16:=wI s 0;have WF:s.size<=33:=by unfold Bad at hb; omega
 have hmax:s.size<=maxLen:=by unfold maxLen; omega
 have HC:Hid (∀ wx:World,(wx.alloc (.cells #[.string s] 9)).cell? ⟨wx.heap.size,0,none⟩=some (.string s)):=hid (λwx=>by simp);have hne:=dP h0;have hand:=and1 (dX s 0) hx16;have hand2:=ZE (dX s 0) hx16;have T0:=hid (λc wx hc=>Gi c s hmax h0 wx hc);have T1:=hid (λc wx hc=>Gv c s hmax h0 wx hc);have SP:=hid (λwx=>AZ s (by omega) wx);have CP:=hid (Ve s);have hlen:=gM s;have hlf:qc s=decide (dX s 0/2%2=1):=rfl;have hpl:nu s=(ig s).drop (2-dX s 0%2):=rfl;unfold Bad at hb;obtain ⟨x,hx⟩:=av (dX s 0)
 obtain ⟨y,hy⟩:=av (dX s 1)
 rw [hx] at hb hand hx16 hand2 hlf hpl;rw [hy] at hb;simp only [hx] at T0;simp only [hy] at T1;clear hx hy hmax;have HL:=hid hlen;have hx3:x<=3:=by omega
 by_cases hp:x%2=0
 .have hy0:y=0:=by omega
  subst hy0;have hand0:bits .and .u8 (x:Int) 1=0:=by rw [hand,hp]; rfl
  have HP:Hid (nu s=(ig s).drop 2):=hid (by rw [hpl,hp]);clear hand hpl hb hp hlen;by_cases hl:x/2%2=1
  .have hl2:bits .and .u8 (x:Int) 2=2:=by rw [hand2,hl]; rfl
   have oE:Hid (qc s=true):=hid (by rw [hlf]; exact aI hl);clear hand2 hl hlf;go_enter func198,ntmps198;go_wp2_with fail
   refine (fT _ _).mono ?_;rintro e w1 ⟨rfl,rfl⟩;go_wp2_with fail
   refine (T0.out _ _ (HC.out _)).mono ?_;rintro e w2 ⟨rfl,rfl⟩;go_wp2_with fail
   refine (T1.out _ _ (HC.out _)).mono ?_;rintro e w2 ⟨rfl,rfl⟩;go_wp2_with fail
   refine (SP.out _).mono ?_;rintro e w3 ⟨a,n,cap,rfl,hx,hb3⟩;have hn2:2<=n:=by have:=hx.len; rw [HL.out] at this; omega
   have HX:=hid hx;clear hx;go_wp2_with fail
   refine (CP.out a n cap _ HX.out 2 (by omega) 2 rfl).mono ?_;rintro e w4 ⟨a4,n4,c4,rfl,hx4,rfl⟩;have cP:=hid hx4;clear hx4;go_wp2;go_ret3
   exact ⟨a4,n4,c4,by rw [oE.out]; rfl,by rw [HP.out]; exact cP.out,((Below.refl w.heap.size w).alloc aF _).trans (hb3.mono (by simp))⟩
  .have hl2:bits .and .u8 (x:Int) 2=0:=by rw [hand2,show x/2%2=0 by omega]; rfl
   have oE:Hid (qc s=false):=hid (by rw [hlf]; exact decide_eq_false hl);clear hand2 hl hlf;go_enter func198,ntmps198;go_wp2_with fail
   refine (fT _ _).mono ?_;rintro e w1 ⟨rfl,rfl⟩;go_wp2_with fail
   refine (T0.out _ _ (HC.out _)).mono ?_;rintro e w2 ⟨rfl,rfl⟩;go_wp2_with fail
   refine (T1.out _ _ (HC.out _)).mono ?_;rintro e w2 ⟨rfl,rfl⟩;go_wp2_with fail
   refine (SP.out _).mono ?_;rintro e w3 ⟨a,n,cap,rfl,hx,hb3⟩;have hn2:2<=n:=by have:=hx.len; rw [HL.out] at this; omega
   have HX:=hid hx;clear hx;go_wp2_with fail
   refine (CP.out a n cap _ HX.out 2 (by omega) 2 rfl).mono ?_;rintro e w4 ⟨a4,n4,c4,rfl,hx4,rfl⟩;have cP:=hid hx4;clear hx4;go_wp2;go_ret3
   exact ⟨a4,n4,c4,by rw [oE.out]; rfl,by rw [HP.out]; exact cP.out,((Below.refl w.heap.size w).alloc aF _).trans (hb3.mono (by simp))⟩
 .have hp1:x%2=1:=by omega
  have WN:s.size<=32:=by omega
  have hand0:bits .and .u8 (x:Int) 1=1:=by rw [hand,hp1]; rfl
  have HP:Hid (nu s=(ig s).drop 1):=hid (by rw [hpl,hp1]);clear hand hpl hb hp hp1 hlen T1;by_cases hl:x/2%2=1
  .have hl2:bits .and .u8 (x:Int) 2=2:=by rw [hand2,hl]; rfl
   have oE:Hid (qc s=true):=hid (by rw [hlf]; exact aI hl);clear hand2 hl hlf;go_enter func198,ntmps198;go_wp2_with fail
   refine (fT _ _).mono ?_;rintro e w1 ⟨rfl,rfl⟩;go_wp2_with fail
   refine (T0.out _ _ (HC.out _)).mono ?_;rintro e w2 ⟨rfl,rfl⟩;go_wp2_with fail
   refine (SP.out _).mono ?_;rintro e w3 ⟨a,n,cap,rfl,hx,hb3⟩;have hn2:2<=n:=by have:=hx.len; rw [HL.out] at this; omega
   have HX:=hid hx;clear hx;go_wp2_with fail
   refine (CP.out a n cap _ HX.out 1 (by omega) 1 rfl).mono ?_;rintro e w4 ⟨a4,n4,c4,rfl,hx4,rfl⟩;have cP:=hid hx4;clear hx4;go_wp2;go_ret3
   exact ⟨a4,n4,c4,by rw [oE.out]; rfl,by rw [HP.out]; exact cP.out,((Below.refl w.heap.size w).alloc aF _).trans (hb3.mono (by simp))⟩
  .have hl2:bits .and .u8 (x:Int) 2=0:=by rw [hand2,show x/2%2=0 by omega]; rfl
   have oE:Hid (qc s=false):=hid (by rw [hlf]; exact decide_eq_false hl);clear hand2 hl hlf;go_enter func198,ntmps198;go_wp2_with fail
   refine (fT _ _).mono ?_;rintro e w1 ⟨rfl,rfl⟩;go_wp2_with fail
   refine (T0.out _ _ (HC.out _)).mono ?_;rintro e w2 ⟨rfl,rfl⟩;go_wp2_with fail
   refine (SP.out _).mono ?_;rintro e w3 ⟨a,n,cap,rfl,hx,hb3⟩;have hn2:2<=n:=by have:=hx.len; rw [HL.out] at this; omega
   have HX:=hid hx;clear hx;go_wp2_with fail
   refine (CP.out a n cap _ HX.out 1 (by omega) 1 rfl).mono ?_;rintro e w4 ⟨a4,n4,c4,rfl,hx4,rfl⟩;have cP:=hid hx4;clear hx4;go_wp2;go_ret3
   exact ⟨a4,n4,c4,by rw [oE.out]; rfl,by rw [HP.out]; exact cP.out,((Below.refl w.heap.size w).alloc aF _).trans (hb3.mono (by simp))⟩
end Ni
end
section
open Go.RowKit
namespace No
def dB (s:aK):Bool:=decide (s.size=0\/s.size=32)
theorem eF {s:aK} (h:s.size=0):s=eB:=by
 cases s with
 | mk d =>
  have:d = #[]:=Array.eq_empty_of_size_eq_zero h;rw [this]
theorem xL (s:aK) (w:World):Calls prog 131 #[.string s] w λe w'=>e = .returned (.bool (dB s))/\w=w':=by
 by_cases h0:s.size=0
 .obtain rfl:=eF h0;go_enter func131,ntmps131;go_wp2;go_ret;exact ⟨rfl,rfl⟩
 .have hne:=Ni.dP (s:=s) (by omega);by_cases h32:s.size=32
  .have hq:((s.size:Int)==32)=true:=by simp; omega
   have HP:Hid (dB s=true):=hid (by simp [dB,h32]);rw [HP.out];go_enter func131,ntmps131;go_wp2;go_ret;exact ⟨rfl,rfl⟩
  .have hq:((s.size:Int)==32)=false:=by simp; omega
   have HP:Hid (dB s=false):=hid (by simp [dB,h32,h0]);rw [HP.out];go_enter func131,ntmps131;go_wp2;go_ret;exact ⟨rfl,rfl⟩
theorem Ym (w:World):(binOp .eql 42 (.slice none 0 0) (.slice none 0 0)).run prog w = .ok (.bool true) w:=by kernel_rfl
theorem Wp (a:Addr) (n cap:Nat) (w:World):(binOp .eql 42 (.slice (some a) n cap) (.slice none 0 0)).run prog w = .ok (.bool false) w:=by kernel_rfl
def KR (w:World) (l:aL) (e:Ending) (w':World):Prop:=∃ a n cap,e = .returned (.slice a n cap)/\BsF w.heap.size w' a n cap l/\Below w.heap.size w w'
theorem Ul {w:World} {n:Nat} {l:aL} (h:w.ownsRow B t 1 v n (l.map λx=>Value.int .u8 x.toNat)):∃ a cap,v = .slice a n cap/\BsF B w a n cap l:=by
 obtain ⟨a,cap,rfl,hB⟩:=bq.qx h;refine ⟨a,cap,rfl,hB,λad e=>?_⟩;subst e;rcases h.2 with ⟨e,_⟩ | ⟨g,cap',cur,e,hbg,_⟩
 .cases e
 .cases e;exact hbg
theorem vN (a:aJ) (n cap:Nat) (l:aL) (hn:n<=1000000) (w:World) (h:bq w a n cap l) :
  Calls prog 112 #[.slice a n cap] w (KR w l):=by
 cases a with
 | none =>
  obtain ⟨rfl,rfl,rfl⟩:=h.FH;have hnil:=Ym;go_enter func112,ntmps112;go_wp2;go_ret;exact ⟨none,0,0,rfl,BsF.nil _ _,aG⟩
 | some ad =>
  obtain ⟨i0,hi,hz0,hz1,hz2⟩:=info_parts Cc.mh;have HI:Hid (_/\_/\_/\_):=hid ⟨hi,hz0,hz1,hz2⟩;have HC:=hid (Cc.Cn h ad rfl);have HL:=hid h.len;have HH:=hid h;have hnil:=Wp ad n cap;have HO:Hid ((w.alloc (.cells #[] 5)).ownsRow w.heap.size 5 1 (.slice (some ⟨w.heap.size,0,none⟩) 0 0) 0 []):=hid (World.ownsRow_made w #[] 0 aF (Nat.zero_le _) (by simp));clear h hi hz0 hz1 hz2;go_enter func112,ntmps112
  go_wp2_with (at_builtin; refine wpList_append_own _ rfl _ _ 42 rfl w.heap.size 5 i0 (.int .u8 0) 1 1 underlying42 HI.out.1 HI.out.2.1 HI.out.2.2.1 HI.out.2.2.2 rfl (by decide) _ _ _ rfl HO.out ad n cap (l.map λx=>Value.int .u8 x.toNat) rfl (by simp [HL.out]) ?c2 ?c6 ?c3 ?c4 ?c5 ?_)
  case c2 =>
   intro j u hu;have hj:j<n:=by rw [<-HL.out]; have:=(List.getElem?_eq_some_iff.1 hu).1; simpa using this
   obtain ⟨b,off,e,hb,_⟩:=HH.out.at' j hj;obtain rfl:=Option.some.inj e;rw [(al1 w _).cell (by rw [Addr.add_mid]; exact hb)];exact HC.out j u hu
  case c6 =>
   intro u hu;simp at hu;obtain ⟨x,_,rfl⟩:=hu;rfl
  case c3=>unfold maxLen; omega
  case c4=>omega
  case c5=>simp
  intro v' w2 hown2 hgrow hnil';have HG:Hid (∃ a c,v' = .slice a n c/\BsF w.heap.size w2 a n c l):=hid (by
   have:=Ul (l:=l) (v:=v') (n:=n) (by simpa using hown2);exact this)
  have HB:Hid (Below w.heap.size w w2):=hid ((al1 w _).grown hgrow (by simp) (λk hk=>by simp [Value.ownBlock] at hk; omega));clear hown2 hgrow hnil';go_wp2;go_ret;obtain ⟨a',c',e,hB⟩:=HG.out;exact ⟨a',n,c',by rw [e]; rfl,hB,HB.out⟩
theorem nV (a:aJ) (n cap:Nat) (l:aL) (hn:n<=1000000) (v:aK) (w:World) (h:bq w a n cap l) :
  Calls prog 73 #[.slice a n cap,.string v] w (FY w ⟨1,l,v,zks⟩):=by
 obtain ⟨w2,hw2⟩:=au (w.alloc (.cells (ndC nd0 none 0 0) 56))
 have HC:=hid (vN a n cap l hn w2 (by rw [hw2]; exact h.alloc _));have HO:Hid (dJ w2 w.heap.size nd0 none 0 0):=hid (by rw [hw2]; exact Rg.Own.new _ _ _);have HB:Hid (Below w.heap.size w w2):=hid (by rw [hw2]; exact al1 _ _);clear h;subst hw2;go_enter func73,ntmps73;go_wp2_with (refine ay (aY _ _ _ w.heap.size rfl rfl) ?_)
 refine HC.out.mono ?_;rintro e w3 ⟨a3,n3,c3,rfl,hB3,hb3⟩;have am:=hid (HO.out.below hb3);have HB3:=hid (bst HB.out hb3);have HI3:=hid hB3;clear hB3 hb3 HO HC;go_wp2_with (first
  | (refine ay (bK (qW a3 n3 c3 l v) ?_) ?_; · exact ⟨_,rfl,rfl⟩)
  | (refine bD am.out rfl ⟨1,l,v,zks⟩ a3 n3 c3 rfl rfl _ _ rfl rfl rfl rfl ?_))
 exact bodyPost_ret (uZ rfl _ rfl (dz am.out) rfl) rfl ⟨a3,n3,c3,rfl,(HI3.out.row (by simp) _).weak (by simp),rfl,bS HB3.out aF _⟩
theorem MN (a:aJ) (n cap:Nat) (l:aL) (hn:n<=1000000) (v:aK) (w:World) (h:bq w a n cap l) :
  Calls prog 74 #[.slice a n cap,.string v] w (FY w ⟨2,l,eB,v::List.replicate 15 eB⟩):=by
 obtain ⟨w2,hw2⟩:=au (w.alloc (.cells (ndC nd0 none 0 0) 56))
 have HC:=hid (vN a n cap l hn w2 (by rw [hw2]; exact h.alloc _));have HO:Hid (dJ w2 w.heap.size nd0 none 0 0):=hid (by rw [hw2]; exact Rg.Own.new _ _ _);have HB:Hid (Below w.heap.size w w2):=hid (by rw [hw2]; exact al1 _ _);clear h;subst hw2;go_enter func74,ntmps74;go_wp2_with (refine ay (aY _ _ _ w.heap.size rfl rfl) ?_)
 refine HC.out.mono ?_;rintro e w3 ⟨a3,n3,c3,rfl,hB3,hb3⟩;have am:=hid (HO.out.below hb3);have HB3:=hid (bst HB.out hb3);have HI3:=hid hB3;clear hB3 hb3 HO HC;go_wp2_with (first
  | (refine ay (bK (QD v) ?_) ?_; · exact ⟨_,rfl,rfl⟩)
  | (refine ay (bK (xO 2 a3 n3 c3 l (v::List.replicate 15 eB) rfl) ?_) ?_; · exact ⟨_,rfl,rfl⟩)
  | (refine bD am.out rfl ⟨2,l,eB,v::List.replicate 15 eB⟩ a3 n3 c3 rfl rfl _ _ rfl rfl rfl rfl ?_))
 exact bodyPost_ret (uZ rfl _ rfl (dz am.out) rfl) rfl ⟨a3,n3,c3,rfl,(HI3.out.row (by simp) _).weak (by simp),rfl,bS HB3.out aF _⟩
end No
end
section
open Go.RowKit
def lW (w:World) (a:aJ) (n cap:Nat) (xs:List aK):Prop :=
 n<=cap/\cap<=maxLen/\xs.length=n/\∀ j,j<n->∃ b off,a=some ⟨b,off,none⟩/\b<w.heap.size/\w.cell? ⟨b,off+j,none⟩=some (.string (xs.getD j eB))
namespace lW
variable {w w':World} {a:aJ} {n cap:Nat} {xs:List aK}
theorem len (h:lW w a n cap xs):xs.length=n:=h.2.2.1
theorem at' (h:lW w a n cap xs) (j:Nat) (hj:j<n):∃ b off,a=some ⟨b,off,none⟩/\b<w.heap.size/\w.cell? ⟨b,off+j,none⟩=some (.string (xs.getD j eB)):=h.2.2.2 j hj
theorem below (h:lW w a n cap xs) (hb:Below w.heap.size w w'):lW w' a n cap xs:=by
 refine ⟨h.1,h.2.1,h.2.2.1,λj hj=>?_⟩;obtain ⟨b,off,h1,h2,h3⟩:=h.2.2.2 j hj;exact ⟨b,off,h1,aH h2 hb.size,by rw [hb.cell (p:=⟨b,off+j,none⟩) h2]; exact h3⟩
end lW
theorem lW.qx {w:World} {n:Nat} {xs:List aK} (h:w.ownsRow B t 1 v n (xs.map Value.string)):∃ a cap,v = .slice a n cap/\lW w a n cap xs:=by
 have hl:xs.length=n:=by simpa using h.1
 rcases h.2 with ⟨rfl,hz⟩ | ⟨g,cap,cur,rfl,hbg,hg,hnc,hcm,hcs,htake⟩
 .subst hz;exact ⟨none,0,rfl,aF,Nat.zero_le _,hl,λj hj=>absurd hj (Nat.not_lt_zero _)⟩
 .refine ⟨_,_,rfl,hnc,hcm,hl,λj hj=>⟨g,0,rfl,(Array.getElem?_eq_some_iff.1 hg).1,?_⟩⟩;have:=h.cells (g:=g) rfl j (.string (xs.getD j eB)) (by simp [List.getD,hl,hj]);rwa [Addr.add_mid] at this
theorem WA:(prog.info? 9).map (λi=>(i.zero,i.size,i.bytes))=some (some (.string ⟨#[]⟩),1,16):=by kernel_rfl
theorem jQ:∃ i,prog.info? 9=some i/\i.zero=some (.string ⟨#[]⟩)/\i.size=1/\i.bytes=16:=by
 have h:=WA;cases hi:prog.info? 9 with
 | none=>rw [hi] at h; simp at h
 | some i =>
  rw [hi] at h;simp at h;exact ⟨i,rfl,h.1,h.2.1,h.2.2⟩
def bJ (ks:List aK):List aK:=ks.filter λk=>decide (k.size≠0)
theorem qR (ks:List aK) (q:Nat) (h:q<ks.length):bJ (ks.take (q+1))=bJ (ks.take q)++(if (ks.getD q eB).size≠0 then [ks.getD q eB] else []):=by
 unfold bJ;have e:ks.getD q eB=ks[q]:=by simp [List.getD,h]
 rw [List.take_succ_eq_append_getElem h,e,List.filter_append];congr 1;by_cases hz:ks[q].size=0
 .simp only [ne_eq,hz,not_true_eq_false,decide_false,Bool.false_eq_true,not_false_eq_true,List.filter_cons_of_neg,List.filter_nil,if_false]
 .simp only [ne_eq,hz,not_false_eq_true,decide_true,List.filter_cons_of_pos,List.filter_nil,if_true]
theorem DZ (ks:List aK) (q:Nat):(bJ (ks.take q)).length<=q:=Nat.le_trans (List.length_filter_le _ _) (by rw [List.length_take]; exact Nat.min_le_left _ _)
theorem VB (ks:List aK) (q:Nat) (h:q<ks.length) (w:World):(part 9 (iI ks) q).run prog w = .ok (.string (ks.getD q eB)) w:=by
 have hagg:(isAgg 9).run prog w = .ok false w:=by kernel_rfl
 have hg:(iI ks)[q]? = some (.string (ks.getD q eB)):=by simp [iI,List.getD,h]
 unfold part;rw [Sem.run_bind,hagg];simp [hg]
theorem fO {w:World} {ks:List aK} (hl:ks.length=16) (hq:q<16) (ho:∃ x y,o.op = .index 54 x y/\ev x = .agg (iI ks)/\ev y = .int .i64 q) :
  (execOp ev o).run prog w = .ok (.value (.string (ks.getD q eB))) w:=by
 obtain ⟨x,y,ho,hx,hy⟩:=ho;obtain ⟨i0,hi,_,hs,_⟩:=jQ;have hp:=VB ks q (by omega) w;have h1:(Instr.index 54 (.agg (iI ks)) (.int .i64 q)).run prog w = .ok (.string (ks.getD q eB)) w:=by
  have hq2:(0:Int)<=q/\(q:Int)<((16:Nat):Int):=⟨by omega,by omega⟩
  simp only [Instr.index,Sem.run_bind,asIntOf,Sem.run_pure,Result.andThen_ok,run_underlying underlying54];rw [if_pos hq2];simp only [sizeOf,typeInfo,Sem.run_bind];simp [hi,hs,hp]
 unfold execOp;simp only [ho,hx,hy,Sem.run_bind,Sem.run_pure,Result.andThen_ok,h1]
namespace No
def Zn (w:World) (xs:List aK) (e:Ending) (w':World):Prop:=∃ a n cap,e = .returned (.slice a n cap)/\lW w' a n cap xs/\Below w.heap.size w w'
theorem UY (N:Nd) (a:aJ) (n c:Nat) (hl:N.ks.length=16) (w:World):Calls prog 135 #[.agg (ndC N a n c)] w (Zn w (bJ N.ks)):=by
 obtain ⟨i0,hi,hz0,hz1,hz2⟩:=jQ;have HI:Hid (_/\_/\_/\_):=hid ⟨hi,hz0,hz1,hz2⟩;have HO:Hid (dJ (w.alloc (.cells (ndC N a n c) 56)) w.heap.size N a n c):=hid (Rg.Own.new _ _ _);have HL:=hid hl;clear hi hz0 hz1 hz2 hl;go_enter func135,ntmps135;go_wp2_with (refine ay (nY HO.out HL.out ⟨_,rfl,rfl⟩) ?_)
 go_loopw [3,8] (λv i wr=>∃ j:Nat,j<=16/\i = .int .i64 j/\Hid (wr.ownsRow (w.heap.size+1) 9 1 v (bJ (N.ks.take j)).length ((bJ (N.ks.take j)).map Value.string))/\Below (w.heap.size+1) (w.alloc (.cells (ndC N a n c) 56)) wr) (λ_ i _=>16-(intOf i).toNat)
 case atStart=>exact ⟨0,Nat.zero_le _,rfl,hid (World.ownsRow_nil _ _ _ _),aG⟩
 case round =>
  obtain ⟨j,hj,rfl,HR,hB⟩:=hrel;have hsz:w.heap.size+1<=wr.heap.size:=by have:=hB.size; simp at this; omega
  by_cases hlt:j<16
  .have HS:=hid (qR N.ks j (by rw [HL.out]; exact hlt));have hkl:=DZ N.ks j;obtain ⟨L,hL⟩:=av (bJ (N.ks.take j))
   rw [hL] at HS hkl HR;clear hL;by_cases hk:(N.ks.getD j eB).size=0
   .have km:Hid (bJ (N.ks.take (j+1))=L):=hid (by rw [HS.out,if_neg (by simpa using hk),List.append_nil]);have HE:Hid (N.ks.getD j eB=eB):=hid (eF hk);clear hk;go_wp2_with (refine Rg.run rfl (.string (N.ks.getD j eB)) _ (fO HL.out hlt ⟨_,_,rfl,rfl,rfl⟩) ?_; rw [HE.out])
    go_roundw
    case rel=>exact ⟨j+1,by omega,by go_num,by rw [km.out]; exact HR,hB⟩
    case measure=>simp [intOf]; omega
   .have km:Hid (bJ (N.ks.take (j+1))=L++[N.ks.getD j eB]):=hid (by rw [HS.out,if_pos hk]);have hne:=Ni.dP (s:=N.ks.getD j eB) (by omega);obtain ⟨K,hK⟩:=av (N.ks.getD j eB)
    have HK:=hid hK;rw [hK] at hne km;clear hK hk HS;go_wp2_with (first
     | (refine Rg.run rfl (.string (N.ks.getD j eB)) _ (fO HL.out hlt ⟨_,_,rfl,rfl,rfl⟩) ?_; rw [HK.out])
     | (at_builtin; refine wpList_append_own _ rfl _ _ 34 rfl (w.heap.size+1) 9 i0 (.string ⟨#[]⟩) 1 16 underlying34 HI.out.1 HI.out.2.1 HI.out.2.2.1 HI.out.2.2.2 rfl (by decide) _ _ _ rfl (HR.out.alloc _) ⟨wr.heap.size,0,none⟩ 1 1 [.string K] rfl rfl ?d1 ?d2 ?d3 ?d4 ?d5 ?_))
    case d1=>exact Bu.cell_one_new' _ _ _ _
    case d2=>intro u hu; simp at hu; subst hu; rfl
    case d3=>unfold maxLen; omega
    case d4=>omega
    case d5=>simp; omega
    intro v' w2 hown2 hgrow _;have hlt':=HR.out.lt;go_wp2;go_roundw
    case rel=>exact ⟨j+1,by omega,by go_num,hid (by rw [km.out,List.length_append,List.map_append]; exact hown2),(hB.alloc hsz _).grown hgrow (by simp; omega) (λg hg=>(hlt' g hg).1)⟩
    case measure=>simp [intOf]; omega
  .obtain rfl:j=16:=by omega
   have hO:=HR.out;rw [List.take_of_length_le (by rw [HL.out]; exact aF)] at hO;obtain ⟨a',cap',rfl,hb⟩:=lW.qx hO;have HB:=hid hb;have cD:Hid (Below w.heap.size w wr):=hid (pU hB);clear hO hb;go_wp2;go_ret;exact ⟨a',_,cap',rfl,HB.out,cD.out⟩
end No
end
section
open Go.RowKit
namespace Ni
def uO (l:aL) (leaf:Bool):Nat:=16*gZ l.length leaf+if l.length%2=1 then (l.getD 0 0).toNat else 0
def fD (l:aL) (leaf:Bool) (k:Nat):aL:=UInt8.ofNat (uO l leaf)::(List.range k).map λj=>UInt8.ofNat (16*(l.getD (l.length%2+2*j) 0).toNat+(l.getD (l.length%2+(2*j+1)) 0).toNat)
theorem oQ (l:aL) (leaf:Bool) (k:Nat):fD l leaf (k+1)=fD l leaf k++[UInt8.ofNat (16*(l.getD (l.length%2+2*k) 0).toNat+(l.getD (l.length%2+(2*k+1)) 0).toNat)]:=by
 simp [fD,List.range_succ]
theorem Ez (l:aL) (leaf:Bool):((jm l leaf).getD 0 0).toNat=gZ l.length leaf:=by
 have:gZ l.length leaf<=3:=by unfold gZ; cases leaf <;> simp <;> omega
 simp [jm]; omega
theorem Ur (l:aL) (leaf:Bool):((jm l leaf).getD 1 0).toNat=if l.length%2=1 then (l.getD 0 0).toNat else 0:=by
 unfold jm;by_cases h:l.length%2=1
 .cases l with
  | nil=>simp at h
  | cons x r =>
   have h':(r.length+1)%2=1:=by simpa using h
   simp [h']
 .simp [h]
theorem Vd (l:aL) (leaf:Bool) (q:Nat):(jm l leaf).getD (2+q) 0=l.getD (l.length%2+q) 0:=by
 unfold jm;by_cases h:l.length%2=1
 .cases l with
  | nil=>simp at h
  | cons x r =>
   rw [if_pos h,h];have e:(2+q)=q+1+1:=by omega
   rw [e,show 1+q=q+1 by omega];simp [List.getD]
 .have h0:l.length%2=0:=by omega
  rw [if_neg h,h0];have e:(2+q)=q+1+1:=by omega
  rw [e];simp [List.getD]
theorem Rq (l:aL) (leaf:Bool):iA l leaf=fD l leaf (l.length/2):=by
 unfold iA gy fD uO;rw [List.range_succ_eq_map,List.map_cons,List.map_map];have e0:=Ez l leaf;have e1:=Ur l leaf;congr 1
 .simp only [Nat.mul_zero,Nat.zero_add];rw [e0,e1]
 .apply List.map_congr_left;intro j _;have f0:=Vd l leaf (2*j);have f1:=Vd l leaf (2*j+1);simp only [Function.comp];rw [show 2*(j.succ)=2+2*j by omega,show 2+2*j+1=2+(2*j+1) by omega,f0,f1]
theorem jo (v:Int) (x:Nat) (hx:x<256) (hv:v=x) (w:World) :
  Sem.run prog (convert 42 9 (Value.slice (some ⟨w.heap.size,0,none⟩) 1 1)) (w.alloc (.cells #[.int .u8 v] 5)) = .ok (.string ⟨#[UInt8.ofNat x]⟩) (w.alloc (.cells #[.int .u8 v] 5)):=by
 subst hv;have h:=run_convert_bytes_back (P:=prog) (w.alloc (.cells #[.int .u8 x] 5)) 42 9 5 ⟨w.heap.size,0,none⟩ 1 [UInt8.ofNat x] underlying42 underlying5 underlying9
  (λj hj=>by
   obtain rfl:j=0:=by simpa using hj
   have e:(UInt8.ofNat x).toNat=x:=by simp; omega
   simp [Addr.add,e])
 exact h
theorem zM (l:aL) (x:UInt8):(⟨l.toArray⟩:aK)++⟨#[x]⟩=⟨(l++[x]).toArray⟩:=by
 have h:((⟨l.toArray⟩:aK)++⟨#[x]⟩).data=(l++[x]).toArray:=by
  rw [ByteArray.data_append]; simp
 cases e:((⟨l.toArray⟩:aK)++⟨#[x]⟩) with
 | mk d=>rw [e] at h; simp only at h; rw [h]
theorem xZ (a:aJ) (n cap:Nat) (l:aL) (leaf:Bool) (hr:dx l=true) (hn:n<=64) (w:World) (h:bq w a n cap l) :
  Calls prog 87 #[.slice a n cap,.bool leaf] w λe w'=>e = .returned (.string ⟨(iA l leaf).toArray⟩)/\Below w.heap.size w w':=by
 rw [Rq];have H:=hid h;have HL:=hid h.len;have HR:=hid (kI l hr);have hmk:uO l leaf=16*(l.length%2)+32*(if leaf then 1 else 0)+if l.length%2=1 then (l.getD 0 0).toNat else 0:=by
  unfold uO gZ; cases leaf <;> simp <;> omega
 have hnc:=h.1;have hcm:=h.2.1;unfold maxLen at hcm;rw [h.len] at hmk;clear h hr;by_cases hp:n%2=1
 .have hp0:(n:Int)%2=1:=by omega
  have hn1:1<=n:=by omega
  rw [if_pos hp,hp] at hmk;have HP:=hid hp;clear hp;obtain ⟨b0,qe,rfl,hb0,hc0⟩:=H.out.at' 0 (by omega);have hx0:=HR.out 0;obtain ⟨z,hz⟩:=av ((l.getD 0 0).toNat)
  rw [hz] at hc0 hx0 hmk;rw [Nat.add_zero] at hc0;clear hz;cases leaf
  .have hm2:uO l false=16+z:=by rw [hmk]; simp
   have hcv:=jo (16+(z:Int)) (uO l false) (by omega) (by omega);clear hmk hm2;go_enter func87,ntmps87;go_wp2;clear hcv;go_loopw [7,8] (λs i wr=>∃ k q:Nat,Hid (q=1+2*k)/\q<=n/\i = .int .i64 q/\s = .string ⟨(fD l false k).toArray⟩/\Below w.heap.size w wr) (λ_ i _=>n-(intOf i).toNat)
   case atStart=>exact ⟨0,1,hid rfl,by omega,rfl,rfl,aG.alloc aF _⟩
   case round =>
    obtain ⟨k,q,HQ,hq,rfl,rfl,hB⟩:=hrel;by_cases hlt:q<n
    .have hlt1:q+1<n:=by have:=HP.out; have:=HQ.out; omega
     obtain ⟨b,off,h0,hb,hc⟩:=H.out.at' q hlt;simp at h0;obtain ⟨rfl,rfl⟩:=h0;obtain ⟨b',off',h1,_,hc'⟩:=H.out.at' (q+1) hlt1;simp at h1;obtain ⟨rfl,rfl⟩:=h1;have hx:=HR.out q;have hy:=HR.out (q+1);obtain ⟨x,hxe⟩:=av ((l.getD q 0).toNat)
     obtain ⟨y,hye⟩:=av ((l.getD (q+1) 0).toNat)
     rw [hxe] at hc hx;rw [hye] at hc' hy;rw [<-hB.cell (p:=⟨b0,qe+q,none⟩) hb] at hc;rw [<-hB.cell (p:=⟨b0,qe+(q+1),none⟩) hb] at hc';have hcv:Sem.run prog (convert 42 9 (Value.slice (some ⟨wr.heap.size,0,none⟩) 1 1)) (wr.alloc (.cells #[.int .u8 (16*(x:Int)+(y:Int))] 5)).drew = .ok (.string ⟨#[UInt8.ofNat (16*x+y)]⟩) (wr.alloc (.cells #[.int .u8 (16*(x:Int)+(y:Int))] 5)).drew :=
      jo (16*x+y) (16*x+y) (by omega) (by omega) wr.drew
     obtain ⟨S,hS⟩:=av (⟨(fD l false k).toArray⟩:aK)
     obtain ⟨C,hC⟩:=av (⟨#[UInt8.ofNat (16*x+y)]⟩:aK)
     have hSz:S.size<=100:=by
      rw [<-hS]; show (fD l false k).toArray.size<=100; have:=HQ.out; simp [fD]; omega
     have J4:C.size<=1:=by rw [<-hC]; exact aF
     have HN:Hid (S++C=⟨(fD l false (k+1)).toArray⟩):=hid (by
      rw [<-hS,<-hC,zM,oQ,HL.out,HP.out,<-HQ.out,show 1+(2*k+1)=q+1 by have:=HQ.out; omega,hxe,hye])
     rw [hC] at hcv;rw [hS];clear hxe hye hS hC;go_wp2_with fail
     go_region
     all_goals clear hcv
     all_goals go_wp2
     all_goals
      go_roundw
      case rel=>exact ⟨k+1,q+2,hid (by have:=HQ.out; omega),by omega,by go_num,by rw [HN.out],hB.drew.alloc hB.size _⟩
      case measure=>simp [intOf]; omega
    .have HE:Hid (k=l.length/2):=hid (by rw [HL.out]; have:=HP.out; have:=HQ.out; omega);go_wp2;go_ret;exact ⟨by rw [<-HE.out]; rfl,hB⟩
  .have hm2:uO l true=48+z:=by rw [hmk]; simp
   have hcv:=jo (48+(z:Int)) (uO l true) (by omega) (by omega);clear hmk hm2;go_enter func87,ntmps87;go_wp2;clear hcv;go_loopw [7,8] (λs i wr=>∃ k q:Nat,Hid (q=1+2*k)/\q<=n/\i = .int .i64 q/\s = .string ⟨(fD l true k).toArray⟩/\Below w.heap.size w wr) (λ_ i _=>n-(intOf i).toNat)
   case atStart=>exact ⟨0,1,hid rfl,by omega,rfl,rfl,aG.alloc aF _⟩
   case round =>
    obtain ⟨k,q,HQ,hq,rfl,rfl,hB⟩:=hrel;by_cases hlt:q<n
    .have hlt1:q+1<n:=by have:=HP.out; have:=HQ.out; omega
     obtain ⟨b,off,h0,hb,hc⟩:=H.out.at' q hlt;simp at h0;obtain ⟨rfl,rfl⟩:=h0;obtain ⟨b',off',h1,_,hc'⟩:=H.out.at' (q+1) hlt1;simp at h1;obtain ⟨rfl,rfl⟩:=h1;have hx:=HR.out q;have hy:=HR.out (q+1);obtain ⟨x,hxe⟩:=av ((l.getD q 0).toNat)
     obtain ⟨y,hye⟩:=av ((l.getD (q+1) 0).toNat)
     rw [hxe] at hc hx;rw [hye] at hc' hy;rw [<-hB.cell (p:=⟨b0,qe+q,none⟩) hb] at hc;rw [<-hB.cell (p:=⟨b0,qe+(q+1),none⟩) hb] at hc';have hcv:Sem.run prog (convert 42 9 (Value.slice (some ⟨wr.heap.size,0,none⟩) 1 1)) (wr.alloc (.cells #[.int .u8 (16*(x:Int)+(y:Int))] 5)).drew = .ok (.string ⟨#[UInt8.ofNat (16*x+y)]⟩) (wr.alloc (.cells #[.int .u8 (16*(x:Int)+(y:Int))] 5)).drew :=
      jo (16*x+y) (16*x+y) (by omega) (by omega) wr.drew
     obtain ⟨S,hS⟩:=av (⟨(fD l true k).toArray⟩:aK)
     obtain ⟨C,hC⟩:=av (⟨#[UInt8.ofNat (16*x+y)]⟩:aK)
     have hSz:S.size<=100:=by
      rw [<-hS]; show (fD l true k).toArray.size<=100; have:=HQ.out; simp [fD]; omega
     have J4:C.size<=1:=by rw [<-hC]; exact aF
     have HN:Hid (S++C=⟨(fD l true (k+1)).toArray⟩):=hid (by
      rw [<-hS,<-hC,zM,oQ,HL.out,HP.out,<-HQ.out,show 1+(2*k+1)=q+1 by have:=HQ.out; omega,hxe,hye])
     rw [hC] at hcv;rw [hS];clear hxe hye hS hC;go_wp2_with fail
     go_region
     all_goals clear hcv
     all_goals go_wp2
     all_goals
      go_roundw
      case rel=>exact ⟨k+1,q+2,hid (by have:=HQ.out; omega),by omega,by go_num,by rw [HN.out],hB.drew.alloc hB.size _⟩
      case measure=>simp [intOf]; omega
    .have HE:Hid (k=l.length/2):=hid (by rw [HL.out]; have:=HP.out; have:=HQ.out; omega);go_wp2;go_ret;exact ⟨by rw [<-HE.out]; rfl,hB⟩
 .have hp0:(n:Int)%2=0:=by omega
  have hpn:n%2=0:=by omega
  rw [if_neg hp,hpn] at hmk;have HP:=hid hpn;clear hp hpn;cases leaf
  .have hcv:=jo 0 (uO l false) (by rw [hmk]; decide) (by rw [hmk]; rfl);clear hmk;go_enter func87,ntmps87;go_wp2;clear hcv;go_loopw [7,8] (λs i wr=>∃ k q:Nat,Hid (q=0+2*k)/\q<=n/\i = .int .i64 q/\s = .string ⟨(fD l false k).toArray⟩/\Below w.heap.size w wr) (λ_ i _=>n-(intOf i).toNat)
   case atStart=>exact ⟨0,0,hid rfl,by omega,rfl,rfl,aG.alloc aF _⟩
   case round =>
    obtain ⟨k,q,HQ,hq,rfl,rfl,hB⟩:=hrel;by_cases hlt:q<n
    .have hlt1:q+1<n:=by have:=HP.out; have:=HQ.out; omega
     obtain ⟨b,off,rfl,hb,hc⟩:=H.out.at' q hlt;obtain ⟨b',off',h1,_,hc'⟩:=H.out.at' (q+1) hlt1;simp at h1;obtain ⟨rfl,rfl⟩:=h1;have hx:=HR.out q;have hy:=HR.out (q+1);obtain ⟨x,hxe⟩:=av ((l.getD q 0).toNat)
     obtain ⟨y,hye⟩:=av ((l.getD (q+1) 0).toNat)
     rw [hxe] at hc hx;rw [hye] at hc' hy;rw [<-hB.cell (p:=⟨b,off+q,none⟩) hb] at hc;rw [<-hB.cell (p:=⟨b,off+(q+1),none⟩) hb] at hc';have hcv:Sem.run prog (convert 42 9 (Value.slice (some ⟨wr.heap.size,0,none⟩) 1 1)) (wr.alloc (.cells #[.int .u8 (16*(x:Int)+(y:Int))] 5)).drew = .ok (.string ⟨#[UInt8.ofNat (16*x+y)]⟩) (wr.alloc (.cells #[.int .u8 (16*(x:Int)+(y:Int))] 5)).drew :=
      jo (16*x+y) (16*x+y) (by omega) (by omega) wr.drew
     obtain ⟨S,hS⟩:=av (⟨(fD l false k).toArray⟩:aK)
     obtain ⟨C,hC⟩:=av (⟨#[UInt8.ofNat (16*x+y)]⟩:aK)
     have hSz:S.size<=100:=by
      rw [<-hS]; show (fD l false k).toArray.size<=100; have:=HQ.out; simp [fD]; omega
     have J4:C.size<=1:=by rw [<-hC]; exact aF
     have HN:Hid (S++C=⟨(fD l false (k+1)).toArray⟩):=hid (by
      rw [<-hS,<-hC,zM,oQ,HL.out,HP.out,<-HQ.out,show 0+(2*k+1)=q+1 by have:=HQ.out; omega,hxe,hye])
     rw [hC] at hcv;rw [hS];clear hxe hye hS hC;go_wp2_with fail
     go_region
     all_goals clear hcv
     all_goals go_wp2
     all_goals
      go_roundw
      case rel=>exact ⟨k+1,q+2,hid (by have:=HQ.out; omega),by omega,by go_num,by rw [HN.out],hB.drew.alloc hB.size _⟩
      case measure=>simp [intOf]; omega
    .have HE:Hid (k=l.length/2):=hid (by rw [HL.out]; have:=HP.out; have:=HQ.out; omega);go_wp2;go_ret;exact ⟨by rw [<-HE.out]; rfl,hB⟩
  .have hcv:=jo 32 (uO l true) (by rw [hmk]; decide) (by rw [hmk]; rfl);clear hmk;go_enter func87,ntmps87;go_wp2;clear hcv;go_loopw [7,8] (λs i wr=>∃ k q:Nat,Hid (q=0+2*k)/\q<=n/\i = .int .i64 q/\s = .string ⟨(fD l true k).toArray⟩/\Below w.heap.size w wr) (λ_ i _=>n-(intOf i).toNat)
   case atStart=>exact ⟨0,0,hid rfl,by omega,rfl,rfl,aG.alloc aF _⟩
   case round =>
    obtain ⟨k,q,HQ,hq,rfl,rfl,hB⟩:=hrel;by_cases hlt:q<n
    .have hlt1:q+1<n:=by have:=HP.out; have:=HQ.out; omega
     obtain ⟨b,off,rfl,hb,hc⟩:=H.out.at' q hlt;obtain ⟨b',off',h1,_,hc'⟩:=H.out.at' (q+1) hlt1;simp at h1;obtain ⟨rfl,rfl⟩:=h1;have hx:=HR.out q;have hy:=HR.out (q+1);obtain ⟨x,hxe⟩:=av ((l.getD q 0).toNat)
     obtain ⟨y,hye⟩:=av ((l.getD (q+1) 0).toNat)
     rw [hxe] at hc hx;rw [hye] at hc' hy;rw [<-hB.cell (p:=⟨b,off+q,none⟩) hb] at hc;rw [<-hB.cell (p:=⟨b,off+(q+1),none⟩) hb] at hc';have hcv:Sem.run prog (convert 42 9 (Value.slice (some ⟨wr.heap.size,0,none⟩) 1 1)) (wr.alloc (.cells #[.int .u8 (16*(x:Int)+(y:Int))] 5)).drew = .ok (.string ⟨#[UInt8.ofNat (16*x+y)]⟩) (wr.alloc (.cells #[.int .u8 (16*(x:Int)+(y:Int))] 5)).drew :=
      jo (16*x+y) (16*x+y) (by omega) (by omega) wr.drew
     obtain ⟨S,hS⟩:=av (⟨(fD l true k).toArray⟩:aK)
     obtain ⟨C,hC⟩:=av (⟨#[UInt8.ofNat (16*x+y)]⟩:aK)
     have hSz:S.size<=100:=by
      rw [<-hS]; show (fD l true k).toArray.size<=100; have:=HQ.out; simp [fD]; omega
     have J4:C.size<=1:=by rw [<-hC]; exact aF
     have HN:Hid (S++C=⟨(fD l true (k+1)).toArray⟩):=hid (by
      rw [<-hS,<-hC,zM,oQ,HL.out,HP.out,<-HQ.out,show 0+(2*k+1)=q+1 by have:=HQ.out; omega,hxe,hye])
     rw [hC] at hcv;rw [hS];clear hxe hye hS hC;go_wp2_with fail
     go_region
     all_goals clear hcv
     all_goals go_wp2
     all_goals
      go_roundw
      case rel=>exact ⟨k+1,q+2,hid (by have:=HQ.out; omega),by omega,by go_num,by rw [HN.out],hB.drew.alloc hB.size _⟩
      case measure=>simp [intOf]; omega
    .have HE:Hid (k=l.length/2):=hid (by rw [HL.out]; have:=HP.out; have:=HQ.out; omega);go_wp2;go_ret;exact ⟨by rw [<-HE.out]; rfl,hB⟩
theorem yS (f:aL) (hf:dx f=true) (k j:Nat) (hj:j<k):((gy f k).getD j 0).toNat=16*(f.getD (2*j) 0).toNat+(f.getD (2*j+1) 0).toNat:=by
 have h1:=kI f hf (2*j);have h2:=kI f hf (2*j+1);have e:(gy f k).getD j 0=UInt8.ofNat (16*(f.getD (2*j) 0).toNat+(f.getD (2*j+1) 0).toNat):=by
  simp [gy,List.getD,hj]
 rw [e];simp only [UInt8.toNat_ofNat'];omega
theorem Er (f:aL) (hf:dx f=true) (k i:Nat) (hi:i<2*k):dX ⟨(gy f k).toArray⟩ i=(f.getD i 0).toNat:=by
 have h1:=kI f hf (2*(i/2));have h2:=kI f hf (2*(i/2)+1);have e:=yS f hf k (i/2) (by omega);unfold dX;show (if i%2=0 then ((gy f k).getD (i/2) 0).toNat/16 else ((gy f k).getD (i/2) 0).toNat%16)=_;rw [e];by_cases h:i%2=0
 .rw [if_pos h];have e2:2*(i/2)=i:=by omega
  rw [e2] at h1 h2 ⊢;omega
 .rw [if_neg h];have e2:2*(i/2)+1=i:=by omega
  rw [e2] at h2 ⊢;omega
theorem rY {a b:aL} (hl:a.length=b.length) (h:∀ i,i<a.length->(a.getD i 0).toNat=(b.getD i 0).toNat):a=b:=by
 apply List.ext_getElem hl;intro i h1 h2;have:=h i h1;simp only [List.getD,List.getElem?_eq_getElem h1,List.getElem?_eq_getElem h2,Option.getD_some] at this;exact UInt8.toNat_inj.1 this
theorem BF (f:aL) (hf:dx f=true) (k:Nat) (hk:f.length=2*k):ig ⟨(gy f k).toArray⟩=f:=by
 have hs:(⟨(gy f k).toArray⟩:aK).size=k:=by show (gy f k).toArray.size=k; simp [gy]
 apply rY
 .rw [gM,hs,hk]
 .intro i hi;rw [gM,hs] at hi;rw [lZ _ _ (by rw [hs]; exact hi),Er f hf k i hi]
theorem Cj (s:aK):gy (ig s) s.size=s.data.toList:=by
 apply rY
 .rw [mF]; simp
 .intro j hj;rw [mF] at hj;rw [yS _ (yH s) _ _ hj,lZ s _ (by omega),lZ s _ (by omega)];unfold dX;rw [if_pos (by omega),if_neg (by omega),show 2*j/2=j by omega,show (2*j+1)/2=j by omega];omega
theorem nS (l:aL) (leaf:Bool):(⟨(iA l leaf).toArray⟩:aK).size=l.length/2+1:=by
 show (iA l leaf).toArray.size=_;simp [iA,gy]
theorem QA (l:aL) (leaf:Bool) (hr:dx l=true):ig ⟨(iA l leaf).toArray⟩=jm l leaf :=
 BF _ (sw l leaf hr) _ (rD l leaf)
theorem qE (l:aL) (leaf:Bool) (hr:dx l=true) (i:Nat) (hi:i<2):dX ⟨(iA l leaf).toArray⟩ i=((jm l leaf).getD i 0).toNat :=
 Er _ (sw l leaf hr) _ _ (by omega)
theorem PI (l:aL) (leaf:Bool) (hr:dx l=true) (hl:l.length<=64):¬ Bad ⟨(iA l leaf).toArray⟩:=by
 unfold Bad;rw [qE l leaf hr 0 (by omega),qE l leaf hr 1 (by omega),Ez,Ur,nS];unfold gZ;cases leaf <;> simp only [if_true,if_false,Bool.false_eq_true] <;> split <;> omega
theorem NW (l:aL) (leaf:Bool) (hr:dx l=true):qc ⟨(iA l leaf).toArray⟩=leaf:=by
 unfold qc;rw [qE l leaf hr 0 (by omega),Ez];unfold gZ;cases leaf <;> simp <;> omega
theorem QW (l:aL) (leaf:Bool) (hr:dx l=true):nu ⟨(iA l leaf).toArray⟩=l:=by
 unfold nu;rw [qE l leaf hr 0 (by omega),Ez,QA l leaf hr];have hm:gZ l.length leaf%2=l.length%2:=by unfold gZ; cases leaf <;> simp
 rw [hm];unfold jm;by_cases h:l.length%2=1
 .rw [if_pos h,h];cases l with
  | nil=>simp at h
  | cons x r=>simp
 .rw [if_neg h,show l.length%2=0 by omega];simp
theorem iJ (s:aK):(nu s).length=2*s.size-(2-dX s 0%2):=by
 unfold nu; rw [List.length_drop,gM]
theorem WS (s:aK) (hb:¬ Bad s):(nu s).length<=64:=by
 rw [iJ]; unfold Bad at hb; omega
end Ni
end
section
open Go.RowKit
namespace No
open Rl Ni
def mV (x:It):Option aK:=if x.l then (if x.bytes.length<32 then some ⟨x.bytes.toArray⟩ else none) else (if dB x.s then some x.s else none)
def ou:List It->Option (List aK)
 | []=>some []
 | x::xs=>match mV x with
  | none=>none
  | some k=>match ou xs with
   | none=>none
   | some ks=>some (k::ks)
def dI (k:aK):List aK:=k::List.replicate 15 eB
instance (s : aK) : Decidable (Bad s) := by unfold Bad; infer_instance
def iW (x0 x1:It):Option Nd :=
 if x0.s.size=0\/Bad x0.s then none else
 if qc x0.s then some ⟨1,nu x0.s,x1.s,zks⟩ else (mV x1).map λk=>⟨2,nu x0.s,eB,dI k⟩
def dK (xs:List It):Option Nd :=
 match ou (xs.take 16) with
 | none=>none
 | some ks=>if (xs.getD 16 it0).l=false/\(xs.getD 16 it0).s.size=0 then some ⟨3,[],eB,ks⟩ else none
def eT (xs:List It):Option Nd:=if xs.length=2 then iW (xs.getD 0 it0) (xs.getD 1 it0) else if xs.length=17 then dK xs else none
def lI (R:aK->Bool) (n:Nd):Bool :=
 if n.kd=1 then decide (n.v.size≠0)&&decide (n.v.size<=65552)&&decide ((bJ n.ks).length=0) else
 if n.kd=2 then decide (0<n.p.length)&&decide (n.v.size=0)&&decide ((bJ n.ks).length=1)&&decide ((n.ks.getD 0 eB).size≠0)&&R (n.ks.getD 0 eB) else
 if n.kd=3 then decide (n.p.length=0)&&decide (n.v.size=0)&&decide (2<=(bJ n.ks).length)&&(bJ n.ks).all R else false
def fG (R:aK->Bool) (n:Nd):Bool:=decide (n.p.length<=64)&&dx n.p&&lI R n
theorem GJ {R R':aK->Bool} {n:Nd} (h:∀ k∈n.ks,R k=R' k) (hl:n.ks.length=16):lI R n=lI R' n:=by
 unfold lI;have h0:R (n.ks.getD 0 eB)=R' (n.ks.getD 0 eB):=by
  apply h;rw [List.getD_eq_getElem?_getD,List.getElem?_eq_getElem (by omega)];exact List.getElem_mem _
 have h1:(bJ n.ks).all R=(bJ n.ks).all R':=by
  rw [Bool.eq_iff_iff,List.all_eq_true,List.all_eq_true];constructor
  .intro g k hk; rw [<-h k (List.mem_filter.1 hk).1]; exact g k hk
  .intro g k hk; rw [h k (List.mem_filter.1 hk).1]; exact g k hk
 rw [h0,h1]
theorem JU {R R':aK->Bool} {n:Nd} (h:∀ k∈n.ks,R k=R' k) (hl:n.ks.length=16):fG R n=fG R' n:=by
 unfold fG;rw [GJ h hl]
def vW (s:aL):Option Nd :=
 match iy s with
 | .error _=>none
 | .ok x=>match eT x.xs with
  | none=>none
  | some n=>if fG (λk=>dB k||(if _h:k.size<32/\k.size<s.length then (vW k.data.toList).isSome else false)) n then some n else none
termination_by s.length
decreasing_by
 rw [jg];exact _h.2
def bP (k:aK):Bool:=dB k||(decide (k.size<32)&&(vW k.data.toList).isSome)
theorem oH {s:aL} {x:It} (hs:s.length<=4294967296) (h:iy s = .ok x):x.bytes=s/\Fits 0 x/\x.size<=4096:=by
 unfold iy at h;cases hr:fE s 0 0 with
 | error c=>rw [hr] at h; cases h
 | ok q =>
  obtain ⟨y,n,k⟩:=q;rw [hr] at h;dsimp only at h;by_cases hn:n<s.length
  .rw [if_pos hn] at h; cases h
  .rw [if_neg hn] at h;obtain rfl:=iY h;obtain ⟨g1,g2,g3⟩:=(back s.length hs).1 _ _ _ _ _ _ aF hr;obtain ⟨p1,p2,p3,p4⟩:=(props s.length).1 _ _ _ _ _ _ aF hr;refine ⟨?_,g2,by omega⟩;rw [g1,List.take_of_length_le (by omega)]
theorem Ca {xs:List It} {x:It} (h:x∈xs):x.bytes.length<=((xs.map It.bytes).flatten).length:=by
 induction xs with
 | nil=>cases h
 | cons y ys ih =>
  rw [List.map_cons,List.flatten_cons,List.length_append];rcases List.mem_cons.1 h with rfl | h
  .omega
  .have:=ih h; omega
theorem xU {d:Nat} {x:It} (h:Fits d x) (hb:x.bytes.length<=4294967296):x.l=true->x.bytes.length=(jK ((x.xs.map It.bytes).flatten).length true).length+((x.xs.map It.bytes).flatten).length:=by
 intro hl;cases h with
 | mk ha hs hx hy =>
  rename_i l s xs;obtain rfl:l=true:=hl;obtain rfl:=hs rfl;have hi:=lF (.mk true ⟨#[]⟩ xs);rw [inner_mk] at hi;rw [jB xs (Nat.le_trans hi hb),List.length_append];rfl
theorem BJ {d:Nat} {x:It} (h:Fits d x) (hx:x.xs≠[]):x.l=true:=by
 cases h with
 | mk ha hs hx' hy =>
  rename_i l s xs;cases l with
  | true=>rfl
  | false=>exact absurd (hx' rfl) hx
theorem zG {x y:It} (h:Fits d x) (hb:x.bytes.length<=4294967296) (hy:y∈x.xs):y.bytes.length<x.bytes.length:=by
 have hl:=BJ h (by intro e; rw [e] at hy; cases hy);have h1:=xU h hb hl;have h2:=Ca hy;have h3:=iQ ((x.xs.map It.bytes).flatten).length true;omega
theorem Ng {d:Nat} {x y:It} (h:Fits d x) (hy:y∈x.xs):Fits (d+1) y:=by
 cases h with
 | mk ha hs hx h=>exact h y hy
theorem Dt {x:It} {k:aK} (h:mV x=some k):dB k=true\/k.size=x.bytes.length/\k.size<32:=by
 unfold mV at h;split at h
 .split at h
  .rename_i h1;obtain rfl:=Option.some.inj h;exact .inr ⟨fA _,by rw [fA]; exact h1⟩
  .cases h
 .split at h
  .rename_i h1;obtain rfl:=Option.some.inj h;exact .inl h1
  .cases h
theorem GV:∀ {xs:List It} {ks:List aK},ou xs=some ks->ks.length=xs.length/\∀ k∈ks,∃ x∈xs,mV x=some k
 | [],ks,h=>by
  obtain rfl:=Option.some.inj h;exact ⟨rfl,λk hk=>by cases hk⟩
 | x::xs,ks,h=>by
  unfold ou at h;split at h
  .cases h
  .rename_i k hk;split at h
   .cases h
   .rename_i ks' hks;obtain rfl:=Option.some.inj h;obtain ⟨h1,h2⟩:=GV hks;refine ⟨by simp [h1],λj hj=>?_⟩;rcases List.mem_cons.1 hj with rfl | hj
    .exact ⟨x,List.mem_cons_self ..,hk⟩
    .obtain ⟨y,hy,e⟩:=h2 j hj;exact ⟨y,List.mem_cons_of_mem _ hy,e⟩
theorem wE:dB eB=true:=aI (.inl rfl)
theorem fM (k:aK):(dI k).length=16:=by simp [dI]
theorem xS {xs:List It} (h:i<xs.length):xs.getD i it0∈xs:=by
 rw [List.getD_eq_getElem?_getD,List.getElem?_eq_getElem h];exact List.getElem_mem _
theorem KF {xs:List It} {n:Nd} (h:eT xs=some n):n.ks.length=16/\∀ k∈n.ks,dB k=true\/∃ x∈xs,mV x=some k:=by
 have hz:∀ k∈zks,dB k=true:=λk hk=>by
  rw [List.eq_of_mem_replicate hk]; exact wE
 unfold eT at h;by_cases h2:xs.length=2
 .rw [if_pos h2] at h;unfold iW at h;split at h
  .cases h
  .split at h
   .obtain rfl:=Option.some.inj h;exact ⟨rfl,λk hk=>.inl (hz k hk)⟩
   .obtain ⟨k,hk,rfl⟩:=Option.map_eq_some_iff.1 h;refine ⟨fM k,λj hj=>?_⟩;rcases List.mem_cons.1 hj with rfl | hj
    .exact .inr ⟨_,xS (by omega),hk⟩
    .rw [List.eq_of_mem_replicate hj]; exact .inl wE
 .rw [if_neg h2] at h;by_cases ij:xs.length=17
  .rw [if_pos ij] at h;unfold dK at h;split at h
   .cases h
   .rename_i ks hks;split at h
    .obtain rfl:=Option.some.inj h;obtain ⟨g1,g2⟩:=GV hks;refine ⟨by rw [g1,List.length_take]; omega,λk hk=>?_⟩;obtain ⟨x,hx,e⟩:=g2 k hk;exact .inr ⟨x,List.mem_of_mem_take hx,e⟩
    .cases h
  .rw [if_neg ij] at h; cases h
theorem Gt {s:aL} {x:It} {n:Nd} (hs:s.length<=4294967296) (h:iy s = .ok x) (hn:eT x.xs=some n):n.ks.length=16/\∀ k∈n.ks,dB k=true\/(k.size<32/\k.size<s.length):=by
 obtain ⟨g1,g2,g3⟩:=oH hs h;obtain ⟨h1,h2⟩:=KF hn;refine ⟨h1,λk hk=>?_⟩;rcases h2 k hk with hp | ⟨y,hy,e⟩
 .exact .inl hp
 .rcases Dt e with hp | ⟨e1,e2⟩
  .exact .inl hp
  .have:=zG g2 (by rw [g1]; exact hs) hy;rw [g1] at this;exact .inr ⟨e2,by omega⟩
theorem FJ (s:aL) (hs:s.length<=4294967296):vW s=match iy s with
  | .error _=>none
  | .ok x=>match eT x.xs with
   | none=>none
   | some n=>if fG bP n then some n else none:=by
 rw [vW];cases hw:iy s with
 | error c=>rfl
 | ok x =>
  dsimp only;cases hn:eT x.xs with
  | none=>rfl
  | some n =>
   dsimp only;obtain ⟨h1,h2⟩:=Gt hs hw hn;rw [JU (R':=bP) (λk hk=>?_) h1];unfold bP;rcases h2 k hk with hp | hb
   .rw [hp]; rfl
   .rw [dif_pos hb];simp [hb.1]
theorem Dj {s:aL} (hs:s.length<=4294967296) {n:Nd} (h:vW s=some n):∃ x,iy s = .ok x/\eT x.xs=some n/\fG bP n=true:=by
 rw [FJ s hs] at h;split at h
 .cases h
 .rename_i x hw;split at h
  .cases h
  .rename_i m hm;split at h
   .rename_i hmay;obtain rfl:=Option.some.inj h;exact ⟨x,hw,hm,hmay⟩
   .cases h
end No
end
section
open Go.RowKit
namespace Rf
open Rl Ni No
theorem lJ {k:aK} (h:dB k=true):k.size=0\/k.size=32:=of_decide_eq_true h
def zZ (k:aK):Nat:=if k.size<32 then k.size else 0
theorem QL {k:aK} (h:dB k=true):zZ k=0:=by
 unfold zZ;have:=lJ h;split <;> omega
theorem Nq {x:It} {k:aK} (h:mV x=some k):zZ k<=x.bytes.length:=by
 rcases Dt h with hp | ⟨h1,h2⟩
 .rw [QL hp]; omega
 .unfold zZ; rw [if_pos h2]; omega
theorem JA:∀ {xs:List It} {ks:List aK},ou xs=some ks->(ks.map zZ).sum<=((xs.map It.bytes).flatten).length
 | [],ks,h=>by
  obtain rfl:=Option.some.inj h;simp
 | x::xs,ks,h=>by
  unfold ou at h;split at h
  .cases h
  .rename_i k hk;split at h
   .cases h
   .rename_i ks' hks;obtain rfl:=Option.some.inj h;have h1:=JA hks;have h2:=Nq hk;rw [List.map_cons,List.sum_cons,List.map_cons,List.flatten_cons,List.length_append];omega
theorem oo:∀ (m:Nat),((List.replicate m eB).map zZ).sum=0
 | 0=>rfl
 | m+1=>by rw [List.replicate_succ,List.map_cons,List.sum_cons,oo m]; rfl
theorem OT (xs:List It) (q:Nat):(((xs.take q).map It.bytes).flatten).length<=((xs.map It.bytes).flatten).length:=by
 have h:(xs.map It.bytes).flatten=((xs.take q).map It.bytes).flatten++((xs.drop q).map It.bytes).flatten:=by
  rw [<-List.flatten_append,<-List.map_append,List.take_append_drop]
 rw [h,List.length_append];omega
theorem Ot {xs:List It} {n:Nd} (h:eT xs=some n):(n.ks.map zZ).sum<=((xs.map It.bytes).flatten).length:=by
 unfold eT at h;by_cases h2:xs.length=2
 .rw [if_pos h2] at h;unfold iW at h;split at h
  .cases h
  .split at h
   .obtain rfl:=Option.some.inj h;have:(zks.map zZ).sum=0:=oo 16;show (zks.map zZ).sum<=_;omega
   .obtain ⟨k,hk,rfl⟩:=Option.map_eq_some_iff.1 h;have h1:=Nq hk;have h3:=Ca (xS (xs:=xs) (i:=1) (by omega));show ((k::List.replicate 15 eB).map zZ).sum<=_;rw [List.map_cons,List.sum_cons,oo];omega
 .rw [if_neg h2] at h;by_cases ij:xs.length=17
  .rw [if_pos ij] at h;unfold dK at h;split at h
   .cases h
   .rename_i ks hks;split at h
    .obtain rfl:=Option.some.inj h;exact Nat.le_trans (JA hks) (OT xs 16)
    .cases h
  .rw [if_neg ij] at h; cases h
theorem Ov {xs:List It} {n:Nd} (h:eT xs=some n):xs≠[]:=by
 rintro rfl;unfold eT at h;rw [if_neg (by decide),if_neg (by decide)] at h;cases h
theorem WV {s:aL} (hs:s.length<=4294967296) {n:Nd} (h:vW s=some n):(n.ks.map zZ).sum+1<=s.length:=by
 obtain ⟨x,h1,h2,h3⟩:=Dj hs h;obtain ⟨g1,g2,g3⟩:=oH hs h1;have hl:=BJ g2 (Ov h2);have hb:=xU g2 (by rw [g1]; exact hs) hl;have ho:=Ot h2;have hh:=iQ ((x.xs.map It.bytes).flatten).length true;rw [g1] at hb;omega
end Rf
end
namespace Sh
def uP (x:Nat):Nat:=x/2+x%2*2147483648
def bg:Nat->Nat->Nat
 | x,0=>x
 | x,n+1=>bg (uP x) n
theorem Rw (x:Nat) (h:x<4294967296):uP x<4294967296:=by unfold uP; omega
theorem bG:∀ (n x:Nat),x<4294967296->bg x n<4294967296
 | 0,_,h=>h
 | n+1,x,h=>bG n _ (Rw x h)
theorem vk:∀ (n x:Nat),bg x (n+1)=uP (bg x n)
 | 0,_=>rfl
 | n+1,x=>by
  show bg (uP x) (n+1)=uP (bg (uP x) n);exact vk n (uP x)
theorem Gx:∀ (n x:Nat),x<4294967296->n<=32->bg x n=x/2 ^ n+x%2 ^ n*2 ^ (32-n)
 | 0,x,_,_=>by simp [bg,Nat.mod_one]
 | n+1,x,h,hn=>by
  rw [vk,Gx n x h (by omega)];unfold uP;have e1:2 ^ (32-n)=2*2 ^ (32-(n+1)):=by rw [<-Nat.pow_succ']; congr 1; omega
  have e2:(2:Nat) ^ (n+1)=2 ^ n*2:=Nat.pow_succ ..
  have e3:(2:Nat) ^ n*2 ^ (32-(n+1))=2147483648:=by
   rw [<-Nat.pow_add,show n+(32-(n+1))=31 by omega]
  have hp:0<2 ^ n:=Nat.pow_pos (by omega);generalize 2 ^ (32-(n+1))=A at *
  generalize 2 ^ n=B at *
  rw [e1,e2,<-Nat.div_div_eq_div_mul,Nat.mod_mul];generalize hq:x/B=q;generalize x%B=r;have h1:r*(2*A)=2*(r*A):=by rw [Nat.mul_left_comm]
  have h2:(r+B*(q%2))*A=r*A+q%2*2147483648:=by
   rw [Nat.add_mul,<-e3,Nat.mul_assoc,Nat.mul_left_comm (q%2) B A]
  rw [h1,h2];generalize r*A=z;omega
def fV:Nat->Nat->Nat
 | x,0=>x
 | x,n+1=>fV (x/2) n
theorem lK:∀ (n x:Nat),fV x n=x/2 ^ n
 | 0,x=>by simp [fV]
 | n+1,x=>by
  show fV (x/2) n=_;rw [lK n,Nat.div_div_eq_div_mul,Nat.pow_succ']
theorem yI:∀ (n x:Nat),fV x (n+1)=fV x n/2
 | 0,_=>rfl
 | n+1,x=>by
  show fV (x/2) (n+1)=fV (x/2) n/2;exact yI n (x/2)
def He:List Nat:=[
 1116352408,1899447441,3049323471,3921009573,961987163,1508970993,2453635748,2870763221,
 3624381080,310598401,607225278,1426881987,1925078388,2162078206,2614888103,3248222580,
 3835390401,4022224774,264347078,604807628,770255983,1249150122,1555081692,1996064986,
 2554220882,2821834349,2952996808,3210313671,3336571891,3584528711,113926993,338241895,
 666307205,773529912,1294757372,1396182291,1695183700,1986661051,2177026350,2456956037,
 2730485921,2820302411,3259730800,3345764771,3516065817,3600352804,4094571909,275423344,
 430227734,506948616,659060556,883997877,958139571,1322822218,1537002063,1747873779,
 1955562222,2024104815,2227730452,2361852424,2428436474,2756734187,3204031479,3329325298]
def kN (i:Nat):Nat:=He.getD i 0
end Sh
section
open Go.RowKit
namespace Sh
theorem WE {a b:Int} (h:a=b):Ending.returned (.int .u64 a) = .returned (.int .u64 b):=by rw [h]
theorem pJ (x:Nat) (hx:x<18446744073709551616) (w:World) :
  Calls prog 117 #[.int .u64 x] w λe w'=>e = .returned (.int .u64 (x%4294967296:Nat))/\w=w':=by
 go_enter func117,ntmps117;go_wp2;go_ret;exact ⟨WE (by omega),rfl⟩
theorem kT (x n:Nat) (hx:x<4294967296) (hn:n<=1000) (w:World) :
  Calls prog 115 #[.int .u64 x,.int .i64 n] w λe w'=>e = .returned (.int .u64 (bg x n:Nat))/\w=w':=by
 have HT:=hid (λk=>bG k x hx);have HS:=hid (λk=>vk k x);clear hx;go_enter func115,ntmps115;go_wp2;go_loop [0,5] (λv i=>∃ k:Nat,k<=n/\i = .int .i64 k/\v = .int .u64 (bg x k:Nat)) (λ_ i=>n-(intOf i).toNat)
 case atStart=>exact ⟨0,Nat.zero_le _,rfl,rfl⟩
 case round =>
  obtain ⟨k,hk,rfl,rfl⟩:=hrel;have hy:=HT.out k;have hs:=HS.out k;obtain ⟨y,hye⟩:=av (bg x k)
  rw [hye] at hy hs ⊢;have HY:=hid hs;have HE:=hid hye;clear hs hye;by_cases hlt:k<n
  .go_wp2;go_round
   case rel=>exact ⟨k+1,by omega,by go_num,by rw [HY.out]; unfold uP; go_num⟩
   case measure=>simp [intOf]; omega
  .obtain rfl:k=n:=by omega
   go_wp2;go_ret;exact ⟨by rw [HE.out]; rfl,rfl⟩
theorem Df (x n:Nat) (hx:x<4294967296) (hn:n<=1000) (w:World) :
  Calls prog 116 #[.int .u64 x,.int .i64 n] w λe w'=>e = .returned (.int .u64 (fV x n:Nat))/\w=w':=by
 have HT:Hid (∀ k,fV x k<4294967296):=hid (λk=>by rw [lK]; exact Nat.lt_of_le_of_lt (Nat.div_le_self _ _) hx);have HS:=hid (λk=>yI k x);clear hx;go_enter func116,ntmps116;go_wp2;go_loop [0,5] (λv i=>∃ k:Nat,k<=n/\i = .int .i64 k/\v = .int .u64 (fV x k:Nat)) (λ_ i=>n-(intOf i).toNat)
 case atStart=>exact ⟨0,Nat.zero_le _,rfl,rfl⟩
 case round =>
  obtain ⟨k,hk,rfl,rfl⟩:=hrel;have hy:=HT.out k;have hs:=HS.out k;obtain ⟨y,hye⟩:=av (fV x k)
  rw [hye] at hy hs ⊢;have HY:=hid hs;have HE:=hid hye;clear hs hye;by_cases hlt:k<n
  .go_wp2;go_round
   case rel=>exact ⟨k+1,by omega,by go_num,by rw [HY.out]; go_num⟩
   case measure=>simp [intOf]; omega
  .obtain rfl:k=n:=by omega
   go_wp2;go_ret;exact ⟨by rw [HE.out]; rfl,rfl⟩
theorem xH (x n:Nat) (N:Int) (hN:N=n) (hx:x<4294967296) (hn:n<=1000) (w:World) :
  Calls prog 115 #[.int .u64 x,.int .i64 N] w λe w'=>e = .returned (.int .u64 (bg x n:Nat))/\w=w':=by
 subst hN; exact kT x n hx hn w
theorem gU {w:World} {rest:List Oper} {a:Act} (hgd:o.guard=none) (v:Value) (w':World)
  (hr:(execOp a.eval o).run P w = .ok (.value v) w') (h:wpList P ops Q rest (a.put o.dst v) w'):wpList P ops Q (o::rest) a w :=
 wpList_plain hgd λK hK=>by
  unfold Oper.wp;rw [hr];exact hK _ _ h
def wc (l:List Nat):aM:=(l.map λ(x:Nat)=>Value.int .u64 (x:Int)).toArray
theorem Nf (w:World) (l:List Nat) (t:TypeId) (i:Nat) (hi:i<l.length):(w.alloc (.cells (wc l) t)).cell? ⟨w.heap.size,i,none⟩=some (.int .u64 (l.getD i 0:Nat)):=by
 rw [World.cell?_alloc_mark];simp [wc,List.getD,hi]
theorem YI:He.length=64:=by decide +kernel
theorem YW (i:Nat) (hi:i<64) (w:World) :
  Calls prog 118 #[.int .i64 i] w λe w'=>e = .returned (.int .u64 (kN i:Nat))/\Below w.heap.size w w':=by
 have hc:=Nf w He 145 i (by rw [YI]; exact hi);obtain ⟨y,hy⟩:=av (kN i)
 have hy2:He.getD i 0=y:=hy;rw [hy2] at hc;rw [hy];clear hy hy2;go_enter func118,ntmps118;go_wp2_with (refine gU (o:=⟨some 4,_,_,_,_,_⟩) rfl (.slice (some ⟨w.heap.size,0,none⟩) 64 64) (w.alloc (.cells (wc He) 145)) (by kernel_rfl) ?_)
 go_ret;exact ⟨rfl,aG.alloc aF _⟩
end Sh
end
namespace Sh
def je (g:Nat->Nat) (i:Nat):Nat->Nat
 | 0=>0
 | j+1=>256*je g i j+g (4*i+j)
theorem Bl (g:Nat->Nat) (hg:∀ q,g q<256) (i:Nat):∀ j,je g i j<256 ^ j
 | 0=>by simp [je]
 | j+1=>by
  have:=Bl g hg i j;have:=hg (4*i+j);rw [je,Nat.pow_succ];omega
def sg0 (x:Nat):Nat:=bg x 7 ^^^ bg x 18 ^^^ fV x 3
def sg1 (x:Nat):Nat:=bg x 17 ^^^ bg x 19 ^^^ fV x 10
def zm (g:Nat->Nat) (l:List Nat) (k:Nat):Nat :=
 if k<16 then je g k 4 else (l.getD (k-16) 0+sg0 (l.getD (k-15) 0)+l.getD (k-7) 0+sg1 (l.getD (k-2) 0))%4294967296
def jR (g:Nat->Nat):Nat->List Nat
 | 0=>[]
 | k+1=>jR g k++[zm g (jR g k) k]
theorem iO (g:Nat->Nat):∀ k,(jR g k).length=k
 | 0=>rfl
 | k+1=>by rw [jR,List.length_append,iO g k]; rfl
theorem SE (g:Nat->Nat) (hg:∀ q,g q<256) (l:List Nat) (k:Nat):zm g l k<4294967296:=by
 unfold zm;split
 .exact Bl g hg k 4
 .exact Nat.mod_lt _ (by omega)
theorem vU (g:Nat->Nat) (hg:∀ q,g q<256):∀ k,∀ x∈jR g k,x<4294967296
 | 0,x,h=>by cases h
 | k+1,x,h=>by
  rw [jR] at h;rcases List.mem_append.1 h with h | h
  .exact vU g hg k x h
  .rw [List.mem_singleton.1 h]; exact SE g hg _ _
theorem getD_lt {l:List Nat} (h:∀ x∈l,x<4294967296) (j:Nat):l.getD j 0<4294967296:=by
 by_cases hj:j<l.length
 .rw [List.getD,List.getElem?_eq_getElem hj]; exact h _ (List.getElem_mem hj)
 .rw [List.getD,List.getElem?_eq_none (by omega)]; decide
theorem zI {a b c:Nat} (ha:a<4294967296) (hb:b<4294967296) (hc:c<4294967296):a ^^^ b ^^^ c<4294967296 :=
 Nat.xor_lt_two_pow (n:=32) (Nat.xor_lt_two_pow (n:=32) ha hb) hc
theorem DW (x n:Nat) (h:x<4294967296):fV x n<4294967296:=by rw [lK]; exact Nat.lt_of_le_of_lt (Nat.div_le_self _ _) h
theorem Tn (x:Nat) (h:x<4294967296):sg0 x<4294967296:=zI (bG _ _ h) (bG _ _ h) (DW _ _ h)
theorem Vs (x:Nat) (h:x<4294967296):sg1 x<4294967296:=zI (bG _ _ h) (bG _ _ h) (DW _ _ h)
theorem YK (k:Nat):kN k<4294967296:=getD_lt (by decide +kernel) k
def bs1 (e:Nat):Nat:=bg e 6 ^^^ bg e 11 ^^^ bg e 25
def bs0 (a:Nat):Nat:=bg a 2 ^^^ bg a 13 ^^^ bg a 22
def yX (e f g:Nat):Nat:=(e &&& f) ||| ((4294967295-e) &&& g)
def BR (a b c:Nat):Nat:=(a &&& b) ||| (a &&& c) ||| (b &&& c)
theorem Sv (x:Nat) (h:x<4294967296):bs1 x<4294967296:=zI (bG _ _ h) (bG _ _ h) (bG _ _ h)
theorem Uu (x:Nat) (h:x<4294967296):bs0 x<4294967296:=zI (bG _ _ h) (bG _ _ h) (bG _ _ h)
theorem Jv (e f g:Nat) (he:e<4294967296):yX e f g<4294967296 :=
 Nat.or_lt_two_pow (n:=32) (Nat.lt_of_le_of_lt Nat.and_le_left he) (Nat.lt_of_le_of_lt Nat.and_le_left (by omega))
theorem Ia (a b c:Nat) (ha:a<4294967296) (hb:b<4294967296):BR a b c<4294967296 :=
 Nat.or_lt_two_pow (n:=32) (Nat.or_lt_two_pow (n:=32) (Nat.lt_of_le_of_lt Nat.and_le_left ha) (Nat.lt_of_le_of_lt Nat.and_le_left ha)) (Nat.lt_of_le_of_lt Nat.and_le_left hb)
def xN (k w e f g h:Nat):Nat:=(h+bs1 e+yX e f g+k+w)%4294967296
def yN (a b c:Nat):Nat:=(bs0 a+BR a b c)%4294967296
def sP (k w:Nat) (v:List Nat):List Nat :=
 [(xN k w (v.getD 4 0) (v.getD 5 0) (v.getD 6 0) (v.getD 7 0)+yN (v.getD 0 0) (v.getD 1 0) (v.getD 2 0))%4294967296,v.getD 0 0,v.getD 1 0,v.getD 2 0,
  (v.getD 3 0+xN k w (v.getD 4 0) (v.getD 5 0) (v.getD 6 0) (v.getD 7 0))%4294967296,v.getD 4 0,v.getD 5 0,v.getD 6 0]
def rR (ws:List Nat) (h:List Nat):Nat->List Nat
 | 0=>h
 | k+1=>sP (kN k) (ws.getD k 0) (rR ws h k)
theorem yZ (ws h:List Nat) (hh:h.length=8):∀ k,(rR ws h k).length=8
 | 0=>hh
 | _+1=>rfl
theorem wK (ws h:List Nat) (hh:∀ x∈h,x<4294967296):∀ k,∀ x∈rR ws h k,x<4294967296
 | 0=>hh
 | k+1=>by
  have ih:=λj=>getD_lt (wK ws h hh k) j;intro x hx;simp only [rR,sP,List.mem_cons,List.not_mem_nil,or_false] at hx;rcases hx with rfl | rfl | rfl | rfl | rfl | rfl | rfl | rfl <;> first | exact ih _ | exact Nat.mod_lt _ (by omega)
def vT (h v:List Nat) (k:Nat):List Nat:=(List.range k).map λi=>(h.getD i 0+v.getD i 0)%4294967296
def kU (g:Nat->Nat) (h:List Nat):List Nat:=vT h (rR (jR g 64) h 64) 8
theorem Oz (h v:List Nat) (k:Nat):vT h v (k+1)=vT h v k++[(h.getD k 0+v.getD k 0)%4294967296]:=by simp [vT,List.range_succ]
theorem yE (h v:List Nat) (k:Nat):(vT h v k).length=k:=by simp [vT]
theorem Nz (h v:List Nat) (k:Nat):∀ x∈vT h v k,x<4294967296:=by
 intro x hx;simp only [vT,List.mem_map] at hx;obtain ⟨_,_,rfl⟩:=hx;exact Nat.mod_lt _ (by omega)
def vB (h v:List Nat) (j:Nat):List Nat:=(List.range 8).map λi=>if i<j then (h.getD i 0+v.getD i 0)%4294967296 else h.getD i 0
theorem pI (h v:List Nat) (j:Nat):(vB h v j).length=8:=by simp [vB]
theorem PN (h v:List Nat) (hh:h.length=8):vB h v 0=h:=by
 apply List.ext_getElem
 .rw [pI,hh]
 .intro i h1 h2;simp [vB,List.getD,h2]
theorem Rs (h v:List Nat):vB h v 8=vT h v 8:=by
 unfold vB vT;apply List.map_congr_left;intro i hi;rw [if_pos (List.mem_range.1 hi)]
theorem PL (h v:List Nat) (j:Nat) (hj:j<8):(vB h v j).getD j 0=h.getD j 0:=by simp [vB,List.getD,hj]
theorem Vt (h v:List Nat) (j:Nat) (hj:j<8):(vB h v j).set j ((h.getD j 0+v.getD j 0)%4294967296)=vB h v (j+1):=by
 apply List.ext_getElem
 .simp [pI]
 .intro i h1 h2;rw [pI] at h2;by_cases e:i=j
  .subst e; simp [vB]
  .rw [List.getElem_set_ne (by omega)];have:i<j+1↔i<j:=by omega
   simp [vB,this]
theorem eight (l:List Nat) (h:l.length=8):∃ x0 x1 x2 x3 x4 x5 x6 x7,l=[x0,x1,x2,x3,x4,x5,x6,x7]:=by
 match l,h with
 | [x0,x1,x2,x3,x4,x5,x6,x7],_=>exact ⟨_,_,_,_,_,_,_,_,rfl⟩
def gV (n:Nat):Nat:=(119-n%64)%64
def nk (l:aL) (k:Nat):aL:=l++[128]++List.replicate k 0
def beK (N k:Nat):aL:=((List.range k).map λj=>UInt8.ofNat (N/256 ^ j%256)).reverse
def iL (l:aL):aL:=nk l (gV l.length)++beK (8*l.length) 8
theorem JX (l:aL) (k:Nat):nk l (k+1)=nk l k++[0]:=by
 simp [nk,List.replicate_succ']
theorem qG (l:aL) (k:Nat):(nk l k).length=l.length+1+k:=by simp [nk]; omega
theorem Uq (N k:Nat):beK N (k+1)=[UInt8.ofNat (N/256 ^ k%256)]++beK N k:=by
 simp [beK,List.range_succ]
theorem vv (N k:Nat):(beK N k).length=k:=by simp [beK]
theorem wV (l:aL):(iL l).length=l.length+9+gV l.length:=by simp [iL,qG,vv]; omega
theorem DU (l:aL):(iL l).length%64=0:=by rw [wV]; unfold gV; omega
def start:List Nat:=[1779033703,3144134277,1013904242,2773480762,1359893119,2600822924,528734635,1541459225]
def pq (t:aL) (k q:Nat):Nat:=(t.getD (64*k+q) 0).toNat
def oG (t:aL):Nat->List Nat
 | 0=>start
 | k+1=>kU (pq t k) (oG t k)
def mP (t:aL) (h:List Nat):Nat->List Nat
 | 0=>h
 | k+1=>kU (pq t k) (mP t h k)
theorem BG (t:aL):∀ k,mP t start k=oG t k
 | 0=>rfl
 | k+1=>by rw [mP,oG,BG t k]
theorem yO (t:aL) (h:List Nat) (hh:h.length=8):∀ k,(mP t h k).length=8
 | 0=>hh
 | _+1=>yE _ _ _
theorem NC (t:aL) (h:List Nat) (hh:∀ x∈h,x<4294967296):∀ k,∀ x∈mP t h k,x<4294967296
 | 0=>hh
 | _+1=>Nz _ _ _
theorem yL {g g':Nat->Nat} (i:Nat):∀ j,(∀ q,q<4*i+j->g q=g' q)->je g i j=je g' i j
 | 0,_=>rfl
 | j+1,h=>by rw [je,je,yL i j (λq hq=>h q (by omega)),h _ (by omega)]
theorem AL {g g':Nat->Nat} (h:∀ q,q<64->g q=g' q):∀ k,jR g k=jR g' k
 | 0=>rfl
 | k+1=>by
  rw [jR,jR,AL h k];congr 2;unfold zm;split
  .exact yL k 4 (λq hq=>h q (by omega))
  .rfl
theorem qU {g g':Nat->Nat} (h:∀ q,q<64->g q=g' q) (hs:List Nat):kU g hs=kU g' hs:=by
 unfold kU;rw [AL h]
theorem Dp (t u:aL) (a:Nat) (ht:t.length=64*a) (h:List Nat):∀ b,mP (t++u) h (a+b)=mP u (mP t h a) b
 | 0=>by
  have:∀ k,k<=a->mP (t++u) h k=mP t h k:=by
   intro k
   induction k with
   | zero=>intro _; rfl
   | succ k ih =>
    intro hk;rw [mP,mP,ih (by omega)];refine qU (λq hq=>?_) _;unfold pq;rw [List.getD,List.getD,List.getElem?_append_left (by omega)]
  exact this a aF
 | b+1=>by
  show mP (t++u) h (a+b+1)=_;rw [mP,mP,Dp t u a ht h b];refine qU (λq _=>?_) _;unfold pq;rw [List.getD,List.getD,List.getElem?_append_right (by omega),ht,show 64*(a+b)+q-64*a=64*b+q by omega]
theorem vY (t:aL):∀ k,(oG t k).length=8
 | 0=>rfl
 | _+1=>yE _ _ _
theorem Iu (t:aL):∀ k,∀ x∈oG t k,x<4294967296
 | 0=>by show ∀ x∈start,x<4294967296; decide
 | _+1=>Nz _ _ _
def ng (s:aK) (q:Nat):Nat:=(s.data.toList.getD q 0).toNat
theorem CW (s:aK) (q:Nat):ng s q<256:=UInt8.toNat_lt _
theorem Dz (s:aK) (q:Nat) (h:q<s.size):s[q].toNat=ng s q:=by
 have hl:q<s.data.toList.length:=by simpa using h
 unfold ng;rw [List.getD,List.getElem?_eq_getElem hl]; rfl
def uV (h:List Nat) (i:Nat):Nat:=h.getD (i/4) 0/256 ^ (3-i%4)%256
def uW (h:List Nat) (k:Nat):aL:=(List.range k).map λi=>UInt8.ofNat (uV h i)
theorem PU (h:List Nat) (k:Nat):uW h (k+1)=uW h k++[UInt8.ofNat (uV h k)]:=by simp [uW,List.range_succ]
theorem ze (h:List Nat) (k:Nat):(uW h k).length=k:=by simp [uW]
def EL (l:aL):aL:=uW (oG (iL l) ((iL l).length/64)) 32
theorem sM (l:aL):(EL l).length=32:=ze _ _
end Sh
section
open Go.RowKit
namespace Sh
theorem jo (v:Int) (x:Nat) (hx:x<256) (hv:v=x) (w:World) :
  Sem.run prog (convert 42 9 (Value.slice (some ⟨w.heap.size,0,none⟩) 1 1)) (w.alloc (.cells #[.int .u8 v] 5)) = .ok (.string ⟨#[UInt8.ofNat x]⟩) (w.alloc (.cells #[.int .u8 v] 5)):=by
 subst hv;have h:=run_convert_bytes_back (P:=prog) (w.alloc (.cells #[.int .u8 x] 5)) 42 9 5 ⟨w.heap.size,0,none⟩ 1 [UInt8.ofNat x] underlying42 underlying5 underlying9
  (λj hj=>by
   obtain rfl:j=0:=by simpa using hj
   have e:(UInt8.ofNat x).toNat=x:=by simp; omega
   simp [Addr.add,e])
 exact h
theorem BX (x y:aL):(⟨x.toArray⟩:aK)++⟨y.toArray⟩=⟨(x++y).toArray⟩:=by
 have h:((⟨x.toArray⟩:aK)++⟨y.toArray⟩).data=(x++y).toArray:=by
  rw [ByteArray.data_append]; simp
 cases e:((⟨x.toArray⟩:aK)++⟨y.toArray⟩) with
 | mk d=>rw [e] at h; simp only at h; rw [h]
theorem fA (x:aL):(⟨x.toArray⟩:aK).size=x.length:=by show x.toArray.size=_; simp
theorem UQ (l:aL) (hl:l.length<=1000000) (w:World) :
  Calls prog 84 #[.string ⟨l.toArray⟩] w λe w'=>e = .returned (.string ⟨(iL l).toArray⟩)/\Below w.heap.size w w':=by
 obtain ⟨s,hs⟩:=av (⟨l.toArray⟩:aK)
 have hsz:s.size=l.length:=by rw [<-hs,fA]
 have HST:Hid (s++⟨#[128]⟩=⟨(nk l 0).toArray⟩):=hid (by rw [<-hs]; exact (BX l [128]).trans (by simp [nk]));have hle:s.size<=1000000:=by omega
 rw [hs];have HZ:=hid hsz;clear hs hsz;go_enter func84,ntmps84;go_wp2;go_loop [3] (λt=>∃ k:Nat,Hid (k<=gV l.length)/\t = .string ⟨(nk l k).toArray⟩) (λt=>match t with | .string b=>1100000-b.size | _=>0)
 case atStart=>exact ⟨0,hid (Nat.zero_le _),by rw [HST.out]⟩
 case round =>
  obtain ⟨k,HK,rfl⟩:=hrel;have hz:gV l.length<64:=Nat.mod_lt _ (by omega);have hk:=HK.out;have hsz:(⟨(nk l k).toArray⟩:aK).size=l.length+1+k:=by rw [fA,qG]
  have HN:Hid ((⟨(nk l k).toArray⟩:aK)++⟨#[0]⟩=⟨(nk l (k+1)).toArray⟩):=hid (by rw [JX]; exact BX _ [0]);have HZ2:Hid ((⟨(nk l (k+1)).toArray⟩:aK).size=l.length+1+(k+1)):=hid (by rw [fA,qG]);by_cases hlt:k<gV l.length
  .have hne:(((l.length+1+k:Nat):Int)%64 != 56)=true:=by
    unfold gV at hlt; simp; omega
   obtain ⟨T,hT⟩:=av (⟨(nk l k).toArray⟩:aK)
   obtain ⟨L,hL⟩:=av (l.length+1+k)
   rw [hT] at hsz HN ⊢;rw [hL] at hsz hne;have dm:L<=1000100:=by have:=HZ.out; omega
   have HL:=hid hL;have DB:=hid hlt;clear hT hL hk hlt hz;go_wp2;go_round
   case rel=>exact ⟨k+1,hid (by have:=DB.out; omega),by rw [HN.out]⟩
   case measure =>
    show 1100000-(T++⟨#[0]⟩:aK).size<1100000-T.size;rw [HN.out,HZ2.out,hsz];have:=HL.out;omega
  .have hkz:k=gV l.length:=by omega
   have hne:(((l.length+1+k:Nat):Int)%64 != 56)=false:=by
    rw [hkz]; unfold gV; simp; omega
   obtain ⟨T,hT⟩:=av (⟨(nk l k).toArray⟩:aK)
   obtain ⟨L,hL⟩:=av (l.length+1+k)
   have HT:Hid (T++⟨(beK (8*l.length) 8).toArray⟩=⟨(iL l).toArray⟩):=hid (by
    rw [<-hT,BX,hkz]; rfl)
   rw [hT] at hsz ⊢;rw [hL] at hsz hne;have dm:L<=1000100:=by have:=HZ.out; omega
   clear hT hL hk hlt hz HN HZ2 hkz HK HST;go_wp2;go_loopw [4,5,6] (λn d i wr=>∃ j:Nat,j<=8/\i = .int .i64 j/\n = .int .u64 (8*s.size/256 ^ j:Nat)/\d = .string ⟨(beK (8*s.size) j).toArray⟩/\Below w.heap.size w wr) (λ_ _ i _=>8-(intOf i).toNat)
   case atStart=>exact ⟨0,Nat.zero_le _,rfl,by simp,rfl,aG⟩
   case round =>
    obtain ⟨j,hj,rfl,rfl,rfl,hB⟩:=hrel;obtain ⟨m,hm⟩:=av (8*s.size/256 ^ j)
    have WP:m<18446744073709551616:=by
     rw [<-hm]; exact Nat.lt_of_le_of_lt (Nat.div_le_self _ _) (by omega)
    have HD:Hid (8*s.size/256 ^ (j+1)=m/256):=hid (by rw [Nat.pow_succ,<-Nat.div_div_eq_div_mul,hm]);have HS:Hid ((⟨#[UInt8.ofNat (m%256)]⟩:aK)++⟨(beK (8*s.size) j).toArray⟩=⟨(beK (8*s.size) (j+1)).toArray⟩):=hid (by
     rw [Uq,hm]; exact BX [_] _)
    have X0:(⟨(beK (8*s.size) j).toArray⟩:aK).size<=8:=by rw [fA,vv]; exact hj
    obtain ⟨E,hE⟩:=av (⟨(beK (8*s.size) j).toArray⟩:aK)
    obtain ⟨C,hC⟩:=av (⟨#[UInt8.ofNat (m%256)]⟩:aK)
    have hCs:C.size<=1:=by rw [<-hC]; exact aF
    have hcv:=jo ((m:Int)%256) (m%256) (by omega) (by omega) wr;rw [hC] at hcv HS;rw [hE] at HS X0;rw [hm,hE];have HE:=hid hE;clear hm hE hC;by_cases hlt:j<8
    .go_wp2;go_roundw
     case rel=>exact ⟨j+1,by omega,by go_num,by rw [HD.out]; go_num,by rw [HS.out],hB.alloc hB.size _⟩
     case measure=>simp [intOf]; omega
    .obtain rfl:j=8:=by omega
     have HF:Hid (T++E=⟨(iL l).toArray⟩):=hid (by rw [<-HT.out,<-HE.out,HZ.out]);clear hcv;go_wp2;go_ret;exact ⟨by rw [<-HF.out]; rfl,hB⟩
end Sh
end
end Go.Proofs.YtlcplcgigjagpaaGreatDoor
