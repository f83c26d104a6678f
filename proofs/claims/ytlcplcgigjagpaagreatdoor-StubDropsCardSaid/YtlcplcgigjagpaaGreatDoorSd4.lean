/-
 The contract of nib.Unpack.
-/
import Derived.Test.YtlcplcgigjagpaaGreatDoorSd3
open Go.Lib (hid)
open Go.Proofs.Tryz
set_option linter.unusedSimpArgs false
set_option linter.unusedVariables false
set_option maxHeartbeats 40000000
set_option maxRecDepth 100000
namespace Go.Proofs.YtlcplcgigjagpaaGreatDoor
variable {B d i q:Nat} {t:TypeId} {v:Value} {ev:Operand->Value} {o:Oper} {P:Program} {ops:Array Oper} {Q:Exit->Act->World->Prop}
section
open Go.RowKit
namespace Ni
theorem IL (c:Nat) (s:aK) (hs:s.size<=maxLen) (hi:0<s.size) (w:World) (hc:w.cell? ⟨c,0,none⟩=some (.string s)) :
  Calls prog 133 #[.int .i64 0,.pointer (some ⟨c,0,none⟩)] w λe w'=>e = .returned (.int .u8 (eF s 0:Nat))/\w=w' :=
 qc c s 0 hs hi w hc
theorem GH (c:Nat) (s:aK) (hs:s.size<=maxLen) (hi:0<s.size) (w:World) (hc:w.cell? ⟨c,0,none⟩=some (.string s)) :
  Calls prog 133 #[.int .i64 1,.pointer (some ⟨c,0,none⟩)] w λe w'=>e = .returned (.int .u8 (eF s 1:Nat))/\w=w' :=
 qc c s 1 hs hi w hc
theorem Zz:∀ x:Fin 16,bits .and .u8 ((x:Nat):Int) 1=(((x:Nat)%2:Nat):Int):=by decide +kernel
theorem Zh:∀ x:Fin 16,bits .and .u8 ((x:Nat):Int) 2=((2*((x:Nat)/2%2):Nat):Int):=by decide +kernel
theorem and1 (x:Nat) (h:x<16):bits .and .u8 (x:Int) 1=((x%2:Nat):Int):=Zz ⟨x,h⟩
theorem ZJ (x:Nat) (h:x<16):bits .and .u8 (x:Int) 2=((2*(x/2%2):Nat):Int):=Zh ⟨x,h⟩
def Bad (s:aK):Prop:=(eF s 0%2=0/\(33<s.size\/3<eF s 0\/eF s 1≠0))\/(eF s 0%2=1/\(32<s.size\/3<eF s 0))
def qo (s:aK):Bool:=decide (eF s 0/2%2=1)
def nK (s:aK):aL:=(iB s).drop (2-eF s 0%2)
theorem Ll (w:World) :
  Calls prog 198 #[.string ByteArray.empty] w λe w'=>e = .returned (.tuple #[.slice none 0 0,.bool false,.int .i64 5])/\w=w':=by
 go_enter func198,ntmps198;go_wp2;go_ret3
 exact ⟨rfl,rfl⟩
theorem dz {s:aK} (h:0<s.size):s.toList.isEmpty=false:=by
 rw [ByteArray.toList_eq];cases hd:s.data.toList with
 | nil =>
  have h1:s.data.toList.length=0:=by rw [hd]; rfl
  have h2:s.data.toList.length=s.size:=by simp
  omega
 | cons=>rfl
theorem Ko (s:aK) (h0:0<s.size) (hs:s.size<=1000000) (hb:Bad s) (w:World) :
  Calls prog 198 #[.string s] w λe w'=>e = .returned (.tuple #[.slice none 0 0,.bool false,.int .i64 6])/\Below w.heap.size w w':=by
 have hmax:s.size<=maxLen:=by unfold maxLen; omega
 have HC:Hid (∀ wx:World,(wx.alloc (.cells #[.string s] 9)).cell? ⟨wx.heap.size,0,none⟩=some (.string s)):=hid (λwx=>by simp);have hne:=dz h0;have hx16:=xH s 0;have hand:=and1 (eF s 0) hx16;have T0:=hid (λc wx hc=>IL c s hmax h0 wx hc);have T1:=hid (λc wx hc=>GH c s hmax h0 wx hc);unfold Bad at hb;obtain ⟨x,hx⟩:=av (eF s 0)
 obtain ⟨y,hy⟩:=av (eF s 1)
 rw [hx] at hb hand hx16;rw [hy] at hb;simp only [hx] at T0;simp only [hy] at T1;clear hx hy hmax;rcases hb with ⟨hp,hb⟩ | ⟨hp,hb⟩
 .have hand0:bits .and .u8 (x:Int) 1=0:=by rw [hand,hp]; rfl
  clear hand hp;by_cases hb1:33<s.size
  .clear hb;go_enter func198,ntmps198;go_wp2_with fail
   refine (fZ _ _).mono ?_;rintro e w1 ⟨rfl,rfl⟩;go_wp2_with fail
   refine (T0.out _ _ (HC.out _)).mono ?_;rintro e w2 ⟨rfl,rfl⟩;go_wp2;go_ret3
   exact ⟨rfl,aG.alloc aF _⟩
  .by_cases hb2:3<x
   .clear hb;go_enter func198,ntmps198;go_wp2_with fail
    refine (fZ _ _).mono ?_;rintro e w1 ⟨rfl,rfl⟩;go_wp2_with fail
    refine (T0.out _ _ (HC.out _)).mono ?_;rintro e w2 ⟨rfl,rfl⟩;go_wp2;go_ret3
    exact ⟨rfl,aG.alloc aF _⟩
   .have hb3:((y:Int) != 0)=true:=by simp; omega
    clear hb;go_enter func198,ntmps198;go_wp2_with fail
    refine (fZ _ _).mono ?_;rintro e w1 ⟨rfl,rfl⟩;go_wp2_with fail
    refine (T0.out _ _ (HC.out _)).mono ?_;rintro e w2 ⟨rfl,rfl⟩;go_wp2_with fail
    refine (T1.out _ _ (HC.out _)).mono ?_;rintro e w2 ⟨rfl,rfl⟩;go_wp2;go_ret3
    exact ⟨rfl,aG.alloc aF _⟩
 .have hand0:bits .and .u8 (x:Int) 1=1:=by rw [hand,hp]; rfl
  clear hand hp;by_cases hb1:32<s.size
  .clear hb;go_enter func198,ntmps198;go_wp2_with fail
   refine (fZ _ _).mono ?_;rintro e w1 ⟨rfl,rfl⟩;go_wp2_with fail
   refine (T0.out _ _ (HC.out _)).mono ?_;rintro e w2 ⟨rfl,rfl⟩;go_wp2;go_ret3
   exact ⟨rfl,aG.alloc aF _⟩
  .have hb2:3<x:=by omega
   clear hb;go_enter func198,ntmps198;go_wp2_with fail
   refine (fZ _ _).mono ?_;rintro e w1 ⟨rfl,rfl⟩;go_wp2_with fail
   refine (T0.out _ _ (HC.out _)).mono ?_;rintro e w2 ⟨rfl,rfl⟩;go_wp2;go_ret3
   exact ⟨rfl,aG.alloc aF _⟩
theorem zI (s:aK):dA (iB s)=true:=by
 unfold dA iB;rw [List.all_eq_true];intro x hx;simp only [List.mem_map,List.mem_range] at hx;obtain ⟨i,_,rfl⟩:=hx;have:=xH s i;simp only [UInt8.toNat_ofNat',decide_eq_true_eq]; omega
theorem UJ (s:aK) (a:aJ) (n cap:Nat) (w:World) (h:bA w a n cap (iB s)) (k:Nat) (hk:k<=n) (ki:Int) (hki:ki=k) :
  Calls prog 146 #[.slice a n cap,.int .i64 ki,.int .i64 n] w λe w'=>∃ a' n' c',e = .returned (.slice a' n' c')/\bA w a' n' c' ((iB s).drop k)/\w=w':=by
 subst hki;refine (Yf a n cap (iB s) k n hk aF w h).mono ?_;rintro e w' ⟨a',c',rfl,⟨hx,_⟩,rfl⟩;have e:((iB s).drop k).take (n-k)=(iB s).drop k:=List.take_of_length_le (by rw [List.length_drop,h.len]; exact aF);rw [e] at hx;exact ⟨a',_,c',rfl,hx,rfl⟩
def Unp (w:World) (s:aK) (e:Ending) (w':World):Prop :=
 ∃ a n cap,e = .returned (.tuple #[.slice a n cap,.bool (qo s),.int .i64 0])/\bA w' a n cap (nK s)/\Below w.heap.size w w'
theorem OX (s:aK) (h0:0<s.size) (hb:¬ Bad s) (w:World) :
  Calls prog 198 #[.string s] w (Unp w s):=by
 have hx16:=xH s 0;have X1:s.size<=33:=by unfold Bad at hb; omega
 have hmax:s.size<=maxLen:=by unfold maxLen; omega
 have HC:Hid (∀ wx:World,(wx.alloc (.cells #[.string s] 9)).cell? ⟨wx.heap.size,0,none⟩=some (.string s)):=hid (λwx=>by simp);have hne:=dz h0;have hand:=and1 (eF s 0) hx16;have hand2:=ZJ (eF s 0) hx16;have T0:=hid (λc wx hc=>IL c s hmax h0 wx hc);have T1:=hid (λc wx hc=>GH c s hmax h0 wx hc);have SP:=hid (λwx=>Bp s (by omega) wx);have CP:=hid (UJ s);have hlen:=gQ s;have hlf:qo s=decide (eF s 0/2%2=1):=rfl;have hpl:nK s=(iB s).drop (2-eF s 0%2):=rfl;unfold Bad at hb;obtain ⟨x,hx⟩:=av (eF s 0)
 obtain ⟨y,hy⟩:=av (eF s 1)
 rw [hx] at hb hand hx16 hand2 hlf hpl;rw [hy] at hb;simp only [hx] at T0;simp only [hy] at T1;clear hx hy hmax;have HL:=hid hlen;have hx3:x<=3:=by omega
 by_cases hp:x%2=0
 .have hy0:y=0:=by omega
  subst hy0;have hand0:bits .and .u8 (x:Int) 1=0:=by rw [hand,hp]; rfl
  have HP:Hid (nK s=(iB s).drop 2):=hid (by rw [hpl,hp]);clear hand hpl hb hp hlen;by_cases hl:x/2%2=1
  .have hl2:bits .and .u8 (x:Int) 2=2:=by rw [hand2,hl]; rfl
   have mB:Hid (qo s=true):=hid (by rw [hlf]; exact aI hl);clear hand2 hl hlf;go_enter func198,ntmps198;go_wp2_with fail
   refine (fZ _ _).mono ?_;rintro e w1 ⟨rfl,rfl⟩;go_wp2_with fail
   refine (T0.out _ _ (HC.out _)).mono ?_;rintro e w2 ⟨rfl,rfl⟩;go_wp2_with fail
   refine (T1.out _ _ (HC.out _)).mono ?_;rintro e w2 ⟨rfl,rfl⟩;go_wp2_with fail
   refine (SP.out _).mono ?_;rintro e w3 ⟨a,n,cap,rfl,hx,hb3⟩;have hn2:2<=n:=by have:=hx.len; rw [HL.out] at this; omega
   have HX:=hid hx;clear hx;go_wp2_with fail
   refine (CP.out a n cap _ HX.out 2 (by omega) 2 rfl).mono ?_;rintro e w4 ⟨a4,n4,c4,rfl,hx4,rfl⟩;have df:=hid hx4;clear hx4;go_wp2;go_ret3
   exact ⟨a4,n4,c4,by rw [mB.out]; rfl,by rw [HP.out]; exact df.out,((Below.refl w.heap.size w).alloc aF _).trans (hb3.mono (by simp))⟩
  .have hl2:bits .and .u8 (x:Int) 2=0:=by rw [hand2,show x/2%2=0 by omega]; rfl
   have mB:Hid (qo s=false):=hid (by rw [hlf]; exact decide_eq_false hl);clear hand2 hl hlf;go_enter func198,ntmps198;go_wp2_with fail
   refine (fZ _ _).mono ?_;rintro e w1 ⟨rfl,rfl⟩;go_wp2_with fail
   refine (T0.out _ _ (HC.out _)).mono ?_;rintro e w2 ⟨rfl,rfl⟩;go_wp2_with fail
   refine (T1.out _ _ (HC.out _)).mono ?_;rintro e w2 ⟨rfl,rfl⟩;go_wp2_with fail
   refine (SP.out _).mono ?_;rintro e w3 ⟨a,n,cap,rfl,hx,hb3⟩;have hn2:2<=n:=by have:=hx.len; rw [HL.out] at this; omega
   have HX:=hid hx;clear hx;go_wp2_with fail
   refine (CP.out a n cap _ HX.out 2 (by omega) 2 rfl).mono ?_;rintro e w4 ⟨a4,n4,c4,rfl,hx4,rfl⟩;have df:=hid hx4;clear hx4;go_wp2;go_ret3
   exact ⟨a4,n4,c4,by rw [mB.out]; rfl,by rw [HP.out]; exact df.out,((Below.refl w.heap.size w).alloc aF _).trans (hb3.mono (by simp))⟩
 .have hp1:x%2=1:=by omega
  have X2:s.size<=32:=by omega
  have hand0:bits .and .u8 (x:Int) 1=1:=by rw [hand,hp1]; rfl
  have HP:Hid (nK s=(iB s).drop 1):=hid (by rw [hpl,hp1]);clear hand hpl hb hp hp1 hlen T1;by_cases hl:x/2%2=1
  .have hl2:bits .and .u8 (x:Int) 2=2:=by rw [hand2,hl]; rfl
   have mB:Hid (qo s=true):=hid (by rw [hlf]; exact aI hl);clear hand2 hl hlf;go_enter func198,ntmps198;go_wp2_with fail
   refine (fZ _ _).mono ?_;rintro e w1 ⟨rfl,rfl⟩;go_wp2_with fail
   refine (T0.out _ _ (HC.out _)).mono ?_;rintro e w2 ⟨rfl,rfl⟩;go_wp2_with fail
   refine (SP.out _).mono ?_;rintro e w3 ⟨a,n,cap,rfl,hx,hb3⟩;have hn2:2<=n:=by have:=hx.len; rw [HL.out] at this; omega
   have HX:=hid hx;clear hx;go_wp2_with fail
   refine (CP.out a n cap _ HX.out 1 (by omega) 1 rfl).mono ?_;rintro e w4 ⟨a4,n4,c4,rfl,hx4,rfl⟩;have df:=hid hx4;clear hx4;go_wp2;go_ret3
   exact ⟨a4,n4,c4,by rw [mB.out]; rfl,by rw [HP.out]; exact df.out,((Below.refl w.heap.size w).alloc aF _).trans (hb3.mono (by simp))⟩
  .have hl2:bits .and .u8 (x:Int) 2=0:=by rw [hand2,show x/2%2=0 by omega]; rfl
   have mB:Hid (qo s=false):=hid (by rw [hlf]; exact decide_eq_false hl);clear hand2 hl hlf;go_enter func198,ntmps198;go_wp2_with fail
   refine (fZ _ _).mono ?_;rintro e w1 ⟨rfl,rfl⟩;go_wp2_with fail
   refine (T0.out _ _ (HC.out _)).mono ?_;rintro e w2 ⟨rfl,rfl⟩;go_wp2_with fail
   refine (SP.out _).mono ?_;rintro e w3 ⟨a,n,cap,rfl,hx,hb3⟩;have hn2:2<=n:=by have:=hx.len; rw [HL.out] at this; omega
   have HX:=hid hx;clear hx;go_wp2_with fail
   refine (CP.out a n cap _ HX.out 1 (by omega) 1 rfl).mono ?_;rintro e w4 ⟨a4,n4,c4,rfl,hx4,rfl⟩;have df:=hid hx4;clear hx4;go_wp2;go_ret3
   exact ⟨a4,n4,c4,by rw [mB.out]; rfl,by rw [HP.out]; exact df.out,((Below.refl w.heap.size w).alloc aF _).trans (hb3.mono (by simp))⟩
end Ni
end
section
open Go.RowKit
namespace No
def dF (s:aK):Bool:=decide (s.size=0\/s.size=32)
theorem dU {s:aK} (h:s.size=0):s=eB:=by
 cases s with
 | mk d =>
  have:d = #[]:=Array.eq_empty_of_size_eq_zero h;rw [this]
theorem yS (s:aK) (w:World):Calls prog 131 #[.string s] w λe w'=>e = .returned (.bool (dF s))/\w=w':=by
 by_cases h0:s.size=0
 .obtain rfl:=dU h0;go_enter func131,ntmps131;go_wp2;go_ret;exact ⟨rfl,rfl⟩
 .have hne:=Ni.dz (s:=s) (by omega);by_cases h32:s.size=32
  .have hq:((s.size:Int)==32)=true:=by simp; omega
   have HP:Hid (dF s=true):=hid (by simp [dF,h32]);rw [HP.out];go_enter func131,ntmps131;go_wp2;go_ret;exact ⟨rfl,rfl⟩
  .have hq:((s.size:Int)==32)=false:=by simp; omega
   have HP:Hid (dF s=false):=hid (by simp [dF,h32,h0]);rw [HP.out];go_enter func131,ntmps131;go_wp2;go_ret;exact ⟨rfl,rfl⟩
theorem Yn (w:World):(binOp .eql 42 (.slice none 0 0) (.slice none 0 0)).run prog w = .ok (.bool true) w:=by kernel_rfl
theorem VU (a:Addr) (n cap:Nat) (w:World):(binOp .eql 42 (.slice (some a) n cap) (.slice none 0 0)).run prog w = .ok (.bool false) w:=by kernel_rfl
def KQ (w:World) (l:aL) (e:Ending) (w':World):Prop:=∃ a n cap,e = .returned (.slice a n cap)/\BsF w.heap.size w' a n cap l/\Below w.heap.size w w'
theorem Uo {w:World} {n:Nat} {l:aL} (h:w.ownsRow B t 1 v n (l.map λx=>Value.int .u8 x.toNat)):∃ a cap,v = .slice a n cap/\BsF B w a n cap l:=by
 obtain ⟨a,cap,rfl,hB⟩:=bA.rT h;refine ⟨a,cap,rfl,hB,λad e=>?_⟩;subst e;rcases h.2 with ⟨e,_⟩ | ⟨g,cap',cur,e,hbg,_⟩
 .cases e
 .cases e;exact hbg
theorem vN (a:aJ) (n cap:Nat) (l:aL) (hn:n<=1000000) (w:World) (h:bA w a n cap l) :
  Calls prog 112 #[.slice a n cap] w (KQ w l):=by
 cases a with
 | none =>
  obtain ⟨rfl,rfl,rfl⟩:=h.EW;have hnil:=Yn;go_enter func112,ntmps112;go_wp2;go_ret;exact ⟨none,0,0,rfl,BsF.nil _ _,aG⟩
 | some ad =>
  obtain ⟨i0,hi,hz0,hz1,hz2⟩:=info_parts Cc.mK;have HI:Hid (_/\_/\_/\_):=hid ⟨hi,hz0,hz1,hz2⟩;have HC:=hid (Cc.Bw h ad rfl);have HL:=hid h.len;have HH:=hid h;have hnil:=VU ad n cap;have HO:Hid ((w.alloc (.cells #[] 5)).ownsRow w.heap.size 5 1 (.slice (some ⟨w.heap.size,0,none⟩) 0 0) 0 []):=hid (World.ownsRow_made w #[] 0 aF (Nat.zero_le _) (by simp));clear h hi hz0 hz1 hz2;go_enter func112,ntmps112
  go_wp2_with (at_builtin; refine wpList_append_own _ rfl _ _ 42 rfl w.heap.size 5 i0 (.int .u8 0) 1 1 underlying42 HI.out.1 HI.out.2.1 HI.out.2.2.1 HI.out.2.2.2 rfl (by decide) _ _ _ rfl HO.out ad n cap (l.map λx=>Value.int .u8 x.toNat) rfl (by simp [HL.out]) ?c2 ?c6 ?c3 ?c4 ?c5 ?_)
  case c2 =>
   intro j u hu;have hj:j<n:=by rw [<-HL.out]; have:=(List.getElem?_eq_some_iff.1 hu).1; simpa using this
   obtain ⟨b,off,e,hb,_⟩:=HH.out.at' j hj;obtain rfl:=Option.some.inj e;rw [(al1 w _).cell (by rw [Addr.add_mid]; exact hb)];exact HC.out j u hu
  case c6 =>
   intro u hu;simp at hu;obtain ⟨x,_,rfl⟩:=hu;rfl
  case c3=>unfold maxLen; omega
  case c4=>omega
  case c5=>simp
  intro v' w2 hown2 hgrow hnil';have HG:Hid (∃ a c,v' = .slice a n c/\BsF w.heap.size w2 a n c l):=hid (by
   have:=Uo (l:=l) (v:=v') (n:=n) (by simpa using hown2);exact this)
  have HB:Hid (Below w.heap.size w w2):=hid ((al1 w _).grown hgrow (by simp) (λk hk=>by simp [Value.ownBlock] at hk; omega));clear hown2 hgrow hnil';go_wp2;go_ret;obtain ⟨a',c',e,hB⟩:=HG.out;exact ⟨a',n,c',by rw [e]; rfl,hB,HB.out⟩
theorem oG (a:aJ) (n cap:Nat) (l:aL) (hn:n<=1000000) (v:aK) (w:World) (h:bA w a n cap l) :
  Calls prog 73 #[.slice a n cap,.string v] w (Ju w ⟨1,l,v,zks⟩):=by
 obtain ⟨w2,hw2⟩:=au (w.alloc (.cells (ndC nd0 none 0 0) 56))
 have HC:=hid (vN a n cap l hn w2 (by rw [hw2]; exact h.alloc _));have HO:Hid (dQ w2 w.heap.size nd0 none 0 0):=hid (by rw [hw2]; exact Rg.Own.new _ _ _);have HB:Hid (Below w.heap.size w w2):=hid (by rw [hw2]; exact al1 _ _);clear h;subst hw2;go_enter func73,ntmps73;go_wp2_with (refine ay (aX _ _ _ w.heap.size rfl rfl) ?_)
 refine HC.out.mono ?_;rintro e w3 ⟨a3,n3,c3,rfl,hB3,hb3⟩;have am:=hid (HO.out.below hb3);have HB3:=hid (bst HB.out hb3);have HI3:=hid hB3;clear hB3 hb3 HO HC;go_wp2_with (first
  | (refine ay (bK (qU a3 n3 c3 l v) ?_) ?_; · exact ⟨_,rfl,rfl⟩)
  | (refine bG am.out rfl ⟨1,l,v,zks⟩ a3 n3 c3 rfl rfl _ _ rfl rfl rfl rfl ?_))
 exact bodyPost_ret (vH rfl _ rfl (dD am.out) rfl) rfl ⟨a3,n3,c3,rfl,(HI3.out.row (by simp) _).weak (by simp),rfl,bU HB3.out aF _⟩
theorem Nv (a:aJ) (n cap:Nat) (l:aL) (hn:n<=1000000) (v:aK) (w:World) (h:bA w a n cap l) :
  Calls prog 74 #[.slice a n cap,.string v] w (Ju w ⟨2,l,eB,v::List.replicate 15 eB⟩):=by
 obtain ⟨w2,hw2⟩:=au (w.alloc (.cells (ndC nd0 none 0 0) 56))
 have HC:=hid (vN a n cap l hn w2 (by rw [hw2]; exact h.alloc _));have HO:Hid (dQ w2 w.heap.size nd0 none 0 0):=hid (by rw [hw2]; exact Rg.Own.new _ _ _);have HB:Hid (Below w.heap.size w w2):=hid (by rw [hw2]; exact al1 _ _);clear h;subst hw2;go_enter func74,ntmps74;go_wp2_with (refine ay (aX _ _ _ w.heap.size rfl rfl) ?_)
 refine HC.out.mono ?_;rintro e w3 ⟨a3,n3,c3,rfl,hB3,hb3⟩;have am:=hid (HO.out.below hb3);have HB3:=hid (bst HB.out hb3);have HI3:=hid hB3;clear hB3 hb3 HO HC;go_wp2_with (first
  | (refine ay (bK (OD v) ?_) ?_; · exact ⟨_,rfl,rfl⟩)
  | (refine ay (bK (yF 2 a3 n3 c3 l (v::List.replicate 15 eB) rfl) ?_) ?_; · exact ⟨_,rfl,rfl⟩)
  | (refine bG am.out rfl ⟨2,l,eB,v::List.replicate 15 eB⟩ a3 n3 c3 rfl rfl _ _ rfl rfl rfl rfl ?_))
 exact bodyPost_ret (vH rfl _ rfl (dD am.out) rfl) rfl ⟨a3,n3,c3,rfl,(HI3.out.row (by simp) _).weak (by simp),rfl,bU HB3.out aF _⟩
end No
end
section
open Go.RowKit
def jV (w:World) (a:aJ) (n cap:Nat) (xs:List aK):Prop :=
 n<=cap/\cap<=maxLen/\xs.length=n/\∀ j,j<n->∃ b off,a=some ⟨b,off,none⟩/\b<w.heap.size/\w.cell? ⟨b,off+j,none⟩=some (.string (xs.getD j eB))
namespace jV
variable {w w':World} {a:aJ} {n cap:Nat} {xs:List aK}
theorem len (h:jV w a n cap xs):xs.length=n:=h.2.2.1
theorem at' (h:jV w a n cap xs) (j:Nat) (hj:j<n):∃ b off,a=some ⟨b,off,none⟩/\b<w.heap.size/\w.cell? ⟨b,off+j,none⟩=some (.string (xs.getD j eB)):=h.2.2.2 j hj
theorem below (h:jV w a n cap xs) (hb:Below w.heap.size w w'):jV w' a n cap xs:=by
 refine ⟨h.1,h.2.1,h.2.2.1,λj hj=>?_⟩;obtain ⟨b,off,h1,h2,h3⟩:=h.2.2.2 j hj;exact ⟨b,off,h1,aH h2 hb.size,by rw [hb.cell (p:=⟨b,off+j,none⟩) h2]; exact h3⟩
end jV
theorem jV.rT {w:World} {n:Nat} {xs:List aK} (h:w.ownsRow B t 1 v n (xs.map Value.string)):∃ a cap,v = .slice a n cap/\jV w a n cap xs:=by
 have hl:xs.length=n:=by simpa using h.1
 rcases h.2 with ⟨rfl,hz⟩ | ⟨g,cap,cur,rfl,hbg,hg,hnc,hcm,hcs,htake⟩
 .subst hz;exact ⟨none,0,rfl,aF,Nat.zero_le _,hl,λj hj=>absurd hj (Nat.not_lt_zero _)⟩
 .refine ⟨_,_,rfl,hnc,hcm,hl,λj hj=>⟨g,0,rfl,(Array.getElem?_eq_some_iff.1 hg).1,?_⟩⟩;have:=h.cells (g:=g) rfl j (.string (xs.getD j eB)) (by simp [List.getD,hl,hj]);rwa [Addr.add_mid] at this
theorem XE:(prog.info? 9).map (λi=>(i.zero,i.size,i.bytes))=some (some (.string ⟨#[]⟩),1,16):=by kernel_rfl
theorem mP:∃ i,prog.info? 9=some i/\i.zero=some (.string ⟨#[]⟩)/\i.size=1/\i.bytes=16:=by
 have h:=XE;cases hi:prog.info? 9 with
 | none=>rw [hi] at h; simp at h
 | some i =>
  rw [hi] at h;simp at h;exact ⟨i,rfl,h.1,h.2.1,h.2.2⟩
def bL (ks:List aK):List aK:=ks.filter λk=>decide (k.size≠0)
theorem rQ (ks:List aK) (q:Nat) (h:q<ks.length):bL (ks.take (q+1))=bL (ks.take q)++(if (ks.getD q eB).size≠0 then [ks.getD q eB] else []):=by
 unfold bL;have e:ks.getD q eB=ks[q]:=by simp [List.getD,h]
 rw [List.take_succ_eq_append_getElem h,e,List.filter_append];congr 1;by_cases hz:ks[q].size=0
 .simp only [ne_eq,hz,not_true_eq_false,decide_false,Bool.false_eq_true,not_false_eq_true,List.filter_cons_of_neg,List.filter_nil,if_false]
 .simp only [ne_eq,hz,not_false_eq_true,decide_true,List.filter_cons_of_pos,List.filter_nil,if_true]
theorem Ea (ks:List aK) (q:Nat):(bL (ks.take q)).length<=q:=Nat.le_trans (List.length_filter_le _ _) (by rw [List.length_take]; exact Nat.min_le_left _ _)
theorem VQ (ks:List aK) (q:Nat) (h:q<ks.length) (w:World):(part 9 (iL ks) q).run prog w = .ok (.string (ks.getD q eB)) w:=by
 have hagg:(isAgg 9).run prog w = .ok false w:=by kernel_rfl
 have hg:(iL ks)[q]? = some (.string (ks.getD q eB)):=by simp [iL,List.getD,h]
 unfold part;rw [Sem.run_bind,hagg];simp [hg]
theorem fM {w:World} {ks:List aK} (hl:ks.length=16) (hq:q<16) (ho:∃ x y,o.op = .index 54 x y/\ev x = .agg (iL ks)/\ev y = .int .i64 q) :
  (execOp ev o).run prog w = .ok (.value (.string (ks.getD q eB))) w:=by
 obtain ⟨x,y,ho,hx,hy⟩:=ho;obtain ⟨i0,hi,_,hs,_⟩:=mP;have hp:=VQ ks q (by omega) w;have h1:(Instr.index 54 (.agg (iL ks)) (.int .i64 q)).run prog w = .ok (.string (ks.getD q eB)) w:=by
  have hq2:(0:Int)<=q/\(q:Int)<((16:Nat):Int):=⟨by omega,by omega⟩
  simp only [Instr.index,Sem.run_bind,asIntOf,Sem.run_pure,Result.andThen_ok,run_underlying underlying54];rw [if_pos hq2];simp only [sizeOf,typeInfo,Sem.run_bind];simp [hi,hs,hp]
 unfold execOp;simp only [ho,hx,hy,Sem.run_bind,Sem.run_pure,Result.andThen_ok,h1]
namespace No
def YM (w:World) (xs:List aK) (e:Ending) (w':World):Prop:=∃ a n cap,e = .returned (.slice a n cap)/\jV w' a n cap xs/\Below w.heap.size w w'
theorem UU (N:Nd) (a:aJ) (n c:Nat) (hl:N.ks.length=16) (w:World):Calls prog 135 #[.agg (ndC N a n c)] w (YM w (bL N.ks)):=by
 obtain ⟨i0,hi,hz0,hz1,hz2⟩:=mP;have HI:Hid (_/\_/\_/\_):=hid ⟨hi,hz0,hz1,hz2⟩;have HO:Hid (dQ (w.alloc (.cells (ndC N a n c) 56)) w.heap.size N a n c):=hid (Rg.Own.new _ _ _);have HL:=hid hl;clear hi hz0 hz1 hz2 hl;go_enter func135,ntmps135;go_wp2_with (refine ay (oN HO.out HL.out ⟨_,rfl,rfl⟩) ?_)
 go_loopw [3,8] (λv i wr=>∃ j:Nat,j<=16/\i = .int .i64 j/\Hid (wr.ownsRow (w.heap.size+1) 9 1 v (bL (N.ks.take j)).length ((bL (N.ks.take j)).map Value.string))/\Below (w.heap.size+1) (w.alloc (.cells (ndC N a n c) 56)) wr) (λ_ i _=>16-(intOf i).toNat)
 case atStart=>exact ⟨0,Nat.zero_le _,rfl,hid (World.ownsRow_nil _ _ _ _),aG⟩
 case round =>
  obtain ⟨j,hj,rfl,HR,hB⟩:=hrel;have hsz:w.heap.size+1<=wr.heap.size:=by have:=hB.size; simp at this; omega
  by_cases hlt:j<16
  .have HS:=hid (rQ N.ks j (by rw [HL.out]; exact hlt));have hkl:=Ea N.ks j;obtain ⟨L,hL⟩:=av (bL (N.ks.take j))
   rw [hL] at HS hkl HR;clear hL;by_cases hk:(N.ks.getD j eB).size=0
   .have lR:Hid (bL (N.ks.take (j+1))=L):=hid (by rw [HS.out,if_neg (by simpa using hk),List.append_nil]);have HE:Hid (N.ks.getD j eB=eB):=hid (dU hk);clear hk;go_wp2_with (refine Rg.run rfl (.string (N.ks.getD j eB)) _ (fM HL.out hlt ⟨_,_,rfl,rfl,rfl⟩) ?_; rw [HE.out])
    go_roundw
    case rel=>exact ⟨j+1,by omega,by go_num,by rw [lR.out]; exact HR,hB⟩
    case measure=>simp [intOf]; omega
   .have lR:Hid (bL (N.ks.take (j+1))=L++[N.ks.getD j eB]):=hid (by rw [HS.out,if_pos hk]);have hne:=Ni.dz (s:=N.ks.getD j eB) (by omega);obtain ⟨K,hK⟩:=av (N.ks.getD j eB)
    have HK:=hid hK;rw [hK] at hne lR;clear hK hk HS;go_wp2_with (first
     | (refine Rg.run rfl (.string (N.ks.getD j eB)) _ (fM HL.out hlt ⟨_,_,rfl,rfl,rfl⟩) ?_; rw [HK.out])
     | (at_builtin; refine wpList_append_own _ rfl _ _ 34 rfl (w.heap.size+1) 9 i0 (.string ⟨#[]⟩) 1 16 underlying34 HI.out.1 HI.out.2.1 HI.out.2.2.1 HI.out.2.2.2 rfl (by decide) _ _ _ rfl (HR.out.alloc _) ⟨wr.heap.size,0,none⟩ 1 1 [.string K] rfl rfl ?d1 ?d2 ?d3 ?d4 ?d5 ?_))
    case d1=>exact Bu.cell_one_new' _ _ _ _
    case d2=>intro u hu; simp at hu; subst hu; rfl
    case d3=>unfold maxLen; omega
    case d4=>omega
    case d5=>simp; omega
    intro v' w2 hown2 hgrow _;have hlt':=HR.out.lt;go_wp2;go_roundw
    case rel=>exact ⟨j+1,by omega,by go_num,hid (by rw [lR.out,List.length_append,List.map_append]; exact hown2),(hB.alloc hsz _).grown hgrow (by simp; omega) (λg hg=>(hlt' g hg).1)⟩
    case measure=>simp [intOf]; omega
  .obtain rfl:j=16:=by omega
   have hO:=HR.out;rw [List.take_of_length_le (by rw [HL.out]; exact aF)] at hO;obtain ⟨a',cap',rfl,hb⟩:=jV.rT hO;have HB:=hid hb;have cA:Hid (Below w.heap.size w wr):=hid (pG hB);clear hO hb;go_wp2;go_ret;exact ⟨a',_,cap',rfl,HB.out,cA.out⟩
end No
end
section
open Go.RowKit
namespace Ni
def vC (l:aL) (leaf:Bool):Nat:=16*iA l.length leaf+if l.length%2=1 then (l.getD 0 0).toNat else 0
def fB (l:aL) (leaf:Bool) (k:Nat):aL:=UInt8.ofNat (vC l leaf)::(List.range k).map λj=>UInt8.ofNat (16*(l.getD (l.length%2+2*j) 0).toNat+(l.getD (l.length%2+(2*j+1)) 0).toNat)
theorem pR (l:aL) (leaf:Bool) (k:Nat):fB l leaf (k+1)=fB l leaf k++[UInt8.ofNat (16*(l.getD (l.length%2+2*k) 0).toNat+(l.getD (l.length%2+(2*k+1)) 0).toNat)]:=by
 simp [fB,List.range_succ]
theorem Gf (l:aL) (leaf:Bool):((jo l leaf).getD 0 0).toNat=iA l.length leaf:=by
 have:iA l.length leaf<=3:=by unfold iA; cases leaf <;> simp <;> omega
 simp [jo]; omega
theorem Va (l:aL) (leaf:Bool):((jo l leaf).getD 1 0).toNat=if l.length%2=1 then (l.getD 0 0).toNat else 0:=by
 unfold jo;by_cases h:l.length%2=1
 .cases l with
  | nil=>simp at h
  | cons x r =>
   have h':(r.length+1)%2=1:=by simpa using h
   simp [h']
 .simp [h]
theorem UQ (l:aL) (leaf:Bool) (q:Nat):(jo l leaf).getD (2+q) 0=l.getD (l.length%2+q) 0:=by
 unfold jo;by_cases h:l.length%2=1
 .cases l with
  | nil=>simp at h
  | cons x r =>
   rw [if_pos h,h];have e:(2+q)=q+1+1:=by omega
   rw [e,show 1+q=q+1 by omega];simp [List.getD]
 .have h0:l.length%2=0:=by omega
  rw [if_neg h,h0];have e:(2+q)=q+1+1:=by omega
  rw [e];simp [List.getD]
theorem TG (l:aL) (leaf:Bool):iH l leaf=fB l leaf (l.length/2):=by
 unfold iH gD fB vC;rw [List.range_succ_eq_map,List.map_cons,List.map_map];have e0:=Gf l leaf;have e1:=Va l leaf;congr 1
 .simp only [Nat.mul_zero,Nat.zero_add];rw [e0,e1]
 .apply List.map_congr_left;intro j _;have f0:=UQ l leaf (2*j);have f1:=UQ l leaf (2*j+1);simp only [Function.comp];rw [show 2*(j.succ)=2+2*j by omega,show 2+2*j+1=2+(2*j+1) by omega,f0,f1]
theorem jr (v:Int) (x:Nat) (hx:x<256) (hv:v=x) (w:World) :
  Sem.run prog (convert 42 9 (Value.slice (some ⟨w.heap.size,0,none⟩) 1 1)) (w.alloc (.cells #[.int .u8 v] 5)) = .ok (.string ⟨#[UInt8.ofNat x]⟩) (w.alloc (.cells #[.int .u8 v] 5)):=by
 subst hv;have h:=run_convert_bytes_back (P:=prog) (w.alloc (.cells #[.int .u8 x] 5)) 42 9 5 ⟨w.heap.size,0,none⟩ 1 [UInt8.ofNat x] underlying42 underlying5 underlying9
  (λj hj=>by
   obtain rfl:j=0:=by simpa using hj
   have e:(UInt8.ofNat x).toNat=x:=by simp; omega
   simp [Addr.add,e])
 exact h
theorem Ae (l:aL) (x:UInt8):(⟨l.toArray⟩:aK)++⟨#[x]⟩=⟨(l++[x]).toArray⟩:=by
 have h:((⟨l.toArray⟩:aK)++⟨#[x]⟩).data=(l++[x]).toArray:=by
  rw [ByteArray.data_append]; simp
 cases e:((⟨l.toArray⟩:aK)++⟨#[x]⟩) with
 | mk d=>rw [e] at h; simp only at h; rw [h]
theorem yV (a:aJ) (n cap:Nat) (l:aL) (leaf:Bool) (hr:dA l=true) (hn:n<=64) (w:World) (h:bA w a n cap l) :
  Calls prog 87 #[.slice a n cap,.bool leaf] w λe w'=>e = .returned (.string ⟨(iH l leaf).toArray⟩)/\Below w.heap.size w w':=by
 rw [TG];have H:=hid h;have HL:=hid h.len;have HR:=hid (kK l hr);have hmk:vC l leaf=16*(l.length%2)+32*(if leaf then 1 else 0)+if l.length%2=1 then (l.getD 0 0).toNat else 0:=by
  unfold vC iA; cases leaf <;> simp <;> omega
 have hnc:=h.1;have hcm:=h.2.1;unfold maxLen at hcm;rw [h.len] at hmk;clear h hr;by_cases hp:n%2=1
 .have hp0:(n:Int)%2=1:=by omega
  have hn1:1<=n:=by omega
  rw [if_pos hp,hp] at hmk;have HP:=hid hp;clear hp;obtain ⟨b0,r9,rfl,hb0,hc0⟩:=H.out.at' 0 (by omega);have hx0:=HR.out 0;obtain ⟨z,hz⟩:=av ((l.getD 0 0).toNat)
  rw [hz] at hc0 hx0 hmk;rw [Nat.add_zero] at hc0;clear hz;cases leaf
  .have hm2:vC l false=16+z:=by rw [hmk]; simp
   have hcv:=jr (16+(z:Int)) (vC l false) (by omega) (by omega);clear hmk hm2;go_enter func87,ntmps87;go_wp2;clear hcv;go_loopw [7,8] (λs i wr=>∃ k q:Nat,Hid (q=1+2*k)/\q<=n/\i = .int .i64 q/\s = .string ⟨(fB l false k).toArray⟩/\Below w.heap.size w wr) (λ_ i _=>n-(intOf i).toNat)
   case atStart=>exact ⟨0,1,hid rfl,by omega,rfl,rfl,aG.alloc aF _⟩
   case round =>
    obtain ⟨k,q,HQ,hq,rfl,rfl,hB⟩:=hrel;by_cases hlt:q<n
    .have hlt1:q+1<n:=by have:=HP.out; have:=HQ.out; omega
     obtain ⟨b,off,h0,hb,hc⟩:=H.out.at' q hlt;simp at h0;obtain ⟨rfl,rfl⟩:=h0;obtain ⟨b',off',h1,_,hc'⟩:=H.out.at' (q+1) hlt1;simp at h1;obtain ⟨rfl,rfl⟩:=h1;have hx:=HR.out q;have hy:=HR.out (q+1);obtain ⟨x,hxe⟩:=av ((l.getD q 0).toNat)
     obtain ⟨y,hye⟩:=av ((l.getD (q+1) 0).toNat)
     rw [hxe] at hc hx;rw [hye] at hc' hy;rw [<-hB.cell (p:=⟨b0,r9+q,none⟩) hb] at hc;rw [<-hB.cell (p:=⟨b0,r9+(q+1),none⟩) hb] at hc';have hcv:Sem.run prog (convert 42 9 (Value.slice (some ⟨wr.heap.size,0,none⟩) 1 1)) (wr.alloc (.cells #[.int .u8 (16*(x:Int)+(y:Int))] 5)).drew = .ok (.string ⟨#[UInt8.ofNat (16*x+y)]⟩) (wr.alloc (.cells #[.int .u8 (16*(x:Int)+(y:Int))] 5)).drew :=
      jr (16*x+y) (16*x+y) (by omega) (by omega) wr.drew
     obtain ⟨S,hS⟩:=av (⟨(fB l false k).toArray⟩:aK)
     obtain ⟨C,hC⟩:=av (⟨#[UInt8.ofNat (16*x+y)]⟩:aK)
     have hSz:S.size<=100:=by
      rw [<-hS]; show (fB l false k).toArray.size<=100; have:=HQ.out; simp [fB]; omega
     have K3:C.size<=1:=by rw [<-hC]; exact aF
     have HN:Hid (S++C=⟨(fB l false (k+1)).toArray⟩):=hid (by
      rw [<-hS,<-hC,Ae,pR,HL.out,HP.out,<-HQ.out,show 1+(2*k+1)=q+1 by have:=HQ.out; omega,hxe,hye])
     rw [hC] at hcv;rw [hS];clear hxe hye hS hC;go_wp2_with fail
     go_region
     all_goals clear hcv
     all_goals go_wp2
     all_goals
      go_roundw
      case rel=>exact ⟨k+1,q+2,hid (by have:=HQ.out; omega),by omega,by go_num,by rw [HN.out],hB.drew.alloc hB.size _⟩
      case measure=>simp [intOf]; omega
    .have HE:Hid (k=l.length/2):=hid (by rw [HL.out]; have:=HP.out; have:=HQ.out; omega);go_wp2;go_ret;exact ⟨by rw [<-HE.out]; rfl,hB⟩
  .have hm2:vC l true=48+z:=by rw [hmk]; simp
   have hcv:=jr (48+(z:Int)) (vC l true) (by omega) (by omega);clear hmk hm2;go_enter func87,ntmps87;go_wp2;clear hcv;go_loopw [7,8] (λs i wr=>∃ k q:Nat,Hid (q=1+2*k)/\q<=n/\i = .int .i64 q/\s = .string ⟨(fB l true k).toArray⟩/\Below w.heap.size w wr) (λ_ i _=>n-(intOf i).toNat)
   case atStart=>exact ⟨0,1,hid rfl,by omega,rfl,rfl,aG.alloc aF _⟩
   case round =>
    obtain ⟨k,q,HQ,hq,rfl,rfl,hB⟩:=hrel;by_cases hlt:q<n
    .have hlt1:q+1<n:=by have:=HP.out; have:=HQ.out; omega
     obtain ⟨b,off,h0,hb,hc⟩:=H.out.at' q hlt;simp at h0;obtain ⟨rfl,rfl⟩:=h0;obtain ⟨b',off',h1,_,hc'⟩:=H.out.at' (q+1) hlt1;simp at h1;obtain ⟨rfl,rfl⟩:=h1;have hx:=HR.out q;have hy:=HR.out (q+1);obtain ⟨x,hxe⟩:=av ((l.getD q 0).toNat)
     obtain ⟨y,hye⟩:=av ((l.getD (q+1) 0).toNat)
     rw [hxe] at hc hx;rw [hye] at hc' hy;rw [<-hB.cell (p:=⟨b0,r9+q,none⟩) hb] at hc;rw [<-hB.cell (p:=⟨b0,r9+(q+1),none⟩) hb] at hc';have hcv:Sem.run prog (convert 42 9 (Value.slice (some ⟨wr.heap.size,0,none⟩) 1 1)) (wr.alloc (.cells #[.int .u8 (16*(x:Int)+(y:Int))] 5)).drew = .ok (.string ⟨#[UInt8.ofNat (16*x+y)]⟩) (wr.alloc (.cells #[.int .u8 (16*(x:Int)+(y:Int))] 5)).drew :=
      jr (16*x+y) (16*x+y) (by omega) (by omega) wr.drew
     obtain ⟨S,hS⟩:=av (⟨(fB l true k).toArray⟩:aK)
     obtain ⟨C,hC⟩:=av (⟨#[UInt8.ofNat (16*x+y)]⟩:aK)
     have hSz:S.size<=100:=by
      rw [<-hS]; show (fB l true k).toArray.size<=100; have:=HQ.out; simp [fB]; omega
     have K3:C.size<=1:=by rw [<-hC]; exact aF
     have HN:Hid (S++C=⟨(fB l true (k+1)).toArray⟩):=hid (by
      rw [<-hS,<-hC,Ae,pR,HL.out,HP.out,<-HQ.out,show 1+(2*k+1)=q+1 by have:=HQ.out; omega,hxe,hye])
     rw [hC] at hcv;rw [hS];clear hxe hye hS hC;go_wp2_with fail
     go_region
     all_goals clear hcv
     all_goals go_wp2
     all_goals
      go_roundw
      case rel=>exact ⟨k+1,q+2,hid (by have:=HQ.out; omega),by omega,by go_num,by rw [HN.out],hB.drew.alloc hB.size _⟩
      case measure=>simp [intOf]; omega
    .have HE:Hid (k=l.length/2):=hid (by rw [HL.out]; have:=HP.out; have:=HQ.out; omega);go_wp2;go_ret;exact ⟨by rw [<-HE.out]; rfl,hB⟩
 .have hp0:(n:Int)%2=0:=by omega
  have hpn:n%2=0:=by omega
  rw [if_neg hp,hpn] at hmk;have HP:=hid hpn;clear hp hpn;cases leaf
  .have hcv:=jr 0 (vC l false) (by rw [hmk]; decide) (by rw [hmk]; rfl);clear hmk;go_enter func87,ntmps87;go_wp2;clear hcv;go_loopw [7,8] (λs i wr=>∃ k q:Nat,Hid (q=0+2*k)/\q<=n/\i = .int .i64 q/\s = .string ⟨(fB l false k).toArray⟩/\Below w.heap.size w wr) (λ_ i _=>n-(intOf i).toNat)
   case atStart=>exact ⟨0,0,hid rfl,by omega,rfl,rfl,aG.alloc aF _⟩
   case round =>
    obtain ⟨k,q,HQ,hq,rfl,rfl,hB⟩:=hrel;by_cases hlt:q<n
    .have hlt1:q+1<n:=by have:=HP.out; have:=HQ.out; omega
     obtain ⟨b,off,rfl,hb,hc⟩:=H.out.at' q hlt;obtain ⟨b',off',h1,_,hc'⟩:=H.out.at' (q+1) hlt1;simp at h1;obtain ⟨rfl,rfl⟩:=h1;have hx:=HR.out q;have hy:=HR.out (q+1);obtain ⟨x,hxe⟩:=av ((l.getD q 0).toNat)
     obtain ⟨y,hye⟩:=av ((l.getD (q+1) 0).toNat)
     rw [hxe] at hc hx;rw [hye] at hc' hy;rw [<-hB.cell (p:=⟨b,off+q,none⟩) hb] at hc;rw [<-hB.cell (p:=⟨b,off+(q+1),none⟩) hb] at hc';have hcv:Sem.run prog (convert 42 9 (Value.slice (some ⟨wr.heap.size,0,none⟩) 1 1)) (wr.alloc (.cells #[.int .u8 (16*(x:Int)+(y:Int))] 5)).drew = .ok (.string ⟨#[UInt8.ofNat (16*x+y)]⟩) (wr.alloc (.cells #[.int .u8 (16*(x:Int)+(y:Int))] 5)).drew :=
      jr (16*x+y) (16*x+y) (by omega) (by omega) wr.drew
     obtain ⟨S,hS⟩:=av (⟨(fB l false k).toArray⟩:aK)
     obtain ⟨C,hC⟩:=av (⟨#[UInt8.ofNat (16*x+y)]⟩:aK)
     have hSz:S.size<=100:=by
      rw [<-hS]; show (fB l false k).toArray.size<=100; have:=HQ.out; simp [fB]; omega
     have K3:C.size<=1:=by rw [<-hC]; exact aF
     have HN:Hid (S++C=⟨(fB l false (k+1)).toArray⟩):=hid (by
      rw [<-hS,<-hC,Ae,pR,HL.out,HP.out,<-HQ.out,show 0+(2*k+1)=q+1 by have:=HQ.out; omega,hxe,hye])
     rw [hC] at hcv;rw [hS];clear hxe hye hS hC;go_wp2_with fail
     go_region
     all_goals clear hcv
     all_goals go_wp2
     all_goals
      go_roundw
      case rel=>exact ⟨k+1,q+2,hid (by have:=HQ.out; omega),by omega,by go_num,by rw [HN.out],hB.drew.alloc hB.size _⟩
      case measure=>simp [intOf]; omega
    .have HE:Hid (k=l.length/2):=hid (by rw [HL.out]; have:=HP.out; have:=HQ.out; omega);go_wp2;go_ret;exact ⟨by rw [<-HE.out]; rfl,hB⟩
  .have hcv:=jr 32 (vC l true) (by rw [hmk]; decide) (by rw [hmk]; rfl);clear hmk;go_enter func87,ntmps87;go_wp2;clear hcv;go_loopw [7,8] (λs i wr=>∃ k q:Nat,Hid (q=0+2*k)/\q<=n/\i = .int .i64 q/\s = .string ⟨(fB l true k).toArray⟩/\Below w.heap.size w wr) (λ_ i _=>n-(intOf i).toNat)
   case atStart=>exact ⟨0,0,hid rfl,by omega,rfl,rfl,aG.alloc aF _⟩
   case round =>
    obtain ⟨k,q,HQ,hq,rfl,rfl,hB⟩:=hrel;by_cases hlt:q<n
    .have hlt1:q+1<n:=by have:=HP.out; have:=HQ.out; omega
     obtain ⟨b,off,rfl,hb,hc⟩:=H.out.at' q hlt;obtain ⟨b',off',h1,_,hc'⟩:=H.out.at' (q+1) hlt1;simp at h1;obtain ⟨rfl,rfl⟩:=h1;have hx:=HR.out q;have hy:=HR.out (q+1);obtain ⟨x,hxe⟩:=av ((l.getD q 0).toNat)
     obtain ⟨y,hye⟩:=av ((l.getD (q+1) 0).toNat)
     rw [hxe] at hc hx;rw [hye] at hc' hy;rw [<-hB.cell (p:=⟨b,off+q,none⟩) hb] at hc;rw [<-hB.cell (p:=⟨b,off+(q+1),none⟩) hb] at hc';have hcv:Sem.run prog (convert 42 9 (Value.slice (some ⟨wr.heap.size,0,none⟩) 1 1)) (wr.alloc (.cells #[.int .u8 (16*(x:Int)+(y:Int))] 5)).drew = .ok (.string ⟨#[UInt8.ofNat (16*x+y)]⟩) (wr.alloc (.cells #[.int .u8 (16*(x:Int)+(y:Int))] 5)).drew :=
      jr (16*x+y) (16*x+y) (by omega) (by omega) wr.drew
     obtain ⟨S,hS⟩:=av (⟨(fB l true k).toArray⟩:aK)
     obtain ⟨C,hC⟩:=av (⟨#[UInt8.ofNat (16*x+y)]⟩:aK)
     have hSz:S.size<=100:=by
      rw [<-hS]; show (fB l true k).toArray.size<=100; have:=HQ.out; simp [fB]; omega
     have K3:C.size<=1:=by rw [<-hC]; exact aF
     have HN:Hid (S++C=⟨(fB l true (k+1)).toArray⟩):=hid (by
      rw [<-hS,<-hC,Ae,pR,HL.out,HP.out,<-HQ.out,show 0+(2*k+1)=q+1 by have:=HQ.out; omega,hxe,hye])
     rw [hC] at hcv;rw [hS];clear hxe hye hS hC;go_wp2_with fail
     go_region
     all_goals clear hcv
     all_goals go_wp2
     all_goals
      go_roundw
      case rel=>exact ⟨k+1,q+2,hid (by have:=HQ.out; omega),by omega,by go_num,by rw [HN.out],hB.drew.alloc hB.size _⟩
      case measure=>simp [intOf]; omega
    .have HE:Hid (k=l.length/2):=hid (by rw [HL.out]; have:=HP.out; have:=HQ.out; omega);go_wp2;go_ret;exact ⟨by rw [<-HE.out]; rfl,hB⟩
theorem zH (f:aL) (hf:dA f=true) (k j:Nat) (hj:j<k):((gD f k).getD j 0).toNat=16*(f.getD (2*j) 0).toNat+(f.getD (2*j+1) 0).toNat:=by
 have h1:=kK f hf (2*j);have h2:=kK f hf (2*j+1);have e:(gD f k).getD j 0=UInt8.ofNat (16*(f.getD (2*j) 0).toNat+(f.getD (2*j+1) 0).toNat):=by
  simp [gD,List.getD,hj]
 rw [e];simp only [UInt8.toNat_ofNat'];omega
theorem Ez (f:aL) (hf:dA f=true) (k i:Nat) (hi:i<2*k):eF ⟨(gD f k).toArray⟩ i=(f.getD i 0).toNat:=by
 have h1:=kK f hf (2*(i/2));have h2:=kK f hf (2*(i/2)+1);have e:=zH f hf k (i/2) (by omega);unfold eF;show (if i%2=0 then ((gD f k).getD (i/2) 0).toNat/16 else ((gD f k).getD (i/2) 0).toNat%16)=_;rw [e];by_cases h:i%2=0
 .rw [if_pos h];have e2:2*(i/2)=i:=by omega
  rw [e2] at h1 h2 ⊢;omega
 .rw [if_neg h];have e2:2*(i/2)+1=i:=by omega
  rw [e2] at h2 ⊢;omega
theorem tX {a b:aL} (hl:a.length=b.length) (h:∀ i,i<a.length->(a.getD i 0).toNat=(b.getD i 0).toNat):a=b:=by
 apply List.ext_getElem hl;intro i h1 h2;have:=h i h1;simp only [List.getD,List.getElem?_eq_getElem h1,List.getElem?_eq_getElem h2,Option.getD_some] at this;exact UInt8.toNat_inj.1 this
theorem BK (f:aL) (hf:dA f=true) (k:Nat) (hk:f.length=2*k):iB ⟨(gD f k).toArray⟩=f:=by
 have hs:(⟨(gD f k).toArray⟩:aK).size=k:=by show (gD f k).toArray.size=k; simp [gD]
 apply tX
 .rw [gQ,hs,hk]
 .intro i hi;rw [gQ,hs] at hi;rw [mg _ _ (by rw [hs]; exact hi),Ez f hf k i hi]
theorem Ci (s:aK):gD (iB s) s.size=s.data.toList:=by
 apply tX
 .rw [mU]; simp
 .intro j hj;rw [mU] at hj;rw [zH _ (zI s) _ _ hj,mg s _ (by omega),mg s _ (by omega)];unfold eF;rw [if_pos (by omega),if_neg (by omega),show 2*j/2=j by omega,show (2*j+1)/2=j by omega];omega
theorem oU (l:aL) (leaf:Bool):(⟨(iH l leaf).toArray⟩:aK).size=l.length/2+1:=by
 show (iH l leaf).toArray.size=_;simp [iH,gD]
theorem Pd (l:aL) (leaf:Bool) (hr:dA l=true):iB ⟨(iH l leaf).toArray⟩=jo l leaf :=
 BK _ (sD l leaf hr) _ (qM l leaf)
theorem rE (l:aL) (leaf:Bool) (hr:dA l=true) (i:Nat) (hi:i<2):eF ⟨(iH l leaf).toArray⟩ i=((jo l leaf).getD i 0).toNat :=
 Ez _ (sD l leaf hr) _ _ (by omega)
theorem OU (l:aL) (leaf:Bool) (hr:dA l=true) (hl:l.length<=64):¬ Bad ⟨(iH l leaf).toArray⟩:=by
 unfold Bad;rw [rE l leaf hr 0 (by omega),rE l leaf hr 1 (by omega),Gf,Va,oU];unfold iA;cases leaf <;> simp only [if_true,if_false,Bool.false_eq_true] <;> split <;> omega
theorem Qd (l:aL) (leaf:Bool) (hr:dA l=true):qo ⟨(iH l leaf).toArray⟩=leaf:=by
 unfold qo;rw [rE l leaf hr 0 (by omega),Gf];unfold iA;cases leaf <;> simp <;> omega
theorem Qf (l:aL) (leaf:Bool) (hr:dA l=true):nK ⟨(iH l leaf).toArray⟩=l:=by
 unfold nK;rw [rE l leaf hr 0 (by omega),Gf,Pd l leaf hr];have hm:iA l.length leaf%2=l.length%2:=by unfold iA; cases leaf <;> simp
 rw [hm];unfold jo;by_cases h:l.length%2=1
 .rw [if_pos h,h];cases l with
  | nil=>simp at h
  | cons x r=>simp
 .rw [if_neg h,show l.length%2=0 by omega];simp
theorem iP (s:aK):(nK s).length=2*s.size-(2-eF s 0%2):=by
 unfold nK; rw [List.length_drop,gQ]
theorem WB (s:aK) (hb:¬ Bad s):(nK s).length<=64:=by
 rw [iP]; unfold Bad at hb; omega
end Ni
end
section
open Go.RowKit
namespace No
open Rl Ni
def mY (x:It):Option aK:=if x.l then (if x.bytes.length<32 then some ⟨x.bytes.toArray⟩ else none) else (if dF x.s then some x.s else none)
def ou:List It->Option (List aK)
 | []=>some []
 | x::xs=>match mY x with
  | none=>none
  | some k=>match ou xs with
   | none=>none
   | some ks=>some (k::ks)
def eZ (k:aK):List aK:=k::List.replicate 15 eB
instance (s : aK) : Decidable (Bad s) := by unfold Bad; infer_instance
def iX (x0 x1:It):Option Nd :=
 if x0.s.size=0\/Bad x0.s then none else
 if qo x0.s then some ⟨1,nK x0.s,x1.s,zks⟩ else (mY x1).map λk=>⟨2,nK x0.s,eB,eZ k⟩
def dR (xs:List It):Option Nd :=
 match ou (xs.take 16) with
 | none=>none
 | some ks=>if (xs.getD 16 it0).l=false/\(xs.getD 16 it0).s.size=0 then some ⟨3,[],eB,ks⟩ else none
def eT (xs:List It):Option Nd:=if xs.length=2 then iX (xs.getD 0 it0) (xs.getD 1 it0) else if xs.length=17 then dR xs else none
def lS (R:aK->Bool) (n:Nd):Bool :=
 if n.kd=1 then decide (n.v.size≠0)&&decide (n.v.size<=65552)&&decide ((bL n.ks).length=0) else
 if n.kd=2 then decide (0<n.p.length)&&decide (n.v.size=0)&&decide ((bL n.ks).length=1)&&decide ((n.ks.getD 0 eB).size≠0)&&R (n.ks.getD 0 eB) else
 if n.kd=3 then decide (n.p.length=0)&&decide (n.v.size=0)&&decide (2<=(bL n.ks).length)&&(bL n.ks).all R else false
def fC (R:aK->Bool) (n:Nd):Bool:=decide (n.p.length<=64)&&dA n.p&&lS R n
theorem Ji {R R':aK->Bool} {n:Nd} (h:∀ k∈n.ks,R k=R' k) (hl:n.ks.length=16):lS R n=lS R' n:=by
 unfold lS;have h0:R (n.ks.getD 0 eB)=R' (n.ks.getD 0 eB):=by
  apply h;rw [List.getD_eq_getElem?_getD,List.getElem?_eq_getElem (by omega)];exact List.getElem_mem _
 have h1:(bL n.ks).all R=(bL n.ks).all R':=by
  rw [Bool.eq_iff_iff,List.all_eq_true,List.all_eq_true];constructor
  .intro g k hk; rw [<-h k (List.mem_filter.1 hk).1]; exact g k hk
  .intro g k hk; rw [h k (List.mem_filter.1 hk).1]; exact g k hk
 rw [h0,h1]
theorem JO {R R':aK->Bool} {n:Nd} (h:∀ k∈n.ks,R k=R' k) (hl:n.ks.length=16):fC R n=fC R' n:=by
 unfold fC;rw [Ji h hl]
def yK (s:aL):Option Nd :=
 match iK s with
 | .error _=>none
 | .ok x=>match eT x.xs with
  | none=>none
  | some n=>if fC (λk=>dF k||(if _h:k.size<32/\k.size<s.length then (yK k.data.toList).isSome else false)) n then some n else none
termination_by s.length
decreasing_by
 rw [je];exact _h.2
def bR (k:aK):Bool:=dF k||(decide (k.size<32)&&(yK k.data.toList).isSome)
theorem oM {s:aL} {x:It} (hs:s.length<=4294967296) (h:iK s = .ok x):x.bytes=s/\Fits 0 x/\x.size<=4096:=by
 unfold iK at h;cases hr:fF s 0 0 with
 | error c=>rw [hr] at h; cases h
 | ok q =>
  obtain ⟨y,n,k⟩:=q;rw [hr] at h;dsimp only at h;by_cases hn:n<s.length
  .rw [if_pos hn] at h; cases h
  .rw [if_neg hn] at h;obtain rfl:=jc h;obtain ⟨g1,g2,g3⟩:=(back s.length hs).1 _ _ _ _ _ _ aF hr;obtain ⟨p1,p2,p3,p4⟩:=(props s.length).1 _ _ _ _ _ _ aF hr;refine ⟨?_,g2,by omega⟩;rw [g1,List.take_of_length_le (by omega)]
theorem Bf {xs:List It} {x:It} (h:x∈xs):x.bytes.length<=((xs.map It.bytes).flatten).length:=by
 induction xs with
 | nil=>cases h
 | cons y ys ih =>
  rw [List.map_cons,List.flatten_cons,List.length_append];rcases List.mem_cons.1 h with rfl | h
  .omega
  .have:=ih h; omega
theorem yZ {d:Nat} {x:It} (h:Fits d x) (hb:x.bytes.length<=4294967296):x.l=true->x.bytes.length=(jM ((x.xs.map It.bytes).flatten).length true).length+((x.xs.map It.bytes).flatten).length:=by
 intro hl;cases h with
 | mk ha hs hx hy =>
  rename_i l s xs;obtain rfl:l=true:=hl;obtain rfl:=hs rfl;have hi:=lC (.mk true ⟨#[]⟩ xs);rw [inner_mk] at hi;rw [jv xs (Nat.le_trans hi hb),List.length_append];rfl
theorem Co {d:Nat} {x:It} (h:Fits d x) (hx:x.xs≠[]):x.l=true:=by
 cases h with
 | mk ha hs hx' hy =>
  rename_i l s xs;cases l with
  | true=>rfl
  | false=>exact absurd (hx' rfl) hx
theorem Ag {x y:It} (h:Fits d x) (hb:x.bytes.length<=4294967296) (hy:y∈x.xs):y.bytes.length<x.bytes.length:=by
 have hl:=Co h (by intro e; rw [e] at hy; cases hy);have h1:=yZ h hb hl;have h2:=Bf hy;have h3:=iW ((x.xs.map It.bytes).flatten).length true;omega
theorem MV {d:Nat} {x y:It} (h:Fits d x) (hy:y∈x.xs):Fits (d+1) y:=by
 cases h with
 | mk ha hs hx h=>exact h y hy
theorem DZ {x:It} {k:aK} (h:mY x=some k):dF k=true\/k.size=x.bytes.length/\k.size<32:=by
 unfold mY at h;split at h
 .split at h
  .rename_i h1;obtain rfl:=Option.some.inj h;exact .inr ⟨fG _,by rw [fG]; exact h1⟩
  .cases h
 .split at h
  .rename_i h1;obtain rfl:=Option.some.inj h;exact .inl h1
  .cases h
theorem GQ:∀ {xs:List It} {ks:List aK},ou xs=some ks->ks.length=xs.length/\∀ k∈ks,∃ x∈xs,mY x=some k
 | [],ks,h=>by
  obtain rfl:=Option.some.inj h;exact ⟨rfl,λk hk=>by cases hk⟩
 | x::xs,ks,h=>by
  unfold ou at h;split at h
  .cases h
  .rename_i k hk;split at h
   .cases h
   .rename_i ks' hks;obtain rfl:=Option.some.inj h;obtain ⟨h1,h2⟩:=GQ hks;refine ⟨by simp [h1],λj hj=>?_⟩;rcases List.mem_cons.1 hj with rfl | hj
    .exact ⟨x,List.mem_cons_self ..,hk⟩
    .obtain ⟨y,hy,e⟩:=h2 j hj;exact ⟨y,List.mem_cons_of_mem _ hy,e⟩
theorem xL:dF eB=true:=aI (.inl rfl)
theorem fJ (k:aK):(eZ k).length=16:=by simp [eZ]
theorem yt {xs:List It} (h:i<xs.length):xs.getD i it0∈xs:=by
 rw [List.getD_eq_getElem?_getD,List.getElem?_eq_getElem h];exact List.getElem_mem _
theorem JW {xs:List It} {n:Nd} (h:eT xs=some n):n.ks.length=16/\∀ k∈n.ks,dF k=true\/∃ x∈xs,mY x=some k:=by
 have hz:∀ k∈zks,dF k=true:=λk hk=>by
  rw [List.eq_of_mem_replicate hk]; exact xL
 unfold eT at h;by_cases h2:xs.length=2
 .rw [if_pos h2] at h;unfold iX at h;split at h
  .cases h
  .split at h
   .obtain rfl:=Option.some.inj h;exact ⟨rfl,λk hk=>.inl (hz k hk)⟩
   .obtain ⟨k,hk,rfl⟩:=Option.map_eq_some_iff.1 h;refine ⟨fJ k,λj hj=>?_⟩;rcases List.mem_cons.1 hj with rfl | hj
    .exact .inr ⟨_,yt (by omega),hk⟩
    .rw [List.eq_of_mem_replicate hj]; exact .inl xL
 .rw [if_neg h2] at h;by_cases kh:xs.length=17
  .rw [if_pos kh] at h;unfold dR at h;split at h
   .cases h
   .rename_i ks hks;split at h
    .obtain rfl:=Option.some.inj h;obtain ⟨g1,g2⟩:=GQ hks;refine ⟨by rw [g1,List.length_take]; omega,λk hk=>?_⟩;obtain ⟨x,hx,e⟩:=g2 k hk;exact .inr ⟨x,List.mem_of_mem_take hx,e⟩
    .cases h
  .rw [if_neg kh] at h; cases h
theorem Jw {s:aL} {x:It} {n:Nd} (hs:s.length<=4294967296) (h:iK s = .ok x) (hn:eT x.xs=some n):n.ks.length=16/\∀ k∈n.ks,dF k=true\/(k.size<32/\k.size<s.length):=by
 obtain ⟨g1,g2,g3⟩:=oM hs h;obtain ⟨h1,h2⟩:=JW hn;refine ⟨h1,λk hk=>?_⟩;rcases h2 k hk with hp | ⟨y,hy,e⟩
 .exact .inl hp
 .rcases DZ e with hp | ⟨e1,e2⟩
  .exact .inl hp
  .have:=Ag g2 (by rw [g1]; exact hs) hy;rw [g1] at this;exact .inr ⟨e2,by omega⟩
theorem FL (s:aL) (hs:s.length<=4294967296):yK s=match iK s with
  | .error _=>none
  | .ok x=>match eT x.xs with
   | none=>none
   | some n=>if fC bR n then some n else none:=by
 rw [yK];cases hw:iK s with
 | error c=>rfl
 | ok x =>
  dsimp only;cases hn:eT x.xs with
  | none=>rfl
  | some n =>
   dsimp only;obtain ⟨h1,h2⟩:=Jw hs hw hn;rw [JO (R':=bR) (λk hk=>?_) h1];unfold bR;rcases h2 k hk with hp | hb
   .rw [hp]; rfl
   .rw [dif_pos hb];simp [hb.1]
theorem EN {s:aL} (hs:s.length<=4294967296) {n:Nd} (h:yK s=some n):∃ x,iK s = .ok x/\eT x.xs=some n/\fC bR n=true:=by
 rw [FL s hs] at h;split at h
 .cases h
 .rename_i x hw;split at h
  .cases h
  .rename_i m hm;split at h
   .rename_i hmay;obtain rfl:=Option.some.inj h;exact ⟨x,hw,hm,hmay⟩
   .cases h
end No
end
section
open Go.RowKit
namespace Rf
open Rl Ni No
theorem lV {k:aK} (h:dF k=true):k.size=0\/k.size=32:=of_decide_eq_true h
def CG (k:aK):Nat:=if k.size<32 then k.size else 0
theorem OL {k:aK} (h:dF k=true):CG k=0:=by
 unfold CG;have:=lV h;split <;> omega
theorem Nu {x:It} {k:aK} (h:mY x=some k):CG k<=x.bytes.length:=by
 rcases DZ h with hp | ⟨h1,h2⟩
 .rw [OL hp]; omega
 .unfold CG; rw [if_pos h2]; omega
theorem Ic:∀ {xs:List It} {ks:List aK},ou xs=some ks->(ks.map CG).sum<=((xs.map It.bytes).flatten).length
 | [],ks,h=>by
  obtain rfl:=Option.some.inj h;simp
 | x::xs,ks,h=>by
  unfold ou at h;split at h
  .cases h
  .rename_i k hk;split at h
   .cases h
   .rename_i ks' hks;obtain rfl:=Option.some.inj h;have h1:=Ic hks;have h2:=Nu hk;rw [List.map_cons,List.sum_cons,List.map_cons,List.flatten_cons,List.length_append];omega
theorem oq:∀ (m:Nat),((List.replicate m eB).map CG).sum=0
 | 0=>rfl
 | m+1=>by rw [List.replicate_succ,List.map_cons,List.sum_cons,oq m]; rfl
theorem Po (xs:List It) (q:Nat):(((xs.take q).map It.bytes).flatten).length<=((xs.map It.bytes).flatten).length:=by
 have h:(xs.map It.bytes).flatten=((xs.take q).map It.bytes).flatten++((xs.drop q).map It.bytes).flatten:=by
  rw [<-List.flatten_append,<-List.map_append,List.take_append_drop]
 rw [h,List.length_append];omega
theorem NR {xs:List It} {n:Nd} (h:eT xs=some n):(n.ks.map CG).sum<=((xs.map It.bytes).flatten).length:=by
 unfold eT at h;by_cases h2:xs.length=2
 .rw [if_pos h2] at h;unfold iX at h;split at h
  .cases h
  .split at h
   .obtain rfl:=Option.some.inj h;have:(zks.map CG).sum=0:=oq 16;show (zks.map CG).sum<=_;omega
   .obtain ⟨k,hk,rfl⟩:=Option.map_eq_some_iff.1 h;have h1:=Nu hk;have h3:=Bf (yt (xs:=xs) (i:=1) (by omega));show ((k::List.replicate 15 eB).map CG).sum<=_;rw [List.map_cons,List.sum_cons,oq];omega
 .rw [if_neg h2] at h;by_cases kh:xs.length=17
  .rw [if_pos kh] at h;unfold dR at h;split at h
   .cases h
   .rename_i ks hks;split at h
    .obtain rfl:=Option.some.inj h;exact Nat.le_trans (Ic hks) (Po xs 16)
    .cases h
  .rw [if_neg kh] at h; cases h
theorem Qu {xs:List It} {n:Nd} (h:eT xs=some n):xs≠[]:=by
 rintro rfl;unfold eT at h;rw [if_neg (by decide),if_neg (by decide)] at h;cases h
theorem Xp {s:aL} (hs:s.length<=4294967296) {n:Nd} (h:yK s=some n):(n.ks.map CG).sum+1<=s.length:=by
 obtain ⟨x,h1,h2,h3⟩:=EN hs h;obtain ⟨g1,g2,g3⟩:=oM hs h1;have hl:=Co g2 (Qu h2);have hb:=yZ g2 (by rw [g1]; exact hs) hl;have ho:=NR h2;have hh:=iW ((x.xs.map It.bytes).flatten).length true;rw [g1] at hb;omega
end Rf
end
namespace Sh
def vk (x:Nat):Nat:=x/2+x%2*2147483648
def bg:Nat->Nat->Nat
 | x,0=>x
 | x,n+1=>bg (vk x) n
theorem TJ (x:Nat) (h:x<4294967296):vk x<4294967296:=by unfold vk; omega
theorem bH:∀ (n x:Nat),x<4294967296->bg x n<4294967296
 | 0,_,h=>h
 | n+1,x,h=>bH n _ (TJ x h)
theorem vD:∀ (n x:Nat),bg x (n+1)=vk (bg x n)
 | 0,_=>rfl
 | n+1,x=>by
  show bg (vk x) (n+1)=vk (bg (vk x) n);exact vD n (vk x)
theorem JF:∀ (n x:Nat),x<4294967296->n<=32->bg x n=x/2 ^ n+x%2 ^ n*2 ^ (32-n)
 | 0,x,_,_=>by simp [bg,Nat.mod_one]
 | n+1,x,h,hn=>by
  rw [vD,JF n x h (by omega)];unfold vk;have e1:2 ^ (32-n)=2*2 ^ (32-(n+1)):=by rw [<-Nat.pow_succ']; congr 1; omega
  have e2:(2:Nat) ^ (n+1)=2 ^ n*2:=Nat.pow_succ ..
  have e3:(2:Nat) ^ n*2 ^ (32-(n+1))=2147483648:=by
   rw [<-Nat.pow_add,show n+(32-(n+1))=31 by omega]
  have hp:0<2 ^ n:=Nat.pow_pos (by omega);generalize 2 ^ (32-(n+1))=A at *
  generalize 2 ^ n=B at *
  rw [e1,e2,<-Nat.div_div_eq_div_mul,Nat.mod_mul];generalize hq:x/B=q;generalize x%B=r;have h1:r*(2*A)=2*(r*A):=by rw [Nat.mul_left_comm]
  have h2:(r+B*(q%2))*A=r*A+q%2*2147483648:=by
   rw [Nat.add_mul,<-e3,Nat.mul_assoc,Nat.mul_left_comm (q%2) B A]
  rw [h1,h2];generalize r*A=z;omega
def fV:Nat->Nat->Nat
 | x,0=>x
 | x,n+1=>fV (x/2) n
theorem lW:∀ (n x:Nat),fV x n=x/2 ^ n
 | 0,x=>by simp [fV]
 | n+1,x=>by
  show fV (x/2) n=_;rw [lW n,Nat.div_div_eq_div_mul,Nat.pow_succ']
theorem zJ:∀ (n x:Nat),fV x (n+1)=fV x n/2
 | 0,_=>rfl
 | n+1,x=>by
  show fV (x/2) (n+1)=fV (x/2) n/2;exact zJ n (x/2)
def Jl:List Nat:=[
 1116352408,1899447441,3049323471,3921009573,961987163,1508970993,2453635748,2870763221,
 3624381080,310598401,607225278,1426881987,1925078388,2162078206,2614888103,3248222580,
 3835390401,4022224774,264347078,604807628,770255983,1249150122,1555081692,1996064986,
 2554220882,2821834349,2952996808,3210313671,3336571891,3584528711,113926993,338241895,
 666307205,773529912,1294757372,1396182291,1695183700,1986661051,2177026350,2456956037,
 2730485921,2820302411,3259730800,3345764771,3516065817,3600352804,4094571909,275423344,
 430227734,506948616,659060556,883997877,958139571,1322822218,1537002063,1747873779,
 1955562222,2024104815,2227730452,2361852424,2428436474,2756734187,3204031479,3329325298]
def kN (i:Nat):Nat:=Jl.getD i 0
end Sh
section
open Go.RowKit
namespace Sh
theorem Xi {a b:Int} (h:a=b):Ending.returned (.int .u64 a) = .returned (.int .u64 b):=by rw [h]
theorem pW (x:Nat) (hx:x<18446744073709551616) (w:World) :
  Calls prog 117 #[.int .u64 x] w λe w'=>e = .returned (.int .u64 (x%4294967296:Nat))/\w=w':=by
 go_enter func117,ntmps117;go_wp2;go_ret;exact ⟨Xi (by omega),rfl⟩
theorem lG (x n:Nat) (hx:x<4294967296) (hn:n<=1000) (w:World) :
  Calls prog 115 #[.int .u64 x,.int .i64 n] w λe w'=>e = .returned (.int .u64 (bg x n:Nat))/\w=w':=by
 have HT:=hid (λk=>bH k x hx);have HS:=hid (λk=>vD k x);clear hx;go_enter func115,ntmps115;go_wp2;go_loop [0,5] (λv i=>∃ k:Nat,k<=n/\i = .int .i64 k/\v = .int .u64 (bg x k:Nat)) (λ_ i=>n-(intOf i).toNat)
 case atStart=>exact ⟨0,Nat.zero_le _,rfl,rfl⟩
 case round =>
  obtain ⟨k,hk,rfl,rfl⟩:=hrel;have hy:=HT.out k;have hs:=HS.out k;obtain ⟨y,hye⟩:=av (bg x k)
  rw [hye] at hy hs ⊢;have HY:=hid hs;have HE:=hid hye;clear hs hye;by_cases hlt:k<n
  .go_wp2;go_round
   case rel=>exact ⟨k+1,by omega,by go_num,by rw [HY.out]; unfold vk; go_num⟩
   case measure=>simp [intOf]; omega
  .obtain rfl:k=n:=by omega
   go_wp2;go_ret;exact ⟨by rw [HE.out]; rfl,rfl⟩
theorem Ev (x n:Nat) (hx:x<4294967296) (hn:n<=1000) (w:World) :
  Calls prog 116 #[.int .u64 x,.int .i64 n] w λe w'=>e = .returned (.int .u64 (fV x n:Nat))/\w=w':=by
 have HT:Hid (∀ k,fV x k<4294967296):=hid (λk=>by rw [lW]; exact Nat.lt_of_le_of_lt (Nat.div_le_self _ _) hx);have HS:=hid (λk=>zJ k x);clear hx;go_enter func116,ntmps116;go_wp2;go_loop [0,5] (λv i=>∃ k:Nat,k<=n/\i = .int .i64 k/\v = .int .u64 (fV x k:Nat)) (λ_ i=>n-(intOf i).toNat)
 case atStart=>exact ⟨0,Nat.zero_le _,rfl,rfl⟩
 case round =>
  obtain ⟨k,hk,rfl,rfl⟩:=hrel;have hy:=HT.out k;have hs:=HS.out k;obtain ⟨y,hye⟩:=av (fV x k)
  rw [hye] at hy hs ⊢;have HY:=hid hs;have HE:=hid hye;clear hs hye;by_cases hlt:k<n
  .go_wp2;go_round
   case rel=>exact ⟨k+1,by omega,by go_num,by rw [HY.out]; go_num⟩
   case measure=>simp [intOf]; omega
  .obtain rfl:k=n:=by omega
   go_wp2;go_ret;exact ⟨by rw [HE.out]; rfl,rfl⟩
theorem yR (x n:Nat) (N:Int) (hN:N=n) (hx:x<4294967296) (hn:n<=1000) (w:World) :
  Calls prog 115 #[.int .u64 x,.int .i64 N] w λe w'=>e = .returned (.int .u64 (bg x n:Nat))/\w=w':=by
 subst hN; exact lG x n hx hn w
theorem iw {w:World} {rest:List Oper} {a:Act} (hgd:o.guard=none) (v:Value) (w':World)
  (hr:(execOp a.eval o).run P w = .ok (.value v) w') (h:wpList P ops Q rest (a.put o.dst v) w'):wpList P ops Q (o::rest) a w :=
 wpList_plain hgd λK hK=>by
  unfold Oper.wp;rw [hr];exact hK _ _ h
def wc (l:List Nat):aM:=(l.map λ(x:Nat)=>Value.int .u64 (x:Int)).toArray
theorem NK (w:World) (l:List Nat) (t:TypeId) (i:Nat) (hi:i<l.length):(w.alloc (.cells (wc l) t)).cell? ⟨w.heap.size,i,none⟩=some (.int .u64 (l.getD i 0:Nat)):=by
 rw [World.cell?_alloc_mark];simp [wc,List.getD,hi]
theorem YJ:Jl.length=64:=by decide +kernel
theorem YR (i:Nat) (hi:i<64) (w:World) :
  Calls prog 118 #[.int .i64 i] w λe w'=>e = .returned (.int .u64 (kN i:Nat))/\Below w.heap.size w w':=by
 have hc:=NK w Jl 145 i (by rw [YJ]; exact hi);obtain ⟨y,hy⟩:=av (kN i)
 have hy2:Jl.getD i 0=y:=hy;rw [hy2] at hc;rw [hy];clear hy hy2;go_enter func118,ntmps118;go_wp2_with (refine iw (o:=⟨some 4,_,_,_,_,_⟩) rfl (.slice (some ⟨w.heap.size,0,none⟩) 64 64) (w.alloc (.cells (wc Jl) 145)) (by kernel_rfl) ?_)
 go_ret;exact ⟨rfl,aG.alloc aF _⟩
end Sh
end
namespace Sh
def jd (g:Nat->Nat) (i:Nat):Nat->Nat
 | 0=>0
 | j+1=>256*jd g i j+g (4*i+j)
theorem BF (g:Nat->Nat) (hg:∀ q,g q<256) (i:Nat):∀ j,jd g i j<256 ^ j
 | 0=>by simp [jd]
 | j+1=>by
  have:=BF g hg i j;have:=hg (4*i+j);rw [jd,Nat.pow_succ];omega
def sg0 (x:Nat):Nat:=bg x 7 ^^^ bg x 18 ^^^ fV x 3
def sg1 (x:Nat):Nat:=bg x 17 ^^^ bg x 19 ^^^ fV x 10
def zL (g:Nat->Nat) (l:List Nat) (k:Nat):Nat :=
 if k<16 then jd g k 4 else (l.getD (k-16) 0+sg0 (l.getD (k-15) 0)+l.getD (k-7) 0+sg1 (l.getD (k-2) 0))%4294967296
def jT (g:Nat->Nat):Nat->List Nat
 | 0=>[]
 | k+1=>jT g k++[zL g (jT g k) k]
theorem iO (g:Nat->Nat):∀ k,(jT g k).length=k
 | 0=>rfl
 | k+1=>by rw [jT,List.length_append,iO g k]; rfl
theorem Tj (g:Nat->Nat) (hg:∀ q,g q<256) (l:List Nat) (k:Nat):zL g l k<4294967296:=by
 unfold zL;split
 .exact BF g hg k 4
 .exact Nat.mod_lt _ (by omega)
theorem wN (g:Nat->Nat) (hg:∀ q,g q<256):∀ k,∀ x∈jT g k,x<4294967296
 | 0,x,h=>by cases h
 | k+1,x,h=>by
  rw [jT] at h;rcases List.mem_append.1 h with h | h
  .exact wN g hg k x h
  .rw [List.mem_singleton.1 h]; exact Tj g hg _ _
theorem getD_lt {l:List Nat} (h:∀ x∈l,x<4294967296) (j:Nat):l.getD j 0<4294967296:=by
 by_cases hj:j<l.length
 .rw [List.getD,List.getElem?_eq_getElem hj]; exact h _ (List.getElem_mem hj)
 .rw [List.getD,List.getElem?_eq_none (by omega)]; decide
theorem zZ {a b c:Nat} (ha:a<4294967296) (hb:b<4294967296) (hc:c<4294967296):a ^^^ b ^^^ c<4294967296 :=
 Nat.xor_lt_two_pow (n:=32) (Nat.xor_lt_two_pow (n:=32) ha hb) hc
theorem Ey (x n:Nat) (h:x<4294967296):fV x n<4294967296:=by rw [lW]; exact Nat.lt_of_le_of_lt (Nat.div_le_self _ _) h
theorem TR (x:Nat) (h:x<4294967296):sg0 x<4294967296:=zZ (bH _ _ h) (bH _ _ h) (Ey _ _ h)
theorem Us (x:Nat) (h:x<4294967296):sg1 x<4294967296:=zZ (bH _ _ h) (bH _ _ h) (Ey _ _ h)
theorem YN (k:Nat):kN k<4294967296:=getD_lt (by decide +kernel) k
def bs1 (e:Nat):Nat:=bg e 6 ^^^ bg e 11 ^^^ bg e 25
def bs0 (a:Nat):Nat:=bg a 2 ^^^ bg a 13 ^^^ bg a 22
def zl (e f g:Nat):Nat:=(e &&& f) ||| ((4294967295-e) &&& g)
def Ce (a b c:Nat):Nat:=(a &&& b) ||| (a &&& c) ||| (b &&& c)
theorem RS (x:Nat) (h:x<4294967296):bs1 x<4294967296:=zZ (bH _ _ h) (bH _ _ h) (bH _ _ h)
theorem Tw (x:Nat) (h:x<4294967296):bs0 x<4294967296:=zZ (bH _ _ h) (bH _ _ h) (bH _ _ h)
theorem Iy (e f g:Nat) (he:e<4294967296):zl e f g<4294967296 :=
 Nat.or_lt_two_pow (n:=32) (Nat.lt_of_le_of_lt Nat.and_le_left he) (Nat.lt_of_le_of_lt Nat.and_le_left (by omega))
theorem Iz (a b c:Nat) (ha:a<4294967296) (hb:b<4294967296):Ce a b c<4294967296 :=
 Nat.or_lt_two_pow (n:=32) (Nat.or_lt_two_pow (n:=32) (Nat.lt_of_le_of_lt Nat.and_le_left ha) (Nat.lt_of_le_of_lt Nat.and_le_left ha)) (Nat.lt_of_le_of_lt Nat.and_le_left hb)
def xN (k w e f g h:Nat):Nat:=(h+bs1 e+zl e f g+k+w)%4294967296
def yN (a b c:Nat):Nat:=(bs0 a+Ce a b c)%4294967296
def tO (k w:Nat) (v:List Nat):List Nat :=
 [(xN k w (v.getD 4 0) (v.getD 5 0) (v.getD 6 0) (v.getD 7 0)+yN (v.getD 0 0) (v.getD 1 0) (v.getD 2 0))%4294967296,v.getD 0 0,v.getD 1 0,v.getD 2 0,
  (v.getD 3 0+xN k w (v.getD 4 0) (v.getD 5 0) (v.getD 6 0) (v.getD 7 0))%4294967296,v.getD 4 0,v.getD 5 0,v.getD 6 0]
def sK (ws:List Nat) (h:List Nat):Nat->List Nat
 | 0=>h
 | k+1=>tO (kN k) (ws.getD k 0) (sK ws h k)
theorem zn (ws h:List Nat) (hh:h.length=8):∀ k,(sK ws h k).length=8
 | 0=>hh
 | _+1=>rfl
theorem xM (ws h:List Nat) (hh:∀ x∈h,x<4294967296):∀ k,∀ x∈sK ws h k,x<4294967296
 | 0=>hh
 | k+1=>by
  have ih:=λj=>getD_lt (xM ws h hh k) j;intro x hx;simp only [sK,tO,List.mem_cons,List.not_mem_nil,or_false] at hx;rcases hx with rfl | rfl | rfl | rfl | rfl | rfl | rfl | rfl <;> first | exact ih _ | exact Nat.mod_lt _ (by omega)
def wZ (h v:List Nat) (k:Nat):List Nat:=(List.range k).map λi=>(h.getD i 0+v.getD i 0)%4294967296
def lH (g:Nat->Nat) (h:List Nat):List Nat:=wZ h (sK (jT g 64) h 64) 8
theorem Ph (h v:List Nat) (k:Nat):wZ h v (k+1)=wZ h v k++[(h.getD k 0+v.getD k 0)%4294967296]:=by simp [wZ,List.range_succ]
theorem zu (h v:List Nat) (k:Nat):(wZ h v k).length=k:=by simp [wZ]
theorem NC (h v:List Nat) (k:Nat):∀ x∈wZ h v k,x<4294967296:=by
 intro x hx;simp only [wZ,List.mem_map] at hx;obtain ⟨_,_,rfl⟩:=hx;exact Nat.mod_lt _ (by omega)
def vO (h v:List Nat) (j:Nat):List Nat:=(List.range 8).map λi=>if i<j then (h.getD i 0+v.getD i 0)%4294967296 else h.getD i 0
theorem pV (h v:List Nat) (j:Nat):(vO h v j).length=8:=by simp [vO]
theorem Pf (h v:List Nat) (hh:h.length=8):vO h v 0=h:=by
 apply List.ext_getElem
 .rw [pV,hh]
 .intro i h1 h2;simp [vO,List.getD,h2]
theorem Tq (h v:List Nat):vO h v 8=wZ h v 8:=by
 unfold vO wZ;apply List.map_congr_left;intro i hi;rw [if_pos (List.mem_range.1 hi)]
theorem PX (h v:List Nat) (j:Nat) (hj:j<8):(vO h v j).getD j 0=h.getD j 0:=by simp [vO,List.getD,hj]
theorem SY (h v:List Nat) (j:Nat) (hj:j<8):(vO h v j).set j ((h.getD j 0+v.getD j 0)%4294967296)=vO h v (j+1):=by
 apply List.ext_getElem
 .simp [pV]
 .intro i h1 h2;rw [pV] at h2;by_cases e:i=j
  .subst e; simp [vO]
  .rw [List.getElem_set_ne (by omega)];have:i<j+1↔i<j:=by omega
   simp [vO,this]
theorem eight (l:List Nat) (h:l.length=8):∃ x0 x1 x2 x3 x4 x5 x6 x7,l=[x0,x1,x2,x3,x4,x5,x6,x7]:=by
 match l,h with
 | [x0,x1,x2,x3,x4,x5,x6,x7],_=>exact ⟨_,_,_,_,_,_,_,_,rfl⟩
def ig (n:Nat):Nat:=(119-n%64)%64
def nL (l:aL) (k:Nat):aL:=l++[128]++List.replicate k 0
def beK (N k:Nat):aL:=((List.range k).map λj=>UInt8.ofNat (N/256 ^ j%256)).reverse
def iR (l:aL):aL:=nL l (ig l.length)++beK (8*l.length) 8
theorem Md (l:aL) (k:Nat):nL l (k+1)=nL l k++[0]:=by
 simp [nL,List.replicate_succ']
theorem qW (l:aL) (k:Nat):(nL l k).length=l.length+1+k:=by simp [nL]; omega
theorem Uc (N k:Nat):beK N (k+1)=[UInt8.ofNat (N/256 ^ k%256)]++beK N k:=by
 simp [beK,List.range_succ]
theorem vJ (N k:Nat):(beK N k).length=k:=by simp [beK]
theorem xK (l:aL):(iR l).length=l.length+9+ig l.length:=by simp [iR,qW,vJ]; omega
theorem EK (l:aL):(iR l).length%64=0:=by rw [xK]; unfold ig; omega
def start:List Nat:=[1779033703,3144134277,1013904242,2773480762,1359893119,2600822924,528734635,1541459225]
def pK (t:aL) (k q:Nat):Nat:=(t.getD (64*k+q) 0).toNat
def oH (t:aL):Nat->List Nat
 | 0=>start
 | k+1=>lH (pK t k) (oH t k)
def nA (t:aL) (h:List Nat):Nat->List Nat
 | 0=>h
 | k+1=>lH (pK t k) (nA t h k)
theorem CU (t:aL):∀ k,nA t start k=oH t k
 | 0=>rfl
 | k+1=>by rw [nA,oH,CU t k]
theorem zh (t:aL) (h:List Nat) (hh:h.length=8):∀ k,(nA t h k).length=8
 | 0=>hh
 | _+1=>zu _ _ _
theorem MQ (t:aL) (h:List Nat) (hh:∀ x∈h,x<4294967296):∀ k,∀ x∈nA t h k,x<4294967296
 | 0=>hh
 | _+1=>NC _ _ _
theorem zi {g g':Nat->Nat} (i:Nat):∀ j,(∀ q,q<4*i+j->g q=g' q)->jd g i j=jd g' i j
 | 0,_=>rfl
 | j+1,h=>by rw [jd,jd,zi i j (λq hq=>h q (by omega)),h _ (by omega)]
theorem AJ {g g':Nat->Nat} (h:∀ q,q<64->g q=g' q):∀ k,jT g k=jT g' k
 | 0=>rfl
 | k+1=>by
  rw [jT,jT,AJ h k];congr 2;unfold zL;split
  .exact zi k 4 (λq hq=>h q (by omega))
  .rfl
theorem rz {g g':Nat->Nat} (h:∀ q,q<64->g q=g' q) (hs:List Nat):lH g hs=lH g' hs:=by
 unfold lH;rw [AJ h]
theorem Ec (t u:aL) (a:Nat) (ht:t.length=64*a) (h:List Nat):∀ b,nA (t++u) h (a+b)=nA u (nA t h a) b
 | 0=>by
  have:∀ k,k<=a->nA (t++u) h k=nA t h k:=by
   intro k
   induction k with
   | zero=>intro _; rfl
   | succ k ih =>
    intro hk;rw [nA,nA,ih (by omega)];refine rz (λq hq=>?_) _;unfold pK;rw [List.getD,List.getD,List.getElem?_append_left (by omega)]
  exact this a aF
 | b+1=>by
  show nA (t++u) h (a+b+1)=_;rw [nA,nA,Ec t u a ht h b];refine rz (λq _=>?_) _;unfold pK;rw [List.getD,List.getD,List.getElem?_append_right (by omega),ht,show 64*(a+b)+q-64*a=64*b+q by omega]
theorem wO (t:aL):∀ k,(oH t k).length=8
 | 0=>rfl
 | _+1=>zu _ _ _
theorem Gs (t:aL):∀ k,∀ x∈oH t k,x<4294967296
 | 0=>by show ∀ x∈start,x<4294967296; decide
 | _+1=>NC _ _ _
def nH (s:aK) (q:Nat):Nat:=(s.data.toList.getD q 0).toNat
theorem EP (s:aK) (q:Nat):nH s q<256:=UInt8.toNat_lt _
theorem Ei (s:aK) (q:Nat) (h:q<s.size):s[q].toNat=nH s q:=by
 have hl:q<s.data.toList.length:=by simpa using h
 unfold nH;rw [List.getD,List.getElem?_eq_getElem hl]; rfl
def uX (h:List Nat) (i:Nat):Nat:=h.getD (i/4) 0/256 ^ (3-i%4)%256
def vR (h:List Nat) (k:Nat):aL:=(List.range k).map λi=>UInt8.ofNat (uX h i)
theorem Og (h:List Nat) (k:Nat):vR h (k+1)=vR h k++[UInt8.ofNat (uX h k)]:=by simp [vR,List.range_succ]
theorem zP (h:List Nat) (k:Nat):(vR h k).length=k:=by simp [vR]
def FR (l:aL):aL:=vR (oH (iR l) ((iR l).length/64)) 32
theorem sQ (l:aL):(FR l).length=32:=zP _ _
end Sh
section
open Go.RowKit
namespace Sh
theorem jr (v:Int) (x:Nat) (hx:x<256) (hv:v=x) (w:World) :
  Sem.run prog (convert 42 9 (Value.slice (some ⟨w.heap.size,0,none⟩) 1 1)) (w.alloc (.cells #[.int .u8 v] 5)) = .ok (.string ⟨#[UInt8.ofNat x]⟩) (w.alloc (.cells #[.int .u8 v] 5)):=by
 subst hv;have h:=run_convert_bytes_back (P:=prog) (w.alloc (.cells #[.int .u8 x] 5)) 42 9 5 ⟨w.heap.size,0,none⟩ 1 [UInt8.ofNat x] underlying42 underlying5 underlying9
  (λj hj=>by
   obtain rfl:j=0:=by simpa using hj
   have e:(UInt8.ofNat x).toNat=x:=by simp; omega
   simp [Addr.add,e])
 exact h
theorem BZ (x y:aL):(⟨x.toArray⟩:aK)++⟨y.toArray⟩=⟨(x++y).toArray⟩:=by
 have h:((⟨x.toArray⟩:aK)++⟨y.toArray⟩).data=(x++y).toArray:=by
  rw [ByteArray.data_append]; simp
 cases e:((⟨x.toArray⟩:aK)++⟨y.toArray⟩) with
 | mk d=>rw [e] at h; simp only at h; rw [h]
theorem fG (x:aL):(⟨x.toArray⟩:aK).size=x.length:=by show x.toArray.size=_; simp
theorem UZ (l:aL) (hl:l.length<=1000000) (w:World) :
  Calls prog 84 #[.string ⟨l.toArray⟩] w λe w'=>e = .returned (.string ⟨(iR l).toArray⟩)/\Below w.heap.size w w':=by
 obtain ⟨s,hs⟩:=av (⟨l.toArray⟩:aK)
 have hsz:s.size=l.length:=by rw [<-hs,fG]
 have HST:Hid (s++⟨#[128]⟩=⟨(nL l 0).toArray⟩):=hid (by rw [<-hs]; exact (BZ l [128]).trans (by simp [nL]));have hle:s.size<=1000000:=by omega
 rw [hs];have HZ:=hid hsz;clear hs hsz;go_enter func84,ntmps84;go_wp2;go_loop [3] (λt=>∃ k:Nat,Hid (k<=ig l.length)/\t = .string ⟨(nL l k).toArray⟩) (λt=>match t with | .string b=>1100000-b.size | _=>0)
 case atStart=>exact ⟨0,hid (Nat.zero_le _),by rw [HST.out]⟩
 case round =>
  obtain ⟨k,HK,rfl⟩:=hrel;have hz:ig l.length<64:=Nat.mod_lt _ (by omega);have hk:=HK.out;have hsz:(⟨(nL l k).toArray⟩:aK).size=l.length+1+k:=by rw [fG,qW]
  have HN:Hid ((⟨(nL l k).toArray⟩:aK)++⟨#[0]⟩=⟨(nL l (k+1)).toArray⟩):=hid (by rw [Md]; exact BZ _ [0]);have HZ2:Hid ((⟨(nL l (k+1)).toArray⟩:aK).size=l.length+1+(k+1)):=hid (by rw [fG,qW]);by_cases hlt:k<ig l.length
  .have hne:(((l.length+1+k:Nat):Int)%64 != 56)=true:=by
    unfold ig at hlt; simp; omega
   obtain ⟨T,hT⟩:=av (⟨(nL l k).toArray⟩:aK)
   obtain ⟨L,hL⟩:=av (l.length+1+k)
   rw [hT] at hsz HN ⊢;rw [hL] at hsz hne;have ei:L<=1000100:=by have:=HZ.out; omega
   have HL:=hid hL;have Ek:=hid hlt;clear hT hL hk hlt hz;go_wp2;go_round
   case rel=>exact ⟨k+1,hid (by have:=Ek.out; omega),by rw [HN.out]⟩
   case measure =>
    show 1100000-(T++⟨#[0]⟩:aK).size<1100000-T.size;rw [HN.out,HZ2.out,hsz];have:=HL.out;omega
  .have hkz:k=ig l.length:=by omega
   have hne:(((l.length+1+k:Nat):Int)%64 != 56)=false:=by
    rw [hkz]; unfold ig; simp; omega
   obtain ⟨T,hT⟩:=av (⟨(nL l k).toArray⟩:aK)
   obtain ⟨L,hL⟩:=av (l.length+1+k)
   have HT:Hid (T++⟨(beK (8*l.length) 8).toArray⟩=⟨(iR l).toArray⟩):=hid (by
    rw [<-hT,BZ,hkz]; rfl)
   rw [hT] at hsz ⊢;rw [hL] at hsz hne;have ei:L<=1000100:=by have:=HZ.out; omega
   clear hT hL hk hlt hz HN HZ2 hkz HK HST;go_wp2;go_loopw [4,5,6] (λn d i wr=>∃ j:Nat,j<=8/\i = .int .i64 j/\n = .int .u64 (8*s.size/256 ^ j:Nat)/\d = .string ⟨(beK (8*s.size) j).toArray⟩/\Below w.heap.size w wr) (λ_ _ i _=>8-(intOf i).toNat)
   case atStart=>exact ⟨0,Nat.zero_le _,rfl,by simp,rfl,aG⟩
   case round =>
    obtain ⟨j,hj,rfl,rfl,rfl,hB⟩:=hrel;obtain ⟨m,hm⟩:=av (8*s.size/256 ^ j)
    have X3:m<18446744073709551616:=by
     rw [<-hm]; exact Nat.lt_of_le_of_lt (Nat.div_le_self _ _) (by omega)
    have HD:Hid (8*s.size/256 ^ (j+1)=m/256):=hid (by rw [Nat.pow_succ,<-Nat.div_div_eq_div_mul,hm]);have HS:Hid ((⟨#[UInt8.ofNat (m%256)]⟩:aK)++⟨(beK (8*s.size) j).toArray⟩=⟨(beK (8*s.size) (j+1)).toArray⟩):=hid (by
     rw [Uc,hm]; exact BZ [_] _)
    have X4:(⟨(beK (8*s.size) j).toArray⟩:aK).size<=8:=by rw [fG,vJ]; exact hj
    obtain ⟨E,hE⟩:=av (⟨(beK (8*s.size) j).toArray⟩:aK)
    obtain ⟨C,hC⟩:=av (⟨#[UInt8.ofNat (m%256)]⟩:aK)
    have hCs:C.size<=1:=by rw [<-hC]; exact aF
    have hcv:=jr ((m:Int)%256) (m%256) (by omega) (by omega) wr;rw [hC] at hcv HS;rw [hE] at HS X4;rw [hm,hE];have HE:=hid hE;clear hm hE hC;by_cases hlt:j<8
    .go_wp2;go_roundw
     case rel=>exact ⟨j+1,by omega,by go_num,by rw [HD.out]; go_num,by rw [HS.out],hB.alloc hB.size _⟩
     case measure=>simp [intOf]; omega
    .obtain rfl:j=8:=by omega
     have HF:Hid (T++E=⟨(iR l).toArray⟩):=hid (by rw [<-HT.out,<-HE.out,HZ.out]);clear hcv;go_wp2;go_ret;exact ⟨by rw [<-HF.out]; rfl,hB⟩
end Sh
end
end Go.Proofs.YtlcplcgigjagpaaGreatDoor
