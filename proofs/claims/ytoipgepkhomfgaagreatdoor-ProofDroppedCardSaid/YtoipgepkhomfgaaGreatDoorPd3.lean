/-
 The contract of nib.Pack.
-/
import Derived.Test.YtoipgepkhomfgaaGreatDoorPd2
open Go.Lib (hid)
open Go.Proofs.Tryz
set_option linter.unusedSimpArgs false
set_option linter.unusedVariables false
set_option maxHeartbeats 40000000
set_option maxRecDepth 100000
namespace Go.Proofs.YtoipgepkhomfgaaGreatDoor
variable {B d i j q:Nat} {t:TypeId} {v:Value} {ev:Operand->Value} {o:Oper}
section
open Go.RowKit
namespace Ni
def iE (n:Nat) (leaf:Bool):Nat:=n%2+if leaf then 2 else 0
def jE (l:aM) (leaf:Bool):aM:=[UInt8.ofNat (iE l.length leaf)]++((if l.length%2=1 then l.take 1 else [0])++l.drop (l.length%2))
def jV (l:aM) (leaf:Bool):aM:=gU (jE l leaf) (l.length/2+1)
theorem qx (l:aM) (leaf:Bool):(jE l leaf).length=2*(l.length/2+1):=by
 unfold jE;rw [List.length_append,List.length_append,List.length_drop];by_cases h:l.length%2=1
 .rw [if_pos h,List.length_take]; simp; omega
 .rw [if_neg h]; simp; omega
theorem rE (l:aM) (leaf:Bool) (h:dh l=true):dh (jE l leaf)=true:=by
 unfold dh at h ⊢;rw [List.all_eq_true] at h ⊢;intro x hx;unfold jE at hx;simp only [List.mem_append,List.mem_singleton] at hx;rcases hx with hx | hx | hx
 .subst hx;have:iE l.length leaf<=3:=by unfold iE; cases leaf <;> simp <;> omega
  simp only [UInt8.toNat_ofNat',decide_eq_true_eq]; omega
 .split at hx
  .exact h x (List.mem_of_mem_take hx)
  .simp at hx; subst hx; decide
 .exact h x (List.mem_of_mem_drop hx)
theorem aad (w:World) (m:UInt8) (v:Value) (hv:v = .int .u8 m.toNat) (a1 a2:aK) (n1 c1 n2 c2:Nat) (l1 l2:aM) (h1:bf w a1 n1 c1 l1) (h2:bf w a2 n2 c2 l2) :
  Cc.zK ((w.alloc (.cells #[v] 5)).alloc (.cells #[.slice (some ⟨w.heap.size,0,none⟩) 1 1,.slice a1 n1 c1,.slice a2 n2 c2] 40)) (some ⟨w.heap.size+1,0,none⟩) 3 [[m],l1,l2]:=by
 subst hv;have hb:Below w.heap.size w ((w.alloc (.cells #[.int .u8 m.toNat] 5)).alloc (.cells #[.slice (some ⟨w.heap.size,0,none⟩) 1 1,.slice a1 n1 c1,.slice a2 n2 c2] 40)) :=
  (aH.alloc aG _).alloc (by simp) _
 refine ⟨rfl,λj hj=>⟨w.heap.size+1,0,rfl,by simp,?_⟩⟩
 match j,hj with
 | 0,_ =>
  refine ⟨some ⟨w.heap.size,0,none⟩,1,1,by simp,⟨aG,by unfold maxLen; omega,rfl,λe=>(by cases e),λq hq=>?_⟩⟩;obtain rfl:q=0:=by omega
  exact ⟨w.heap.size,0,rfl,by simp; omega,by simp⟩
 | 1,_=>exact ⟨a1,n1,c1,by simp,h1.below hb⟩
 | 2,_=>exact ⟨a2,n2,c2,by simp,h2.below hb⟩
theorem nD (l:aM) (leaf:Bool) (mk:UInt8) (l1 l2:aM) (hf:[mk]++(l1++l2)=jE l leaf) (hl:l.length<=64) (v:Value) (hv:v = .int .u8 mk.toNat) (w:World) (a1 a2:aK) (n1 c1 n2 c2:Nat) (h1:bf w a1 n1 c1 l1) (h2:bf w a2 n2 c2 l2) :
  Calls prog 148 #[.slice (some ⟨w.heap.size+1,0,none⟩) 3 3] ((w.alloc (.cells #[v] 5)).alloc (.cells #[.slice (some ⟨w.heap.size,0,none⟩) 1 1,.slice a1 n1 c1,.slice a2 n2 c2] 40)) λe w'=>∃ a n cap,e = .returned (.slice a n cap)/\bf w' a n cap (jE l leaf)/\Below w.heap.size w w':=by
 have e:[[mk],l1,l2].flatten=jE l leaf:=by rw [<-hf]; simp
 refine (Ul _ 3 3 [[mk],l1,l2] (by omega) (by rw [e,qx]; omega) _ (aad w mk v hv a1 a2 n1 c1 n2 c2 l1 l2 h1 h2)).mono ?_;rintro en w' ⟨a,n,cap,rfl,hx,hb⟩;rw [e] at hx;exact ⟨a,n,cap,rfl,hx,((aH.alloc aG _).alloc (by simp) _).trans (hb.mono (by simp; omega))⟩
theorem lC (l:aM) (leaf:Bool) (hr:dh l=true) (hl:l.length<=64) (a:aK) (n cap:Nat) (w:World) (h:bf w a n cap (jE l leaf)) :
  Calls prog 147 #[.slice a n cap] w λe w'=>e = .returned (.string ⟨(jV l leaf).toArray⟩)/\Below w.heap.size w w':=by
 have hn:n=2*(l.length/2+1):=by rw [<-h.len,qx]
 refine (wS a n cap (jE l leaf) (rE l leaf hr) (by omega) (by omega) w h).mono ?_;rintro e w' ⟨rfl,hb⟩;have e2:n/2=l.length/2+1:=by omega
 refine ⟨?_,hb⟩;unfold jV;rw [e2]
theorem Tz:(prog.info? 5).map (λi=>(i.zero,i.size,i.bytes))=some (some (.int .u8 0),1,1):=by kernel_rfl
theorem DR (l:aM) (leaf:Bool) (h:l.length%2=0):[UInt8.ofNat (iE l.length leaf)]++([0]++l)=jE l leaf:=by
 unfold jE;rw [if_neg (by omega),h,List.drop_zero]
theorem Qm (a:aK) (n c:Nat) (l:aM) (leaf:Bool) (hn:n<=64) (h2:n%2=0) (hr:dh l=true) (w:World) (h:bf w a n c l) :
  Calls prog 99 #[.slice a n c,.bool leaf] w λe w'=>e = .returned (.tuple #[.string ⟨(jV l leaf).toArray⟩,.int .i64 0])/\Below w.heap.size w w':=by
 have hR:=eX a n c l w h;rw [hr] at hR;have HR:=hid hR;have hnc:=h.1;have hcm:=h.2.1;unfold maxLen at hcm;have H:=hid h;have hm:(n:Int)%2=0:=by omega
 obtain ⟨i0,hi,hz0,hz1,hz2⟩:=info_parts Tz;have HI:Hid (_/\_/\_/\_):=hid ⟨hi,hz0,hz1,hz2⟩;have ef:=hid (DR l false (by rw [h.len]; exact h2));have fW:=hid (DR l true (by rw [h.len]; exact h2));have eh:Hid (Value.int .u8 0 = .int .u8 (UInt8.ofNat (iE l.length false)).toNat):=hid (by simp [iE,h.len,h2]);have fX:Hid (Value.int .u8 (bits .or .u8 0 2) = .int .u8 (UInt8.ofNat (iE l.length true)).toNat):=hid (by simp [iE,h.len,h2]; decide +kernel);have HRR:=hid hr;have hll:l.length<=64:=by rw [h.len]; exact hn
 clear hR hr h h2 hi hz0 hz1 hz2;cases leaf
 .go_enter func99,ntmps99;go_wp2_with fail
  refine HR.out.mono ?_;rintro e w1 ⟨rfl,rfl⟩;go_wp2_with fail
  go_quiet ((go_at_call 146; exact Calls.quiet_of_same (Bj _ _ _ _)))
  go_wp2_with (at_builtin; refine wpList_append_grows _ rfl (.tmp 30) (.tmp 31) 40 rfl 5 i0 (.int .u8 0) 1 1 underlying40 HI.out.1 HI.out.2.1 HI.out.2.2.1 HI.out.2.2.2 rfl (by decide) a 0 0 [] rfl (λ_=>⟨rfl,rfl⟩) rfl (by intro _ _ _ _ h; simp at h) ⟨w.heap.size,0,none⟩ 1 1 [.int .u8 0] rfl rfl ?c1 ?c2 (by omega) (by unfold maxLen; omega) (by omega) ?grow)
  case c1=>exact Bu.cell_one_new' _ _ _ _
  case c2=>intro u hu; simp at hu; subst hu; rfl
  case grow =>
   intro v' w2 hown hg;obtain ⟨a',cap',rfl,hx⟩:=bf.oF (l:=[0]) hown;have HX:=hid hx;have H2:=hid (((H.out.drewN nq).alloc (.cells #[.int .u8 0] 5)).grown hg);clear hx hown;go_wp2_with fail
   refine (nD l false (UInt8.ofNat (iE l.length false)) [0] l ef.out (by omega) _ eh.out _ _ _ _ _ _ _ HX.out H2.out).mono ?_;rintro e w3 ⟨a3,n3,c3,rfl,hx3,hb3⟩;go_wp2_with fail
   refine (lC l false HRR.out (by omega) _ _ _ _ hx3).mono ?_;rintro e w4 ⟨rfl,hb4⟩;go_wp2;go_ret2
   have hbw:Below w.heap.size w w2:=((below_drewN (Below.refl w.heap.size w) nq).alloc aG _).grown hg (by simp) (λk hk=>by cases hk);exact ⟨rfl,(hbw.trans (hb3.mono hbw.size)).trans (hb4.mono (Nat.le_trans hbw.size hb3.size))⟩
 .go_enter func99,ntmps99;go_wp2_with fail
  refine HR.out.mono ?_;rintro e w1 ⟨rfl,rfl⟩;go_wp2_with fail
  go_quiet ((go_at_call 146; exact Calls.quiet_of_same (Bj _ _ _ _)))
  go_wp2_with (at_builtin; refine wpList_append_grows _ rfl (.tmp 30) (.tmp 31) 40 rfl 5 i0 (.int .u8 0) 1 1 underlying40 HI.out.1 HI.out.2.1 HI.out.2.2.1 HI.out.2.2.2 rfl (by decide) a 0 0 [] rfl (λ_=>⟨rfl,rfl⟩) rfl (by intro _ _ _ _ h; simp at h) ⟨w.heap.size,0,none⟩ 1 1 [.int .u8 0] rfl rfl ?d1 ?d2 (by omega) (by unfold maxLen; omega) (by omega) ?CE)
  case d1=>exact Bu.cell_one_new' _ _ _ _
  case d2=>intro u hu; simp at hu; subst hu; rfl
  case CE =>
   intro v' w2 hown hg;obtain ⟨a',cap',rfl,hx⟩:=bf.oF (l:=[0]) hown;have HX:=hid hx;have H2:=hid (((H.out.drewN nq).alloc (.cells #[.int .u8 0] 5)).grown hg);clear hx hown;go_wp2_with fail
   refine (nD l true (UInt8.ofNat (iE l.length true)) [0] l fW.out (by omega) _ fX.out _ _ _ _ _ _ _ HX.out H2.out).mono ?_;rintro e w3 ⟨a3,n3,c3,rfl,hx3,hb3⟩;go_wp2_with fail
   refine (lC l true HRR.out (by omega) _ _ _ _ hx3).mono ?_;rintro e w4 ⟨rfl,hb4⟩;go_wp2;go_ret2
   have hbw:Below w.heap.size w w2:=((below_drewN (Below.refl w.heap.size w) nq).alloc aG _).grown hg (by simp) (λk hk=>by cases hk);exact ⟨rfl,(hbw.trans (hb3.mono hbw.size)).trans (hb4.mono (Nat.le_trans hbw.size hb3.size))⟩
theorem Hf (l:aM) (leaf:Bool) (h:l.length%2=1):[UInt8.ofNat (iE l.length leaf)]++(l.take 1++l.drop 1)=jE l leaf:=by
 unfold jE;rw [if_pos h,h]
theorem Vz {b off n c:Nat} {l:aM} {w:World} (h:bf w (some ⟨b,off,none⟩) n c l) (h1:1<=n):bf w (some ⟨b,off,none⟩) 1 1 (l.take 1):=by
 refine ⟨aG,by unfold maxLen; omega,by rw [List.length_take,h.len]; omega,λe=>(by cases e),λq hq=>?_⟩;obtain rfl:q=0:=by omega
 obtain ⟨b',off',e,h2,h3⟩:=h.at' 0 (by omega);simp at e;obtain ⟨rfl,rfl⟩:=e;refine ⟨b,off,rfl,h2,?_⟩;have e:(l.take 1).getD 0 0=l.getD 0 0:=by simp [List.getD]
 rw [e]; exact h3
theorem Sy {b off:Nat} {l:aM} {w:World} (h:bf w (some ⟨b,off,none⟩) 1 1 l):bf w (some ⟨b,off,none⟩) 0 0 (l.drop 1) :=
 ⟨aG,Nat.zero_le _,by rw [List.length_drop,h.len],λ_=>rfl,λq hq=>absurd hq (Nat.not_lt_zero _)⟩
theorem Ti {b off n c:Nat} {l:aM} {w:World} (h:bf w (some ⟨b,off,none⟩) n c l) (h1:1<=n):bf w (some ⟨b,off+1,none⟩) (n-1) (c-1) (l.drop 1):=by
 have hnc:=h.1;have hcm:=h.2.1;refine ⟨by omega,by omega,by rw [List.length_drop,h.len],λe=>(by cases e),λq hq=>?_⟩;obtain ⟨b',off',e,h2,h3⟩:=h.at' (1+q) (by omega);simp at e;obtain ⟨rfl,rfl⟩:=e;refine ⟨b,off+1,rfl,h2,?_⟩;have e:(l.drop 1).getD q 0=l.getD (1+q) 0:=by simp [List.getD,Nat.add_comm]
 rw [e,Nat.add_assoc]; exact h3
theorem Vs (b off:Nat) (n c:Nat) (l:aM) (leaf:Bool) (hn:n<=64) (h2:n%2=1) (hr:dh l=true) (w:World) (h:bf w (some ⟨b,off,none⟩) n c l) :
  Calls prog 99 #[.slice (some ⟨b,off,none⟩) n c,.bool leaf] w λe w'=>e = .returned (.tuple #[.string ⟨(jV l leaf).toArray⟩,.int .i64 0])/\Below w.heap.size w w':=by
 have hR:=eX _ n c l w h;rw [hr] at hR;have HR:=hid hR;have hnc:=h.1;have hcm:=h.2.1;unfold maxLen at hcm;have H:=hid h;have hm:(n:Int)%2=1:=by omega
 have hn1:1<=n:=by omega
 have HRR:=hid hr;have hll:l.length<=64:=by rw [h.len]; exact hn
 have hw1:IntKind.i64.wrap 1=1:=by kernel_rfl
 have hc1:1<=c:=by omega
 have ef:=hid (Hf l false (by rw [h.len]; exact h2));have fW:=hid (Hf l true (by rw [h.len]; exact h2));have eh:Hid (Value.int .u8 1 = .int .u8 (UInt8.ofNat (iE l.length false)).toNat):=hid (by simp [iE,h.len,h2]);have fX:Hid (Value.int .u8 (bits .or .u8 1 2) = .int .u8 (UInt8.ofNat (iE l.length true)).toNat):=hid (by simp [iE,h.len,h2]; decide +kernel);have H1:Hid (bf w (some ⟨b,off,none⟩) 1 1 (l.take 1)):=hid (Vz h hn1);clear hR hr h h2;by_cases hcc:c=1
 .subst hcc;obtain rfl:n=1:=by omega
  have H2:Hid (bf w (some ⟨b,off,none⟩) 0 0 (l.drop 1)):=hid (Sy H.out);clear H;cases leaf
  .go_enter func99,ntmps99;go_wp2_with fail
   refine HR.out.mono ?_;rintro e w1 ⟨rfl,rfl⟩;go_wp2_with fail
   go_quiet ((go_at_call 146; exact Calls.quiet_of_same (sw _ _ _ _ hc1 _ hcm)))
   clear hw1;go_wp2_with fail
   refine (nD l false (UInt8.ofNat (iE l.length false)) (l.take 1) (l.drop 1) ef.out hll _ eh.out _ _ _ _ _ _ _ (H1.out.drewN _) (H2.out.drewN _)).mono ?_;rintro e w3 ⟨a3,n3,c3,rfl,hx3,hb3⟩;go_wp2_with fail
   refine (lC l false HRR.out hll _ _ _ _ hx3).mono ?_;rintro e w4 ⟨rfl,hb4⟩;go_wp2;go_ret2
   exact ⟨rfl,((below_drewN (Below.refl w.heap.size w) _).trans hb3).trans (hb4.mono hb3.size)⟩
  .go_enter func99,ntmps99;go_wp2_with fail
   refine HR.out.mono ?_;rintro e w1 ⟨rfl,rfl⟩;go_wp2_with fail
   go_quiet ((go_at_call 146; exact Calls.quiet_of_same (sw _ _ _ _ hc1 _ hcm)))
   clear hw1;go_wp2_with fail
   refine (nD l true (UInt8.ofNat (iE l.length true)) (l.take 1) (l.drop 1) fW.out hll _ fX.out _ _ _ _ _ _ _ (H1.out.drewN _) (H2.out.drewN _)).mono ?_;rintro e w3 ⟨a3,n3,c3,rfl,hx3,hb3⟩;go_wp2_with fail
   refine (lC l true HRR.out hll _ _ _ _ hx3).mono ?_;rintro e w4 ⟨rfl,hb4⟩;go_wp2;go_ret2
   exact ⟨rfl,((below_drewN (Below.refl w.heap.size w) _).trans hb3).trans (hb4.mono hb3.size)⟩
 .have H2:Hid (bf w (some ⟨b,off+1,none⟩) (n-1) (c-1) (l.drop 1)):=hid (Ti H.out hn1);clear H;cases leaf
  .go_enter func99,ntmps99;go_wp2_with fail
   refine HR.out.mono ?_;rintro e w1 ⟨rfl,rfl⟩;go_wp2_with fail
   go_quiet ((go_at_call 146; exact Calls.quiet_of_same (sw _ _ _ _ hc1 _ hcm)))
   clear hw1;go_wp2_with fail
   refine (nD l false (UInt8.ofNat (iE l.length false)) (l.take 1) (l.drop 1) ef.out hll _ eh.out _ _ _ _ _ _ _ (H1.out.drewN _) (H2.out.drewN _)).mono ?_;rintro e w3 ⟨a3,n3,c3,rfl,hx3,hb3⟩;go_wp2_with fail
   refine (lC l false HRR.out hll _ _ _ _ hx3).mono ?_;rintro e w4 ⟨rfl,hb4⟩;go_wp2;go_ret2
   exact ⟨rfl,((below_drewN (Below.refl w.heap.size w) _).trans hb3).trans (hb4.mono hb3.size)⟩
  .go_enter func99,ntmps99;go_wp2_with fail
   refine HR.out.mono ?_;rintro e w1 ⟨rfl,rfl⟩;go_wp2_with fail
   go_quiet ((go_at_call 146; exact Calls.quiet_of_same (sw _ _ _ _ hc1 _ hcm)))
   clear hw1;go_wp2_with fail
   refine (nD l true (UInt8.ofNat (iE l.length true)) (l.take 1) (l.drop 1) fW.out hll _ fX.out _ _ _ _ _ _ _ (H1.out.drewN _) (H2.out.drewN _)).mono ?_;rintro e w3 ⟨a3,n3,c3,rfl,hx3,hb3⟩;go_wp2_with fail
   refine (lC l true HRR.out hll _ _ _ _ hx3).mono ?_;rintro e w4 ⟨rfl,hb4⟩;go_wp2;go_ret2
   exact ⟨rfl,((below_drewN (Below.refl w.heap.size w) _).trans hb3).trans (hb4.mono hb3.size)⟩
theorem GJ (c:Nat) (s:aL) (hs:s.size<=maxLen) (hi:0<s.size) (w:World) (hc:w.cell? ⟨c,0,none⟩=some (.string s)) :
  Calls prog 159 #[.int .i64 0,.pointer (some ⟨c,0,none⟩)] w λe w'=>e = .returned (.int .u8 (eY s 0:Nat))/\w=w' :=
 jc c s 0 hs hi w hc
theorem GY (c:Nat) (s:aL) (hs:s.size<=maxLen) (hi:0<s.size) (w:World) (hc:w.cell? ⟨c,0,none⟩=some (.string s)) :
  Calls prog 159 #[.int .i64 1,.pointer (some ⟨c,0,none⟩)] w λe w'=>e = .returned (.int .u8 (eY s 1:Nat))/\w=w' :=
 jc c s 1 hs hi w hc
theorem ZF:∀ x:Fin 16,bits .and .u8 ((x:Nat):Int) 1=(((x:Nat)%2:Nat):Int):=by decide +kernel
theorem ZT:∀ x:Fin 16,bits .and .u8 ((x:Nat):Int) 2=((2*((x:Nat)/2%2):Nat):Int):=by decide +kernel
theorem and1 (x:Nat) (h:x<16):bits .and .u8 (x:Int) 1=((x%2:Nat):Int):=ZF ⟨x,h⟩
theorem aar (x:Nat) (h:x<16):bits .and .u8 (x:Int) 2=((2*(x/2%2):Nat):Int):=ZT ⟨x,h⟩
def Bad (s:aL):Prop:=(eY s 0%2=0/\(33<s.size\/3<eY s 0\/eY s 1≠0))\/(eY s 0%2=1/\(32<s.size\/3<eY s 0))
def oO (s:aL):Bool:=decide (eY s 0/2%2=1)
def mO (s:aL):aM:=(fJ s).drop (2-eY s 0%2)
theorem Lu (w:World) :
  Calls prog 200 #[.string ByteArray.empty] w λe w'=>e = .returned (.tuple #[.slice none 0 0,.bool false,.int .i64 5])/\w=w':=by
 go_enter func200,ntmps200;go_wp2;go_ret3
 exact ⟨rfl,rfl⟩
theorem dJ {s:aL} (h:0<s.size):s.toList.isEmpty=false:=by
 rw [ByteArray.toList_eq];cases hd:s.data.toList with
 | nil =>
  have h1:s.data.toList.length=0:=by rw [hd]; rfl
  have h2:s.data.toList.length=s.size:=by simp
  omega
 | cons=>rfl
theorem MC (s:aL) (h0:0<s.size) (hs:s.size<=1000000) (hb:Bad s) (w:World) :
  Calls prog 200 #[.string s] w λe w'=>e = .returned (.tuple #[.slice none 0 0,.bool false,.int .i64 6])/\Below w.heap.size w w':=by
 have hmax:s.size<=maxLen:=by unfold maxLen; omega
 have HC:Hid (∀ wx:World,(wx.alloc (.cells #[.string s] 9)).cell? ⟨wx.heap.size,0,none⟩=some (.string s)):=hid (λwx=>by simp);have hne:=dJ h0;have hx16:=uY s 0;have hand:=and1 (eY s 0) hx16;have T0:=hid (λc wx hc=>GJ c s hmax h0 wx hc);have T1:=hid (λc wx hc=>GY c s hmax h0 wx hc);unfold Bad at hb;obtain ⟨x,hx⟩:=ay (eY s 0)
 obtain ⟨y,hy⟩:=ay (eY s 1)
 rw [hx] at hb hand hx16;rw [hy] at hb;simp only [hx] at T0;simp only [hy] at T1;clear hx hy hmax;rcases hb with ⟨hp,hb⟩ | ⟨hp,hb⟩
 .have hand0:bits .and .u8 (x:Int) 1=0:=by rw [hand,hp]; rfl
  clear hand hp;by_cases hb1:33<s.size
  .clear hb;go_enter func200,ntmps200;go_wp2_with fail
   refine (dX _ _).mono ?_;rintro e w1 ⟨rfl,rfl⟩;go_wp2_with fail
   refine (T0.out _ _ (HC.out _)).mono ?_;rintro e w2 ⟨rfl,rfl⟩;go_wp2;go_ret3
   exact ⟨rfl,aH.alloc aG _⟩
  .by_cases hb2:3<x
   .clear hb;go_enter func200,ntmps200;go_wp2_with fail
    refine (dX _ _).mono ?_;rintro e w1 ⟨rfl,rfl⟩;go_wp2_with fail
    refine (T0.out _ _ (HC.out _)).mono ?_;rintro e w2 ⟨rfl,rfl⟩;go_wp2;go_ret3
    exact ⟨rfl,aH.alloc aG _⟩
   .have hb3:((y:Int) != 0)=true:=by simp; omega
    clear hb;go_enter func200,ntmps200;go_wp2_with fail
    refine (dX _ _).mono ?_;rintro e w1 ⟨rfl,rfl⟩;go_wp2_with fail
    refine (T0.out _ _ (HC.out _)).mono ?_;rintro e w2 ⟨rfl,rfl⟩;go_wp2_with fail
    refine (T1.out _ _ (HC.out _)).mono ?_;rintro e w2 ⟨rfl,rfl⟩;go_wp2;go_ret3
    exact ⟨rfl,aH.alloc aG _⟩
 .have hand0:bits .and .u8 (x:Int) 1=1:=by rw [hand,hp]; rfl
  clear hand hp;by_cases hb1:32<s.size
  .clear hb;go_enter func200,ntmps200;go_wp2_with fail
   refine (dX _ _).mono ?_;rintro e w1 ⟨rfl,rfl⟩;go_wp2_with fail
   refine (T0.out _ _ (HC.out _)).mono ?_;rintro e w2 ⟨rfl,rfl⟩;go_wp2;go_ret3
   exact ⟨rfl,aH.alloc aG _⟩
  .have hb2:3<x:=by omega
   clear hb;go_enter func200,ntmps200;go_wp2_with fail
   refine (dX _ _).mono ?_;rintro e w1 ⟨rfl,rfl⟩;go_wp2_with fail
   refine (T0.out _ _ (HC.out _)).mono ?_;rintro e w2 ⟨rfl,rfl⟩;go_wp2;go_ret3
   exact ⟨rfl,aH.alloc aG _⟩
theorem rA (s:aL):dh (fJ s)=true:=by
 unfold dh fJ;rw [List.all_eq_true];intro x hx;simp only [List.mem_map,List.mem_range] at hx;obtain ⟨i,_,rfl⟩:=hx;have:=uY s i;simp only [UInt8.toNat_ofNat',decide_eq_true_eq]; omega
theorem Te (s:aL) (a:aK) (n cap:Nat) (w:World) (h:bf w a n cap (fJ s)) (k:Nat) (hk:k<=n) (ki:Int) (hki:ki=k) :
  Calls prog 146 #[.slice a n cap,.int .i64 ki,.int .i64 n] w λe w'=>∃ a' n' c',e = .returned (.slice a' n' c')/\bf w a' n' c' ((fJ s).drop k)/\w=w':=by
 subst hki;refine (YD a n cap (fJ s) k n hk aG w h).mono ?_;rintro e w' ⟨a',c',rfl,⟨hx,_⟩,rfl⟩;have e:((fJ s).drop k).take (n-k)=(fJ s).drop k:=List.take_of_length_le (by rw [List.length_drop,h.len]; exact aG);rw [e] at hx;exact ⟨a',_,c',rfl,hx,rfl⟩
def Unp (w:World) (s:aL) (e:Ending) (w':World):Prop :=
 ∃ a n cap,e = .returned (.tuple #[.slice a n cap,.bool (oO s),.int .i64 0])/\bf w' a n cap (mO s)/\Below w.heap.size w w'
theorem Qn (s:aL) (h0:0<s.size) (hb:¬ Bad s) (w:World) :
  Calls prog 200 #[.string s] w (Unp w s):=by
 have hx16:=uY s 0;have hs33:s.size<=33:=by unfold Bad at hb; omega
 have hmax:s.size<=maxLen:=by unfold maxLen; omega
 have HC:Hid (∀ wx:World,(wx.alloc (.cells #[.string s] 9)).cell? ⟨wx.heap.size,0,none⟩=some (.string s)):=hid (λwx=>by simp);have hne:=dJ h0;have hand:=and1 (eY s 0) hx16;have hand2:=aar (eY s 0) hx16;have T0:=hid (λc wx hc=>GJ c s hmax h0 wx hc);have T1:=hid (λc wx hc=>GY c s hmax h0 wx hc);have SP:=hid (λwx=>Ay s (by omega) wx);have CP:=hid (Te s);have hlen:=fE s;have hlf:oO s=decide (eY s 0/2%2=1):=rfl;have hpl:mO s=(fJ s).drop (2-eY s 0%2):=rfl;unfold Bad at hb;obtain ⟨x,hx⟩:=ay (eY s 0)
 obtain ⟨y,hy⟩:=ay (eY s 1)
 rw [hx] at hb hand hx16 hand2 hlf hpl;rw [hy] at hb;simp only [hx] at T0;simp only [hy] at T1;clear hx hy hmax;have HL:=hid hlen;have hx3:x<=3:=by omega
 by_cases hp:x%2=0
 .have hy0:y=0:=by omega
  subst hy0;have hand0:bits .and .u8 (x:Int) 1=0:=by rw [hand,hp]; rfl
  have HP:Hid (mO s=(fJ s).drop 2):=hid (by rw [hpl,hp]);clear hand hpl hb hp hlen;by_cases hl:x/2%2=1
  .have hl2:bits .and .u8 (x:Int) 2=2:=by rw [hand2,hl]; rfl
   have oT:Hid (oO s=true):=hid (by rw [hlf]; exact aJ hl);clear hand2 hl hlf;go_enter func200,ntmps200;go_wp2_with fail
   refine (dX _ _).mono ?_;rintro e w1 ⟨rfl,rfl⟩;go_wp2_with fail
   refine (T0.out _ _ (HC.out _)).mono ?_;rintro e w2 ⟨rfl,rfl⟩;go_wp2_with fail
   refine (T1.out _ _ (HC.out _)).mono ?_;rintro e w2 ⟨rfl,rfl⟩;go_wp2_with fail
   refine (SP.out _).mono ?_;rintro e w3 ⟨a,n,cap,rfl,hx,hb3⟩;have hn2:2<=n:=by have:=hx.len; rw [HL.out] at this; omega
   have HX:=hid hx;clear hx;go_wp2_with fail
   refine (CP.out a n cap _ HX.out 2 (by omega) 2 rfl).mono ?_;rintro e w4 ⟨a4,n4,c4,rfl,hx4,rfl⟩;have di:=hid hx4;clear hx4;go_wp2;go_ret3
   exact ⟨a4,n4,c4,by rw [oT.out]; rfl,by rw [HP.out]; exact di.out,((Below.refl w.heap.size w).alloc aG _).trans (hb3.mono (by simp))⟩
  .have hl2:bits .and .u8 (x:Int) 2=0:=by rw [hand2,show x/2%2=0 by omega]; rfl
   have oT:Hid (oO s=false):=hid (by rw [hlf]; exact decide_eq_false hl);clear hand2 hl hlf;go_enter func200,ntmps200;go_wp2_with fail
   refine (dX _ _).mono ?_;rintro e w1 ⟨rfl,rfl⟩;go_wp2_with fail
   refine (T0.out _ _ (HC.out _)).mono ?_;rintro e w2 ⟨rfl,rfl⟩;go_wp2_with fail
   refine (T1.out _ _ (HC.out _)).mono ?_;rintro e w2 ⟨rfl,rfl⟩;go_wp2_with fail
   refine (SP.out _).mono ?_;rintro e w3 ⟨a,n,cap,rfl,hx,hb3⟩;have hn2:2<=n:=by have:=hx.len; rw [HL.out] at this; omega
   have HX:=hid hx;clear hx;go_wp2_with fail
   refine (CP.out a n cap _ HX.out 2 (by omega) 2 rfl).mono ?_;rintro e w4 ⟨a4,n4,c4,rfl,hx4,rfl⟩;have di:=hid hx4;clear hx4;go_wp2;go_ret3
   exact ⟨a4,n4,c4,by rw [oT.out]; rfl,by rw [HP.out]; exact di.out,((Below.refl w.heap.size w).alloc aG _).trans (hb3.mono (by simp))⟩
 .have hp1:x%2=1:=by omega
  have hs32:s.size<=32:=by omega
  have hand0:bits .and .u8 (x:Int) 1=1:=by rw [hand,hp1]; rfl
  have HP:Hid (mO s=(fJ s).drop 1):=hid (by rw [hpl,hp1]);clear hand hpl hb hp hp1 hlen T1;by_cases hl:x/2%2=1
  .have hl2:bits .and .u8 (x:Int) 2=2:=by rw [hand2,hl]; rfl
   have oT:Hid (oO s=true):=hid (by rw [hlf]; exact aJ hl);clear hand2 hl hlf;go_enter func200,ntmps200;go_wp2_with fail
   refine (dX _ _).mono ?_;rintro e w1 ⟨rfl,rfl⟩;go_wp2_with fail
   refine (T0.out _ _ (HC.out _)).mono ?_;rintro e w2 ⟨rfl,rfl⟩;go_wp2_with fail
   refine (SP.out _).mono ?_;rintro e w3 ⟨a,n,cap,rfl,hx,hb3⟩;have hn2:2<=n:=by have:=hx.len; rw [HL.out] at this; omega
   have HX:=hid hx;clear hx;go_wp2_with fail
   refine (CP.out a n cap _ HX.out 1 (by omega) 1 rfl).mono ?_;rintro e w4 ⟨a4,n4,c4,rfl,hx4,rfl⟩;have di:=hid hx4;clear hx4;go_wp2;go_ret3
   exact ⟨a4,n4,c4,by rw [oT.out]; rfl,by rw [HP.out]; exact di.out,((Below.refl w.heap.size w).alloc aG _).trans (hb3.mono (by simp))⟩
  .have hl2:bits .and .u8 (x:Int) 2=0:=by rw [hand2,show x/2%2=0 by omega]; rfl
   have oT:Hid (oO s=false):=hid (by rw [hlf]; exact decide_eq_false hl);clear hand2 hl hlf;go_enter func200,ntmps200;go_wp2_with fail
   refine (dX _ _).mono ?_;rintro e w1 ⟨rfl,rfl⟩;go_wp2_with fail
   refine (T0.out _ _ (HC.out _)).mono ?_;rintro e w2 ⟨rfl,rfl⟩;go_wp2_with fail
   refine (SP.out _).mono ?_;rintro e w3 ⟨a,n,cap,rfl,hx,hb3⟩;have hn2:2<=n:=by have:=hx.len; rw [HL.out] at this; omega
   have HX:=hid hx;clear hx;go_wp2_with fail
   refine (CP.out a n cap _ HX.out 1 (by omega) 1 rfl).mono ?_;rintro e w4 ⟨a4,n4,c4,rfl,hx4,rfl⟩;have di:=hid hx4;clear hx4;go_wp2;go_ret3
   exact ⟨a4,n4,c4,by rw [oT.out]; rfl,by rw [HP.out]; exact di.out,((Below.refl w.heap.size w).alloc aG _).trans (hb3.mono (by simp))⟩
end Ni
end
section
open Go.RowKit
namespace No
def dN (s:aL):Bool:=decide (s.size=0\/s.size=32)
theorem dP {s:aL} (h:s.size=0):s=eB:=by
 cases s with
 | mk d =>
  have:d = #[]:=Array.eq_empty_of_size_eq_zero h;rw [this]
theorem wF (s:aL) (w:World):Calls prog 143 #[.string s] w λe w'=>e = .returned (.bool (dN s))/\w=w':=by
 by_cases h0:s.size=0
 .obtain rfl:=dP h0;go_enter func143,ntmps143;go_wp2;go_ret;exact ⟨rfl,rfl⟩
 .have hne:=Ni.dJ (s:=s) (by omega);by_cases h32:s.size=32
  .have hq:((s.size:Int)==32)=true:=by simp; omega
   have HP:Hid (dN s=true):=hid (by simp [dN,h32]);rw [HP.out];go_enter func143,ntmps143;go_wp2;go_ret;exact ⟨rfl,rfl⟩
  .have hq:((s.size:Int)==32)=false:=by simp; omega
   have HP:Hid (dN s=false):=hid (by simp [dN,h32,h0]);rw [HP.out];go_enter func143,ntmps143;go_wp2;go_ret;exact ⟨rfl,rfl⟩
theorem YH (w:World):(binOp .eql 40 (.slice none 0 0) (.slice none 0 0)).run prog w = .ok (.bool true) w:=by kernel_rfl
theorem Xh (a:Addr) (n cap:Nat) (w:World):(binOp .eql 40 (.slice (some a) n cap) (.slice none 0 0)).run prog w = .ok (.bool false) w:=by kernel_rfl
def JW (w:World) (l:aM) (e:Ending) (w':World):Prop:=∃ a n cap,e = .returned (.slice a n cap)/\BsF w.heap.size w' a n cap l/\Below w.heap.size w w'
theorem YE {w:World} {n:Nat} {l:aM} (h:w.ownsRow B t 1 v n (l.map λx=>Value.int .u8 x.toNat)):∃ a cap,v = .slice a n cap/\BsF B w a n cap l:=by
 obtain ⟨a,cap,rfl,hB⟩:=bf.oF h;refine ⟨a,cap,rfl,hB,λad e=>?_⟩;subst e;rcases h.2 with ⟨e,_⟩ | ⟨g,cap',cur,e,hbg,_⟩
 .cases e
 .cases e;exact hbg
theorem qh (a:aK) (n cap:Nat) (l:aM) (hn:n<=1000000) (w:World) (h:bf w a n cap l) :
  Calls prog 115 #[.slice a n cap] w (JW w l):=by
 cases a with
 | none =>
  obtain ⟨rfl,rfl,rfl⟩:=h.Fy;have hnil:=YH;go_enter func115,ntmps115;go_wp2;go_ret;exact ⟨none,0,0,rfl,BsF.nil _ _,aH⟩
 | some ad =>
  obtain ⟨i0,hi,hz0,hz1,hz2⟩:=info_parts Cc.mW;have HI:Hid (_/\_/\_/\_):=hid ⟨hi,hz0,hz1,hz2⟩;have HC:=hid (Cc.zG h ad rfl);have HL:=hid h.len;have HH:=hid h;have hnil:=Xh ad n cap;have HO:Hid ((w.alloc (.cells #[] 5)).ownsRow w.heap.size 5 1 (.slice (some ⟨w.heap.size,0,none⟩) 0 0) 0 []):=hid (World.ownsRow_made w #[] 0 aG (Nat.zero_le _) (by simp));clear h hi hz0 hz1 hz2;go_enter func115,ntmps115
  go_wp2_with (at_builtin; refine wpList_append_own _ rfl _ _ 40 rfl w.heap.size 5 i0 (.int .u8 0) 1 1 underlying40 HI.out.1 HI.out.2.1 HI.out.2.2.1 HI.out.2.2.2 rfl (by decide) _ _ _ rfl HO.out ad n cap (l.map λx=>Value.int .u8 x.toNat) rfl (by simp [HL.out]) ?c2 ?c6 ?c3 ?c4 ?c5 ?_)
  case c2 =>
   intro j u hu;have hj:j<n:=by rw [<-HL.out]; have:=(List.getElem?_eq_some_iff.1 hu).1; simpa using this
   obtain ⟨b,off,e,hb,_⟩:=HH.out.at' j hj;obtain rfl:=Option.some.inj e;rw [(al1 w _).cell (by rw [Addr.add_mid]; exact hb)];exact HC.out j u hu
  case c6 =>
   intro u hu;simp at hu;obtain ⟨x,_,rfl⟩:=hu;rfl
  case c3=>unfold maxLen; omega
  case c4=>omega
  case c5=>simp
  intro v' w2 hown2 hgrow hnil';have HG:Hid (∃ a c,v' = .slice a n c/\BsF w.heap.size w2 a n c l):=hid (by
   have:=YE (l:=l) (v:=v') (n:=n) (by simpa using hown2);exact this)
  have HB:Hid (Below w.heap.size w w2):=hid ((al1 w _).grown hgrow (by simp) (λk hk=>by simp [Value.ownBlock] at hk; omega));clear hown2 hgrow hnil';go_wp2;go_ret;obtain ⟨a',c',e,hB⟩:=HG.out;exact ⟨a',n,c',by rw [e]; rfl,hB,HB.out⟩
theorem nL (a:aK) (n cap:Nat) (l:aM) (hn:n<=1000000) (v:aL) (w:World) (h:bf w a n cap l) :
  Calls prog 72 #[.slice a n cap,.string v] w (IJ w ⟨1,l,v,zks⟩):=by
 obtain ⟨w2,hw2⟩:=au (w.alloc (.cells (ndC nd0 none 0 0) 69))
 have HC:=hid (qh a n cap l hn w2 (by rw [hw2]; exact h.alloc _));have HO:Hid (dZ w2 w.heap.size nd0 none 0 0):=hid (by rw [hw2]; exact Rg.Own.new _ _ _);have HB:Hid (Below w.heap.size w w2):=hid (by rw [hw2]; exact al1 _ _);clear h;subst hw2;go_enter func72,ntmps72;go_wp2_with (refine aA (bD _ _ _ w.heap.size rfl rfl) ?_)
 refine HC.out.mono ?_;rintro e w3 ⟨a3,n3,c3,rfl,hB3,hb3⟩;have ag:=hid (HO.out.below hb3);have HB3:=hid (bst HB.out hb3);have HI3:=hid hB3;clear hB3 hb3 HO HC;go_wp2_with (first
  | (refine aA (bL (uE a3 n3 c3 l v) ?_) ?_; · exact ⟨_,rfl,rfl⟩)
  | (refine bH ag.out rfl ⟨1,l,v,zks⟩ a3 n3 c3 rfl rfl _ _ rfl rfl rfl rfl ?_))
 exact bodyPost_ret (uD rfl _ rfl (dM ag.out) rfl) rfl ⟨a3,n3,c3,rfl,(HI3.out.row (by simp) _).weak (by simp),rfl,bZ HB3.out aG _⟩
theorem Nb (a:aK) (n cap:Nat) (l:aM) (hn:n<=1000000) (v:aL) (w:World) (h:bf w a n cap l) :
  Calls prog 73 #[.slice a n cap,.string v] w (IJ w ⟨2,l,eB,v::List.replicate 15 eB⟩):=by
 obtain ⟨w2,hw2⟩:=au (w.alloc (.cells (ndC nd0 none 0 0) 69))
 have HC:=hid (qh a n cap l hn w2 (by rw [hw2]; exact h.alloc _));have HO:Hid (dZ w2 w.heap.size nd0 none 0 0):=hid (by rw [hw2]; exact Rg.Own.new _ _ _);have HB:Hid (Below w.heap.size w w2):=hid (by rw [hw2]; exact al1 _ _);clear h;subst hw2;go_enter func73,ntmps73;go_wp2_with (refine aA (bD _ _ _ w.heap.size rfl rfl) ?_)
 refine HC.out.mono ?_;rintro e w3 ⟨a3,n3,c3,rfl,hB3,hb3⟩;have ag:=hid (HO.out.below hb3);have HB3:=hid (bst HB.out hb3);have HI3:=hid hB3;clear hB3 hb3 HO HC;go_wp2_with (first
  | (refine aA (bL (RL v) ?_) ?_; · exact ⟨_,rfl,rfl⟩)
  | (refine aA (bL (wR 2 a3 n3 c3 l (v::List.replicate 15 eB) rfl) ?_) ?_; · exact ⟨_,rfl,rfl⟩)
  | (refine bH ag.out rfl ⟨2,l,eB,v::List.replicate 15 eB⟩ a3 n3 c3 rfl rfl _ _ rfl rfl rfl rfl ?_))
 exact bodyPost_ret (uD rfl _ rfl (dM ag.out) rfl) rfl ⟨a3,n3,c3,rfl,(HI3.out.row (by simp) _).weak (by simp),rfl,bZ HB3.out aG _⟩
end No
end
section
open Go.RowKit
def fO (w:World) (a:aK) (n cap:Nat) (xs:List aL):Prop :=
 n<=cap/\cap<=maxLen/\xs.length=n/\∀ j,j<n->∃ b off,a=some ⟨b,off,none⟩/\b<w.heap.size/\w.cell? ⟨b,off+j,none⟩=some (.string (xs.getD j eB))
namespace fO
variable {w w':World} {a:aK} {n cap:Nat} {xs:List aL}
theorem len (h:fO w a n cap xs):xs.length=n:=h.2.2.1
theorem at' (h:fO w a n cap xs) (j:Nat) (hj:j<n):∃ b off,a=some ⟨b,off,none⟩/\b<w.heap.size/\w.cell? ⟨b,off+j,none⟩=some (.string (xs.getD j eB)):=h.2.2.2 j hj
theorem below (h:fO w a n cap xs) (hb:Below w.heap.size w w'):fO w' a n cap xs:=by
 refine ⟨h.1,h.2.1,h.2.2.1,λj hj=>?_⟩;obtain ⟨b,off,h1,h2,h3⟩:=h.2.2.2 j hj;exact ⟨b,off,h1,aI h2 hb.size,by rw [hb.cell (p:=⟨b,off+j,none⟩) h2]; exact h3⟩
end fO
theorem fO.oF {w:World} {n:Nat} {xs:List aL} (h:w.ownsRow B t 1 v n (xs.map Value.string)):∃ a cap,v = .slice a n cap/\fO w a n cap xs:=by
 have hl:xs.length=n:=by simpa using h.1
 rcases h.2 with ⟨rfl,hz⟩ | ⟨g,cap,cur,rfl,hbg,hg,hnc,hcm,hcs,htake⟩
 .subst hz;exact ⟨none,0,rfl,aG,Nat.zero_le _,hl,λj hj=>absurd hj (Nat.not_lt_zero _)⟩
 .refine ⟨_,_,rfl,hnc,hcm,hl,λj hj=>⟨g,0,rfl,(Array.getElem?_eq_some_iff.1 hg).1,?_⟩⟩;have:=h.cells (g:=g) rfl j (.string (xs.getD j eB)) (by simp [List.getD,hl,hj]);rwa [Addr.add_mid] at this
theorem Wt:(prog.info? 9).map (λi=>(i.zero,i.size,i.bytes))=some (some (.string ⟨#[]⟩),1,16):=by kernel_rfl
theorem gQ:∃ i,prog.info? 9=some i/\i.zero=some (.string ⟨#[]⟩)/\i.size=1/\i.bytes=16:=by
 have h:=Wt;cases hi:prog.info? 9 with
 | none=>rw [hi] at h; simp at h
 | some i =>
  rw [hi] at h;simp at h;exact ⟨i,rfl,h.1,h.2.1,h.2.2⟩
namespace Rf
theorem str_eq (a b:aL):(a.toList==b.toList)=decide (a=b):=by
 by_cases h:a=b
 .subst h; simp
 .rw [decide_eq_false h,beq_eq_false_iff_ne];intro e;apply h;rw [ByteArray.toList_eq,ByteArray.toList_eq] at e;apply ByteArray.ext;exact Array.ext' e
end Rf
end
section
open Go.RowKit
def bF (ks:List aL):List aL:=ks.filter λk=>decide (k.size≠0)
theorem nO (ks:List aL) (q:Nat) (h:q<ks.length):bF (ks.take (q+1))=bF (ks.take q)++(if (ks.getD q eB).size≠0 then [ks.getD q eB] else []):=by
 unfold bF;have e:ks.getD q eB=ks[q]:=by simp [List.getD,h]
 rw [List.take_succ_eq_append_getElem h,e,List.filter_append];congr 1;by_cases hz:ks[q].size=0
 .simp only [ne_eq,hz,not_true_eq_false,decide_false,Bool.false_eq_true,not_false_eq_true,List.filter_cons_of_neg,List.filter_nil,if_false]
 .simp only [ne_eq,hz,not_false_eq_true,decide_true,List.filter_cons_of_pos,List.filter_nil,if_true]
theorem wK (ks:List aL) (q:Nat):(bF (ks.take q)).length<=q:=Nat.le_trans (List.length_filter_le _ _) (by rw [List.length_take]; exact Nat.min_le_left _ _)
theorem Yi (ks:List aL) (q:Nat) (h:q<ks.length) (w:World):(part 9 (iA ks) q).run prog w = .ok (.string (ks.getD q eB)) w:=by
 have hagg:(isAgg 9).run prog w = .ok false w:=by kernel_rfl
 have hg:(iA ks)[q]? = some (.string (ks.getD q eB)):=by simp [iA,List.getD,h]
 unfold part;rw [Sem.run_bind,hagg];simp [hg]
theorem dF {w:World} {ks:List aL} (hl:ks.length=16) (hq:q<16) (ho:∃ x y,o.op = .index 67 x y/\ev x = .agg (iA ks)/\ev y = .int .i64 q) :
  (execOp ev o).run prog w = .ok (.value (.string (ks.getD q eB))) w:=by
 obtain ⟨x,y,ho,hx,hy⟩:=ho;obtain ⟨i0,hi,_,hs,_⟩:=gQ;have hp:=Yi ks q (by omega) w;have h1:(Instr.index 67 (.agg (iA ks)) (.int .i64 q)).run prog w = .ok (.string (ks.getD q eB)) w:=by
  have hq2:(0:Int)<=q/\(q:Int)<((16:Nat):Int):=⟨by omega,by omega⟩
  simp only [Instr.index,Sem.run_bind,asIntOf,Sem.run_pure,Result.andThen_ok,run_underlying underlying67];rw [if_pos hq2];simp only [sizeOf,typeInfo,Sem.run_bind];simp [hi,hs,hp]
 unfold execOp;simp only [ho,hx,hy,Sem.run_bind,Sem.run_pure,Result.andThen_ok,h1]
namespace No
def ZU (w:World) (xs:List aL) (e:Ending) (w':World):Prop:=∃ a n cap,e = .returned (.slice a n cap)/\fO w' a n cap xs/\Below w.heap.size w w'
theorem RY (N:Nd) (a:aK) (n c:Nat) (hl:N.ks.length=16) (w:World):Calls prog 133 #[.agg (ndC N a n c)] w (ZU w (bF N.ks)):=by
 obtain ⟨i0,hi,hz0,hz1,hz2⟩:=gQ;have HI:Hid (_/\_/\_/\_):=hid ⟨hi,hz0,hz1,hz2⟩;have HO:Hid (dZ (w.alloc (.cells (ndC N a n c) 69)) w.heap.size N a n c):=hid (Rg.Own.new _ _ _);have HL:=hid hl;clear hi hz0 hz1 hz2 hl;go_enter func133,ntmps133;go_wp2_with (refine aA (jO HO.out HL.out ⟨_,rfl,rfl⟩) ?_)
 go_loopw [3,8] (λv i wr=>∃ j:Nat,j<=16/\i = .int .i64 j/\Hid (wr.ownsRow (w.heap.size+1) 9 1 v (bF (N.ks.take j)).length ((bF (N.ks.take j)).map Value.string))/\Below (w.heap.size+1) (w.alloc (.cells (ndC N a n c) 69)) wr) (λ_ i _=>16-(intOf i).toNat)
 case atStart=>exact ⟨0,Nat.zero_le _,rfl,hid (World.ownsRow_nil _ _ _ _),aH⟩
 case round =>
  obtain ⟨j,hj,rfl,HR,hB⟩:=hrel;have hsz:w.heap.size+1<=wr.heap.size:=by have:=hB.size; simp at this; omega
  by_cases hlt:j<16
  .have HS:=hid (nO N.ks j (by rw [HL.out]; exact hlt));have hkl:=wK N.ks j;obtain ⟨L,hL⟩:=ay (bF (N.ks.take j))
   rw [hL] at HS hkl HR;clear hL;by_cases hk:(N.ks.getD j eB).size=0
   .have dr:Hid (bF (N.ks.take (j+1))=L):=hid (by rw [HS.out,if_neg (by simpa using hk),List.append_nil]);have HE:Hid (N.ks.getD j eB=eB):=hid (dP hk);clear hk;go_wp2_with (refine Rg.run rfl (.string (N.ks.getD j eB)) _ (dF HL.out hlt ⟨_,_,rfl,rfl,rfl⟩) ?_; rw [HE.out])
    go_roundw
    case rel=>exact ⟨j+1,by omega,by go_num,by rw [dr.out]; exact HR,hB⟩
    case measure=>simp [intOf]; omega
   .have dr:Hid (bF (N.ks.take (j+1))=L++[N.ks.getD j eB]):=hid (by rw [HS.out,if_pos hk]);have hne:=Ni.dJ (s:=N.ks.getD j eB) (by omega);obtain ⟨K,hK⟩:=ay (N.ks.getD j eB)
    have HK:=hid hK;rw [hK] at hne dr;clear hK hk HS;go_wp2_with (first
     | (refine Rg.run rfl (.string (N.ks.getD j eB)) _ (dF HL.out hlt ⟨_,_,rfl,rfl,rfl⟩) ?_; rw [HK.out])
     | (at_builtin; refine wpList_append_own _ rfl _ _ 28 rfl (w.heap.size+1) 9 i0 (.string ⟨#[]⟩) 1 16 underlying28 HI.out.1 HI.out.2.1 HI.out.2.2.1 HI.out.2.2.2 rfl (by decide) _ _ _ rfl (HR.out.alloc _) ⟨wr.heap.size,0,none⟩ 1 1 [.string K] rfl rfl ?d1 ?d2 ?d3 ?d4 ?d5 ?_))
    case d1=>exact Bu.cell_one_new' _ _ _ _
    case d2=>intro u hu; simp at hu; subst hu; rfl
    case d3=>unfold maxLen; omega
    case d4=>omega
    case d5=>simp; omega
    intro v' w2 hown2 hgrow _;have hlt':=HR.out.lt;go_wp2;go_roundw
    case rel=>exact ⟨j+1,by omega,by go_num,hid (by rw [dr.out,List.length_append,List.map_append]; exact hown2),(hB.alloc hsz _).grown hgrow (by simp; omega) (λg hg=>(hlt' g hg).1)⟩
    case measure=>simp [intOf]; omega
  .obtain rfl:j=16:=by omega
   have hO:=HR.out;rw [List.take_of_length_le (by rw [HL.out]; exact aG)] at hO;obtain ⟨a',cap',rfl,hb⟩:=fO.oF hO;have HB:=hid hb;have cH:Hid (Below w.heap.size w wr):=hid (oP hB);clear hO hb;go_wp2;go_ret;exact ⟨a',_,cap',rfl,HB.out,cH.out⟩
end No
end
section
open Go.RowKit
namespace Ni
theorem Ka (l:aM) (leaf:Bool):((jE l leaf).getD 0 0).toNat=iE l.length leaf:=by
 have:iE l.length leaf<=3:=by unfold iE; cases leaf <;> simp <;> omega
 simp [jE]; omega
theorem Zg (l:aM) (leaf:Bool):((jE l leaf).getD 1 0).toNat=if l.length%2=1 then (l.getD 0 0).toNat else 0:=by
 unfold jE;by_cases h:l.length%2=1
 .cases l with
  | nil=>simp at h
  | cons x r =>
   have h':(r.length+1)%2=1:=by simpa using h
   simp [h']
 .simp [h]
theorem xL (f:aM) (hf:dh f=true) (k j:Nat) (hj:j<k):((gU f k).getD j 0).toNat=16*(f.getD (2*j) 0).toNat+(f.getD (2*j+1) 0).toNat:=by
 have h1:=mF f hf (2*j);have h2:=mF f hf (2*j+1);have e:(gU f k).getD j 0=UInt8.ofNat (16*(f.getD (2*j) 0).toNat+(f.getD (2*j+1) 0).toNat):=by
  simp [gU,List.getD,hj]
 rw [e];simp only [UInt8.toNat_ofNat'];omega
theorem DL (f:aM) (hf:dh f=true) (k i:Nat) (hi:i<2*k):eY ⟨(gU f k).toArray⟩ i=(f.getD i 0).toNat:=by
 have h1:=mF f hf (2*(i/2));have h2:=mF f hf (2*(i/2)+1);have e:=xL f hf k (i/2) (by omega);unfold eY;show (if i%2=0 then ((gU f k).getD (i/2) 0).toNat/16 else ((gU f k).getD (i/2) 0).toNat%16)=_;rw [e];by_cases h:i%2=0
 .rw [if_pos h];have e2:2*(i/2)=i:=by omega
  rw [e2] at h1 h2 ⊢;omega
 .rw [if_neg h];have e2:2*(i/2)+1=i:=by omega
  rw [e2] at h2 ⊢;omega
theorem ru {a b:aM} (hl:a.length=b.length) (h:∀ i,i<a.length->(a.getD i 0).toNat=(b.getD i 0).toNat):a=b:=by
 apply List.ext_getElem hl;intro i h1 h2;have:=h i h1;simp only [List.getD,List.getElem?_eq_getElem h1,List.getElem?_eq_getElem h2,Option.getD_some] at this;exact UInt8.toNat_inj.1 this
theorem Bq (f:aM) (hf:dh f=true) (k:Nat) (hk:f.length=2*k):fJ ⟨(gU f k).toArray⟩=f:=by
 have hs:(⟨(gU f k).toArray⟩:aL).size=k:=by show (gU f k).toArray.size=k; simp [gU]
 apply ru
 .rw [fE,hs,hk]
 .intro i hi;rw [fE,hs] at hi;rw [lq _ _ (by rw [hs]; exact hi),DL f hf k i hi]
theorem zO (s:aL):gU (fJ s) s.size=s.data.toList:=by
 apply ru
 .rw [lN]; simp
 .intro j hj;rw [lN] at hj;rw [xL _ (rA s) _ _ hj,lq s _ (by omega),lq s _ (by omega)];unfold eY;rw [if_pos (by omega),if_neg (by omega),show 2*j/2=j by omega,show (2*j+1)/2=j by omega];omega
theorem tN (l:aM) (leaf:Bool):(⟨(jV l leaf).toArray⟩:aL).size=l.length/2+1:=by
 show (jV l leaf).toArray.size=_;simp [jV,gU]
theorem OL (l:aM) (leaf:Bool) (hr:dh l=true):fJ ⟨(jV l leaf).toArray⟩=jE l leaf :=
 Bq _ (rE l leaf hr) _ (qx l leaf)
theorem pV (l:aM) (leaf:Bool) (hr:dh l=true) (i:Nat) (hi:i<2):eY ⟨(jV l leaf).toArray⟩ i=((jE l leaf).getD i 0).toNat :=
 DL _ (rE l leaf hr) _ _ (by omega)
theorem Rw (l:aM) (leaf:Bool) (hr:dh l=true) (hl:l.length<=64):¬ Bad ⟨(jV l leaf).toArray⟩:=by
 unfold Bad;rw [pV l leaf hr 0 (by omega),pV l leaf hr 1 (by omega),Ka,Zg,tN];unfold iE;cases leaf <;> simp only [if_true,if_false,Bool.false_eq_true] <;> split <;> omega
theorem Rz (l:aM) (leaf:Bool) (hr:dh l=true):oO ⟨(jV l leaf).toArray⟩=leaf:=by
 unfold oO;rw [pV l leaf hr 0 (by omega),Ka];unfold iE;cases leaf <;> simp <;> omega
theorem QY (l:aM) (leaf:Bool) (hr:dh l=true):mO ⟨(jV l leaf).toArray⟩=l:=by
 unfold mO;rw [pV l leaf hr 0 (by omega),Ka,OL l leaf hr];have hm:iE l.length leaf%2=l.length%2:=by unfold iE; cases leaf <;> simp
 rw [hm];unfold jE;by_cases h:l.length%2=1
 .rw [if_pos h,h];cases l with
  | nil=>simp at h
  | cons x r=>simp
 .rw [if_neg h,show l.length%2=0 by omega];simp
theorem iG (s:aL):(mO s).length=2*s.size-(2-eY s 0%2):=by
 unfold mO; rw [List.length_drop,fE]
theorem Xz (s:aL) (hb:¬ Bad s):(mO s).length<=64:=by
 rw [iG]; unfold Bad at hb; omega
end Ni
end
section
open Go.RowKit
namespace No
open Rl Ni
def kU (x:It):Option aL:=if x.l then (if x.bytes.length<32 then some ⟨x.bytes.toArray⟩ else none) else (if dN x.s then some x.s else none)
def nV:List It->Option (List aL)
 | []=>some []
 | x::xs=>match kU x with
  | none=>none
  | some k=>match nV xs with
   | none=>none
   | some ks=>some (k::ks)
def fM (k:aL):List aL:=k::List.replicate 15 eB
instance (s : aL) : Decidable (Bad s) := by unfold Bad; infer_instance
def iw (x0 x1:It):Option Nd :=
 if x0.s.size=0\/Bad x0.s then none else
 if oO x0.s then some ⟨1,mO x0.s,x1.s,zks⟩ else (kU x1).map λk=>⟨2,mO x0.s,eB,fM k⟩
def dG (xs:List It):Option Nd :=
 match nV (xs.take 16) with
 | none=>none
 | some ks=>if (xs.getD 16 it0).l=false/\(xs.getD 16 it0).s.size=0 then some ⟨3,[],eB,ks⟩ else none
def eu (xs:List It):Option Nd:=if xs.length=2 then iw (xs.getD 0 it0) (xs.getD 1 it0) else if xs.length=17 then dG xs else none
def kV (R:aL->Bool) (n:Nd):Bool :=
 if n.kd=1 then decide (n.v.size≠0)&&decide (n.v.size<=65552)&&decide ((bF n.ks).length=0) else
 if n.kd=2 then decide (0<n.p.length)&&decide (n.v.size=0)&&decide ((bF n.ks).length=1)&&decide ((n.ks.getD 0 eB).size≠0)&&R (n.ks.getD 0 eB) else
 if n.kd=3 then decide (n.p.length=0)&&decide (n.v.size=0)&&decide (2<=(bF n.ks).length)&&(bF n.ks).all R else false
def gB (R:aL->Bool) (n:Nd):Bool:=decide (n.p.length<=64)&&dh n.p&&kV R n
theorem JJ {R R':aL->Bool} {n:Nd} (h:∀ k∈n.ks,R k=R' k) (hl:n.ks.length=16):kV R n=kV R' n:=by
 unfold kV;have h0:R (n.ks.getD 0 eB)=R' (n.ks.getD 0 eB):=by
  apply h;rw [List.getD_eq_getElem?_getD,List.getElem?_eq_getElem (by omega)];exact List.getElem_mem _
 have h1:(bF n.ks).all R=(bF n.ks).all R':=by
  rw [Bool.eq_iff_iff,List.all_eq_true,List.all_eq_true];constructor
  .intro g k hk; rw [<-h k (List.mem_filter.1 hk).1]; exact g k hk
  .intro g k hk; rw [h k (List.mem_filter.1 hk).1]; exact g k hk
 rw [h0,h1]
theorem LV {R R':aL->Bool} {n:Nd} (h:∀ k∈n.ks,R k=R' k) (hl:n.ks.length=16):gB R n=gB R' n:=by
 unfold gB;rw [JJ h hl]
def sO (s:aM):Option Nd :=
 match iy s with
 | .error _=>none
 | .ok x=>match eu x.xs with
  | none=>none
  | some n=>if gB (λk=>dN k||(if _h:k.size<32/\k.size<s.length then (sO k.data.toList).isSome else false)) n then some n else none
termination_by s.length
decreasing_by
 rw [iX];exact _h.2
def bW (k:aL):Bool:=dN k||(decide (k.size<32)&&(sO k.data.toList).isSome)
theorem lM {s:aM} {x:It} (hs:s.length<=4294967296) (h:iy s = .ok x):x.bytes=s/\Fits 0 x/\x.size<=4096:=by
 unfold iy at h;cases hr:fC s 0 0 with
 | error c=>rw [hr] at h; cases h
 | ok q =>
  obtain ⟨y,n,k⟩:=q;rw [hr] at h;dsimp only at h;by_cases hn:n<s.length
  .rw [if_pos hn] at h; cases h
  .rw [if_neg hn] at h;obtain rfl:=iN h;obtain ⟨g1,g2,g3⟩:=(back s.length hs).1 _ _ _ _ _ _ aG hr;obtain ⟨p1,p2,p3,p4⟩:=(props s.length).1 _ _ _ _ _ _ aG hr;refine ⟨?_,g2,by omega⟩;rw [g1,List.take_of_length_le (by omega)]
theorem AX {xs:List It} {x:It} (h:x∈xs):x.bytes.length<=((xs.map It.bytes).flatten).length:=by
 induction xs with
 | nil=>cases h
 | cons y ys ih =>
  rw [List.map_cons,List.flatten_cons,List.length_append];rcases List.mem_cons.1 h with rfl | h
  .omega
  .have:=ih h; omega
theorem wT {d:Nat} {x:It} (h:Fits d x) (hb:x.bytes.length<=4294967296):x.l=true->x.bytes.length=(jv ((x.xs.map It.bytes).flatten).length true).length+((x.xs.map It.bytes).flatten).length:=by
 intro hl;cases h with
 | mk ha hs hx hy =>
  rename_i l s xs;obtain rfl:l=true:=hl;obtain rfl:=hs rfl;have hi:=kT (.mk true ⟨#[]⟩ xs);rw [inner_mk] at hi;rw [lK xs (Nat.le_trans hi hb),List.length_append];rfl
theorem Bp {d:Nat} {x:It} (h:Fits d x) (hx:x.xs≠[]):x.l=true:=by
 cases h with
 | mk ha hs hx' hy =>
  rename_i l s xs;cases l with
  | true=>rfl
  | false=>exact absurd (hx' rfl) hx
theorem vQ {x y:It} (h:Fits d x) (hb:x.bytes.length<=4294967296) (hy:y∈x.xs):y.bytes.length<x.bytes.length:=by
 have hl:=Bp h (by intro e; rw [e] at hy; cases hy);have h1:=wT h hb hl;have h2:=AX hy;have h3:=iI ((x.xs.map It.bytes).flatten).length true;omega
theorem Nj {d:Nat} {x y:It} (h:Fits d x) (hy:y∈x.xs):Fits (d+1) y:=by
 cases h with
 | mk ha hs hx h=>exact h y hy
theorem CZ {x:It} {k:aL} (h:kU x=some k):dN k=true\/k.size=x.bytes.length/\k.size<32:=by
 unfold kU at h;split at h
 .split at h
  .rename_i h1;obtain rfl:=Option.some.inj h;exact .inr ⟨vJ _,by rw [vJ]; exact h1⟩
  .cases h
 .split at h
  .rename_i h1;obtain rfl:=Option.some.inj h;exact .inl h1
  .cases h
theorem Ab:∀ {xs:List It} {ks:List aL},nV xs=some ks->ks.length=xs.length/\∀ k∈ks,∃ x∈xs,kU x=some k
 | [],ks,h=>by
  obtain rfl:=Option.some.inj h;exact ⟨rfl,λk hk=>by cases hk⟩
 | x::xs,ks,h=>by
  unfold nV at h;split at h
  .cases h
  .rename_i k hk;split at h
   .cases h
   .rename_i ks' hks;obtain rfl:=Option.some.inj h;obtain ⟨h1,h2⟩:=Ab hks;refine ⟨by simp [h1],λj hj=>?_⟩;rcases List.mem_cons.1 hj with rfl | hj
    .exact ⟨x,List.mem_cons_self ..,hk⟩
    .obtain ⟨y,hy,e⟩:=h2 j hj;exact ⟨y,List.mem_cons_of_mem _ hy,e⟩
theorem vR:dN eB=true:=aJ (.inl rfl)
theorem jo (k:aL):(fM k).length=16:=by simp [fM]
theorem jU {xs:List It} (h:i<xs.length):xs.getD i it0∈xs:=by
 rw [List.getD_eq_getElem?_getD,List.getElem?_eq_getElem h];exact List.getElem_mem _
theorem JZ {xs:List It} {n:Nd} (h:eu xs=some n):n.ks.length=16/\∀ k∈n.ks,dN k=true\/∃ x∈xs,kU x=some k:=by
 have hz:∀ k∈zks,dN k=true:=λk hk=>by
  rw [List.eq_of_mem_replicate hk]; exact vR
 unfold eu at h;by_cases h2:xs.length=2
 .rw [if_pos h2] at h;unfold iw at h;split at h
  .cases h
  .split at h
   .obtain rfl:=Option.some.inj h;exact ⟨rfl,λk hk=>.inl (hz k hk)⟩
   .obtain ⟨k,hk,rfl⟩:=Option.map_eq_some_iff.1 h;refine ⟨jo k,λj hj=>?_⟩;rcases List.mem_cons.1 hj with rfl | hj
    .exact .inr ⟨_,jU (by omega),hk⟩
    .rw [List.eq_of_mem_replicate hj]; exact .inl vR
 .rw [if_neg h2] at h;by_cases fN:xs.length=17
  .rw [if_pos fN] at h;unfold dG at h;split at h
   .cases h
   .rename_i ks hks;split at h
    .obtain rfl:=Option.some.inj h;obtain ⟨g1,g2⟩:=Ab hks;refine ⟨by rw [g1,List.length_take]; omega,λk hk=>?_⟩;obtain ⟨x,hx,e⟩:=g2 k hk;exact .inr ⟨x,List.mem_of_mem_take hx,e⟩
    .cases h
  .rw [if_neg fN] at h; cases h
theorem Gz {s:aM} {x:It} {n:Nd} (hs:s.length<=4294967296) (h:iy s = .ok x) (hn:eu x.xs=some n):n.ks.length=16/\∀ k∈n.ks,dN k=true\/(k.size<32/\k.size<s.length):=by
 obtain ⟨g1,g2,g3⟩:=lM hs h;obtain ⟨h1,h2⟩:=JZ hn;refine ⟨h1,λk hk=>?_⟩;rcases h2 k hk with hp | ⟨y,hy,e⟩
 .exact .inl hp
 .rcases CZ e with hp | ⟨e1,e2⟩
  .exact .inl hp
  .have:=vQ g2 (by rw [g1]; exact hs) hy;rw [g1] at this;exact .inr ⟨e2,by omega⟩
theorem Eo (s:aM) (hs:s.length<=4294967296):sO s=match iy s with
  | .error _=>none
  | .ok x=>match eu x.xs with
   | none=>none
   | some n=>if gB bW n then some n else none:=by
 rw [sO];cases hw:iy s with
 | error c=>rfl
 | ok x =>
  dsimp only;cases hn:eu x.xs with
  | none=>rfl
  | some n =>
   dsimp only;obtain ⟨h1,h2⟩:=Gz hs hw hn;rw [LV (R':=bW) (λk hk=>?_) h1];unfold bW;rcases h2 k hk with hp | hb
   .rw [hp]; rfl
   .rw [dif_pos hb];simp [hb.1]
theorem wI {s:aM} (hs:s.length<=4294967296) {n:Nd} (h:sO s=some n):∃ x,iy s = .ok x/\eu x.xs=some n/\gB bW n=true:=by
 rw [Eo s hs] at h;split at h
 .cases h
 .rename_i x hw;split at h
  .cases h
  .rename_i m hm;split at h
   .rename_i hmay;obtain rfl:=Option.some.inj h;exact ⟨x,hw,hm,hmay⟩
   .cases h
end No
end
section
open Go.RowKit
namespace Rf
open Rl Ni No
theorem zB {xs:List aL} (hj:j<xs.length):xs.getD j eB∈xs:=by
 have e:xs.getD j eB=xs[j]:=by simp [List.getD,hj]
 rw [e]; exact List.getElem_mem hj
theorem tO {k:aL} (h:dN k=true):k.size=0\/k.size=32:=of_decide_eq_true h
def AL (k:aL):Nat:=if k.size<32 then k.size else 0
theorem OC {k:aL} (h:dN k=true):AL k=0:=by
 unfold AL;have:=tO h;split <;> omega
theorem Nl {x:It} {k:aL} (h:kU x=some k):AL k<=x.bytes.length:=by
 rcases CZ h with hp | ⟨h1,h2⟩
 .rw [OC hp]; omega
 .unfold AL; rw [if_pos h2]; omega
theorem GI:∀ {xs:List It} {ks:List aL},nV xs=some ks->(ks.map AL).sum<=((xs.map It.bytes).flatten).length
 | [],ks,h=>by
  obtain rfl:=Option.some.inj h;simp
 | x::xs,ks,h=>by
  unfold nV at h;split at h
  .cases h
  .rename_i k hk;split at h
   .cases h
   .rename_i ks' hks;obtain rfl:=Option.some.inj h;have h1:=GI hks;have h2:=Nl hk;rw [List.map_cons,List.sum_cons,List.map_cons,List.flatten_cons,List.length_append];omega
theorem oZ:∀ (m:Nat),((List.replicate m eB).map AL).sum=0
 | 0=>rfl
 | m+1=>by rw [List.replicate_succ,List.map_cons,List.sum_cons,oZ m]; rfl
theorem Ox (xs:List It) (q:Nat):(((xs.take q).map It.bytes).flatten).length<=((xs.map It.bytes).flatten).length:=by
 have h:(xs.map It.bytes).flatten=((xs.take q).map It.bytes).flatten++((xs.drop q).map It.bytes).flatten:=by
  rw [<-List.flatten_append,<-List.map_append,List.take_append_drop]
 rw [h,List.length_append];omega
theorem PV {xs:List It} {n:Nd} (h:eu xs=some n):(n.ks.map AL).sum<=((xs.map It.bytes).flatten).length:=by
 unfold eu at h;by_cases h2:xs.length=2
 .rw [if_pos h2] at h;unfold iw at h;split at h
  .cases h
  .split at h
   .obtain rfl:=Option.some.inj h;have:(zks.map AL).sum=0:=oZ 16;show (zks.map AL).sum<=_;omega
   .obtain ⟨k,hk,rfl⟩:=Option.map_eq_some_iff.1 h;have h1:=Nl hk;have h3:=AX (jU (xs:=xs) (i:=1) (by omega));show ((k::List.replicate 15 eB).map AL).sum<=_;rw [List.map_cons,List.sum_cons,oZ];omega
 .rw [if_neg h2] at h;by_cases fN:xs.length=17
  .rw [if_pos fN] at h;unfold dG at h;split at h
   .cases h
   .rename_i ks hks;split at h
    .obtain rfl:=Option.some.inj h;exact Nat.le_trans (GI hks) (Ox xs 16)
    .cases h
  .rw [if_neg fN] at h; cases h
theorem QX {xs:List It} {n:Nd} (h:eu xs=some n):xs≠[]:=by
 rintro rfl;unfold eu at h;rw [if_neg (by decide),if_neg (by decide)] at h;cases h
theorem Yd {s:aM} (hs:s.length<=4294967296) {n:Nd} (h:sO s=some n):(n.ks.map AL).sum+1<=s.length:=by
 obtain ⟨x,h1,h2,h3⟩:=wI hs h;obtain ⟨g1,g2,g3⟩:=lM hs h1;have hl:=Bp g2 (QX h2);have hb:=wT g2 (by rw [g1]; exact hs) hl;have ho:=PV h2;have hh:=iI ((x.xs.map It.bytes).flatten).length true;rw [g1] at hb;omega
end Rf
end
end Go.Proofs.YtoipgepkhomfgaaGreatDoor
