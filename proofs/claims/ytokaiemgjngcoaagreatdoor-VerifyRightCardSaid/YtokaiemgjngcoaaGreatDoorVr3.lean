/-
 Contracts of nib.Join, nib.Common and the plain answer's, nib.Text.
-/
import Derived.Test.YtokaiemgjngcoaaGreatDoorVr2
import Derived.BigQuiet
open Go.Lib (hid)
open Go.Proofs.Tryz
set_option linter.unusedSimpArgs false
set_option linter.unusedVariables false
set_option maxHeartbeats 40000000
set_option maxRecDepth 100000
namespace Go.Proofs.YtokaiemgjngcoaaGreatDoor
variable {B k off q:Nat} {t:TypeId} {v:Value} {ev:Operand->Value} {o:Oper}
section
open Go.RowKit
namespace Ni
theorem Ou (a:aL) (n cap:Nat) (ls:List (aN)) (hn:n<=1000000) (hL:ls.flatten.length<=1099511627776) (w:World) (h:Cc.yM w a n ls) :
  Calls prog 147 #[.slice a n cap] w (QC w ls.flatten):=by
 have hc:=Cc.xB a n cap ls hn hL w h;obtain ⟨r,hr⟩:=aA ls.flatten
 rw [hr] at hc ⊢;have HC:=hid hc;clear hc hr hL h;go_enter func147,ntmps147;go_wp2_with fail
 refine HC.out.mono ?_;rintro e w1 ⟨v,rfl,hown,hb⟩;obtain ⟨a',cap',rfl,hx⟩:=bf.pE hown;clear hown;go_wp2;go_ret;exact ⟨_,_,_,rfl,hx,hb⟩
def lM:aN->aN->Nat
 | a::xs,b::ys=>if a=b then lM xs ys+1 else 0
 | _,_=>0
theorem rU:∀ (k:Nat) (xs ys:aN),k<=xs.length->k<=ys.length->(∀ j,j<k->(xs.getD j 0).toNat=(ys.getD j 0).toNat)->
  (k=xs.length\/k=ys.length\/(xs.getD k 0).toNat≠(ys.getD k 0).toNat)->lM xs ys=k
 | 0,[],_,_,_,_,_=>rfl
 | 0,_::_,[],_,_,_,_=>rfl
 | 0,a::xs,b::ys,_,_,_,h=>by
  have hne:a≠b:=by
   rintro rfl;simp at h
  simp [lM,hne]
 | k+1,[],_,h,_,_,_=>absurd h (by simp)
 | k+1,_::_,[],_,h,_,_=>absurd h (by simp)
 | k+1,a::xs,b::ys,h1,h2,h3,h4=>by
  have hab:a=b:=UInt8.toNat_inj.1 (by simpa using h3 0 (by omega));have:=rU k xs ys (by simpa using h1) (by simpa using h2) (λj hj=>by simpa using h3 (j+1) (by omega)) (by simpa using h4);simp [lM,hab,this]
def Alike (x y:aN) (k:Nat):Prop:=∀ j,j<k->(x.getD j 0).toNat=(y.getD j 0).toNat
theorem Alike.next {x y:aN} (h:Alike x y k) (e:(x.getD k 0).toNat=(y.getD k 0).toNat):Alike x y (k+1):=λj hj=>by
 by_cases hjk:j=k
 .subst hjk; exact e
 .exact h j (by omega)
theorem Ip (a b:aL) (n m c d:Nat) (x y:aN) (hn:n<=1000000) (_hm:m<=1000000) (w:World) (ha:bf w a n c x) (hb:bf w b m d y) :
  Calls prog 160 #[.slice a n c,.slice b m d] w λe w'=>e = .returned (.int .i64 (lM x y:Nat))/\∃ q,w'=w.drewN q:=by
 have HA:=hid ha;have HB:=hid hb;clear ha hb;go_enter func160,ntmps160;go_wp2;go_loopw [5] (λi wr=>∃ k:Nat,k<=n/\k<=m/\i = .int .i64 k/\Hid (Alike x y k)/\∃ q,wr=w.drewN q) (λi _=>n-(intOf i).toNat)
 case atStart=>exact ⟨0,Nat.zero_le _,Nat.zero_le _,rfl,hid (λj hj=>absurd hj (Nat.not_lt_zero _)),0,rfl⟩
 case round =>
  obtain ⟨k,hk,hkm,rfl,HK,q,rfl⟩:=hrel;by_cases hlt:k<n/\k<m
  .obtain ⟨h1,h2⟩:=hlt;obtain ⟨b1,off1,rfl,_,hc1⟩:=HA.out.at' k h1;obtain ⟨b2,off2,rfl,_,hc2⟩:=HB.out.at' k h2;obtain ⟨u,hu⟩:=aA ((x.getD k 0).toNat)
   obtain ⟨v,hv⟩:=aA ((y.getD k 0).toNat)
   rw [hu] at hc1;rw [hv] at hc2;by_cases huv:u=v
   .subst huv;have HN:=hid (HK.out.next (hu.trans hv.symm));clear hu hv;have hd:decide ((k:Int)<min (n:Int) (m:Int))=true:=aK (by omega);go_wp2_with fail
    go_quiet (fail)
    go_wp2;go_roundw
    case rel=>exact ⟨k+1,by omega,by omega,by go_num,HN,(by first | exact ⟨_,rfl⟩ | exact ⟨_,World.drewN_drewN ..⟩)⟩
    case measure=>simp [intOf]; omega
   .have HE:Hid (lM x y=k):=hid (rU k x y (by rw [HA.out.len]; exact hk) (by rw [HB.out.len]; exact hkm) HK.out (Or.inr (Or.inr (by rw [hu,hv]; exact huv))));have hd:decide ((k:Int)<min (n:Int) (m:Int))=true:=aK (by omega);have T8:((u:Int)==(v:Int))=false:=by simp; omega
    clear hu hv;go_wp2_with fail
    go_quiet (fail)
    go_wp2;go_ret;exact ⟨by rw [HE.out]; rfl,(by first | exact ⟨_,rfl⟩ | exact ⟨_,World.drewN_drewN ..⟩)⟩
  .have HE:Hid (lM x y=k):=hid (rU k x y (by rw [HA.out.len]; exact hk) (by rw [HB.out.len]; exact hkm) HK.out (by rw [HA.out.len,HB.out.len]; omega));have hd:decide ((k:Int)<min (n:Int) (m:Int))=false:=decide_eq_false (by omega);go_wp2_with fail
   go_quiet (fail)
   go_wp2;go_ret;exact ⟨by rw [HE.out]; rfl,(by first | exact ⟨_,rfl⟩ | exact ⟨_,World.drewN_drewN ..⟩)⟩
def gI (n:Nat) (leaf:Bool):Nat:=n%2+if leaf then 2 else 0
def iZ (l:aN) (leaf:Bool):aN:=[UInt8.ofNat (gI l.length leaf)]++((if l.length%2=1 then l.take 1 else [0])++l.drop (l.length%2))
def jC (l:aN) (leaf:Bool):aN:=fK (iZ l leaf) (l.length/2+1)
theorem oH (l:aN) (leaf:Bool):(iZ l leaf).length=2*(l.length/2+1):=by
 unfold iZ;rw [List.length_append,List.length_append,List.length_drop];by_cases h:l.length%2=1
 .rw [if_pos h,List.length_take]; simp; omega
 .rw [if_neg h]; simp; omega
theorem qb (l:aN) (leaf:Bool) (h:cu l=true):cu (iZ l leaf)=true:=by
 unfold cu at h ⊢;rw [List.all_eq_true] at h ⊢;intro x hx;unfold iZ at hx;simp only [List.mem_append,List.mem_singleton] at hx;rcases hx with hx | hx | hx
 .subst hx;have:gI l.length leaf<=3:=by unfold gI; cases leaf <;> simp <;> omega
  simp only [UInt8.toNat_ofNat',decide_eq_true_eq]; omega
 .split at hx
  .exact h x (List.mem_of_mem_take hx)
  .simp at hx; subst hx; decide
 .exact h x (List.mem_of_mem_drop hx)
theorem UK (w:World) (m:UInt8) (v:Value) (hv:v = .int .u8 m.toNat) (a1 a2:aL) (n1 c1 n2 c2:Nat) (l1 l2:aN) (h1:bf w a1 n1 c1 l1) (h2:bf w a2 n2 c2 l2) :
  Cc.yM ((w.alloc (.cells #[v] 5)).alloc (.cells #[.slice (some ⟨w.heap.size,0,none⟩) 1 1,.slice a1 n1 c1,.slice a2 n2 c2] 35)) (some ⟨w.heap.size+1,0,none⟩) 3 [[m],l1,l2]:=by
 subst hv;have hb:Below w.heap.size w ((w.alloc (.cells #[.int .u8 m.toNat] 5)).alloc (.cells #[.slice (some ⟨w.heap.size,0,none⟩) 1 1,.slice a1 n1 c1,.slice a2 n2 c2] 35)) :=
  (aI.alloc aH _).alloc (by simp) _
 refine ⟨rfl,λj hj=>⟨w.heap.size+1,0,rfl,by simp,?_⟩⟩
 match j,hj with
 | 0,_ =>
  refine ⟨some ⟨w.heap.size,0,none⟩,1,1,by simp,⟨aH,by unfold maxLen; omega,rfl,λe=>(by cases e),λq hq=>?_⟩⟩;obtain rfl:q=0:=by omega
  exact ⟨w.heap.size,0,rfl,by simp; omega,by simp⟩
 | 1,_=>exact ⟨a1,n1,c1,by simp,h1.below hb⟩
 | 2,_=>exact ⟨a2,n2,c2,by simp,h2.below hb⟩
theorem lZ (l:aN) (leaf:Bool) (mk:UInt8) (l1 l2:aN) (hf:[mk]++(l1++l2)=iZ l leaf) (hl:l.length<=64) (v:Value) (hv:v = .int .u8 mk.toNat) (w:World) (a1 a2:aL) (n1 c1 n2 c2:Nat) (h1:bf w a1 n1 c1 l1) (h2:bf w a2 n2 c2 l2) :
  Calls prog 147 #[.slice (some ⟨w.heap.size+1,0,none⟩) 3 3] ((w.alloc (.cells #[v] 5)).alloc (.cells #[.slice (some ⟨w.heap.size,0,none⟩) 1 1,.slice a1 n1 c1,.slice a2 n2 c2] 35)) λe w'=>∃ a n cap,e = .returned (.slice a n cap)/\bf w' a n cap (iZ l leaf)/\Below w.heap.size w w':=by
 have e:[[mk],l1,l2].flatten=iZ l leaf:=by rw [<-hf]; simp
 refine (Ou _ 3 3 [[mk],l1,l2] (by omega) (by rw [e,oH]; omega) _ (UK w mk v hv a1 a2 n1 c1 n2 c2 l1 l2 h1 h2)).mono ?_;rintro en w' ⟨a,n,cap,rfl,hx,hb⟩;rw [e] at hx;exact ⟨a,n,cap,rfl,hx,((aI.alloc aH _).alloc (by simp) _).trans (hb.mono (by simp; omega))⟩
theorem kG (l:aN) (leaf:Bool) (hr:cu l=true) (hl:l.length<=64) (a:aL) (n cap:Nat) (w:World) (h:bf w a n cap (iZ l leaf)) :
  Calls prog 146 #[.slice a n cap] w λe w'=>e = .returned (.string ⟨(jC l leaf).toArray⟩)/\Below w.heap.size w w':=by
 have hn:n=2*(l.length/2+1):=by rw [<-h.len,oH]
 refine (vg a n cap (iZ l leaf) (qb l leaf hr) (by omega) (by omega) w h).mono ?_;rintro e w' ⟨rfl,hb⟩;have e2:n/2=l.length/2+1:=by omega
 refine ⟨?_,hb⟩;unfold jC;rw [e2]
theorem Ql:(prog.info? 5).map (λi=>(i.zero,i.size,i.bytes))=some (some (.int .u8 0),1,1):=by kernel_rfl
theorem Ce (l:aN) (leaf:Bool) (h:l.length%2=0):[UInt8.ofNat (gI l.length leaf)]++([0]++l)=iZ l leaf:=by
 unfold iZ;rw [if_neg (by omega),h,List.drop_zero]
theorem Ko (a:aL) (n c:Nat) (l:aN) (leaf:Bool) (hn:n<=64) (h2:n%2=0) (hr:cu l=true) (w:World) (h:bf w a n c l) :
  Calls prog 104 #[.slice a n c,.bool leaf] w λe w'=>e = .returned (.tuple #[.string ⟨(jC l leaf).toArray⟩,.int .i64 0])/\Below w.heap.size w w':=by
 have hR:=eD a n c l w h;rw [hr] at hR;have HR:=hid hR;have hnc:=h.1;have hcm:=h.2.1;unfold maxLen at hcm;have H:=hid h;have hm:(n:Int)%2=0:=by omega
 obtain ⟨i0,hi,hz0,hz1,hz2⟩:=info_parts Ql;have HI:Hid (_/\_/\_/\_):=hid ⟨hi,hz0,hz1,hz2⟩;have dg:=hid (Ce l false (by rw [h.len]; exact h2));have eJ:=hid (Ce l true (by rw [h.len]; exact h2));have di:Hid (Value.int .u8 0 = .int .u8 (UInt8.ofNat (gI l.length false)).toNat):=hid (by simp [gI,h.len,h2]);have eK:Hid (Value.int .u8 (bits .or .u8 0 2) = .int .u8 (UInt8.ofNat (gI l.length true)).toNat):=hid (by simp [gI,h.len,h2]; decide +kernel);have HRR:=hid hr;have hll:l.length<=64:=by rw [h.len]; exact hn
 clear hR hr h h2 hi hz0 hz1 hz2;cases leaf
 .go_enter func104,ntmps104;go_wp2_with fail
  refine HR.out.mono ?_;rintro e w1 ⟨rfl,rfl⟩;go_wp2_with fail
  go_quiet ((go_at_call 145; exact Calls.quiet_of_same (xS _ _ _ _)))
  go_wp2_with (at_builtin; refine wpList_append_grows _ rfl (.tmp 30) (.tmp 31) 35 rfl 5 i0 (.int .u8 0) 1 1 underlying35 HI.out.1 HI.out.2.1 HI.out.2.2.1 HI.out.2.2.2 rfl (by decide) a 0 0 [] rfl (λ_=>⟨rfl,rfl⟩) rfl (by intro _ _ _ _ h; simp at h) ⟨w.heap.size,0,none⟩ 1 1 [.int .u8 0] rfl rfl ?c1 ?c2 (by omega) (by unfold maxLen; omega) (by omega) ?grow)
  case c1=>exact Bu.cell_one_new' _ _ _ _
  case c2=>intro u hu; simp at hu; subst hu; rfl
  case grow =>
   intro v' w2 hown hg;obtain ⟨a',cap',rfl,hx⟩:=bf.pE (l:=[0]) hown;have HX:=hid hx;have H2:=hid (((H.out.drewN nq).alloc (.cells #[.int .u8 0] 5)).grown hg);clear hx hown;go_wp2_with fail
   refine (lZ l false (UInt8.ofNat (gI l.length false)) [0] l dg.out (by omega) _ di.out _ _ _ _ _ _ _ HX.out H2.out).mono ?_;rintro e w3 ⟨a3,n3,c3,rfl,hx3,hb3⟩;go_wp2_with fail
   refine (kG l false HRR.out (by omega) _ _ _ _ hx3).mono ?_;rintro e w4 ⟨rfl,hb4⟩;go_wp2;go_ret2
   have hbw:Below w.heap.size w w2:=((below_drewN (Below.refl w.heap.size w) nq).alloc aH _).grown hg (by simp) (λk hk=>by cases hk);exact ⟨rfl,(hbw.trans (hb3.mono hbw.size)).trans (hb4.mono (Nat.le_trans hbw.size hb3.size))⟩
 .go_enter func104,ntmps104;go_wp2_with fail
  refine HR.out.mono ?_;rintro e w1 ⟨rfl,rfl⟩;go_wp2_with fail
  go_quiet ((go_at_call 145; exact Calls.quiet_of_same (xS _ _ _ _)))
  go_wp2_with (at_builtin; refine wpList_append_grows _ rfl (.tmp 30) (.tmp 31) 35 rfl 5 i0 (.int .u8 0) 1 1 underlying35 HI.out.1 HI.out.2.1 HI.out.2.2.1 HI.out.2.2.2 rfl (by decide) a 0 0 [] rfl (λ_=>⟨rfl,rfl⟩) rfl (by intro _ _ _ _ h; simp at h) ⟨w.heap.size,0,none⟩ 1 1 [.int .u8 0] rfl rfl ?d1 ?d2 (by omega) (by unfold maxLen; omega) (by omega) ?yh)
  case d1=>exact Bu.cell_one_new' _ _ _ _
  case d2=>intro u hu; simp at hu; subst hu; rfl
  case yh =>
   intro v' w2 hown hg;obtain ⟨a',cap',rfl,hx⟩:=bf.pE (l:=[0]) hown;have HX:=hid hx;have H2:=hid (((H.out.drewN nq).alloc (.cells #[.int .u8 0] 5)).grown hg);clear hx hown;go_wp2_with fail
   refine (lZ l true (UInt8.ofNat (gI l.length true)) [0] l eJ.out (by omega) _ eK.out _ _ _ _ _ _ _ HX.out H2.out).mono ?_;rintro e w3 ⟨a3,n3,c3,rfl,hx3,hb3⟩;go_wp2_with fail
   refine (kG l true HRR.out (by omega) _ _ _ _ hx3).mono ?_;rintro e w4 ⟨rfl,hb4⟩;go_wp2;go_ret2
   have hbw:Below w.heap.size w w2:=((below_drewN (Below.refl w.heap.size w) nq).alloc aH _).grown hg (by simp) (λk hk=>by cases hk);exact ⟨rfl,(hbw.trans (hb3.mono hbw.size)).trans (hb4.mono (Nat.le_trans hbw.size hb3.size))⟩
theorem DC (l:aN) (leaf:Bool) (h:l.length%2=1):[UInt8.ofNat (gI l.length leaf)]++(l.take 1++l.drop 1)=iZ l leaf:=by
 unfold iZ;rw [if_pos h,h]
theorem Pt {b n c:Nat} {l:aN} {w:World} (h:bf w (some ⟨b,off,none⟩) n c l) (h1:1<=n):bf w (some ⟨b,off,none⟩) 1 1 (l.take 1):=by
 refine ⟨aH,by unfold maxLen; omega,by rw [List.length_take,h.len]; omega,λe=>(by cases e),λq hq=>?_⟩;obtain rfl:q=0:=by omega
 obtain ⟨b',off',e,h2,h3⟩:=h.at' 0 (by omega);simp at e;obtain ⟨rfl,rfl⟩:=e;refine ⟨b,off,rfl,h2,?_⟩;have e:(l.take 1).getD 0 0=l.getD 0 0:=by simp [List.getD]
 rw [e]; exact h3
theorem Qm {b:Nat} {l:aN} {w:World} (h:bf w (some ⟨b,off,none⟩) 1 1 l):bf w (some ⟨b,off,none⟩) 0 0 (l.drop 1) :=
 ⟨aH,Nat.zero_le _,by rw [List.length_drop,h.len],λ_=>rfl,λq hq=>absurd hq (Nat.not_lt_zero _)⟩
theorem Qq {b n c:Nat} {l:aN} {w:World} (h:bf w (some ⟨b,off,none⟩) n c l) (h1:1<=n):bf w (some ⟨b,off+1,none⟩) (n-1) (c-1) (l.drop 1):=by
 have hnc:=h.1;have hcm:=h.2.1;refine ⟨by omega,by omega,by rw [List.length_drop,h.len],λe=>(by cases e),λq hq=>?_⟩;obtain ⟨b',off',e,h2,h3⟩:=h.at' (1+q) (by omega);simp at e;obtain ⟨rfl,rfl⟩:=e;refine ⟨b,off+1,rfl,h2,?_⟩;have e:(l.drop 1).getD q 0=l.getD (1+q) 0:=by simp [List.getD,Nat.add_comm]
 rw [e,Nat.add_assoc]; exact h3
theorem Ph (b off:Nat) (n c:Nat) (l:aN) (leaf:Bool) (hn:n<=64) (h2:n%2=1) (hr:cu l=true) (w:World) (h:bf w (some ⟨b,off,none⟩) n c l) :
  Calls prog 104 #[.slice (some ⟨b,off,none⟩) n c,.bool leaf] w λe w'=>e = .returned (.tuple #[.string ⟨(jC l leaf).toArray⟩,.int .i64 0])/\Below w.heap.size w w':=by
 have hR:=eD _ n c l w h;rw [hr] at hR;have HR:=hid hR;have hnc:=h.1;have hcm:=h.2.1;unfold maxLen at hcm;have H:=hid h;have hm:(n:Int)%2=1:=by omega
 have hn1:1<=n:=by omega
 have HRR:=hid hr;have hll:l.length<=64:=by rw [h.len]; exact hn
 have hw1:IntKind.i64.wrap 1=1:=by kernel_rfl
 have hc1:1<=c:=by omega
 have dg:=hid (DC l false (by rw [h.len]; exact h2));have eJ:=hid (DC l true (by rw [h.len]; exact h2));have di:Hid (Value.int .u8 1 = .int .u8 (UInt8.ofNat (gI l.length false)).toNat):=hid (by simp [gI,h.len,h2]);have eK:Hid (Value.int .u8 (bits .or .u8 1 2) = .int .u8 (UInt8.ofNat (gI l.length true)).toNat):=hid (by simp [gI,h.len,h2]; decide +kernel);have H1:Hid (bf w (some ⟨b,off,none⟩) 1 1 (l.take 1)):=hid (Pt h hn1);clear hR hr h h2;by_cases hcc:c=1
 .subst hcc;obtain rfl:n=1:=by omega
  have H2:Hid (bf w (some ⟨b,off,none⟩) 0 0 (l.drop 1)):=hid (Qm H.out);clear H;cases leaf
  .go_enter func104,ntmps104;go_wp2_with fail
   refine HR.out.mono ?_;rintro e w1 ⟨rfl,rfl⟩;go_wp2_with fail
   go_quiet ((go_at_call 145; exact Calls.quiet_of_same (qA _ _ _ _ hc1 _ hcm)))
   clear hw1;go_wp2_with fail
   refine (lZ l false (UInt8.ofNat (gI l.length false)) (l.take 1) (l.drop 1) dg.out hll _ di.out _ _ _ _ _ _ _ (H1.out.drewN _) (H2.out.drewN _)).mono ?_;rintro e w3 ⟨a3,n3,c3,rfl,hx3,hb3⟩;go_wp2_with fail
   refine (kG l false HRR.out hll _ _ _ _ hx3).mono ?_;rintro e w4 ⟨rfl,hb4⟩;go_wp2;go_ret2
   exact ⟨rfl,((below_drewN (Below.refl w.heap.size w) _).trans hb3).trans (hb4.mono hb3.size)⟩
  .go_enter func104,ntmps104;go_wp2_with fail
   refine HR.out.mono ?_;rintro e w1 ⟨rfl,rfl⟩;go_wp2_with fail
   go_quiet ((go_at_call 145; exact Calls.quiet_of_same (qA _ _ _ _ hc1 _ hcm)))
   clear hw1;go_wp2_with fail
   refine (lZ l true (UInt8.ofNat (gI l.length true)) (l.take 1) (l.drop 1) eJ.out hll _ eK.out _ _ _ _ _ _ _ (H1.out.drewN _) (H2.out.drewN _)).mono ?_;rintro e w3 ⟨a3,n3,c3,rfl,hx3,hb3⟩;go_wp2_with fail
   refine (kG l true HRR.out hll _ _ _ _ hx3).mono ?_;rintro e w4 ⟨rfl,hb4⟩;go_wp2;go_ret2
   exact ⟨rfl,((below_drewN (Below.refl w.heap.size w) _).trans hb3).trans (hb4.mono hb3.size)⟩
 .have H2:Hid (bf w (some ⟨b,off+1,none⟩) (n-1) (c-1) (l.drop 1)):=hid (Qq H.out hn1);clear H;cases leaf
  .go_enter func104,ntmps104;go_wp2_with fail
   refine HR.out.mono ?_;rintro e w1 ⟨rfl,rfl⟩;go_wp2_with fail
   go_quiet ((go_at_call 145; exact Calls.quiet_of_same (qA _ _ _ _ hc1 _ hcm)))
   clear hw1;go_wp2_with fail
   refine (lZ l false (UInt8.ofNat (gI l.length false)) (l.take 1) (l.drop 1) dg.out hll _ di.out _ _ _ _ _ _ _ (H1.out.drewN _) (H2.out.drewN _)).mono ?_;rintro e w3 ⟨a3,n3,c3,rfl,hx3,hb3⟩;go_wp2_with fail
   refine (kG l false HRR.out hll _ _ _ _ hx3).mono ?_;rintro e w4 ⟨rfl,hb4⟩;go_wp2;go_ret2
   exact ⟨rfl,((below_drewN (Below.refl w.heap.size w) _).trans hb3).trans (hb4.mono hb3.size)⟩
  .go_enter func104,ntmps104;go_wp2_with fail
   refine HR.out.mono ?_;rintro e w1 ⟨rfl,rfl⟩;go_wp2_with fail
   go_quiet ((go_at_call 145; exact Calls.quiet_of_same (qA _ _ _ _ hc1 _ hcm)))
   clear hw1;go_wp2_with fail
   refine (lZ l true (UInt8.ofNat (gI l.length true)) (l.take 1) (l.drop 1) eJ.out hll _ eK.out _ _ _ _ _ _ _ (H1.out.drewN _) (H2.out.drewN _)).mono ?_;rintro e w3 ⟨a3,n3,c3,rfl,hx3,hb3⟩;go_wp2_with fail
   refine (kG l true HRR.out hll _ _ _ _ hx3).mono ?_;rintro e w4 ⟨rfl,hb4⟩;go_wp2;go_ret2
   exact ⟨rfl,((below_drewN (Below.refl w.heap.size w) _).trans hb3).trans (hb4.mono hb3.size)⟩
theorem FZ (c:Nat) (s:aM) (hs:s.size<=maxLen) (hi:0<s.size) (w:World) (hc:w.cell? ⟨c,0,none⟩=some (.string s)) :
  Calls prog 155 #[.int .i64 0,.pointer (some ⟨c,0,none⟩)] w λe w'=>e = .returned (.int .u8 (dZ s 0:Nat))/\w=w' :=
 mW c s 0 hs hi w hc
theorem FI (c:Nat) (s:aM) (hs:s.size<=maxLen) (hi:0<s.size) (w:World) (hc:w.cell? ⟨c,0,none⟩=some (.string s)) :
  Calls prog 155 #[.int .i64 1,.pointer (some ⟨c,0,none⟩)] w λe w'=>e = .returned (.int .u8 (dZ s 1:Nat))/\w=w' :=
 mW c s 1 hs hi w hc
theorem UU:∀ x:Fin 16,bits .and .u8 ((x:Nat):Int) 1=(((x:Nat)%2:Nat):Int):=by decide +kernel
theorem UD:∀ x:Fin 16,bits .and .u8 ((x:Nat):Int) 2=((2*((x:Nat)/2%2):Nat):Int):=by decide +kernel
theorem and1 (x:Nat) (h:x<16):bits .and .u8 (x:Int) 1=((x%2:Nat):Int):=UU ⟨x,h⟩
theorem Vl (x:Nat) (h:x<16):bits .and .u8 (x:Int) 2=((2*(x/2%2):Nat):Int):=UD ⟨x,h⟩
def Bad (s:aM):Prop:=(dZ s 0%2=0/\(33<s.size\/3<dZ s 0\/dZ s 1≠0))\/(dZ s 0%2=1/\(32<s.size\/3<dZ s 0))
def nX (s:aM):Bool:=decide (dZ s 0/2%2=1)
def lC (s:aM):aN:=(fM s).drop (2-dZ s 0%2)
theorem Iw (w:World) :
  Calls prog 158 #[.string ByteArray.empty] w λe w'=>e = .returned (.tuple #[.slice none 0 0,.bool false,.int .i64 5])/\w=w':=by
 go_enter func158,ntmps158;go_wp2;go_ret3
 exact ⟨rfl,rfl⟩
theorem dP {s:aM} (h:0<s.size):s.toList.isEmpty=false:=by
 rw [ByteArray.toList_eq];cases hd:s.data.toList with
 | nil =>
  have h1:s.data.toList.length=0:=by rw [hd]; rfl
  have h2:s.data.toList.length=s.size:=by simp
  omega
 | cons=>rfl
theorem Ic (s:aM) (h0:0<s.size) (hs:s.size<=1000000) (hb:Bad s) (w:World) :
  Calls prog 158 #[.string s] w λe w'=>e = .returned (.tuple #[.slice none 0 0,.bool false,.int .i64 6])/\Below w.heap.size w w':=by
 have hmax:s.size<=maxLen:=by unfold maxLen; omega
 have HC:Hid (∀ wx:World,(wx.alloc (.cells #[.string s] 9)).cell? ⟨wx.heap.size,0,none⟩=some (.string s)):=hid (λwx=>by simp);have hne:=dP h0;have hx16:=rZ s 0;have hand:=and1 (dZ s 0) hx16;have T0:=hid (λc wx hc=>FZ c s hmax h0 wx hc);have T1:=hid (λc wx hc=>FI c s hmax h0 wx hc);unfold Bad at hb;obtain ⟨x,hx⟩:=aA (dZ s 0)
 obtain ⟨y,hy⟩:=aA (dZ s 1)
 rw [hx] at hb hand hx16;rw [hy] at hb;simp only [hx] at T0;simp only [hy] at T1;clear hx hy hmax;rcases hb with ⟨hp,hb⟩ | ⟨hp,hb⟩
 .have hand0:bits .and .u8 (x:Int) 1=0:=by rw [hand,hp]; rfl
  clear hand hp;by_cases hb1:33<s.size
  .clear hb;go_enter func158,ntmps158;go_wp2_with fail
   refine (eZ _ _).mono ?_;rintro e w1 ⟨rfl,rfl⟩;go_wp2_with fail
   refine (T0.out _ _ (HC.out _)).mono ?_;rintro e w2 ⟨rfl,rfl⟩;go_wp2;go_ret3
   exact ⟨rfl,aI.alloc aH _⟩
  .by_cases hb2:3<x
   .clear hb;go_enter func158,ntmps158;go_wp2_with fail
    refine (eZ _ _).mono ?_;rintro e w1 ⟨rfl,rfl⟩;go_wp2_with fail
    refine (T0.out _ _ (HC.out _)).mono ?_;rintro e w2 ⟨rfl,rfl⟩;go_wp2;go_ret3
    exact ⟨rfl,aI.alloc aH _⟩
   .have hb3:((y:Int) != 0)=true:=by simp; omega
    clear hb;go_enter func158,ntmps158;go_wp2_with fail
    refine (eZ _ _).mono ?_;rintro e w1 ⟨rfl,rfl⟩;go_wp2_with fail
    refine (T0.out _ _ (HC.out _)).mono ?_;rintro e w2 ⟨rfl,rfl⟩;go_wp2_with fail
    refine (T1.out _ _ (HC.out _)).mono ?_;rintro e w2 ⟨rfl,rfl⟩;go_wp2;go_ret3
    exact ⟨rfl,aI.alloc aH _⟩
 .have hand0:bits .and .u8 (x:Int) 1=1:=by rw [hand,hp]; rfl
  clear hand hp;by_cases hb1:32<s.size
  .clear hb;go_enter func158,ntmps158;go_wp2_with fail
   refine (eZ _ _).mono ?_;rintro e w1 ⟨rfl,rfl⟩;go_wp2_with fail
   refine (T0.out _ _ (HC.out _)).mono ?_;rintro e w2 ⟨rfl,rfl⟩;go_wp2;go_ret3
   exact ⟨rfl,aI.alloc aH _⟩
  .have hb2:3<x:=by omega
   clear hb;go_enter func158,ntmps158;go_wp2_with fail
   refine (eZ _ _).mono ?_;rintro e w1 ⟨rfl,rfl⟩;go_wp2_with fail
   refine (T0.out _ _ (HC.out _)).mono ?_;rintro e w2 ⟨rfl,rfl⟩;go_wp2;go_ret3
   exact ⟨rfl,aI.alloc aH _⟩
theorem pF (s:aM):cu (fM s)=true:=by
 unfold cu fM;rw [List.all_eq_true];intro x hx;simp only [List.mem_map,List.mem_range] at hx;obtain ⟨i,_,rfl⟩:=hx;have:=rZ s i;simp only [UInt8.toNat_ofNat',decide_eq_true_eq]; omega
theorem NH (s:aM) (a:aL) (n cap:Nat) (w:World) (h:bf w a n cap (fM s)) (k:Nat) (hk:k<=n) (ki:Int) (hki:ki=k) :
  Calls prog 145 #[.slice a n cap,.int .i64 ki,.int .i64 n] w λe w'=>∃ a' n' c',e = .returned (.slice a' n' c')/\bf w a' n' c' ((fM s).drop k)/\w=w':=by
 subst hki;refine (Ug a n cap (fM s) k n hk aH w h).mono ?_;rintro e w' ⟨a',c',rfl,⟨hx,_⟩,rfl⟩;have e:((fM s).drop k).take (n-k)=(fM s).drop k:=List.take_of_length_le (by rw [List.length_drop,h.len]; exact aH);rw [e] at hx;exact ⟨a',_,c',rfl,hx,rfl⟩
def Unp (w:World) (s:aM) (e:Ending) (w':World):Prop :=
 ∃ a n cap,e = .returned (.tuple #[.slice a n cap,.bool (nX s),.int .i64 0])/\bf w' a n cap (lC s)/\Below w.heap.size w w'
theorem Md (s:aM) (h0:0<s.size) (hb:¬ Bad s) (w:World) :
  Calls prog 158 #[.string s] w (Unp w s):=by
 have hx16:=rZ s 0;have T9:s.size<=33:=by unfold Bad at hb; omega
 have hmax:s.size<=maxLen:=by unfold maxLen; omega
 have HC:Hid (∀ wx:World,(wx.alloc (.cells #[.string s] 9)).cell? ⟨wx.heap.size,0,none⟩=some (.string s)):=hid (λwx=>by simp);have hne:=dP h0;have hand:=and1 (dZ s 0) hx16;have hand2:=Vl (dZ s 0) hx16;have T0:=hid (λc wx hc=>FZ c s hmax h0 wx hc);have T1:=hid (λc wx hc=>FI c s hmax h0 wx hc);have SP:=hid (λwx=>zV s (by omega) wx);have CP:=hid (NH s);have hlen:=fF s;have hlf:nX s=decide (dZ s 0/2%2=1):=rfl;have hpl:lC s=(fM s).drop (2-dZ s 0%2):=rfl;unfold Bad at hb;obtain ⟨x,hx⟩:=aA (dZ s 0)
 obtain ⟨y,hy⟩:=aA (dZ s 1)
 rw [hx] at hb hand hx16 hand2 hlf hpl;rw [hy] at hb;simp only [hx] at T0;simp only [hy] at T1;clear hx hy hmax;have HL:=hid hlen;have hx3:x<=3:=by omega
 by_cases hp:x%2=0
 .have hy0:y=0:=by omega
  subst hy0;have hand0:bits .and .u8 (x:Int) 1=0:=by rw [hand,hp]; rfl
  have HP:Hid (lC s=(fM s).drop 2):=hid (by rw [hpl,hp]);clear hand hpl hb hp hlen;by_cases hl:x/2%2=1
  .have hl2:bits .and .u8 (x:Int) 2=2:=by rw [hand2,hl]; rfl
   have mb:Hid (nX s=true):=hid (by rw [hlf]; exact aK hl);clear hand2 hl hlf;go_enter func158,ntmps158;go_wp2_with fail
   refine (eZ _ _).mono ?_;rintro e w1 ⟨rfl,rfl⟩;go_wp2_with fail
   refine (T0.out _ _ (HC.out _)).mono ?_;rintro e w2 ⟨rfl,rfl⟩;go_wp2_with fail
   refine (T1.out _ _ (HC.out _)).mono ?_;rintro e w2 ⟨rfl,rfl⟩;go_wp2_with fail
   refine (SP.out _).mono ?_;rintro e w3 ⟨a,n,cap,rfl,hx,hb3⟩;have hn2:2<=n:=by have:=hx.len; rw [HL.out] at this; omega
   have HX:=hid hx;clear hx;go_wp2_with fail
   refine (CP.out a n cap _ HX.out 2 (by omega) 2 rfl).mono ?_;rintro e w4 ⟨a4,n4,c4,rfl,hx4,rfl⟩;have lv:=hid hx4;clear hx4;go_wp2;go_ret3
   exact ⟨a4,n4,c4,by rw [mb.out]; rfl,by rw [HP.out]; exact lv.out,((Below.refl w.heap.size w).alloc aH _).trans (hb3.mono (by simp))⟩
  .have hl2:bits .and .u8 (x:Int) 2=0:=by rw [hand2,show x/2%2=0 by omega]; rfl
   have mb:Hid (nX s=false):=hid (by rw [hlf]; exact decide_eq_false hl);clear hand2 hl hlf;go_enter func158,ntmps158;go_wp2_with fail
   refine (eZ _ _).mono ?_;rintro e w1 ⟨rfl,rfl⟩;go_wp2_with fail
   refine (T0.out _ _ (HC.out _)).mono ?_;rintro e w2 ⟨rfl,rfl⟩;go_wp2_with fail
   refine (T1.out _ _ (HC.out _)).mono ?_;rintro e w2 ⟨rfl,rfl⟩;go_wp2_with fail
   refine (SP.out _).mono ?_;rintro e w3 ⟨a,n,cap,rfl,hx,hb3⟩;have hn2:2<=n:=by have:=hx.len; rw [HL.out] at this; omega
   have HX:=hid hx;clear hx;go_wp2_with fail
   refine (CP.out a n cap _ HX.out 2 (by omega) 2 rfl).mono ?_;rintro e w4 ⟨a4,n4,c4,rfl,hx4,rfl⟩;have lv:=hid hx4;clear hx4;go_wp2;go_ret3
   exact ⟨a4,n4,c4,by rw [mb.out]; rfl,by rw [HP.out]; exact lv.out,((Below.refl w.heap.size w).alloc aH _).trans (hb3.mono (by simp))⟩
 .have hp1:x%2=1:=by omega
  have Tb:s.size<=32:=by omega
  have hand0:bits .and .u8 (x:Int) 1=1:=by rw [hand,hp1]; rfl
  have HP:Hid (lC s=(fM s).drop 1):=hid (by rw [hpl,hp1]);clear hand hpl hb hp hp1 hlen T1;by_cases hl:x/2%2=1
  .have hl2:bits .and .u8 (x:Int) 2=2:=by rw [hand2,hl]; rfl
   have mb:Hid (nX s=true):=hid (by rw [hlf]; exact aK hl);clear hand2 hl hlf;go_enter func158,ntmps158;go_wp2_with fail
   refine (eZ _ _).mono ?_;rintro e w1 ⟨rfl,rfl⟩;go_wp2_with fail
   refine (T0.out _ _ (HC.out _)).mono ?_;rintro e w2 ⟨rfl,rfl⟩;go_wp2_with fail
   refine (SP.out _).mono ?_;rintro e w3 ⟨a,n,cap,rfl,hx,hb3⟩;have hn2:2<=n:=by have:=hx.len; rw [HL.out] at this; omega
   have HX:=hid hx;clear hx;go_wp2_with fail
   refine (CP.out a n cap _ HX.out 1 (by omega) 1 rfl).mono ?_;rintro e w4 ⟨a4,n4,c4,rfl,hx4,rfl⟩;have lv:=hid hx4;clear hx4;go_wp2;go_ret3
   exact ⟨a4,n4,c4,by rw [mb.out]; rfl,by rw [HP.out]; exact lv.out,((Below.refl w.heap.size w).alloc aH _).trans (hb3.mono (by simp))⟩
  .have hl2:bits .and .u8 (x:Int) 2=0:=by rw [hand2,show x/2%2=0 by omega]; rfl
   have mb:Hid (nX s=false):=hid (by rw [hlf]; exact decide_eq_false hl);clear hand2 hl hlf;go_enter func158,ntmps158;go_wp2_with fail
   refine (eZ _ _).mono ?_;rintro e w1 ⟨rfl,rfl⟩;go_wp2_with fail
   refine (T0.out _ _ (HC.out _)).mono ?_;rintro e w2 ⟨rfl,rfl⟩;go_wp2_with fail
   refine (SP.out _).mono ?_;rintro e w3 ⟨a,n,cap,rfl,hx,hb3⟩;have hn2:2<=n:=by have:=hx.len; rw [HL.out] at this; omega
   have HX:=hid hx;clear hx;go_wp2_with fail
   refine (CP.out a n cap _ HX.out 1 (by omega) 1 rfl).mono ?_;rintro e w4 ⟨a4,n4,c4,rfl,hx4,rfl⟩;have lv:=hid hx4;clear hx4;go_wp2;go_ret3
   exact ⟨a4,n4,c4,by rw [mb.out]; rfl,by rw [HP.out]; exact lv.out,((Below.refl w.heap.size w).alloc aH _).trans (hb3.mono (by simp))⟩
end Ni
end
section
open Go.RowKit
namespace No
def dG (s:aM):Bool:=decide (s.size=0\/s.size=32)
theorem dQ {s:aM} (h:s.size=0):s=eB:=by
 cases s with
 | mk d =>
  have:d = #[]:=Array.eq_empty_of_size_eq_zero h;rw [this]
theorem uL (s:aM) (w:World):Calls prog 143 #[.string s] w λe w'=>e = .returned (.bool (dG s))/\w=w':=by
 by_cases h0:s.size=0
 .obtain rfl:=dQ h0;go_enter func143,ntmps143;go_wp2;go_ret;exact ⟨rfl,rfl⟩
 .have hne:=Ni.dP (s:=s) (by omega);by_cases h32:s.size=32
  .have hq:((s.size:Int)==32)=true:=by simp; omega
   have HP:Hid (dG s=true):=hid (by simp [dG,h32]);rw [HP.out];go_enter func143,ntmps143;go_wp2;go_ret;exact ⟨rfl,rfl⟩
  .have hq:((s.size:Int)==32)=false:=by simp; omega
   have HP:Hid (dG s=false):=hid (by simp [dG,h32,h0]);rw [HP.out];go_enter func143,ntmps143;go_wp2;go_ret;exact ⟨rfl,rfl⟩
theorem Uk (w:World):(binOp .eql 35 (.slice none 0 0) (.slice none 0 0)).run prog w = .ok (.bool true) w:=by kernel_rfl
theorem Sz (a:Addr) (n cap:Nat) (w:World):(binOp .eql 35 (.slice (some a) n cap) (.slice none 0 0)).run prog w = .ok (.bool false) w:=by kernel_rfl
def TR (w:World) (l:aN) (e:Ending) (w':World):Prop:=∃ a n cap,e = .returned (.slice a n cap)/\BsF w.heap.size w' a n cap l/\Below w.heap.size w w'
theorem Uo {w:World} {n:Nat} {l:aN} (h:w.ownsRow B t 1 v n (l.map λx=>Value.int .u8 x.toNat)):∃ a cap,v = .slice a n cap/\BsF B w a n cap l:=by
 obtain ⟨a,cap,rfl,hB⟩:=bf.pE h;refine ⟨a,cap,rfl,hB,λad e=>?_⟩;subst e;rcases h.2 with ⟨e,_⟩ | ⟨g,cap',cur,e,hbg,_⟩
 .cases e
 .cases e;exact hbg
theorem xL (a:aL) (n cap:Nat) (l:aN) (hn:n<=1000000) (w:World) (h:bf w a n cap l) :
  Calls prog 150 #[.slice a n cap] w (TR w l):=by
 cases a with
 | none =>
  obtain ⟨rfl,rfl,rfl⟩:=h.CK;have hnil:=Uk;go_enter func150,ntmps150;go_wp2;go_ret;exact ⟨none,0,0,rfl,BsF.nil _ _,aI⟩
 | some ad =>
  obtain ⟨i0,hi,hz0,hz1,hz2⟩:=info_parts Cc.lI;have HI:Hid (_/\_/\_/\_):=hid ⟨hi,hz0,hz1,hz2⟩;have HC:=hid (Cc.yY h ad rfl);have HL:=hid h.len;have HH:=hid h;have hnil:=Sz ad n cap;have HO:Hid ((w.alloc (.cells #[] 5)).ownsRow w.heap.size 5 1 (.slice (some ⟨w.heap.size,0,none⟩) 0 0) 0 []):=hid (World.ownsRow_made w #[] 0 aH (Nat.zero_le _) (by simp));clear h hi hz0 hz1 hz2;go_enter func150,ntmps150
  go_wp2_with (at_builtin; refine wpList_append_own _ rfl _ _ 35 rfl w.heap.size 5 i0 (.int .u8 0) 1 1 underlying35 HI.out.1 HI.out.2.1 HI.out.2.2.1 HI.out.2.2.2 rfl (by decide) _ _ _ rfl HO.out ad n cap (l.map λx=>Value.int .u8 x.toNat) rfl (by simp [HL.out]) ?c2 ?c6 ?c3 ?c4 ?c5 ?_)
  case c2 =>
   intro j u hu;have hj:j<n:=by rw [<-HL.out]; have:=(List.getElem?_eq_some_iff.1 hu).1; simpa using this
   obtain ⟨b,off,e,hb,_⟩:=HH.out.at' j hj;obtain rfl:=Option.some.inj e;rw [(al1 w _).cell (by rw [Addr.add_mid]; exact hb)];exact HC.out j u hu
  case c6 =>
   intro u hu;simp at hu;obtain ⟨x,_,rfl⟩:=hu;rfl
  case c3=>unfold maxLen; omega
  case c4=>omega
  case c5=>simp
  intro v' w2 hown2 hgrow hnil';have HG:Hid (∃ a c,v' = .slice a n c/\BsF w.heap.size w2 a n c l):=hid (by
   have:=Uo (l:=l) (v:=v') (n:=n) (by simpa using hown2);exact this)
  have HB:Hid (Below w.heap.size w w2):=hid ((al1 w _).grown hgrow (by simp) (λk hk=>by simp [Value.ownBlock] at hk; omega));clear hown2 hgrow hnil';go_wp2;go_ret;obtain ⟨a',c',e,hB⟩:=HG.out;exact ⟨a',n,c',by rw [e]; rfl,hB,HB.out⟩
theorem mh (a:aL) (n cap:Nat) (l:aN) (hn:n<=1000000) (v:aM) (w:World) (h:bf w a n cap l) :
  Calls prog 109 #[.slice a n cap,.string v] w (Fj w ⟨1,l,v,zks⟩):=by
 obtain ⟨w2,hw2⟩:=ay (w.alloc (.cells (ndC nd0 none 0 0) 67))
 have HC:=hid (xL a n cap l hn w2 (by rw [hw2]; exact h.alloc _));have HO:Hid (fE w2 w.heap.size nd0 none 0 0):=hid (by rw [hw2]; exact Rg.Own.new _ _ _);have HB:Hid (Below w.heap.size w w2):=hid (by rw [hw2]; exact al1 _ _);clear h;subst hw2;go_enter func109,ntmps109;go_wp2_with (refine aB (aY _ _ _ w.heap.size rfl rfl) ?_)
 refine HC.out.mono ?_;rintro e w3 ⟨a3,n3,c3,rfl,hB3,hb3⟩;have bc:=hid (HO.out.below hb3);have HB3:=hid (bst HB.out hb3);have HI3:=hid hB3;clear hB3 hb3 HO HC;go_wp2_with (first
  | (refine aB (bM (rE a3 n3 c3 l v) ?_) ?_; · exact ⟨_,rfl,rfl⟩)
  | (refine bH bc.out rfl ⟨1,l,v,zks⟩ a3 n3 c3 rfl rfl _ _ rfl rfl rfl rfl ?_))
 exact bodyPost_ret (rJ rfl _ rfl (dK bc.out) rfl) rfl ⟨a3,n3,c3,rfl,(HI3.out.row (by simp) _).weak (by simp),rfl,bZ HB3.out aH _⟩
theorem JR (a:aL) (n cap:Nat) (l:aN) (hn:n<=1000000) (v:aM) (w:World) (h:bf w a n cap l) :
  Calls prog 110 #[.slice a n cap,.string v] w (Fj w ⟨2,l,eB,v::List.replicate 15 eB⟩):=by
 obtain ⟨w2,hw2⟩:=ay (w.alloc (.cells (ndC nd0 none 0 0) 67))
 have HC:=hid (xL a n cap l hn w2 (by rw [hw2]; exact h.alloc _));have HO:Hid (fE w2 w.heap.size nd0 none 0 0):=hid (by rw [hw2]; exact Rg.Own.new _ _ _);have HB:Hid (Below w.heap.size w w2):=hid (by rw [hw2]; exact al1 _ _);clear h;subst hw2;go_enter func110,ntmps110;go_wp2_with (refine aB (aY _ _ _ w.heap.size rfl rfl) ?_)
 refine HC.out.mono ?_;rintro e w3 ⟨a3,n3,c3,rfl,hB3,hb3⟩;have bc:=hid (HO.out.below hb3);have HB3:=hid (bst HB.out hb3);have HI3:=hid hB3;clear hB3 hb3 HO HC;go_wp2_with (first
  | (refine aB (bM (Nh v) ?_) ?_; · exact ⟨_,rfl,rfl⟩)
  | (refine aB (bM (vC 2 a3 n3 c3 l (v::List.replicate 15 eB) rfl) ?_) ?_; · exact ⟨_,rfl,rfl⟩)
  | (refine bH bc.out rfl ⟨2,l,eB,v::List.replicate 15 eB⟩ a3 n3 c3 rfl rfl _ _ rfl rfl rfl rfl ?_))
 exact bodyPost_ret (rJ rfl _ rfl (dK bc.out) rfl) rfl ⟨a3,n3,c3,rfl,(HI3.out.row (by simp) _).weak (by simp),rfl,bZ HB3.out aH _⟩
end No
end
section
open Go.RowKit
def kW (w:World) (a:aL) (n cap:Nat) (xs:List aM):Prop :=
 n<=cap/\cap<=maxLen/\xs.length=n/\∀ j,j<n->∃ b off,a=some ⟨b,off,none⟩/\b<w.heap.size/\w.cell? ⟨b,off+j,none⟩=some (.string (xs.getD j eB))
namespace kW
variable {w w':World} {a:aL} {n cap:Nat} {xs:List aM}
theorem len (h:kW w a n cap xs):xs.length=n:=h.2.2.1
theorem at' (h:kW w a n cap xs) (j:Nat) (hj:j<n):∃ b off,a=some ⟨b,off,none⟩/\b<w.heap.size/\w.cell? ⟨b,off+j,none⟩=some (.string (xs.getD j eB)):=h.2.2.2 j hj
theorem below (h:kW w a n cap xs) (hb:Below w.heap.size w w'):kW w' a n cap xs:=by
 refine ⟨h.1,h.2.1,h.2.2.1,λj hj=>?_⟩;obtain ⟨b,off,h1,h2,h3⟩:=h.2.2.2 j hj;exact ⟨b,off,h1,aJ h2 hb.size,by rw [hb.cell (p:=⟨b,off+j,none⟩) h2]; exact h3⟩
end kW
theorem kW.pE {w:World} {n:Nat} {xs:List aM} (h:w.ownsRow B t 1 v n (xs.map Value.string)):∃ a cap,v = .slice a n cap/\kW w a n cap xs:=by
 have hl:xs.length=n:=by simpa using h.1
 rcases h.2 with ⟨rfl,hz⟩ | ⟨g,cap,cur,rfl,hbg,hg,hnc,hcm,hcs,htake⟩
 .subst hz;exact ⟨none,0,rfl,aH,Nat.zero_le _,hl,λj hj=>absurd hj (Nat.not_lt_zero _)⟩
 .refine ⟨_,_,rfl,hnc,hcm,hl,λj hj=>⟨g,0,rfl,(Array.getElem?_eq_some_iff.1 hg).1,?_⟩⟩;have:=h.cells (g:=g) rfl j (.string (xs.getD j eB)) (by simp [List.getD,hl,hj]);rwa [Addr.add_mid] at this
theorem RU:(prog.info? 9).map (λi=>(i.zero,i.size,i.bytes))=some (some (.string ⟨#[]⟩),1,16):=by kernel_rfl
theorem nH:∃ i,prog.info? 9=some i/\i.zero=some (.string ⟨#[]⟩)/\i.size=1/\i.bytes=16:=by
 have h:=RU;cases hi:prog.info? 9 with
 | none=>rw [hi] at h; simp at h
 | some i =>
  rw [hi] at h;simp at h;exact ⟨i,rfl,h.1,h.2.1,h.2.2⟩
namespace Rf
theorem str_eq (a b:aM):(a.toList==b.toList)=decide (a=b):=by
 by_cases h:a=b
 .subst h; simp
 .rw [decide_eq_false h,beq_eq_false_iff_ne];intro e;apply h;rw [ByteArray.toList_eq,ByteArray.toList_eq] at e;apply ByteArray.ext;exact Array.ext' e
end Rf
end
section
open Go.RowKit
def cZ (ks:List aM):List aM:=ks.filter λk=>decide (k.size≠0)
theorem Hr (ks:List aM) (q:Nat) (h:q<ks.length):cZ (ks.take (q+1))=cZ (ks.take q)++(if (ks.getD q eB).size≠0 then [ks.getD q eB] else []):=by
 unfold cZ;have e:ks.getD q eB=ks[q]:=by simp [List.getD,h]
 rw [List.take_succ_eq_append_getElem h,e,List.filter_append];congr 1;by_cases hz:ks[q].size=0
 .simp only [ne_eq,hz,not_true_eq_false,decide_false,Bool.false_eq_true,not_false_eq_true,List.filter_cons_of_neg,List.filter_nil,if_false]
 .simp only [ne_eq,hz,not_false_eq_true,decide_true,List.filter_cons_of_pos,List.filter_nil,if_true]
theorem MO (ks:List aM) (q:Nat):(cZ (ks.take q)).length<=q:=Nat.le_trans (List.length_filter_le _ _) (by rw [List.length_take]; exact Nat.min_le_left _ _)
theorem Sl (ks:List aM) (q:Nat) (h:q<ks.length) (w:World):(part 9 (gF ks) q).run prog w = .ok (.string (ks.getD q eB)) w:=by
 have hagg:(isAgg 9).run prog w = .ok false w:=by kernel_rfl
 have hg:(gF ks)[q]? = some (.string (ks.getD q eB)):=by simp [gF,List.getD,h]
 unfold part;rw [Sem.run_bind,hagg];simp [hg]
theorem jB {w:World} {ks:List aM} (hl:ks.length=16) (hq:q<16) (ho:∃ x y,o.op = .index 65 x y/\ev x = .agg (gF ks)/\ev y = .int .i64 q) :
  (execOp ev o).run prog w = .ok (.value (.string (ks.getD q eB))) w:=by
 obtain ⟨x,y,ho,hx,hy⟩:=ho;obtain ⟨i0,hi,_,hs,_⟩:=nH;have hp:=Sl ks q (by omega) w;have h1:(Instr.index 65 (.agg (gF ks)) (.int .i64 q)).run prog w = .ok (.string (ks.getD q eB)) w:=by
  have hq2:(0:Int)<=q/\(q:Int)<((16:Nat):Int):=⟨by omega,by omega⟩
  simp only [Instr.index,Sem.run_bind,asIntOf,Sem.run_pure,Result.andThen_ok,run_underlying underlying65];rw [if_pos hq2];simp only [sizeOf,typeInfo,Sem.run_bind];simp [hi,hs,hp]
 unfold execOp;simp only [ho,hx,hy,Sem.run_bind,Sem.run_pure,Result.andThen_ok,h1]
namespace No
def UF (w:World) (xs:List aM) (e:Ending) (w':World):Prop:=∃ a n cap,e = .returned (.slice a n cap)/\kW w' a n cap xs/\Below w.heap.size w w'
theorem Qj (N:Nd) (a:aL) (n c:Nat) (hl:N.ks.length=16) (w:World):Calls prog 133 #[.agg (ndC N a n c)] w (UF w (cZ N.ks)):=by
 obtain ⟨i0,hi,hz0,hz1,hz2⟩:=nH;have HI:Hid (_/\_/\_/\_):=hid ⟨hi,hz0,hz1,hz2⟩;have HO:Hid (fE (w.alloc (.cells (ndC N a n c) 67)) w.heap.size N a n c):=hid (Rg.Own.new _ _ _);have HL:=hid hl;clear hi hz0 hz1 hz2 hl;go_enter func133,ntmps133;go_wp2_with (refine aB (rz HO.out HL.out ⟨_,rfl,rfl⟩) ?_)
 go_loopw [3,8] (λv i wr=>∃ j:Nat,j<=16/\i = .int .i64 j/\Hid (wr.ownsRow (w.heap.size+1) 9 1 v (cZ (N.ks.take j)).length ((cZ (N.ks.take j)).map Value.string))/\Below (w.heap.size+1) (w.alloc (.cells (ndC N a n c) 67)) wr) (λ_ i _=>16-(intOf i).toNat)
 case atStart=>exact ⟨0,Nat.zero_le _,rfl,hid (World.ownsRow_nil _ _ _ _),aI⟩
 case round =>
  obtain ⟨j,hj,rfl,HR,hB⟩:=hrel;have hsz:w.heap.size+1<=wr.heap.size:=by have:=hB.size; simp at this; omega
  by_cases hlt:j<16
  .have HS:=hid (Hr N.ks j (by rw [HL.out]; exact hlt));have hkl:=MO N.ks j;obtain ⟨L,hL⟩:=aA (cZ (N.ks.take j))
   rw [hL] at HS hkl HR;clear hL;by_cases hk:(N.ks.getD j eB).size=0
   .have fL:Hid (cZ (N.ks.take (j+1))=L):=hid (by rw [HS.out,if_neg (by simpa using hk),List.append_nil]);have HE:Hid (N.ks.getD j eB=eB):=hid (dQ hk);clear hk;go_wp2_with (refine Rg.run rfl (.string (N.ks.getD j eB)) _ (jB HL.out hlt ⟨_,_,rfl,rfl,rfl⟩) ?_; rw [HE.out])
    go_roundw
    case rel=>exact ⟨j+1,by omega,by go_num,by rw [fL.out]; exact HR,hB⟩
    case measure=>simp [intOf]; omega
   .have fL:Hid (cZ (N.ks.take (j+1))=L++[N.ks.getD j eB]):=hid (by rw [HS.out,if_pos hk]);have hne:=Ni.dP (s:=N.ks.getD j eB) (by omega);obtain ⟨K,hK⟩:=aA (N.ks.getD j eB)
    have HK:=hid hK;rw [hK] at hne fL;clear hK hk HS;go_wp2_with (first
     | (refine Rg.run rfl (.string (N.ks.getD j eB)) _ (jB HL.out hlt ⟨_,_,rfl,rfl,rfl⟩) ?_; rw [HK.out])
     | (at_builtin; refine wpList_append_own _ rfl _ _ 25 rfl (w.heap.size+1) 9 i0 (.string ⟨#[]⟩) 1 16 underlying25 HI.out.1 HI.out.2.1 HI.out.2.2.1 HI.out.2.2.2 rfl (by decide) _ _ _ rfl (HR.out.alloc _) ⟨wr.heap.size,0,none⟩ 1 1 [.string K] rfl rfl ?d1 ?d2 ?d3 ?d4 ?d5 ?_))
    case d1=>exact Bu.cell_one_new' _ _ _ _
    case d2=>intro u hu; simp at hu; subst hu; rfl
    case d3=>unfold maxLen; omega
    case d4=>omega
    case d5=>simp; omega
    intro v' w2 hown2 hgrow _;have hlt':=HR.out.lt;go_wp2;go_roundw
    case rel=>exact ⟨j+1,by omega,by go_num,hid (by rw [fL.out,List.length_append,List.map_append]; exact hown2),(hB.alloc hsz _).grown hgrow (by simp; omega) (λg hg=>(hlt' g hg).1)⟩
    case measure=>simp [intOf]; omega
  .obtain rfl:j=16:=by omega
   have hO:=HR.out;rw [List.take_of_length_le (by rw [HL.out]; exact aH)] at hO;obtain ⟨a',cap',rfl,hb⟩:=kW.pE hO;have HB:=hid hb;have j1:Hid (Below w.heap.size w wr):=hid (oZ hB);clear hO hb;go_wp2;go_ret;exact ⟨a',_,cap',rfl,HB.out,j1.out⟩
end No
end
end Go.Proofs.YtokaiemgjngcoaaGreatDoor
