/-
 Contracts of nib.Right, nib.teller and what it makes, nib.cut.
-/
import Derived.BigQuiet
import Derived.Test.YtokaiemgjngcoaaGreatDoorVy2
open Go.Lib (hid)
open Go.Proofs.Tryz
set_option linter.unusedSimpArgs false
set_option linter.unusedVariables false
set_option maxHeartbeats 40000000
set_option maxRecDepth 100000
namespace Go.Proofs.YtokaiemgjngcoaaGreatDoor
variable {wr:World} {B k off:Nat} {t:TypeId} {v:Value}
section
open Go.RowKit
namespace Ni
def dx (l:aN):Bool:=l.all (λb=>decide (b.toNat<=15))
theorem lD (l:aN) (k:Nat) (h:k<l.length):l.take (k+1)=l.take k++[l.getD k 0]:=by
 rw [List.take_succ_eq_append_getElem h]; simp [List.getD,h]
theorem xE (l:aN) (k:Nat) (h:k<l.length):dx (l.take (k+1))=(dx (l.take k)&&decide ((l.getD k 0).toNat<=15)):=by
 rw [lD l k h]; simp [dx,List.all_append]
theorem Cv (l:aN) (k:Nat) (h:k<l.length) (hk:15<(l.getD k 0).toNat):dx l=false:=by
 unfold dx;rw [List.all_eq_false];exact ⟨l.getD k 0,by simp [List.getD,h],by simpa using hk⟩
theorem fK (a:aL) (n cap:Nat) (l:aN) (w:World) (h:bf w a n cap l) :
  Calls prog 95 #[.slice a n cap] w λe w'=>e = .returned (.bool (dx l))/\w=w':=by
 have hm:=h.2.1;have hnc:=h.1;unfold maxLen at hm;have H:=hid h;clear h;go_enter func95,ntmps95;go_wp2;go_loop [7] (λi=>∃ k:Nat,k<=n/\i = .int .i64 k/\Hid (dx (l.take k)=true)) (λi=>n-(intOf i).toNat)
 case atStart=>exact ⟨0,Nat.zero_le _,rfl,hid rfl⟩
 case round =>
  obtain ⟨k,hk,rfl,HR⟩:=hrel;by_cases hlt:k<n
  .obtain ⟨b,off,rfl,hb,hc⟩:=H.out.at' k hlt;have hl:k<l.length:=by rw [H.out.len]; exact hlt
   have HT:=hid (xE l k hl);obtain ⟨x,hx⟩:=aA ((l.getD k 0).toNat)
   rw [hx] at hc HT;by_cases YX:15<x
   .have HN:=hid (Cv l k hl (by omega));clear hx hl;go_wp2;go_ret;exact ⟨by rw [HN.out]; rfl,rfl⟩
   .clear hx hl;go_wp2;go_round
    case rel=>exact ⟨k+1,by omega,by go_num,hid (by rw [HT.out,HR.out]; simp; omega)⟩
    case measure=>simp [intOf]; omega
  .obtain rfl:k=n:=by omega
   have HE:Hid (dx l=true):=hid (by
    have:=HR.out;rwa [List.take_of_length_le (by rw [H.out.len]; exact aH)] at this)
   go_wp2;go_ret;exact ⟨by rw [HE.out]; rfl,rfl⟩
theorem gI (s:aM) (w:World) :
  Calls prog 120 #[.string s] w λe w'=>e = .returned (.func (Fn.func 155) #[] #[.pointer (some ⟨w.heap.size,0,none⟩)])/\w'=w.alloc (.cells #[.string s] 9):=by
 go_enter func120,ntmps120;go_wp2;go_ret;exact ⟨rfl,rfl⟩
def cK (s:aM) (i:Nat):Nat:=if i%2=0 then (s.data.toList.getD (i/2) 0).toNat/16 else (s.data.toList.getD (i/2) 0).toNat%16
theorem Xe:∀ x:Fin 256,bits .and .u8 ((x:Nat):Int) 15=(((x:Nat)%16:Nat):Int):=by decide +kernel
theorem nN (s:aM) (k:Nat) (h:k<s.size):s.data.toList.getD k 0=s[k]:=by
 have e:k<s.data.toList.length:=by simpa using h
 rw [List.getD,List.getElem?_eq_getElem e]; rfl
theorem Qn {a b:Int} (h:a=b):Ending.returned (.int .u8 a) = .returned (.int .u8 b):=by rw [h]
theorem oM (c:Nat) (s:aM) (i:Nat) (hs:s.size<=maxLen) (hi:i/2<s.size) (w:World) (hc:w.cell? ⟨c,0,none⟩=some (.string s)) :
  Calls prog 155 #[.int .i64 i,.pointer (some ⟨c,0,none⟩)] w λe w'=>e = .returned (.int .u8 (cK s i:Nat))/\w=w':=by
 unfold maxLen at hs;by_cases h2:i%2=0
 .have HE:Hid ((s[i/2].toNat:Int)/16=(cK s i:Nat)):=hid (by
   unfold cK; rw [if_pos h2,nN s _ hi]; omega)
  go_enter func155,ntmps155;go_wp2;go_ret;exact ⟨Qn HE.out,rfl⟩
 .have HE:Hid (bits .and .u8 (s[i/2].toNat:Int) 15=(cK s i:Nat)):=hid (by
   unfold cK; rw [if_neg h2,nN s _ hi];exact Xe ⟨s[i/2].toNat,UInt8.toNat_lt _⟩)
  go_enter func155,ntmps155;go_wp2;go_ret;exact ⟨Qn HE.out,rfl⟩
theorem FD (a:aL) (n cap:Nat) (w:World) :
  Calls prog 145 #[.slice a n cap,.int .i64 0,.int .i64 0] w λe w'=>e = .returned (.slice a 0 0)/\w=w':=by
 go_enter func145,ntmps145;go_wp2;go_ret;exact ⟨rfl,rfl⟩
theorem Bt (a:aL) (n cap:Nat) (w:World) :
  Calls prog 145 #[.slice a n cap,.int .i64 0,.int .i64 0] w λe w'=>e = .returned (.slice a 0 0)/\w'=w.drewN 0:=by
 refine (FD a n cap w).mono ?_;rintro e w' ⟨rfl,rfl⟩;exact ⟨rfl,rfl⟩
def cutAt (off i j:Nat):Nat:=if j=i then off else off+i
theorem LB (b off n cap:Nat) (i j:Nat) (hij:i<=j) (hj:j<=cap) (_hcap:cap<=2 ^ 63-1) (w:World) :
  Calls prog 145 #[.slice (some ⟨b,off,none⟩) n cap,.int .i64 i,.int .i64 j] w λe w'=>e = .returned (.slice (some ⟨b,cutAt off i j,none⟩) (j-i) (j-i))/\w=w':=by
 go_enter func145,ntmps145;go_wp2
 .go_ret;exact ⟨by subst h; simp [cutAt],rfl⟩
 .go_ret;exact ⟨by simp [cutAt,h],rfl⟩
theorem su (b off n cap:Nat) (h1:1<=cap) (w:World) (hcap:cap<=2 ^ 63-1) :
  Calls prog 145 #[.slice (some ⟨b,off,none⟩) n cap,.int .i64 0,.int .i64 1] w λe w'=>e = .returned (.slice (some ⟨b,off,none⟩) 1 1)/\w'=w.drewN 0:=by
 refine (LB b off n cap 0 1 (by omega) h1 hcap w).mono ?_;rintro e w' ⟨rfl,rfl⟩;exact ⟨by simp [cutAt],rfl⟩
theorem WI (a:aL) (n cap:Nat) (l:aN) (i j:Nat) (hij:i<=j) (hj:j<=n) (w:World) (h:bf w a n cap l) :
  Calls prog 145 #[.slice a n cap,.int .i64 i,.int .i64 j] w λe w'=>∃ a' c',e = .returned (.slice a' (j-i) c')/\(bf w a' (j-i) c' ((l.drop i).take (j-i))/\c'=j-i)/\w=w':=by
 by_cases h0:n=0
 .subst h0;obtain rfl:j=0:=by omega
  obtain rfl:i=0:=by omega
  refine (FD a 0 cap w).mono ?_;rintro e w' ⟨rfl,rfl⟩;exact ⟨a,0,rfl,⟨⟨aH,Nat.zero_le _,by simp,λ_=>rfl,λq hq=>absurd hq (Nat.not_lt_zero _)⟩,rfl⟩,rfl⟩
 .obtain ⟨b,off,rfl,_⟩:=h.at' 0 (by omega);refine (LB b off n cap i j hij (Nat.le_trans hj h.1) h.2.1 w).mono ?_;rintro e w' ⟨rfl,rfl⟩;refine ⟨_,_,rfl,⟨⟨aH,by have:=h.2.1; have:=h.1; omega,?_,(λe=>by cases e),λq hq=>?_⟩,rfl⟩,rfl⟩
  .rw [List.length_take,List.length_drop,h.len]; omega
  .obtain ⟨b',off',h1,h2,h3⟩:=h.at' (i+q) (by omega);simp at h1;obtain ⟨rfl,rfl⟩:=h1;refine ⟨b,off+i,by simp [cutAt]; omega,h2,?_⟩;have e:((l.drop i).take (j-i)).getD q 0=l.getD (i+q) 0:=by
    simp [List.getD,List.getElem?_take_of_lt hq]
   rw [e,Nat.add_assoc];exact h3
def fJ (s:aM):aN:=(List.range (2*s.size)).map λi=>UInt8.ofNat (cK s i)
theorem uQ (s:aM) (i:Nat):cK s i<16:=by
 unfold cK;have:=UInt8.toNat_lt (s.data.toList.getD (i/2) 0);split <;> omega
theorem dW (s:aM):(fJ s).length=2*s.size:=by simp [fJ]
theorem iB (s:aM) (i:Nat) (h:i<2*s.size):((fJ s).getD i 0).toNat=cK s i:=by
 have:=uQ s i;simp [fJ,List.getD,h];omega
def Spr (w:World) (s:aM) (k:Nat) (wr:World):Prop :=
 wr.rowIs (w.heap.size+1) 5 (2*s.size) (λj=>.int .u8 (if j<k then cK s j else 0:Nat))/\wr.cell? ⟨w.heap.size,0,none⟩=some (.string s)/\Below w.heap.size w wr
theorem Spr.next {w:World} {s:aM} (h:Spr w s k wr) (hk:k<2*s.size):Spr w s (k+1) (wr.setCell ⟨w.heap.size+1,k,none⟩ (.int .u8 (cK s k:Nat))):=by
 refine ⟨(h.1.set k _).congr ?_,?_,h.2.2.setCell (p:=⟨w.heap.size+1,k,none⟩) (by simp) _⟩
 .intro j hj;by_cases e:j=k
  .subst e; simp
  .have:j<k+1↔j<k:=by omega
   simp [e,this]
 .rw [World.cell?_setCell_other _ _ _ _ (by simp)];exact h.2.1
theorem Spr.start (w:World) (s:aM):Spr w s 0 ((w.alloc (.cells #[.string s] 9)).alloc (.cells (madeCells #[.int .u8 0] (2*s.size)) 5)):=by
 refine ⟨?_,?_,(aI.alloc aH _).alloc (by simp) _⟩
 .have:=World.rowIs_made (w.alloc (.cells #[.string s] 9)) (.int .u8 0) (2*s.size) 5;simpa using this
 .simp
theorem jS:(prog.info? 5).map (λi=>(i.zero,i.size,i.bytes))=some (some (.int .u8 0),1,1):=by kernel_rfl
theorem zU (s:aM) (hs:s.size<=1000) (w:World) :
  Calls prog 74 #[.string s] w (TD w (fJ s)):=by
 obtain ⟨m,hm⟩:=aA (2*s.size)
 have hmk:=run_make_row' (P:=prog) 35 5 (.int .u8 0) 1 underlying35 jS rfl .i64 .i64 m (by omega) (by omega);have e:((m:Nat):Int)=2*(s.size:Int):=by omega
 rw [e] at hmk;have HS:=hid (Spr.start w s);rw [hm] at HS;have HM:=hid hm;have hm2:m<=2*s.size:=by omega
 clear e hm;go_enter func74,ntmps74;go_wp2_with fail
 refine (gI _ _).mono ?_;rintro e w1 ⟨rfl,rfl⟩;go_wp2;clear hmk;go_loopw [14] (λi wr=>∃ k:Nat,k<=m/\i = .int .i64 k/\Spr w s k wr) (λi _=>m-(intOf i).toNat)
 case atStart=>exact ⟨0,Nat.zero_le _,rfl,HS.out⟩
 case round =>
  obtain ⟨k,hk,rfl,hS⟩:=hrel;by_cases hlt:k<m
  .have hc:=hS.2.1;have hz:=hS.1.lt;have hcell:wr.cell? ⟨w.heap.size+1,k,none⟩=some (.int .u8 0):=by
    rw [hS.1.cell (by rw [HM.out]; exact hlt)]; simp
   have hfr:=hS.1.frozen k;go_wp2_with fail
   refine (oM _ s k (by unfold maxLen; omega) (by omega) _ hc).mono ?_;rintro e w2 ⟨rfl,rfl⟩;go_wp2;go_roundw
   case rel=>exact ⟨k+1,by omega,by go_num,hS.next (by rw [HM.out]; exact hlt)⟩
   case measure=>simp [intOf]; omega
  .obtain rfl:k=m:=by omega
   have HG:Hid (bf wr (some ⟨w.heap.size+1,0,none⟩) k k (fJ s)):=hid (by
    refine bf.ofRow (fJ s) (by unfold maxLen; omega) (by have:=hS.1; rw [HM.out] at this; exact this) (by rw [dW,HM.out]) (λj hj=>?_);rw [if_pos hj,iB s j (by rw [HM.out]; exact hj)])
   have hB:=hS.2.2;go_wp2;go_ret;exact ⟨_,_,_,rfl,HG.out,hB⟩
def iw (l:aN) (k:Nat):aN:=(List.range k).map λj=>UInt8.ofNat (16*(l.getD (2*j) 0).toNat+(l.getD (2*j+1) 0).toNat)
theorem FV (l:aN) (k:Nat):iw l (k+1)=iw l k++[UInt8.ofNat (16*(l.getD (2*k) 0).toNat+(l.getD (2*k+1) 0).toNat)]:=by
 simp [iw,List.range_succ]
theorem oW (l:aN) (k:Nat):(iw l k).length=k:=by simp [iw]
theorem Wu:∀ x:Fin 16,IntKind.u8.wrap (((x:Nat):Int)*16)=((x:Nat):Int)*16:=by decide +kernel
theorem WJ:∀ x y:Fin 16,bits .or .u8 (((x:Nat):Int)*16) ((y:Nat):Int)=((16*(x:Nat)+(y:Nat):Nat):Int):=by decide +kernel
theorem kP (l:aN) (h:dx l=true) (j:Nat):(l.getD j 0).toNat<16:=by
 unfold dx at h;rw [List.all_eq_true] at h;by_cases hj:j<l.length
 .have:=h l[j] (List.getElem_mem _);simp [List.getD,hj] at this ⊢;omega
 .simp [List.getD,hj]
def Prs (w:World) (l:aN) (k:Nat) (wr:World):Prop :=
 Bu.Is w.heap.size w.heap.size (Lib.byteCells (iw l k)) wr/\Below w.heap.size w wr
theorem Prs.start (w:World) (l:aN):Prs w l 0 (w.alloc (.cells #[.pointer none,.slice none 0 0] 167)) :=
 ⟨Bu.fresh aH (by show (w.heap.push _)[w.heap.size]? = _; simp),aI.alloc aH _⟩
theorem Prs.write {w:World} {l:aN} (h:Prs w l k wr) (hk:k<=1000) (c:Int) (hc:c=((16*(l.getD (2*k) 0).toNat+(l.getD (2*k+1) 0).toNat:Nat):Int)) (hx:(l.getD (2*k) 0).toNat<16) (hy:(l.getD (2*k+1) 0).toNat<16) :
  Calls prog 168 #[.pointer (some ⟨w.heap.size,0,none⟩),.int .u8 c] wr λe w'=>e = .returned .nilIface/\Prs w l (k+1) w':=by
 subst hc;refine (Bu.Mi _ h.1 (by rw [Lib.byteCells_length,oW]; omega) h.2.size).mono ?_;rintro e w' ⟨rfl,h1,h2,_⟩;refine ⟨rfl,?_,h.2.trans h2⟩;rw [FV,Lib.byteCells_append];have e:(UInt8.ofNat (16*(l.getD (2*k) 0).toNat+(l.getD (2*k+1) 0).toNat)).toNat=16*(l.getD (2*k) 0).toNat+(l.getD (2*k+1) 0).toNat:=by
  simp only [UInt8.toNat_ofNat']; omega
 have e2:Lib.byteCells [UInt8.ofNat (16*(l.getD (2*k) 0).toNat+(l.getD (2*k+1) 0).toNat)]=[.int .u8 ((16*(l.getD (2*k) 0).toNat+(l.getD (2*k+1) 0).toNat:Nat):Int)]:=by
  simp only [Lib.byteCells,List.map_cons,List.map_nil,e]
 rw [e2];exact h1
theorem Prs.drew {w wr:World} {l:aN} {k:Nat} (h:Prs w l k wr):Prs w l k wr.drew:=⟨h.1,h.2.drew⟩
theorem Ol (a:aL) (n cap:Nat) (l:aN) (hr:dx l=true) (h2:n%2=0) (hn:n<=1000) (w:World) (h:bf w a n cap l) :
  Calls prog 146 #[.slice a n cap] w λe w'=>e = .returned (.string ⟨(iw l (n/2)).toArray⟩)/\Below w.heap.size w w':=by
 have H:=hid h;have HR:=hid (kP l hr);have H2:=hid h2;have HS:=hid (Prs.start w l);clear h hr h2;go_enter func146,ntmps146;go_wp2;go_loopw [4] (λi wr=>∃ k:Nat,2*k<=n/\i = .int .i64 (2*k)/\Prs w l k wr) (λi _=>n-(intOf i).toNat)
 case atStart=>exact ⟨0,Nat.zero_le _,rfl,HS.out⟩
 case round =>
  obtain ⟨k,hk,rfl,hP⟩:=hrel;by_cases hlt:2*k<n
  .have hlt1:2*k+1<n:=by have:=H2.out; omega
   obtain ⟨b,off,rfl,hb,hc⟩:=H.out.at' (2*k) hlt;obtain ⟨b',off',h1,_,hc'⟩:=H.out.at' (2*k+1) hlt1;simp at h1;obtain ⟨rfl,rfl⟩:=h1;have hx:=HR.out (2*k);have hy:=HR.out (2*k+1);obtain ⟨x,hxe⟩:=aA ((l.getD (2*k) 0).toNat)
   obtain ⟨y,hye⟩:=aA ((l.getD (2*k+1) 0).toNat)
   have ho:=WJ ⟨x,hxe ▸ hx⟩ ⟨y,hye ▸ hy⟩;have hw16:=Wu ⟨x,hxe ▸ hx⟩;have HW:Hid (∀ c:Int,c=bits .or .u8 ((x:Int)*16) (y:Int)->Calls prog 168 #[.pointer (some ⟨w.heap.size,0,none⟩),.int .u8 c] wr.drew λe w'=>e = .returned .nilIface/\Prs w l (k+1) w'):=hid (λc hc=>by
    refine hP.drew.write (by omega) _ ?_ hx hy;rw [hxe,hye,hc];exact ho)
   have hcon:=hid (HW.out _ rfl);have F9:Hid (Calls prog 168 #[.pointer (some ⟨w.heap.size,0,none⟩),.int .u8 (bits .or .u8 (IntKind.u8.wrap ((x:Int)*16)) (y:Int))] wr.drew λe w'=>e = .returned .nilIface/\Prs w l (k+1) w'):=hid (HW.out _ (by rw [show IntKind.u8.wrap ((x:Int)*16)=(x:Int)*16 from hw16]));clear HW ho hw16;rw [hxe] at hc hx;rw [hye] at hc' hy;rw [<-hP.2.cell (p:=⟨b,off+2*k,none⟩) hb] at hc;rw [<-hP.2.cell (p:=⟨b,off+(2*k+1),none⟩) hb] at hc';clear hxe hye;go_wp2_with fail
   have q1:(0:Int)<=2*(k:Int):=by omega
   have q2:2*(k:Int)<(n:Int):=by omega
   have q3:(0:Int)<=2*(k:Int)+1:=by omega
   have q4:2*(k:Int)+1<(n:Int):=by omega
   have q5:(2*(k:Int)).toNat=2*k:=by omega
   have q6:(2*(k:Int)+1).toNat=2*k+1:=by omega
   have q7:IntKind.i64.wrap (2*(k:Int)+1)=2*(k:Int)+1:=IntWalk.i64_in _ (by omega);go_region_with (go_at_call 168; (first | (with_reducible refine hcon.out.mono ?_) | (with_reducible refine F9.out.mono ?_)); rintro e w' ⟨rfl,hP2⟩)
   all_goals clear q7 q6 q5
   all_goals go_wp2
   all_goals
    go_roundw
    case rel=>exact ⟨k+1,by omega,by go_num,hP2⟩
    case measure=>simp [intOf]; omega
  .have hkk:k=n/2:=by have:=H2.out; omega
   have HP:Hid (Prs w l (n/2) wr):=hid (by rw [<-hkk]; exact hP);clear hkk;go_wp2_with (go_at_call 101; refine (Bu.text HP.out.1 HP.out.2.size).mono ?_)
   rintro e w2 ⟨rfl,hb2⟩;go_wp2;go_ret;exact ⟨rfl,HP.out.2.trans hb2⟩
theorem Ri (a:aL) (n cap:Nat) (ls:List (aN)) (hn:n<=1000000) (hL:ls.flatten.length<=1099511627776) (w:World) (h:Cc.zF w a n ls) :
  Calls prog 147 #[.slice a n cap] w (TD w ls.flatten):=by
 have hc:=Cc.Bp a n cap ls hn hL w h;obtain ⟨r,hr⟩:=aA ls.flatten
 rw [hr] at hc ⊢;have HC:=hid hc;clear hc hr hL h;go_enter func147,ntmps147;go_wp2_with fail
 refine HC.out.mono ?_;rintro e w1 ⟨v,rfl,hown,hb⟩;obtain ⟨a',cap',rfl,hx⟩:=bf.sS hown;clear hown;go_wp2;go_ret;exact ⟨_,_,_,rfl,hx,hb⟩
def iV:aN->aN->Nat
 | a::xs,b::ys=>if a=b then iV xs ys+1 else 0
 | _,_=>0
theorem mD:∀ (k:Nat) (xs ys:aN),k<=xs.length->k<=ys.length->(∀ j,j<k->(xs.getD j 0).toNat=(ys.getD j 0).toNat)->
  (k=xs.length\/k=ys.length\/(xs.getD k 0).toNat≠(ys.getD k 0).toNat)->iV xs ys=k
 | 0,[],_,_,_,_,_=>rfl
 | 0,_::_,[],_,_,_,_=>rfl
 | 0,a::xs,b::ys,_,_,_,h=>by
  have hne:a≠b:=by
   rintro rfl;simp at h
  simp [iV,hne]
 | k+1,[],_,h,_,_,_=>absurd h (by simp)
 | k+1,_::_,[],_,h,_,_=>absurd h (by simp)
 | k+1,a::xs,b::ys,h1,h2,h3,h4=>by
  have hab:a=b:=UInt8.toNat_inj.1 (by simpa using h3 0 (by omega));have:=mD k xs ys (by simpa using h1) (by simpa using h2) (λj hj=>by simpa using h3 (j+1) (by omega)) (by simpa using h4);simp [iV,hab,this]
def Alike (x y:aN) (k:Nat):Prop:=∀ j,j<k->(x.getD j 0).toNat=(y.getD j 0).toNat
theorem Alike.next {x y:aN} (h:Alike x y k) (e:(x.getD k 0).toNat=(y.getD k 0).toNat):Alike x y (k+1):=λj hj=>by
 by_cases hjk:j=k
 .subst hjk; exact e
 .exact h j (by omega)
theorem Jp (a b:aL) (n m c d:Nat) (x y:aN) (hn:n<=1000000) (_hm:m<=1000000) (w:World) (ha:bf w a n c x) (hb:bf w b m d y) :
  Calls prog 160 #[.slice a n c,.slice b m d] w λe w'=>e = .returned (.int .i64 (iV x y:Nat))/\∃ q,w'=w.drewN q:=by
 have HA:=hid ha;have HB:=hid hb;clear ha hb;go_enter func160,ntmps160;go_wp2;go_loopw [5] (λi wr=>∃ k:Nat,k<=n/\k<=m/\i = .int .i64 k/\Hid (Alike x y k)/\∃ q,wr=w.drewN q) (λi _=>n-(intOf i).toNat)
 case atStart=>exact ⟨0,Nat.zero_le _,Nat.zero_le _,rfl,hid (λj hj=>absurd hj (Nat.not_lt_zero _)),0,rfl⟩
 case round =>
  obtain ⟨k,hk,hkm,rfl,HK,q,rfl⟩:=hrel;by_cases hlt:k<n/\k<m
  .obtain ⟨h1,h2⟩:=hlt;obtain ⟨b1,off1,rfl,_,hc1⟩:=HA.out.at' k h1;obtain ⟨b2,off2,rfl,_,hc2⟩:=HB.out.at' k h2;obtain ⟨u,hu⟩:=aA ((x.getD k 0).toNat)
   obtain ⟨v,hv⟩:=aA ((y.getD k 0).toNat)
   rw [hu] at hc1;rw [hv] at hc2;by_cases huv:u=v
   .subst huv;have HN:=hid (HK.out.next (hu.trans hv.symm));clear hu hv;have hd:decide ((k:Int)<min (n:Int) (m:Int))=true:=aK (by omega);go_wp2_with fail
    go_quiet (fail)
    go_wp2;go_roundw
    case rel=>exact ⟨k+1,by omega,by omega,by go_num,HN,(by first | exact ⟨_,rfl⟩ | exact ⟨_,World.drewN_drewN ..⟩)⟩
    case measure=>simp [intOf]; omega
   .have HE:Hid (iV x y=k):=hid (mD k x y (by rw [HA.out.len]; exact hk) (by rw [HB.out.len]; exact hkm) HK.out (Or.inr (Or.inr (by rw [hu,hv]; exact huv))));have hd:decide ((k:Int)<min (n:Int) (m:Int))=true:=aK (by omega);have Ps:((u:Int)==(v:Int))=false:=by simp; omega
    clear hu hv;go_wp2_with fail
    go_quiet (fail)
    go_wp2;go_ret;exact ⟨by rw [HE.out]; rfl,(by first | exact ⟨_,rfl⟩ | exact ⟨_,World.drewN_drewN ..⟩)⟩
  .have HE:Hid (iV x y=k):=hid (mD k x y (by rw [HA.out.len]; exact hk) (by rw [HB.out.len]; exact hkm) HK.out (by rw [HA.out.len,HB.out.len]; omega));have hd:decide ((k:Int)<min (n:Int) (m:Int))=false:=decide_eq_false (by omega);go_wp2_with fail
   go_quiet (fail)
   go_wp2;go_ret;exact ⟨by rw [HE.out]; rfl,(by first | exact ⟨_,rfl⟩ | exact ⟨_,World.drewN_drewN ..⟩)⟩
theorem xU (a b:aL) (n m c d:Nat) (x y:aN) (hn:n<=1000000) (_hm:m<=1000000) (w:World) (ha:bf w a n c x) (hb:bf w b m d y) :
  Calls prog 26 #[.slice a n c,.slice b m d] w λe w'=>e = .returned (.int .i64 (iV x y:Nat))/\∃ q,w'=w.drewN q:=by
 have HA:=hid ha;have HB:=hid hb;clear ha hb;go_enter func26,ntmps26;go_wp2;go_loopw [5] (λi wr=>∃ k:Nat,k<=n/\k<=m/\i = .int .i64 k/\Hid (Alike x y k)/\∃ q,wr=w.drewN q) (λi _=>n-(intOf i).toNat)
 case atStart=>exact ⟨0,Nat.zero_le _,Nat.zero_le _,rfl,hid (λj hj=>absurd hj (Nat.not_lt_zero _)),0,rfl⟩
 case round =>
  obtain ⟨k,hk,hkm,rfl,HK,q,rfl⟩:=hrel;by_cases h1:k<n
  .by_cases h2:k<m
   .obtain ⟨b1,off1,rfl,_,hc1⟩:=HA.out.at' k h1;obtain ⟨b2,off2,rfl,_,hc2⟩:=HB.out.at' k h2;obtain ⟨u,hu⟩:=aA ((x.getD k 0).toNat)
    obtain ⟨v,hv⟩:=aA ((y.getD k 0).toNat)
    rw [hu] at hc1;rw [hv] at hc2;have hd:decide ((m:Int)<=(k:Int))=false:=decide_eq_false (by omega);by_cases huv:u=v
    .subst huv;have HN:=hid (HK.out.next (hu.trans hv.symm));clear hu hv;go_wp2_with fail
     go_quiet (fail)
     go_wp2;go_roundw
     case rel=>exact ⟨k+1,by omega,by omega,by go_num,HN,(by first | exact ⟨_,rfl⟩ | exact ⟨_,World.drewN_drewN ..⟩)⟩
     case measure=>simp [intOf]; omega
    .have HE:Hid (iV x y=k):=hid (mD k x y (by rw [HA.out.len]; exact hk) (by rw [HB.out.len]; exact hkm) HK.out (Or.inr (Or.inr (by rw [hu,hv]; exact huv))));have Ps:((u:Int) != (v:Int))=true:=by simp; omega
     clear hu hv;go_wp2_with fail
     go_quiet (fail)
     go_wp2;go_ret;exact ⟨by rw [HE.out]; rfl,(by first | exact ⟨_,rfl⟩ | exact ⟨_,World.drewN_drewN ..⟩)⟩
   .have HE:Hid (iV x y=k):=hid (mD k x y (by rw [HA.out.len]; exact hk) (by rw [HB.out.len]; exact hkm) HK.out (by rw [HA.out.len,HB.out.len]; omega));have hd:decide ((m:Int)<=(k:Int))=true:=aK (by omega);go_wp2_with fail
    go_quiet (fail)
    go_wp2;go_ret;exact ⟨by rw [HE.out]; rfl,(by first | exact ⟨_,rfl⟩ | exact ⟨_,World.drewN_drewN ..⟩)⟩
  .obtain rfl:k=n:=by omega
   have HE:Hid (iV x y=k):=hid (mD k x y (by rw [HA.out.len]; exact hk) (by rw [HB.out.len]; exact hkm) HK.out (by rw [HA.out.len]; omega));go_wp2;go_ret;exact ⟨by rw [HE.out]; rfl,(by first | exact ⟨_,rfl⟩ | exact ⟨_,World.drewN_drewN ..⟩)⟩
def gT (n:Nat) (leaf:Bool):Nat:=n%2+if leaf then 2 else 0
def iY (l:aN) (leaf:Bool):aN:=[UInt8.ofNat (gT l.length leaf)]++((if l.length%2=1 then l.take 1 else [0])++l.drop (l.length%2))
def fG (l:aN) (leaf:Bool):aN:=iw (iY l leaf) (l.length/2+1)
theorem qD (l:aN) (leaf:Bool):(iY l leaf).length=2*(l.length/2+1):=by
 unfold iY;rw [List.length_append,List.length_append,List.length_drop];by_cases h:l.length%2=1
 .rw [if_pos h,List.length_take]; simp; omega
 .rw [if_neg h]; simp; omega
theorem qM (l:aN) (leaf:Bool) (h:dx l=true):dx (iY l leaf)=true:=by
 unfold dx at h ⊢;rw [List.all_eq_true] at h ⊢;intro x hx;unfold iY at hx;simp only [List.mem_append,List.mem_singleton] at hx;rcases hx with hx | hx | hx
 .subst hx;have:gT l.length leaf<=3:=by unfold gT; cases leaf <;> simp <;> omega
  simp only [UInt8.toNat_ofNat',decide_eq_true_eq]; omega
 .split at hx
  .exact h x (List.mem_of_mem_take hx)
  .simp at hx; subst hx; decide
 .exact h x (List.mem_of_mem_drop hx)
theorem Xn (w:World) (m:UInt8) (v:Value) (hv:v = .int .u8 m.toNat) (a1 a2:aL) (n1 c1 n2 c2:Nat) (l1 l2:aN) (h1:bf w a1 n1 c1 l1) (h2:bf w a2 n2 c2 l2) :
  Cc.zF ((w.alloc (.cells #[v] 5)).alloc (.cells #[.slice (some ⟨w.heap.size,0,none⟩) 1 1,.slice a1 n1 c1,.slice a2 n2 c2] 35)) (some ⟨w.heap.size+1,0,none⟩) 3 [[m],l1,l2]:=by
 subst hv;have hb:Below w.heap.size w ((w.alloc (.cells #[.int .u8 m.toNat] 5)).alloc (.cells #[.slice (some ⟨w.heap.size,0,none⟩) 1 1,.slice a1 n1 c1,.slice a2 n2 c2] 35)) :=
  (aI.alloc aH _).alloc (by simp) _
 refine ⟨rfl,λj hj=>⟨w.heap.size+1,0,rfl,by simp,?_⟩⟩
 match j,hj with
 | 0,_ =>
  refine ⟨some ⟨w.heap.size,0,none⟩,1,1,by simp,⟨aH,by unfold maxLen; omega,rfl,λe=>(by cases e),λq hq=>?_⟩⟩;obtain rfl:q=0:=by omega
  exact ⟨w.heap.size,0,rfl,by simp; omega,by simp⟩
 | 1,_=>exact ⟨a1,n1,c1,by simp,h1.below hb⟩
 | 2,_=>exact ⟨a2,n2,c2,by simp,h2.below hb⟩
theorem nK (l:aN) (leaf:Bool) (mk:UInt8) (l1 l2:aN) (hf:[mk]++(l1++l2)=iY l leaf) (hl:l.length<=64) (v:Value) (hv:v = .int .u8 mk.toNat) (w:World) (a1 a2:aL) (n1 c1 n2 c2:Nat) (h1:bf w a1 n1 c1 l1) (h2:bf w a2 n2 c2 l2) :
  Calls prog 147 #[.slice (some ⟨w.heap.size+1,0,none⟩) 3 3] ((w.alloc (.cells #[v] 5)).alloc (.cells #[.slice (some ⟨w.heap.size,0,none⟩) 1 1,.slice a1 n1 c1,.slice a2 n2 c2] 35)) λe w'=>∃ a n cap,e = .returned (.slice a n cap)/\bf w' a n cap (iY l leaf)/\Below w.heap.size w w':=by
 have e:[[mk],l1,l2].flatten=iY l leaf:=by rw [<-hf]; simp
 refine (Ri _ 3 3 [[mk],l1,l2] (by omega) (by rw [e,qD]; omega) _ (Xn w mk v hv a1 a2 n1 c1 n2 c2 l1 l2 h1 h2)).mono ?_;rintro en w' ⟨a,n,cap,rfl,hx,hb⟩;rw [e] at hx;exact ⟨a,n,cap,rfl,hx,((aI.alloc aH _).alloc (by simp) _).trans (hb.mono (by simp; omega))⟩
theorem lX (l:aN) (leaf:Bool) (hr:dx l=true) (hl:l.length<=64) (a:aL) (n cap:Nat) (w:World) (h:bf w a n cap (iY l leaf)) :
  Calls prog 146 #[.slice a n cap] w λe w'=>e = .returned (.string ⟨(fG l leaf).toArray⟩)/\Below w.heap.size w w':=by
 have hn:n=2*(l.length/2+1):=by rw [<-h.len,qD]
 refine (Ol a n cap (iY l leaf) (qM l leaf hr) (by omega) (by omega) w h).mono ?_;rintro e w' ⟨rfl,hb⟩;have e2:n/2=l.length/2+1:=by omega
 refine ⟨?_,hb⟩;unfold fG;rw [e2]
theorem TF:(prog.info? 5).map (λi=>(i.zero,i.size,i.bytes))=some (some (.int .u8 0),1,1):=by kernel_rfl
theorem Cw (l:aN) (leaf:Bool) (h:l.length%2=0):[UInt8.ofNat (gT l.length leaf)]++([0]++l)=iY l leaf:=by
 unfold iY;rw [if_neg (by omega),h,List.drop_zero]
theorem MZ (a:aL) (n c:Nat) (l:aN) (leaf:Bool) (hn:n<=64) (h2:n%2=0) (hr:dx l=true) (w:World) (h:bf w a n c l) :
  Calls prog 104 #[.slice a n c,.bool leaf] w λe w'=>e = .returned (.tuple #[.string ⟨(fG l leaf).toArray⟩,.int .i64 0])/\Below w.heap.size w w':=by
 have hR:=fK a n c l w h;rw [hr] at hR;have HR:=hid hR;have hnc:=h.1;have hcm:=h.2.1;unfold maxLen at hcm;have H:=hid h;have hm:(n:Int)%2=0:=by omega
 obtain ⟨i0,hi,hz0,hz1,hz2⟩:=info_parts TF;have HI:Hid (_/\_/\_/\_):=hid ⟨hi,hz0,hz1,hz2⟩;have eQ:=hid (Cw l false (by rw [h.len]; exact h2));have ii:=hid (Cw l true (by rw [h.len]; exact h2));have eR:Hid (Value.int .u8 0 = .int .u8 (UInt8.ofNat (gT l.length false)).toNat):=hid (by simp [gT,h.len,h2]);have ij:Hid (Value.int .u8 (bits .or .u8 0 2) = .int .u8 (UInt8.ofNat (gT l.length true)).toNat):=hid (by simp [gT,h.len,h2]; decide +kernel);have HRR:=hid hr;have hll:l.length<=64:=by rw [h.len]; exact hn
 clear hR hr h h2 hi hz0 hz1 hz2;cases leaf
 .go_enter func104,ntmps104;go_wp2_with fail
  refine HR.out.mono ?_;rintro e w1 ⟨rfl,rfl⟩;go_wp2_with fail
  go_quiet ((go_at_call 145; exact Calls.quiet_of_same (Bt _ _ _ _)))
  go_wp2_with (at_builtin; refine wpList_append_grows _ rfl (.tmp 30) (.tmp 31) 35 rfl 5 i0 (.int .u8 0) 1 1 underlying35 HI.out.1 HI.out.2.1 HI.out.2.2.1 HI.out.2.2.2 rfl (by decide) a 0 0 [] rfl (λ_=>⟨rfl,rfl⟩) rfl (by intro _ _ _ _ h; simp at h) ⟨w.heap.size,0,none⟩ 1 1 [.int .u8 0] rfl rfl ?c1 ?c2 (by omega) (by unfold maxLen; omega) (by omega) ?grow)
  case c1=>exact Bu.cell_one_new' _ _ _ _
  case c2=>intro u hu; simp at hu; subst hu; rfl
  case grow =>
   intro v' w2 hown hg;obtain ⟨a',cap',rfl,hx⟩:=bf.sS (l:=[0]) hown;have HX:=hid hx;have H2:=hid (((H.out.drewN nq).alloc (.cells #[.int .u8 0] 5)).grown hg);clear hx hown;go_wp2_with fail
   refine (nK l false (UInt8.ofNat (gT l.length false)) [0] l eQ.out (by omega) _ eR.out _ _ _ _ _ _ _ HX.out H2.out).mono ?_;rintro e w3 ⟨a3,n3,c3,rfl,hx3,hb3⟩;go_wp2_with fail
   refine (lX l false HRR.out (by omega) _ _ _ _ hx3).mono ?_;rintro e w4 ⟨rfl,hb4⟩;go_wp2;go_ret2
   have hbw:Below w.heap.size w w2:=((below_drewN (Below.refl w.heap.size w) nq).alloc aH _).grown hg (by simp) (λk hk=>by cases hk);exact ⟨rfl,(hbw.trans (hb3.mono hbw.size)).trans (hb4.mono (Nat.le_trans hbw.size hb3.size))⟩
 .go_enter func104,ntmps104;go_wp2_with fail
  refine HR.out.mono ?_;rintro e w1 ⟨rfl,rfl⟩;go_wp2_with fail
  go_quiet ((go_at_call 145; exact Calls.quiet_of_same (Bt _ _ _ _)))
  go_wp2_with (at_builtin; refine wpList_append_grows _ rfl (.tmp 30) (.tmp 31) 35 rfl 5 i0 (.int .u8 0) 1 1 underlying35 HI.out.1 HI.out.2.1 HI.out.2.2.1 HI.out.2.2.2 rfl (by decide) a 0 0 [] rfl (λ_=>⟨rfl,rfl⟩) rfl (by intro _ _ _ _ h; simp at h) ⟨w.heap.size,0,none⟩ 1 1 [.int .u8 0] rfl rfl ?d1 ?d2 (by omega) (by unfold maxLen; omega) (by omega) ?Fc)
  case d1=>exact Bu.cell_one_new' _ _ _ _
  case d2=>intro u hu; simp at hu; subst hu; rfl
  case Fc =>
   intro v' w2 hown hg;obtain ⟨a',cap',rfl,hx⟩:=bf.sS (l:=[0]) hown;have HX:=hid hx;have H2:=hid (((H.out.drewN nq).alloc (.cells #[.int .u8 0] 5)).grown hg);clear hx hown;go_wp2_with fail
   refine (nK l true (UInt8.ofNat (gT l.length true)) [0] l ii.out (by omega) _ ij.out _ _ _ _ _ _ _ HX.out H2.out).mono ?_;rintro e w3 ⟨a3,n3,c3,rfl,hx3,hb3⟩;go_wp2_with fail
   refine (lX l true HRR.out (by omega) _ _ _ _ hx3).mono ?_;rintro e w4 ⟨rfl,hb4⟩;go_wp2;go_ret2
   have hbw:Below w.heap.size w w2:=((below_drewN (Below.refl w.heap.size w) nq).alloc aH _).grown hg (by simp) (λk hk=>by cases hk);exact ⟨rfl,(hbw.trans (hb3.mono hbw.size)).trans (hb4.mono (Nat.le_trans hbw.size hb3.size))⟩
theorem Fa (l:aN) (leaf:Bool) (h:l.length%2=1):[UInt8.ofNat (gT l.length leaf)]++(l.take 1++l.drop 1)=iY l leaf:=by
 unfold iY;rw [if_pos h,h]
theorem RO {b n c:Nat} {l:aN} {w:World} (h:bf w (some ⟨b,off,none⟩) n c l) (h1:1<=n):bf w (some ⟨b,off,none⟩) 1 1 (l.take 1):=by
 refine ⟨aH,by unfold maxLen; omega,by rw [List.length_take,h.len]; omega,λe=>(by cases e),λq hq=>?_⟩;obtain rfl:q=0:=by omega
 obtain ⟨b',off',e,h2,h3⟩:=h.at' 0 (by omega);simp at e;obtain ⟨rfl,rfl⟩:=e;refine ⟨b,off,rfl,h2,?_⟩;have e:(l.take 1).getD 0 0=l.getD 0 0:=by simp [List.getD]
 rw [e]; exact h3
theorem Sb {b:Nat} {l:aN} {w:World} (h:bf w (some ⟨b,off,none⟩) 1 1 l):bf w (some ⟨b,off,none⟩) 0 0 (l.drop 1) :=
 ⟨aH,Nat.zero_le _,by rw [List.length_drop,h.len],λ_=>rfl,λq hq=>absurd hq (Nat.not_lt_zero _)⟩
theorem Sc {b n c:Nat} {l:aN} {w:World} (h:bf w (some ⟨b,off,none⟩) n c l) (h1:1<=n):bf w (some ⟨b,off+1,none⟩) (n-1) (c-1) (l.drop 1):=by
 have hnc:=h.1;have hcm:=h.2.1;refine ⟨by omega,by omega,by rw [List.length_drop,h.len],λe=>(by cases e),λq hq=>?_⟩;obtain ⟨b',off',e,h2,h3⟩:=h.at' (1+q) (by omega);simp at e;obtain ⟨rfl,rfl⟩:=e;refine ⟨b,off+1,rfl,h2,?_⟩;have e:(l.drop 1).getD q 0=l.getD (1+q) 0:=by simp [List.getD,Nat.add_comm]
 rw [e,Nat.add_assoc]; exact h3
theorem Qg (b off:Nat) (n c:Nat) (l:aN) (leaf:Bool) (hn:n<=64) (h2:n%2=1) (hr:dx l=true) (w:World) (h:bf w (some ⟨b,off,none⟩) n c l) :
  Calls prog 104 #[.slice (some ⟨b,off,none⟩) n c,.bool leaf] w λe w'=>e = .returned (.tuple #[.string ⟨(fG l leaf).toArray⟩,.int .i64 0])/\Below w.heap.size w w':=by
 have hR:=fK _ n c l w h;rw [hr] at hR;have HR:=hid hR;have hnc:=h.1;have hcm:=h.2.1;unfold maxLen at hcm;have H:=hid h;have hm:(n:Int)%2=1:=by omega
 have hn1:1<=n:=by omega
 have HRR:=hid hr;have hll:l.length<=64:=by rw [h.len]; exact hn
 have hw1:IntKind.i64.wrap 1=1:=by kernel_rfl
 have hc1:1<=c:=by omega
 have eQ:=hid (Fa l false (by rw [h.len]; exact h2));have ii:=hid (Fa l true (by rw [h.len]; exact h2));have eR:Hid (Value.int .u8 1 = .int .u8 (UInt8.ofNat (gT l.length false)).toNat):=hid (by simp [gT,h.len,h2]);have ij:Hid (Value.int .u8 (bits .or .u8 1 2) = .int .u8 (UInt8.ofNat (gT l.length true)).toNat):=hid (by simp [gT,h.len,h2]; decide +kernel);have H1:Hid (bf w (some ⟨b,off,none⟩) 1 1 (l.take 1)):=hid (RO h hn1);clear hR hr h h2;by_cases hcc:c=1
 .subst hcc;obtain rfl:n=1:=by omega
  have H2:Hid (bf w (some ⟨b,off,none⟩) 0 0 (l.drop 1)):=hid (Sb H.out);clear H;cases leaf
  .go_enter func104,ntmps104;go_wp2_with fail
   refine HR.out.mono ?_;rintro e w1 ⟨rfl,rfl⟩;go_wp2_with fail
   go_quiet ((go_at_call 145; exact Calls.quiet_of_same (su _ _ _ _ hc1 _ hcm)))
   clear hw1;go_wp2_with fail
   refine (nK l false (UInt8.ofNat (gT l.length false)) (l.take 1) (l.drop 1) eQ.out hll _ eR.out _ _ _ _ _ _ _ (H1.out.drewN _) (H2.out.drewN _)).mono ?_;rintro e w3 ⟨a3,n3,c3,rfl,hx3,hb3⟩;go_wp2_with fail
   refine (lX l false HRR.out hll _ _ _ _ hx3).mono ?_;rintro e w4 ⟨rfl,hb4⟩;go_wp2;go_ret2
   exact ⟨rfl,((below_drewN (Below.refl w.heap.size w) _).trans hb3).trans (hb4.mono hb3.size)⟩
  .go_enter func104,ntmps104;go_wp2_with fail
   refine HR.out.mono ?_;rintro e w1 ⟨rfl,rfl⟩;go_wp2_with fail
   go_quiet ((go_at_call 145; exact Calls.quiet_of_same (su _ _ _ _ hc1 _ hcm)))
   clear hw1;go_wp2_with fail
   refine (nK l true (UInt8.ofNat (gT l.length true)) (l.take 1) (l.drop 1) ii.out hll _ ij.out _ _ _ _ _ _ _ (H1.out.drewN _) (H2.out.drewN _)).mono ?_;rintro e w3 ⟨a3,n3,c3,rfl,hx3,hb3⟩;go_wp2_with fail
   refine (lX l true HRR.out hll _ _ _ _ hx3).mono ?_;rintro e w4 ⟨rfl,hb4⟩;go_wp2;go_ret2
   exact ⟨rfl,((below_drewN (Below.refl w.heap.size w) _).trans hb3).trans (hb4.mono hb3.size)⟩
 .have H2:Hid (bf w (some ⟨b,off+1,none⟩) (n-1) (c-1) (l.drop 1)):=hid (Sc H.out hn1);clear H;cases leaf
  .go_enter func104,ntmps104;go_wp2_with fail
   refine HR.out.mono ?_;rintro e w1 ⟨rfl,rfl⟩;go_wp2_with fail
   go_quiet ((go_at_call 145; exact Calls.quiet_of_same (su _ _ _ _ hc1 _ hcm)))
   clear hw1;go_wp2_with fail
   refine (nK l false (UInt8.ofNat (gT l.length false)) (l.take 1) (l.drop 1) eQ.out hll _ eR.out _ _ _ _ _ _ _ (H1.out.drewN _) (H2.out.drewN _)).mono ?_;rintro e w3 ⟨a3,n3,c3,rfl,hx3,hb3⟩;go_wp2_with fail
   refine (lX l false HRR.out hll _ _ _ _ hx3).mono ?_;rintro e w4 ⟨rfl,hb4⟩;go_wp2;go_ret2
   exact ⟨rfl,((below_drewN (Below.refl w.heap.size w) _).trans hb3).trans (hb4.mono hb3.size)⟩
  .go_enter func104,ntmps104;go_wp2_with fail
   refine HR.out.mono ?_;rintro e w1 ⟨rfl,rfl⟩;go_wp2_with fail
   go_quiet ((go_at_call 145; exact Calls.quiet_of_same (su _ _ _ _ hc1 _ hcm)))
   clear hw1;go_wp2_with fail
   refine (nK l true (UInt8.ofNat (gT l.length true)) (l.take 1) (l.drop 1) ii.out hll _ ij.out _ _ _ _ _ _ _ (H1.out.drewN _) (H2.out.drewN _)).mono ?_;rintro e w3 ⟨a3,n3,c3,rfl,hx3,hb3⟩;go_wp2_with fail
   refine (lX l true HRR.out hll _ _ _ _ hx3).mono ?_;rintro e w4 ⟨rfl,hb4⟩;go_wp2;go_ret2
   exact ⟨rfl,((below_drewN (Below.refl w.heap.size w) _).trans hb3).trans (hb4.mono hb3.size)⟩
theorem Ig (c:Nat) (s:aM) (hs:s.size<=maxLen) (hi:0<s.size) (w:World) (hc:w.cell? ⟨c,0,none⟩=some (.string s)) :
  Calls prog 155 #[.int .i64 0,.pointer (some ⟨c,0,none⟩)] w λe w'=>e = .returned (.int .u8 (cK s 0:Nat))/\w=w' :=
 oM c s 0 hs hi w hc
theorem Gr (c:Nat) (s:aM) (hs:s.size<=maxLen) (hi:0<s.size) (w:World) (hc:w.cell? ⟨c,0,none⟩=some (.string s)) :
  Calls prog 155 #[.int .i64 1,.pointer (some ⟨c,0,none⟩)] w λe w'=>e = .returned (.int .u8 (cK s 1:Nat))/\w=w' :=
 oM c s 1 hs hi w hc
theorem WM:∀ x:Fin 16,bits .and .u8 ((x:Nat):Int) 1=(((x:Nat)%2:Nat):Int):=by decide +kernel
theorem Xg:∀ x:Fin 16,bits .and .u8 ((x:Nat):Int) 2=((2*((x:Nat)/2%2):Nat):Int):=by decide +kernel
theorem and1 (x:Nat) (h:x<16):bits .and .u8 (x:Int) 1=((x%2:Nat):Int):=WM ⟨x,h⟩
theorem Xq (x:Nat) (h:x<16):bits .and .u8 (x:Int) 2=((2*(x/2%2):Nat):Int):=Xg ⟨x,h⟩
def Bad (s:aM):Prop:=(cK s 0%2=0/\(33<s.size\/3<cK s 0\/cK s 1≠0))\/(cK s 0%2=1/\(32<s.size\/3<cK s 0))
def iC (s:aM):Bool:=decide (cK s 0/2%2=1)
def bW (s:aM):aN:=(fJ s).drop (2-cK s 0%2)
theorem Jr (w:World) :
  Calls prog 158 #[.string ByteArray.empty] w λe w'=>e = .returned (.tuple #[.slice none 0 0,.bool false,.int .i64 5])/\w=w':=by
 go_enter func158,ntmps158;go_wp2;go_ret3
 exact ⟨rfl,rfl⟩
theorem bZ {s:aM} (h:0<s.size):s.toList.isEmpty=false:=by
 rw [ByteArray.toList_eq];cases hd:s.data.toList with
 | nil =>
  have h1:s.data.toList.length=0:=by rw [hd]; rfl
  have h2:s.data.toList.length=s.size:=by simp
  omega
 | cons=>rfl
theorem Ja (s:aM) (h0:0<s.size) (hs:s.size<=1000000) (hb:Bad s) (w:World) :
  Calls prog 158 #[.string s] w λe w'=>e = .returned (.tuple #[.slice none 0 0,.bool false,.int .i64 6])/\Below w.heap.size w w':=by
 have hmax:s.size<=maxLen:=by unfold maxLen; omega
 have HC:Hid (∀ wx:World,(wx.alloc (.cells #[.string s] 9)).cell? ⟨wx.heap.size,0,none⟩=some (.string s)):=hid (λwx=>by simp);have hne:=bZ h0;have hx16:=uQ s 0;have hand:=and1 (cK s 0) hx16;have T0:=hid (λc wx hc=>Ig c s hmax h0 wx hc);have T1:=hid (λc wx hc=>Gr c s hmax h0 wx hc);unfold Bad at hb;obtain ⟨x,hx⟩:=aA (cK s 0)
 obtain ⟨y,hy⟩:=aA (cK s 1)
 rw [hx] at hb hand hx16;rw [hy] at hb;simp only [hx] at T0;simp only [hy] at T1;clear hx hy hmax;rcases hb with ⟨hp,hb⟩ | ⟨hp,hb⟩
 .have hand0:bits .and .u8 (x:Int) 1=0:=by rw [hand,hp]; rfl
  clear hand hp;by_cases hb1:33<s.size
  .clear hb;go_enter func158,ntmps158;go_wp2_with fail
   refine (gI _ _).mono ?_;rintro e w1 ⟨rfl,rfl⟩;go_wp2_with fail
   refine (T0.out _ _ (HC.out _)).mono ?_;rintro e w2 ⟨rfl,rfl⟩;go_wp2;go_ret3
   exact ⟨rfl,aI.alloc aH _⟩
  .by_cases hb2:3<x
   .clear hb;go_enter func158,ntmps158;go_wp2_with fail
    refine (gI _ _).mono ?_;rintro e w1 ⟨rfl,rfl⟩;go_wp2_with fail
    refine (T0.out _ _ (HC.out _)).mono ?_;rintro e w2 ⟨rfl,rfl⟩;go_wp2;go_ret3
    exact ⟨rfl,aI.alloc aH _⟩
   .have hb3:((y:Int) != 0)=true:=by simp; omega
    clear hb;go_enter func158,ntmps158;go_wp2_with fail
    refine (gI _ _).mono ?_;rintro e w1 ⟨rfl,rfl⟩;go_wp2_with fail
    refine (T0.out _ _ (HC.out _)).mono ?_;rintro e w2 ⟨rfl,rfl⟩;go_wp2_with fail
    refine (T1.out _ _ (HC.out _)).mono ?_;rintro e w2 ⟨rfl,rfl⟩;go_wp2;go_ret3
    exact ⟨rfl,aI.alloc aH _⟩
 .have hand0:bits .and .u8 (x:Int) 1=1:=by rw [hand,hp]; rfl
  clear hand hp;by_cases hb1:32<s.size
  .clear hb;go_enter func158,ntmps158;go_wp2_with fail
   refine (gI _ _).mono ?_;rintro e w1 ⟨rfl,rfl⟩;go_wp2_with fail
   refine (T0.out _ _ (HC.out _)).mono ?_;rintro e w2 ⟨rfl,rfl⟩;go_wp2;go_ret3
   exact ⟨rfl,aI.alloc aH _⟩
  .have hb2:3<x:=by omega
   clear hb;go_enter func158,ntmps158;go_wp2_with fail
   refine (gI _ _).mono ?_;rintro e w1 ⟨rfl,rfl⟩;go_wp2_with fail
   refine (T0.out _ _ (HC.out _)).mono ?_;rintro e w2 ⟨rfl,rfl⟩;go_wp2;go_ret3
   exact ⟨rfl,aI.alloc aH _⟩
theorem ow (s:aM):dx (fJ s)=true:=by
 unfold dx fJ;rw [List.all_eq_true];intro x hx;simp only [List.mem_map,List.mem_range] at hx;obtain ⟨i,_,rfl⟩:=hx;have:=uQ s i;simp only [UInt8.toNat_ofNat',decide_eq_true_eq]; omega
theorem Qb (s:aM) (a:aL) (n cap:Nat) (w:World) (h:bf w a n cap (fJ s)) (k:Nat) (hk:k<=n) (ki:Int) (hki:ki=k) :
  Calls prog 145 #[.slice a n cap,.int .i64 ki,.int .i64 n] w λe w'=>∃ a' n' c',e = .returned (.slice a' n' c')/\bf w a' n' c' ((fJ s).drop k)/\w=w':=by
 subst hki;refine (WI a n cap (fJ s) k n hk aH w h).mono ?_;rintro e w' ⟨a',c',rfl,⟨hx,_⟩,rfl⟩;have e:((fJ s).drop k).take (n-k)=(fJ s).drop k:=List.take_of_length_le (by rw [List.length_drop,h.len]; exact aH);rw [e] at hx;exact ⟨a',_,c',rfl,hx,rfl⟩
def Unp (w:World) (s:aM) (e:Ending) (w':World):Prop :=
 ∃ a n cap,e = .returned (.tuple #[.slice a n cap,.bool (iC s),.int .i64 0])/\bf w' a n cap (bW s)/\Below w.heap.size w w'
theorem Oq (s:aM) (h0:0<s.size) (hb:¬ Bad s) (w:World) :
  Calls prog 158 #[.string s] w (Unp w s):=by
 have hx16:=uQ s 0;have YY:s.size<=33:=by unfold Bad at hb; omega
 have hmax:s.size<=maxLen:=by unfold maxLen; omega
 have HC:Hid (∀ wx:World,(wx.alloc (.cells #[.string s] 9)).cell? ⟨wx.heap.size,0,none⟩=some (.string s)):=hid (λwx=>by simp);have hne:=bZ h0;have hand:=and1 (cK s 0) hx16;have hand2:=Xq (cK s 0) hx16;have T0:=hid (λc wx hc=>Ig c s hmax h0 wx hc);have T1:=hid (λc wx hc=>Gr c s hmax h0 wx hc);have SP:=hid (λwx=>zU s (by omega) wx);have CP:=hid (Qb s);have hlen:=dW s;have hlf:iC s=decide (cK s 0/2%2=1):=rfl;have hpl:bW s=(fJ s).drop (2-cK s 0%2):=rfl;unfold Bad at hb;obtain ⟨x,hx⟩:=aA (cK s 0)
 obtain ⟨y,hy⟩:=aA (cK s 1)
 rw [hx] at hb hand hx16 hand2 hlf hpl;rw [hy] at hb;simp only [hx] at T0;simp only [hy] at T1;clear hx hy hmax;have HL:=hid hlen;have hx3:x<=3:=by omega
 by_cases hp:x%2=0
 .have hy0:y=0:=by omega
  subst hy0;have hand0:bits .and .u8 (x:Int) 1=0:=by rw [hand,hp]; rfl
  have HP:Hid (bW s=(fJ s).drop 2):=hid (by rw [hpl,hp]);clear hand hpl hb hp hlen;by_cases hl:x/2%2=1
  .have hl2:bits .and .u8 (x:Int) 2=2:=by rw [hand2,hl]; rfl
   have gw:Hid (iC s=true):=hid (by rw [hlf]; exact aK hl);clear hand2 hl hlf;go_enter func158,ntmps158;go_wp2_with fail
   refine (gI _ _).mono ?_;rintro e w1 ⟨rfl,rfl⟩;go_wp2_with fail
   refine (T0.out _ _ (HC.out _)).mono ?_;rintro e w2 ⟨rfl,rfl⟩;go_wp2_with fail
   refine (T1.out _ _ (HC.out _)).mono ?_;rintro e w2 ⟨rfl,rfl⟩;go_wp2_with fail
   refine (SP.out _).mono ?_;rintro e w3 ⟨a,n,cap,rfl,hx,hb3⟩;have hn2:2<=n:=by have:=hx.len; rw [HL.out] at this; omega
   have HX:=hid hx;clear hx;go_wp2_with fail
   refine (CP.out a n cap _ HX.out 2 (by omega) 2 rfl).mono ?_;rintro e w4 ⟨a4,n4,c4,rfl,hx4,rfl⟩;have pl:=hid hx4;clear hx4;go_wp2;go_ret3
   exact ⟨a4,n4,c4,by rw [gw.out]; rfl,by rw [HP.out]; exact pl.out,((Below.refl w.heap.size w).alloc aH _).trans (hb3.mono (by simp))⟩
  .have hl2:bits .and .u8 (x:Int) 2=0:=by rw [hand2,show x/2%2=0 by omega]; rfl
   have gw:Hid (iC s=false):=hid (by rw [hlf]; exact decide_eq_false hl);clear hand2 hl hlf;go_enter func158,ntmps158;go_wp2_with fail
   refine (gI _ _).mono ?_;rintro e w1 ⟨rfl,rfl⟩;go_wp2_with fail
   refine (T0.out _ _ (HC.out _)).mono ?_;rintro e w2 ⟨rfl,rfl⟩;go_wp2_with fail
   refine (T1.out _ _ (HC.out _)).mono ?_;rintro e w2 ⟨rfl,rfl⟩;go_wp2_with fail
   refine (SP.out _).mono ?_;rintro e w3 ⟨a,n,cap,rfl,hx,hb3⟩;have hn2:2<=n:=by have:=hx.len; rw [HL.out] at this; omega
   have HX:=hid hx;clear hx;go_wp2_with fail
   refine (CP.out a n cap _ HX.out 2 (by omega) 2 rfl).mono ?_;rintro e w4 ⟨a4,n4,c4,rfl,hx4,rfl⟩;have pl:=hid hx4;clear hx4;go_wp2;go_ret3
   exact ⟨a4,n4,c4,by rw [gw.out]; rfl,by rw [HP.out]; exact pl.out,((Below.refl w.heap.size w).alloc aH _).trans (hb3.mono (by simp))⟩
 .have hp1:x%2=1:=by omega
  have YZ:s.size<=32:=by omega
  have hand0:bits .and .u8 (x:Int) 1=1:=by rw [hand,hp1]; rfl
  have HP:Hid (bW s=(fJ s).drop 1):=hid (by rw [hpl,hp1]);clear hand hpl hb hp hp1 hlen T1;by_cases hl:x/2%2=1
  .have hl2:bits .and .u8 (x:Int) 2=2:=by rw [hand2,hl]; rfl
   have gw:Hid (iC s=true):=hid (by rw [hlf]; exact aK hl);clear hand2 hl hlf;go_enter func158,ntmps158;go_wp2_with fail
   refine (gI _ _).mono ?_;rintro e w1 ⟨rfl,rfl⟩;go_wp2_with fail
   refine (T0.out _ _ (HC.out _)).mono ?_;rintro e w2 ⟨rfl,rfl⟩;go_wp2_with fail
   refine (SP.out _).mono ?_;rintro e w3 ⟨a,n,cap,rfl,hx,hb3⟩;have hn2:2<=n:=by have:=hx.len; rw [HL.out] at this; omega
   have HX:=hid hx;clear hx;go_wp2_with fail
   refine (CP.out a n cap _ HX.out 1 (by omega) 1 rfl).mono ?_;rintro e w4 ⟨a4,n4,c4,rfl,hx4,rfl⟩;have pl:=hid hx4;clear hx4;go_wp2;go_ret3
   exact ⟨a4,n4,c4,by rw [gw.out]; rfl,by rw [HP.out]; exact pl.out,((Below.refl w.heap.size w).alloc aH _).trans (hb3.mono (by simp))⟩
  .have hl2:bits .and .u8 (x:Int) 2=0:=by rw [hand2,show x/2%2=0 by omega]; rfl
   have gw:Hid (iC s=false):=hid (by rw [hlf]; exact decide_eq_false hl);clear hand2 hl hlf;go_enter func158,ntmps158;go_wp2_with fail
   refine (gI _ _).mono ?_;rintro e w1 ⟨rfl,rfl⟩;go_wp2_with fail
   refine (T0.out _ _ (HC.out _)).mono ?_;rintro e w2 ⟨rfl,rfl⟩;go_wp2_with fail
   refine (SP.out _).mono ?_;rintro e w3 ⟨a,n,cap,rfl,hx,hb3⟩;have hn2:2<=n:=by have:=hx.len; rw [HL.out] at this; omega
   have HX:=hid hx;clear hx;go_wp2_with fail
   refine (CP.out a n cap _ HX.out 1 (by omega) 1 rfl).mono ?_;rintro e w4 ⟨a4,n4,c4,rfl,hx4,rfl⟩;have pl:=hid hx4;clear hx4;go_wp2;go_ret3
   exact ⟨a4,n4,c4,by rw [gw.out]; rfl,by rw [HP.out]; exact pl.out,((Below.refl w.heap.size w).alloc aH _).trans (hb3.mono (by simp))⟩
end Ni
end
section
open Go.RowKit
namespace No
def dH (s:aM):Bool:=decide (s.size=0\/s.size=32)
theorem cZ {s:aM} (h:s.size=0):s=eB:=by
 cases s with
 | mk d =>
  have:d = #[]:=Array.eq_empty_of_size_eq_zero h;rw [this]
theorem wM (s:aM) (w:World):Calls prog 143 #[.string s] w λe w'=>e = .returned (.bool (dH s))/\w=w':=by
 by_cases h0:s.size=0
 .obtain rfl:=cZ h0;go_enter func143,ntmps143;go_wp2;go_ret;exact ⟨rfl,rfl⟩
 .have hne:=Ni.bZ (s:=s) (by omega);by_cases h32:s.size=32
  .have hq:((s.size:Int)==32)=true:=by simp; omega
   have HP:Hid (dH s=true):=hid (by simp [dH,h32]);rw [HP.out];go_enter func143,ntmps143;go_wp2;go_ret;exact ⟨rfl,rfl⟩
  .have hq:((s.size:Int)==32)=false:=by simp; omega
   have HP:Hid (dH s=false):=hid (by simp [dH,h32,h0]);rw [HP.out];go_enter func143,ntmps143;go_wp2;go_ret;exact ⟨rfl,rfl⟩
theorem Wm (w:World):(binOp .eql 35 (.slice none 0 0) (.slice none 0 0)).run prog w = .ok (.bool true) w:=by kernel_rfl
theorem Uu (a:Addr) (n cap:Nat) (w:World):(binOp .eql 35 (.slice (some a) n cap) (.slice none 0 0)).run prog w = .ok (.bool false) w:=by kernel_rfl
def TL (w:World) (l:aN) (e:Ending) (w':World):Prop:=∃ a n cap,e = .returned (.slice a n cap)/\BsF w.heap.size w' a n cap l/\Below w.heap.size w w'
theorem wK {w:World} {n:Nat} {l:aN} (h:w.ownsRow B t 1 v n (l.map λx=>Value.int .u8 x.toNat)):∃ a cap,v = .slice a n cap/\BsF B w a n cap l:=by
 obtain ⟨a,cap,rfl,hB⟩:=bf.sS h;refine ⟨a,cap,rfl,hB,λad e=>?_⟩;subst e;rcases h.2 with ⟨e,_⟩ | ⟨g,cap',cur,e,hbg,_⟩
 .cases e
 .cases e;exact hbg
theorem AA (a:aL) (n cap:Nat) (l:aN) (hn:n<=1000000) (w:World) (h:bf w a n cap l) :
  Calls prog 150 #[.slice a n cap] w (TL w l):=by
 cases a with
 | none =>
  obtain ⟨rfl,rfl,rfl⟩:=h.Ej;have hnil:=Wm;go_enter func150,ntmps150;go_wp2;go_ret;exact ⟨none,0,0,rfl,BsF.nil _ _,aI⟩
 | some ad =>
  obtain ⟨i0,hi,hz0,hz1,hz2⟩:=info_parts Cc.jS;have HI:Hid (_/\_/\_/\_):=hid ⟨hi,hz0,hz1,hz2⟩;have HC:=hid (Cc.Bv h ad rfl);have HL:=hid h.len;have HH:=hid h;have hnil:=Uu ad n cap;have HO:Hid ((w.alloc (.cells #[] 5)).ownsRow w.heap.size 5 1 (.slice (some ⟨w.heap.size,0,none⟩) 0 0) 0 []):=hid (World.ownsRow_made w #[] 0 aH (Nat.zero_le _) (by simp));clear h hi hz0 hz1 hz2;go_enter func150,ntmps150
  go_wp2_with (at_builtin; refine wpList_append_own _ rfl _ _ 35 rfl w.heap.size 5 i0 (.int .u8 0) 1 1 underlying35 HI.out.1 HI.out.2.1 HI.out.2.2.1 HI.out.2.2.2 rfl (by decide) _ _ _ rfl HO.out ad n cap (l.map λx=>Value.int .u8 x.toNat) rfl (by simp [HL.out]) ?c2 ?c6 ?c3 ?c4 ?c5 ?_)
  case c2 =>
   intro j u hu;have hj:j<n:=by rw [<-HL.out]; have:=(List.getElem?_eq_some_iff.1 hu).1; simpa using this
   obtain ⟨b,off,e,hb,_⟩:=HH.out.at' j hj;obtain rfl:=Option.some.inj e;rw [(al1 w _).cell (by rw [Addr.add_mid]; exact hb)];exact HC.out j u hu
  case c6 =>
   intro u hu;simp at hu;obtain ⟨x,_,rfl⟩:=hu;rfl
  case c3=>unfold maxLen; omega
  case c4=>omega
  case c5=>simp
  intro v' w2 hown2 hgrow hnil';have HG:Hid (∃ a c,v' = .slice a n c/\BsF w.heap.size w2 a n c l):=hid (by
   have:=wK (l:=l) (v:=v') (n:=n) (by simpa using hown2);exact this)
  have HB:Hid (Below w.heap.size w w2):=hid ((al1 w _).grown hgrow (by simp) (λk hk=>by simp [Value.ownBlock] at hk; omega));clear hown2 hgrow hnil';go_wp2;go_ret;obtain ⟨a',c',e,hB⟩:=HG.out;exact ⟨a',n,c',by rw [e]; rfl,hB,HB.out⟩
theorem nV (a:aL) (n cap:Nat) (l:aN) (hn:n<=1000000) (v:aM) (w:World) (h:bf w a n cap l) :
  Calls prog 109 #[.slice a n cap,.string v] w (Fu w ⟨1,l,v,zks⟩):=by
 obtain ⟨w2,hw2⟩:=ay (w.alloc (.cells (ndC nd0 none 0 0) 67))
 have HC:=hid (AA a n cap l hn w2 (by rw [hw2]; exact h.alloc _));have HO:Hid (dL w2 w.heap.size nd0 none 0 0):=hid (by rw [hw2]; exact Rg.Own.new _ _ _);have HB:Hid (Below w.heap.size w w2):=hid (by rw [hw2]; exact al1 _ _);clear h;subst hw2;go_enter func109,ntmps109;go_wp2_with (refine aB (aY _ _ _ w.heap.size rfl rfl) ?_)
 refine HC.out.mono ?_;rintro e w3 ⟨a3,n3,c3,rfl,hB3,hb3⟩;have ce:=hid (HO.out.below hb3);have HB3:=hid (bst HB.out hb3);have HI3:=hid hB3;clear hB3 hb3 HO HC;go_wp2_with (first
  | (refine aB (bC (qH a3 n3 c3 l v) ?_) ?_; · exact ⟨_,rfl,rfl⟩)
  | (refine bA ce.out rfl ⟨1,l,v,zks⟩ a3 n3 c3 rfl rfl _ _ rfl rfl rfl rfl ?_))
 exact bodyPost_ret (tC rfl _ rfl (dG ce.out) rfl) rfl ⟨a3,n3,c3,rfl,(HI3.out.row (by simp) _).weak (by simp),rfl,bX HB3.out aH _⟩
theorem LU (a:aL) (n cap:Nat) (l:aN) (hn:n<=1000000) (v:aM) (w:World) (h:bf w a n cap l) :
  Calls prog 110 #[.slice a n cap,.string v] w (Fu w ⟨2,l,eB,v::List.replicate 15 eB⟩):=by
 obtain ⟨w2,hw2⟩:=ay (w.alloc (.cells (ndC nd0 none 0 0) 67))
 have HC:=hid (AA a n cap l hn w2 (by rw [hw2]; exact h.alloc _));have HO:Hid (dL w2 w.heap.size nd0 none 0 0):=hid (by rw [hw2]; exact Rg.Own.new _ _ _);have HB:Hid (Below w.heap.size w w2):=hid (by rw [hw2]; exact al1 _ _);clear h;subst hw2;go_enter func110,ntmps110;go_wp2_with (refine aB (aY _ _ _ w.heap.size rfl rfl) ?_)
 refine HC.out.mono ?_;rintro e w3 ⟨a3,n3,c3,rfl,hB3,hb3⟩;have ce:=hid (HO.out.below hb3);have HB3:=hid (bst HB.out hb3);have HI3:=hid hB3;clear hB3 hb3 HO HC;go_wp2_with (first
  | (refine aB (bC (MB v) ?_) ?_; · exact ⟨_,rfl,rfl⟩)
  | (refine aB (bC (wI 2 a3 n3 c3 l (v::List.replicate 15 eB) rfl) ?_) ?_; · exact ⟨_,rfl,rfl⟩)
  | (refine bA ce.out rfl ⟨2,l,eB,v::List.replicate 15 eB⟩ a3 n3 c3 rfl rfl _ _ rfl rfl rfl rfl ?_))
 exact bodyPost_ret (tC rfl _ rfl (dG ce.out) rfl) rfl ⟨a3,n3,c3,rfl,(HI3.out.row (by simp) _).weak (by simp),rfl,bX HB3.out aH _⟩
end No
end
section
open Go.RowKit
def lK (w:World) (a:aL) (n cap:Nat) (xs:List aM):Prop :=
 n<=cap/\cap<=maxLen/\xs.length=n/\∀ j,j<n->∃ b off,a=some ⟨b,off,none⟩/\b<w.heap.size/\w.cell? ⟨b,off+j,none⟩=some (.string (xs.getD j eB))
namespace lK
variable {w w':World} {a:aL} {n cap:Nat} {xs:List aM}
theorem len (h:lK w a n cap xs):xs.length=n:=h.2.2.1
theorem at' (h:lK w a n cap xs) (j:Nat) (hj:j<n):∃ b off,a=some ⟨b,off,none⟩/\b<w.heap.size/\w.cell? ⟨b,off+j,none⟩=some (.string (xs.getD j eB)):=h.2.2.2 j hj
theorem below (h:lK w a n cap xs) (hb:Below w.heap.size w w'):lK w' a n cap xs:=by
 refine ⟨h.1,h.2.1,h.2.2.1,λj hj=>?_⟩;obtain ⟨b,off,h1,h2,h3⟩:=h.2.2.2 j hj;exact ⟨b,off,h1,aJ h2 hb.size,by rw [hb.cell (p:=⟨b,off+j,none⟩) h2]; exact h3⟩
end lK
theorem lK.sS {w:World} {n:Nat} {xs:List aM} (h:w.ownsRow B t 1 v n (xs.map Value.string)):∃ a cap,v = .slice a n cap/\lK w a n cap xs:=by
 have hl:xs.length=n:=by simpa using h.1
 rcases h.2 with ⟨rfl,hz⟩ | ⟨g,cap,cur,rfl,hbg,hg,hnc,hcm,hcs,htake⟩
 .subst hz;exact ⟨none,0,rfl,aH,Nat.zero_le _,hl,λj hj=>absurd hj (Nat.not_lt_zero _)⟩
 .refine ⟨_,_,rfl,hnc,hcm,hl,λj hj=>⟨g,0,rfl,(Array.getElem?_eq_some_iff.1 hg).1,?_⟩⟩;have:=h.cells (g:=g) rfl j (.string (xs.getD j eB)) (by simp [List.getD,hl,hj]);rwa [Addr.add_mid] at this
theorem Vv:(prog.info? 9).map (λi=>(i.zero,i.size,i.bytes))=some (some (.string ⟨#[]⟩),1,16):=by kernel_rfl
theorem pq:∃ i,prog.info? 9=some i/\i.zero=some (.string ⟨#[]⟩)/\i.size=1/\i.bytes=16:=by
 have h:=Vv;cases hi:prog.info? 9 with
 | none=>rw [hi] at h; simp at h
 | some i =>
  rw [hi] at h;simp at h;exact ⟨i,rfl,h.1,h.2.1,h.2.2⟩
namespace Rf
theorem str_eq (a b:aM):(a.toList==b.toList)=decide (a=b):=by
 by_cases h:a=b
 .subst h; simp
 .rw [decide_eq_false h,beq_eq_false_iff_ne];intro e;apply h;rw [ByteArray.toList_eq,ByteArray.toList_eq] at e;apply ByteArray.ext;exact Array.ext' e
end Rf
end
end Go.Proofs.YtokaiemgjngcoaaGreatDoor
