/-
 Contracts of nib.spread and nib.pairs.
-/
import Derived.Test.YtlcplcgigjagpaaGreatDoorSg2
import Derived.BigQuiet
open Go.Lib (hid)
open Go.Proofs.Tryz
set_option linter.unusedSimpArgs false
set_option linter.unusedVariables false
set_option maxHeartbeats 40000000
set_option maxRecDepth 100000
namespace Go.Proofs.YtlcplcgigjagpaaGreatDoor
variable {w wr:World} {off:Nat}
section
open Go.RowKit
namespace Ni
def ig (s:aK):aL:=(List.range (2*s.size)).map λi=>UInt8.ofNat (dX s i)
theorem wI (s:aK) (i:Nat):dX s i<16:=by
 unfold dX;have:=UInt8.toNat_lt (s.data.toList.getD (i/2) 0);split <;> omega
theorem gM (s:aK):(ig s).length=2*s.size:=by simp [ig]
theorem lZ (s:aK) (i:Nat) (h:i<2*s.size):((ig s).getD i 0).toNat=dX s i:=by
 have:=wI s i;simp [ig,List.getD,h];omega
def Spr (w:World) (s:aK) (k:Nat) (wr:World):Prop :=
 wr.rowIs (w.heap.size+1) 5 (2*s.size) (λj=>.int .u8 (if j<k then dX s j else 0:Nat))/\wr.cell? ⟨w.heap.size,0,none⟩=some (.string s)/\Below w.heap.size w wr
theorem Spr.next {s:aK} {k:Nat} (h:Spr w s k wr) (hk:k<2*s.size):Spr w s (k+1) (wr.setCell ⟨w.heap.size+1,k,none⟩ (.int .u8 (dX s k:Nat))):=by
 refine ⟨(h.1.set k _).congr ?_,?_,h.2.2.setCell (p:=⟨w.heap.size+1,k,none⟩) (by simp) _⟩
 .intro j hj;by_cases e:j=k
  .subst e; simp
  .have:j<k+1↔j<k:=by omega
   simp [e,this]
 .rw [World.cell?_setCell_other _ _ _ _ (by simp)];exact h.2.1
theorem Spr.start (w:World) (s:aK):Spr w s 0 ((w.alloc (.cells #[.string s] 9)).alloc (.cells (madeCells #[.int .u8 0] (2*s.size)) 5)):=by
 refine ⟨?_,?_,(aG.alloc aF _).alloc (by simp) _⟩
 .have:=World.rowIs_made (w.alloc (.cells #[.string s] 9)) (.int .u8 0) (2*s.size) 5;simpa using this
 .simp
theorem mh:(prog.info? 5).map (λi=>(i.zero,i.size,i.bytes))=some (some (.int .u8 0),1,1):=by kernel_rfl
theorem AZ (s:aK) (hs:s.size<=1000) (w:World) :
  Calls prog 64 #[.string s] w (Ta w (ig s)):=by
 obtain ⟨m,hm⟩:=av (2*s.size)
 have hmk:=run_make_row' (P:=prog) 42 5 (.int .u8 0) 1 underlying42 mh rfl .i64 .i64 m (by omega) (by omega);have e:((m:Nat):Int)=2*(s.size:Int):=by omega
 rw [e] at hmk;have HS:=hid (Spr.start w s);rw [hm] at HS;have HM:=hid hm;have hm2:m<=2*s.size:=by omega
 clear e hm;go_enter func64,ntmps64;go_wp2_with fail
 refine (fT _ _).mono ?_;rintro e w1 ⟨rfl,rfl⟩;go_wp2;clear hmk;go_loopw [14] (λi wr=>∃ k:Nat,k<=m/\i = .int .i64 k/\Spr w s k wr) (λi _=>m-(intOf i).toNat)
 case atStart=>exact ⟨0,Nat.zero_le _,rfl,HS.out⟩
 case round =>
  obtain ⟨k,hk,rfl,hS⟩:=hrel;by_cases hlt:k<m
  .have hc:=hS.2.1;have hz:=hS.1.lt;have hcell:wr.cell? ⟨w.heap.size+1,k,none⟩=some (.int .u8 0):=by
    rw [hS.1.cell (by rw [HM.out]; exact hlt)]; simp
   have hfr:=hS.1.frozen k;go_wp2_with fail
   refine (pF _ s k (by unfold maxLen; omega) (by omega) _ hc).mono ?_;rintro e w2 ⟨rfl,rfl⟩;go_wp2;go_roundw
   case rel=>exact ⟨k+1,by omega,by go_num,hS.next (by rw [HM.out]; exact hlt)⟩
   case measure=>simp [intOf]; omega
  .obtain rfl:k=m:=by omega
   have HG:Hid (bq wr (some ⟨w.heap.size+1,0,none⟩) k k (ig s)):=hid (by
    refine bq.ofRow (ig s) (by unfold maxLen; omega) (by have:=hS.1; rw [HM.out] at this; exact this) (by rw [gM,HM.out]) (λj hj=>?_);rw [if_pos hj,lZ s j (by rw [HM.out]; exact hj)])
   have hB:=hS.2.2;go_wp2;go_ret;exact ⟨_,_,_,rfl,HG.out,hB⟩
def gy (l:aL) (k:Nat):aL:=(List.range k).map λj=>UInt8.ofNat (16*(l.getD (2*j) 0).toNat+(l.getD (2*j+1) 0).toNat)
theorem Jp (l:aL) (k:Nat):gy l (k+1)=gy l k++[UInt8.ofNat (16*(l.getD (2*k) 0).toNat+(l.getD (2*k+1) 0).toNat)]:=by
 simp [gy,List.range_succ]
theorem mF (l:aL) (k:Nat):(gy l k).length=k:=by simp [gy]
theorem XR:∀ x:Fin 16,IntKind.u8.wrap (((x:Nat):Int)*16)=((x:Nat):Int)*16:=by decide +kernel
theorem Yo:∀ x y:Fin 16,bits .or .u8 (((x:Nat):Int)*16) ((y:Nat):Int)=((16*(x:Nat)+(y:Nat):Nat):Int):=by decide +kernel
theorem kI (l:aL) (h:dx l=true) (j:Nat):(l.getD j 0).toNat<16:=by
 unfold dx at h;rw [List.all_eq_true] at h;by_cases hj:j<l.length
 .have:=h l[j] (List.getElem_mem _);simp [List.getD,hj] at this ⊢;omega
 .simp [List.getD,hj]
def Prs (w:World) (l:aL) (k:Nat) (wr:World):Prop :=
 Bu.Is w.heap.size w.heap.size (Lib.byteCells (gy l k)) wr/\Below w.heap.size w wr
theorem Prs.start (w:World) (l:aL):Prs w l 0 (w.alloc (.cells #[.pointer none,.slice none 0 0] 167)) :=
 ⟨Bu.fresh aF (by show (w.heap.push _)[w.heap.size]? = _; simp),aG.alloc aF _⟩
theorem Prs.write {l:aL} {k:Nat} (h:Prs w l k wr) (hk:k<=1000) (c:Int) (hc:c=((16*(l.getD (2*k) 0).toNat+(l.getD (2*k+1) 0).toNat:Nat):Int)) (hx:(l.getD (2*k) 0).toNat<16) (hy:(l.getD (2*k+1) 0).toNat<16) :
  Calls prog 167 #[.pointer (some ⟨w.heap.size,0,none⟩),.int .u8 c] wr λe w'=>e = .returned .nilIface/\Prs w l (k+1) w':=by
 subst hc;refine (Bu.QO _ h.1 (by rw [Lib.byteCells_length,mF]; omega) h.2.size).mono ?_;rintro e w' ⟨rfl,h1,h2,_⟩;refine ⟨rfl,?_,h.2.trans h2⟩;rw [Jp,Lib.byteCells_append];have e:(UInt8.ofNat (16*(l.getD (2*k) 0).toNat+(l.getD (2*k+1) 0).toNat)).toNat=16*(l.getD (2*k) 0).toNat+(l.getD (2*k+1) 0).toNat:=by
  simp only [UInt8.toNat_ofNat']; omega
 have e2:Lib.byteCells [UInt8.ofNat (16*(l.getD (2*k) 0).toNat+(l.getD (2*k+1) 0).toNat)]=[.int .u8 ((16*(l.getD (2*k) 0).toNat+(l.getD (2*k+1) 0).toNat:Nat):Int)]:=by
  simp only [Lib.byteCells,List.map_cons,List.map_nil,e]
 rw [e2];exact h1
theorem Prs.drew {w wr:World} {l:aL} {k:Nat} (h:Prs w l k wr):Prs w l k wr.drew:=⟨h.1,h.2.drew⟩
theorem xR (a:aJ) (n cap:Nat) (l:aL) (hr:dx l=true) (h2:n%2=0) (hn:n<=1000) (w:World) (h:bq w a n cap l) :
  Calls prog 147 #[.slice a n cap] w λe w'=>e = .returned (.string ⟨(gy l (n/2)).toArray⟩)/\Below w.heap.size w w':=by
 have H:=hid h;have HR:=hid (kI l hr);have H2:=hid h2;have HS:=hid (Prs.start w l);clear h hr h2;go_enter func147,ntmps147;go_wp2;go_loopw [4] (λi wr=>∃ k:Nat,2*k<=n/\i = .int .i64 (2*k)/\Prs w l k wr) (λi _=>n-(intOf i).toNat)
 case atStart=>exact ⟨0,Nat.zero_le _,rfl,HS.out⟩
 case round =>
  obtain ⟨k,hk,rfl,hP⟩:=hrel;by_cases hlt:2*k<n
  .have hlt1:2*k+1<n:=by have:=H2.out; omega
   obtain ⟨b,off,rfl,hb,hc⟩:=H.out.at' (2*k) hlt;obtain ⟨b',off',h1,_,hc'⟩:=H.out.at' (2*k+1) hlt1;simp at h1;obtain ⟨rfl,rfl⟩:=h1;have hx:=HR.out (2*k);have hy:=HR.out (2*k+1);obtain ⟨x,hxe⟩:=av ((l.getD (2*k) 0).toNat)
   obtain ⟨y,hye⟩:=av ((l.getD (2*k+1) 0).toNat)
   have ho:=Yo ⟨x,hxe ▸ hx⟩ ⟨y,hye ▸ hy⟩;have hw16:=XR ⟨x,hxe ▸ hx⟩;have HW:Hid (∀ c:Int,c=bits .or .u8 ((x:Int)*16) (y:Int)->Calls prog 167 #[.pointer (some ⟨w.heap.size,0,none⟩),.int .u8 c] wr.drew λe w'=>e = .returned .nilIface/\Prs w l (k+1) w'):=hid (λc hc=>by
    refine hP.drew.write (by omega) _ ?_ hx hy;rw [hxe,hye,hc];exact ho)
   have hcon:=hid (HW.out _ rfl);have B8:Hid (Calls prog 167 #[.pointer (some ⟨w.heap.size,0,none⟩),.int .u8 (bits .or .u8 (IntKind.u8.wrap ((x:Int)*16)) (y:Int))] wr.drew λe w'=>e = .returned .nilIface/\Prs w l (k+1) w'):=hid (HW.out _ (by rw [show IntKind.u8.wrap ((x:Int)*16)=(x:Int)*16 from hw16]));clear HW ho hw16;rw [hxe] at hc hx;rw [hye] at hc' hy;rw [<-hP.2.cell (p:=⟨b,off+2*k,none⟩) hb] at hc;rw [<-hP.2.cell (p:=⟨b,off+(2*k+1),none⟩) hb] at hc';clear hxe hye;go_wp2_with fail
   have q1:(0:Int)<=2*(k:Int):=by omega
   have q2:2*(k:Int)<(n:Int):=by omega
   have q3:(0:Int)<=2*(k:Int)+1:=by omega
   have q4:2*(k:Int)+1<(n:Int):=by omega
   have q5:(2*(k:Int)).toNat=2*k:=by omega
   have q6:(2*(k:Int)+1).toNat=2*k+1:=by omega
   have q7:IntKind.i64.wrap (2*(k:Int)+1)=2*(k:Int)+1:=IntWalk.i64_in _ (by omega);go_region_with (go_at_call 167; (first | (with_reducible refine hcon.out.mono ?_) | (with_reducible refine B8.out.mono ?_)); rintro e w' ⟨rfl,hP2⟩)
   all_goals clear q7 q6 q5
   all_goals go_wp2
   all_goals
    go_roundw
    case rel=>exact ⟨k+1,by omega,by go_num,hP2⟩
    case measure=>simp [intOf]; omega
  .have hkk:k=n/2:=by have:=H2.out; omega
   have HP:Hid (Prs w l (n/2) wr):=hid (by rw [<-hkk]; exact hP);clear hkk;go_wp2_with (go_at_call 107; refine (Bu.text HP.out.1 HP.out.2.size).mono ?_)
   rintro e w2 ⟨rfl,hb2⟩;go_wp2;go_ret;exact ⟨rfl,HP.out.2.trans hb2⟩
theorem Sn (a:aJ) (n cap:Nat) (ls:List (aL)) (hn:n<=1000000) (hL:ls.flatten.length<=1099511627776) (w:World) (h:Cc.Kk w a n ls) :
  Calls prog 148 #[.slice a n cap] w (Ta w ls.flatten):=by
 have hc:=Cc.LB a n cap ls hn hL w h;obtain ⟨r,hr⟩:=av ls.flatten
 rw [hr] at hc ⊢;have HC:=hid hc;clear hc hr hL h;go_enter func148,ntmps148;go_wp2_with fail
 refine HC.out.mono ?_;rintro e w1 ⟨v,rfl,hown,hb⟩;obtain ⟨a',cap',rfl,hx⟩:=bq.qx hown;clear hown;go_wp2;go_ret;exact ⟨_,_,_,rfl,hx,hb⟩
def jF:aL->aL->Nat
 | a::xs,b::ys=>if a=b then jF xs ys+1 else 0
 | _,_=>0
theorem lS:∀ (k:Nat) (xs ys:aL),k<=xs.length->k<=ys.length->(∀ j,j<k->(xs.getD j 0).toNat=(ys.getD j 0).toNat)->
  (k=xs.length\/k=ys.length\/(xs.getD k 0).toNat≠(ys.getD k 0).toNat)->jF xs ys=k
 | 0,[],_,_,_,_,_=>rfl
 | 0,_::_,[],_,_,_,_=>rfl
 | 0,a::xs,b::ys,_,_,_,h=>by
  have hne:a≠b:=by
   rintro rfl;simp at h
  simp [jF,hne]
 | k+1,[],_,h,_,_,_=>absurd h (by simp)
 | k+1,_::_,[],_,h,_,_=>absurd h (by simp)
 | k+1,a::xs,b::ys,h1,h2,h3,h4=>by
  have hab:a=b:=UInt8.toNat_inj.1 (by simpa using h3 0 (by omega));have:=lS k xs ys (by simpa using h1) (by simpa using h2) (λj hj=>by simpa using h3 (j+1) (by omega)) (by simpa using h4);simp [jF,hab,this]
def Alike (x y:aL) (k:Nat):Prop:=∀ j,j<k->(x.getD j 0).toNat=(y.getD j 0).toNat
theorem Alike.next {x y:aL} {k:Nat} (h:Alike x y k) (e:(x.getD k 0).toNat=(y.getD k 0).toNat):Alike x y (k+1):=λj hj=>by
 by_cases hjk:j=k
 .subst hjk; exact e
 .exact h j (by omega)
theorem qV (a b:aJ) (n m c d:Nat) (x y:aL) (hn:n<=1000000) (_hm:m<=1000000) (w:World) (ha:bq w a n c x) (hb:bq w b m d y) :
  Calls prog 149 #[.slice a n c,.slice b m d] w λe w'=>e = .returned (.int .i64 (jF x y:Nat))/\∃ q,w'=w.drewN q:=by
 have HA:=hid ha;have HB:=hid hb;clear ha hb;go_enter func149,ntmps149;go_wp2;go_loopw [5] (λi wr=>∃ k:Nat,k<=n/\k<=m/\i = .int .i64 k/\Hid (Alike x y k)/\∃ q,wr=w.drewN q) (λi _=>n-(intOf i).toNat)
 case atStart=>exact ⟨0,Nat.zero_le _,Nat.zero_le _,rfl,hid (λj hj=>absurd hj (Nat.not_lt_zero _)),0,rfl⟩
 case round =>
  obtain ⟨k,hk,hkm,rfl,HK,q,rfl⟩:=hrel;by_cases hlt:k<n/\k<m
  .obtain ⟨h1,h2⟩:=hlt;obtain ⟨b1,off1,rfl,_,hc1⟩:=HA.out.at' k h1;obtain ⟨b2,off2,rfl,_,hc2⟩:=HB.out.at' k h2;obtain ⟨u,hu⟩:=av ((x.getD k 0).toNat)
   obtain ⟨v,hv⟩:=av ((y.getD k 0).toNat)
   rw [hu] at hc1;rw [hv] at hc2;by_cases huv:u=v
   .subst huv;have HN:=hid (HK.out.next (hu.trans hv.symm));clear hu hv;have hd:decide ((k:Int)<min (n:Int) (m:Int))=true:=aI (by omega);go_wp2_with fail
    go_quiet (fail)
    go_wp2;go_roundw
    case rel=>exact ⟨k+1,by omega,by omega,by go_num,HN,(by first | exact ⟨_,rfl⟩ | exact ⟨_,World.drewN_drewN ..⟩)⟩
    case measure=>simp [intOf]; omega
   .have HE:Hid (jF x y=k):=hid (lS k x y (by rw [HA.out.len]; exact hk) (by rw [HB.out.len]; exact hkm) HK.out (Or.inr (Or.inr (by rw [hu,hv]; exact huv))));have hd:decide ((k:Int)<min (n:Int) (m:Int))=true:=aI (by omega);have J3:((u:Int)==(v:Int))=false:=by simp; omega
    clear hu hv;go_wp2_with fail
    go_quiet (fail)
    go_wp2;go_ret;exact ⟨by rw [HE.out]; rfl,(by first | exact ⟨_,rfl⟩ | exact ⟨_,World.drewN_drewN ..⟩)⟩
  .have HE:Hid (jF x y=k):=hid (lS k x y (by rw [HA.out.len]; exact hk) (by rw [HB.out.len]; exact hkm) HK.out (by rw [HA.out.len,HB.out.len]; omega));have hd:decide ((k:Int)<min (n:Int) (m:Int))=false:=decide_eq_false (by omega);go_wp2_with fail
   go_quiet (fail)
   go_wp2;go_ret;exact ⟨by rw [HE.out]; rfl,(by first | exact ⟨_,rfl⟩ | exact ⟨_,World.drewN_drewN ..⟩)⟩
theorem Ik (a b:aJ) (n m c d:Nat) (x y:aL) (hn:n<=1000000) (_hm:m<=1000000) (w:World) (ha:bq w a n c x) (hb:bq w b m d y) :
  Calls prog 39 #[.slice a n c,.slice b m d] w λe w'=>e = .returned (.int .i64 (jF x y:Nat))/\∃ q,w'=w.drewN q:=by
 have HA:=hid ha;have HB:=hid hb;clear ha hb;go_enter func39,ntmps39;go_wp2;go_loopw [5] (λi wr=>∃ k:Nat,k<=n/\k<=m/\i = .int .i64 k/\Hid (Alike x y k)/\∃ q,wr=w.drewN q) (λi _=>n-(intOf i).toNat)
 case atStart=>exact ⟨0,Nat.zero_le _,Nat.zero_le _,rfl,hid (λj hj=>absurd hj (Nat.not_lt_zero _)),0,rfl⟩
 case round =>
  obtain ⟨k,hk,hkm,rfl,HK,q,rfl⟩:=hrel;by_cases h1:k<n
  .by_cases h2:k<m
   .obtain ⟨b1,off1,rfl,_,hc1⟩:=HA.out.at' k h1;obtain ⟨b2,off2,rfl,_,hc2⟩:=HB.out.at' k h2;obtain ⟨u,hu⟩:=av ((x.getD k 0).toNat)
    obtain ⟨v,hv⟩:=av ((y.getD k 0).toNat)
    rw [hu] at hc1;rw [hv] at hc2;have hd:decide ((m:Int)<=(k:Int))=false:=decide_eq_false (by omega);by_cases huv:u=v
    .subst huv;have HN:=hid (HK.out.next (hu.trans hv.symm));clear hu hv;go_wp2_with fail
     go_quiet (fail)
     go_wp2;go_roundw
     case rel=>exact ⟨k+1,by omega,by omega,by go_num,HN,(by first | exact ⟨_,rfl⟩ | exact ⟨_,World.drewN_drewN ..⟩)⟩
     case measure=>simp [intOf]; omega
    .have HE:Hid (jF x y=k):=hid (lS k x y (by rw [HA.out.len]; exact hk) (by rw [HB.out.len]; exact hkm) HK.out (Or.inr (Or.inr (by rw [hu,hv]; exact huv))));have J3:((u:Int) != (v:Int))=true:=by simp; omega
     clear hu hv;go_wp2_with fail
     go_quiet (fail)
     go_wp2;go_ret;exact ⟨by rw [HE.out]; rfl,(by first | exact ⟨_,rfl⟩ | exact ⟨_,World.drewN_drewN ..⟩)⟩
   .have HE:Hid (jF x y=k):=hid (lS k x y (by rw [HA.out.len]; exact hk) (by rw [HB.out.len]; exact hkm) HK.out (by rw [HA.out.len,HB.out.len]; omega));have hd:decide ((m:Int)<=(k:Int))=true:=aI (by omega);go_wp2_with fail
    go_quiet (fail)
    go_wp2;go_ret;exact ⟨by rw [HE.out]; rfl,(by first | exact ⟨_,rfl⟩ | exact ⟨_,World.drewN_drewN ..⟩)⟩
  .obtain rfl:k=n:=by omega
   have HE:Hid (jF x y=k):=hid (lS k x y (by rw [HA.out.len]; exact hk) (by rw [HB.out.len]; exact hkm) HK.out (by rw [HA.out.len]; omega));go_wp2;go_ret;exact ⟨by rw [HE.out]; rfl,(by first | exact ⟨_,rfl⟩ | exact ⟨_,World.drewN_drewN ..⟩)⟩
def gZ (n:Nat) (leaf:Bool):Nat:=n%2+if leaf then 2 else 0
def jm (l:aL) (leaf:Bool):aL:=[UInt8.ofNat (gZ l.length leaf)]++((if l.length%2=1 then l.take 1 else [0])++l.drop (l.length%2))
def iA (l:aL) (leaf:Bool):aL:=gy (jm l leaf) (l.length/2+1)
theorem rD (l:aL) (leaf:Bool):(jm l leaf).length=2*(l.length/2+1):=by
 unfold jm;rw [List.length_append,List.length_append,List.length_drop];by_cases h:l.length%2=1
 .rw [if_pos h,List.length_take]; simp; omega
 .rw [if_neg h]; simp; omega
theorem sw (l:aL) (leaf:Bool) (h:dx l=true):dx (jm l leaf)=true:=by
 unfold dx at h ⊢;rw [List.all_eq_true] at h ⊢;intro x hx;unfold jm at hx;simp only [List.mem_append,List.mem_singleton] at hx;rcases hx with hx | hx | hx
 .subst hx;have:gZ l.length leaf<=3:=by unfold gZ; cases leaf <;> simp <;> omega
  simp only [UInt8.toNat_ofNat',decide_eq_true_eq]; omega
 .split at hx
  .exact h x (List.mem_of_mem_take hx)
  .simp at hx; subst hx; decide
 .exact h x (List.mem_of_mem_drop hx)
theorem YE (w:World) (m:UInt8) (v:Value) (hv:v = .int .u8 m.toNat) (a1 a2:aJ) (n1 c1 n2 c2:Nat) (l1 l2:aL) (h1:bq w a1 n1 c1 l1) (h2:bq w a2 n2 c2 l2) :
  Cc.Kk ((w.alloc (.cells #[v] 5)).alloc (.cells #[.slice (some ⟨w.heap.size,0,none⟩) 1 1,.slice a1 n1 c1,.slice a2 n2 c2] 42)) (some ⟨w.heap.size+1,0,none⟩) 3 [[m],l1,l2]:=by
 subst hv;have hb:Below w.heap.size w ((w.alloc (.cells #[.int .u8 m.toNat] 5)).alloc (.cells #[.slice (some ⟨w.heap.size,0,none⟩) 1 1,.slice a1 n1 c1,.slice a2 n2 c2] 42)) :=
  (aG.alloc aF _).alloc (by simp) _
 refine ⟨rfl,λj hj=>⟨w.heap.size+1,0,rfl,by simp,?_⟩⟩
 match j,hj with
 | 0,_ =>
  refine ⟨some ⟨w.heap.size,0,none⟩,1,1,by simp,⟨aF,by unfold maxLen; omega,rfl,λe=>(by cases e),λq hq=>?_⟩⟩;obtain rfl:q=0:=by omega
  exact ⟨w.heap.size,0,rfl,by simp; omega,by simp⟩
 | 1,_=>exact ⟨a1,n1,c1,by simp,h1.below hb⟩
 | 2,_=>exact ⟨a2,n2,c2,by simp,h2.below hb⟩
theorem nM (l:aL) (leaf:Bool) (mk:UInt8) (l1 l2:aL) (hf:[mk]++(l1++l2)=jm l leaf) (hl:l.length<=64) (v:Value) (hv:v = .int .u8 mk.toNat) (w:World) (a1 a2:aJ) (n1 c1 n2 c2:Nat) (h1:bq w a1 n1 c1 l1) (h2:bq w a2 n2 c2 l2) :
  Calls prog 148 #[.slice (some ⟨w.heap.size+1,0,none⟩) 3 3] ((w.alloc (.cells #[v] 5)).alloc (.cells #[.slice (some ⟨w.heap.size,0,none⟩) 1 1,.slice a1 n1 c1,.slice a2 n2 c2] 42)) λe w'=>∃ a n cap,e = .returned (.slice a n cap)/\bq w' a n cap (jm l leaf)/\Below w.heap.size w w':=by
 have e:[[mk],l1,l2].flatten=jm l leaf:=by rw [<-hf]; simp
 refine (Sn _ 3 3 [[mk],l1,l2] (by omega) (by rw [e,rD]; omega) _ (YE w mk v hv a1 a2 n1 c1 n2 c2 l1 l2 h1 h2)).mono ?_;rintro en w' ⟨a,n,cap,rfl,hx,hb⟩;rw [e] at hx;exact ⟨a,n,cap,rfl,hx,((aG.alloc aF _).alloc (by simp) _).trans (hb.mono (by simp; omega))⟩
theorem lU (l:aL) (leaf:Bool) (hr:dx l=true) (hl:l.length<=64) (a:aJ) (n cap:Nat) (w:World) (h:bq w a n cap (jm l leaf)) :
  Calls prog 147 #[.slice a n cap] w λe w'=>e = .returned (.string ⟨(iA l leaf).toArray⟩)/\Below w.heap.size w w':=by
 have hn:n=2*(l.length/2+1):=by rw [<-h.len,rD]
 refine (xR a n cap (jm l leaf) (sw l leaf hr) (by omega) (by omega) w h).mono ?_;rintro e w' ⟨rfl,hb⟩;have e2:n/2=l.length/2+1:=by omega
 refine ⟨?_,hb⟩;unfold iA;rw [e2]
theorem TY:(prog.info? 5).map (λi=>(i.zero,i.size,i.bytes))=some (some (.int .u8 0),1,1):=by kernel_rfl
theorem Eh (l:aL) (leaf:Bool) (h:l.length%2=0):[UInt8.ofNat (gZ l.length leaf)]++([0]++l)=jm l leaf:=by
 unfold jm;rw [if_neg (by omega),h,List.drop_zero]
theorem QX (a:aJ) (n c:Nat) (l:aL) (leaf:Bool) (hn:n<=64) (h2:n%2=0) (hr:dx l=true) (w:World) (h:bq w a n c l) :
  Calls prog 110 #[.slice a n c,.bool leaf] w λe w'=>e = .returned (.tuple #[.string ⟨(iA l leaf).toArray⟩,.int .i64 0])/\Below w.heap.size w w':=by
 have hR:=fC a n c l w h;rw [hr] at hR;have HR:=hid hR;have hnc:=h.1;have hcm:=h.2.1;unfold maxLen at hcm;have H:=hid h;have hm:(n:Int)%2=0:=by omega
 obtain ⟨i0,hi,hz0,hz1,hz2⟩:=info_parts TY;have HI:Hid (_/\_/\_/\_):=hid ⟨hi,hz0,hz1,hz2⟩;have dC:=hid (Eh l false (by rw [h.len]; exact h2));have fy:=hid (Eh l true (by rw [h.len]; exact h2));have dE:Hid (Value.int .u8 0 = .int .u8 (UInt8.ofNat (gZ l.length false)).toNat):=hid (by simp [gZ,h.len,h2]);have fL:Hid (Value.int .u8 (bits .or .u8 0 2) = .int .u8 (UInt8.ofNat (gZ l.length true)).toNat):=hid (by simp [gZ,h.len,h2]; decide +kernel);have HRR:=hid hr;have hll:l.length<=64:=by rw [h.len]; exact hn
 clear hR hr h h2 hi hz0 hz1 hz2;cases leaf
 .go_enter func110,ntmps110;go_wp2_with fail
  refine HR.out.mono ?_;rintro e w1 ⟨rfl,rfl⟩;go_wp2_with fail
  go_quiet ((go_at_call 146; exact Calls.quiet_of_same (AQ _ _ _ _)))
  go_wp2_with (at_builtin; refine wpList_append_grows _ rfl (.tmp 30) (.tmp 31) 42 rfl 5 i0 (.int .u8 0) 1 1 underlying42 HI.out.1 HI.out.2.1 HI.out.2.2.1 HI.out.2.2.2 rfl (by decide) a 0 0 [] rfl (λ_=>⟨rfl,rfl⟩) rfl (by intro _ _ _ _ h; simp at h) ⟨w.heap.size,0,none⟩ 1 1 [.int .u8 0] rfl rfl ?c1 ?c2 (by omega) (by unfold maxLen; omega) (by omega) ?grow)
  case c1=>exact Bu.cell_one_new' _ _ _ _
  case c2=>intro u hu; simp at hu; subst hu; rfl
  case grow =>
   intro v' w2 hown hg;obtain ⟨a',cap',rfl,hx⟩:=bq.qx (l:=[0]) hown;have HX:=hid hx;have H2:=hid (((H.out.drewN nq).alloc (.cells #[.int .u8 0] 5)).grown hg);clear hx hown;go_wp2_with fail
   refine (nM l false (UInt8.ofNat (gZ l.length false)) [0] l dC.out (by omega) _ dE.out _ _ _ _ _ _ _ HX.out H2.out).mono ?_;rintro e w3 ⟨a3,n3,c3,rfl,hx3,hb3⟩;go_wp2_with fail
   refine (lU l false HRR.out (by omega) _ _ _ _ hx3).mono ?_;rintro e w4 ⟨rfl,hb4⟩;go_wp2;go_ret2
   have hbw:Below w.heap.size w w2:=((below_drewN (Below.refl w.heap.size w) nq).alloc aF _).grown hg (by simp) (λk hk=>by cases hk);exact ⟨rfl,(hbw.trans (hb3.mono hbw.size)).trans (hb4.mono (Nat.le_trans hbw.size hb3.size))⟩
 .go_enter func110,ntmps110;go_wp2_with fail
  refine HR.out.mono ?_;rintro e w1 ⟨rfl,rfl⟩;go_wp2_with fail
  go_quiet ((go_at_call 146; exact Calls.quiet_of_same (AQ _ _ _ _)))
  go_wp2_with (at_builtin; refine wpList_append_grows _ rfl (.tmp 30) (.tmp 31) 42 rfl 5 i0 (.int .u8 0) 1 1 underlying42 HI.out.1 HI.out.2.1 HI.out.2.2.1 HI.out.2.2.2 rfl (by decide) a 0 0 [] rfl (λ_=>⟨rfl,rfl⟩) rfl (by intro _ _ _ _ h; simp at h) ⟨w.heap.size,0,none⟩ 1 1 [.int .u8 0] rfl rfl ?d1 ?d2 (by omega) (by unfold maxLen; omega) (by omega) ?B9)
  case d1=>exact Bu.cell_one_new' _ _ _ _
  case d2=>intro u hu; simp at hu; subst hu; rfl
  case B9 =>
   intro v' w2 hown hg;obtain ⟨a',cap',rfl,hx⟩:=bq.qx (l:=[0]) hown;have HX:=hid hx;have H2:=hid (((H.out.drewN nq).alloc (.cells #[.int .u8 0] 5)).grown hg);clear hx hown;go_wp2_with fail
   refine (nM l true (UInt8.ofNat (gZ l.length true)) [0] l fy.out (by omega) _ fL.out _ _ _ _ _ _ _ HX.out H2.out).mono ?_;rintro e w3 ⟨a3,n3,c3,rfl,hx3,hb3⟩;go_wp2_with fail
   refine (lU l true HRR.out (by omega) _ _ _ _ hx3).mono ?_;rintro e w4 ⟨rfl,hb4⟩;go_wp2;go_ret2
   have hbw:Below w.heap.size w w2:=((below_drewN (Below.refl w.heap.size w) nq).alloc aF _).grown hg (by simp) (λk hk=>by cases hk);exact ⟨rfl,(hbw.trans (hb3.mono hbw.size)).trans (hb4.mono (Nat.le_trans hbw.size hb3.size))⟩
theorem GU (l:aL) (leaf:Bool) (h:l.length%2=1):[UInt8.ofNat (gZ l.length leaf)]++(l.take 1++l.drop 1)=jm l leaf:=by
 unfold jm;rw [if_pos h,h]
theorem Uv {b n c:Nat} {l:aL} (h:bq w (some ⟨b,off,none⟩) n c l) (h1:1<=n):bq w (some ⟨b,off,none⟩) 1 1 (l.take 1):=by
 refine ⟨aF,by unfold maxLen; omega,by rw [List.length_take,h.len]; omega,λe=>(by cases e),λq hq=>?_⟩;obtain rfl:q=0:=by omega
 obtain ⟨b',off',e,h2,h3⟩:=h.at' 0 (by omega);simp at e;obtain ⟨rfl,rfl⟩:=e;refine ⟨b,off,rfl,h2,?_⟩;have e:(l.take 1).getD 0 0=l.getD 0 0:=by simp [List.getD]
 rw [e]; exact h3
theorem TQ {b:Nat} {l:aL} (h:bq w (some ⟨b,off,none⟩) 1 1 l):bq w (some ⟨b,off,none⟩) 0 0 (l.drop 1) :=
 ⟨aF,Nat.zero_le _,by rw [List.length_drop,h.len],λ_=>rfl,λq hq=>absurd hq (Nat.not_lt_zero _)⟩
theorem Va {b n c:Nat} {l:aL} (h:bq w (some ⟨b,off,none⟩) n c l) (h1:1<=n):bq w (some ⟨b,off+1,none⟩) (n-1) (c-1) (l.drop 1):=by
 have hnc:=h.1;have hcm:=h.2.1;refine ⟨by omega,by omega,by rw [List.length_drop,h.len],λe=>(by cases e),λq hq=>?_⟩;obtain ⟨b',off',e,h2,h3⟩:=h.at' (1+q) (by omega);simp at e;obtain ⟨rfl,rfl⟩:=e;refine ⟨b,off+1,rfl,h2,?_⟩;have e:(l.drop 1).getD q 0=l.getD (1+q) 0:=by simp [List.getD,Nat.add_comm]
 rw [e,Nat.add_assoc]; exact h3
theorem Ua (b off:Nat) (n c:Nat) (l:aL) (leaf:Bool) (hn:n<=64) (h2:n%2=1) (hr:dx l=true) (w:World) (h:bq w (some ⟨b,off,none⟩) n c l) :
  Calls prog 110 #[.slice (some ⟨b,off,none⟩) n c,.bool leaf] w λe w'=>e = .returned (.tuple #[.string ⟨(iA l leaf).toArray⟩,.int .i64 0])/\Below w.heap.size w w':=by
 have hR:=fC _ n c l w h;rw [hr] at hR;have HR:=hid hR;have hnc:=h.1;have hcm:=h.2.1;unfold maxLen at hcm;have H:=hid h;have hm:(n:Int)%2=1:=by omega
 have hn1:1<=n:=by omega
 have HRR:=hid hr;have hll:l.length<=64:=by rw [h.len]; exact hn
 have hw1:IntKind.i64.wrap 1=1:=by kernel_rfl
 have hc1:1<=c:=by omega
 have dC:=hid (GU l false (by rw [h.len]; exact h2));have fy:=hid (GU l true (by rw [h.len]; exact h2));have dE:Hid (Value.int .u8 1 = .int .u8 (UInt8.ofNat (gZ l.length false)).toNat):=hid (by simp [gZ,h.len,h2]);have fL:Hid (Value.int .u8 (bits .or .u8 1 2) = .int .u8 (UInt8.ofNat (gZ l.length true)).toNat):=hid (by simp [gZ,h.len,h2]; decide +kernel);have H1:Hid (bq w (some ⟨b,off,none⟩) 1 1 (l.take 1)):=hid (Uv h hn1);clear hR hr h h2;by_cases hcc:c=1
 .subst hcc;obtain rfl:n=1:=by omega
  have H2:Hid (bq w (some ⟨b,off,none⟩) 0 0 (l.drop 1)):=hid (TQ H.out);clear H;cases leaf
  .go_enter func110,ntmps110;go_wp2_with fail
   refine HR.out.mono ?_;rintro e w1 ⟨rfl,rfl⟩;go_wp2_with fail
   go_quiet ((go_at_call 146; exact Calls.quiet_of_same (uw _ _ _ _ hc1 _ hcm)))
   clear hw1;go_wp2_with fail
   refine (nM l false (UInt8.ofNat (gZ l.length false)) (l.take 1) (l.drop 1) dC.out hll _ dE.out _ _ _ _ _ _ _ (H1.out.drewN _) (H2.out.drewN _)).mono ?_;rintro e w3 ⟨a3,n3,c3,rfl,hx3,hb3⟩;go_wp2_with fail
   refine (lU l false HRR.out hll _ _ _ _ hx3).mono ?_;rintro e w4 ⟨rfl,hb4⟩;go_wp2;go_ret2
   exact ⟨rfl,((below_drewN (Below.refl w.heap.size w) _).trans hb3).trans (hb4.mono hb3.size)⟩
  .go_enter func110,ntmps110;go_wp2_with fail
   refine HR.out.mono ?_;rintro e w1 ⟨rfl,rfl⟩;go_wp2_with fail
   go_quiet ((go_at_call 146; exact Calls.quiet_of_same (uw _ _ _ _ hc1 _ hcm)))
   clear hw1;go_wp2_with fail
   refine (nM l true (UInt8.ofNat (gZ l.length true)) (l.take 1) (l.drop 1) fy.out hll _ fL.out _ _ _ _ _ _ _ (H1.out.drewN _) (H2.out.drewN _)).mono ?_;rintro e w3 ⟨a3,n3,c3,rfl,hx3,hb3⟩;go_wp2_with fail
   refine (lU l true HRR.out hll _ _ _ _ hx3).mono ?_;rintro e w4 ⟨rfl,hb4⟩;go_wp2;go_ret2
   exact ⟨rfl,((below_drewN (Below.refl w.heap.size w) _).trans hb3).trans (hb4.mono hb3.size)⟩
 .have H2:Hid (bq w (some ⟨b,off+1,none⟩) (n-1) (c-1) (l.drop 1)):=hid (Va H.out hn1);clear H;cases leaf
  .go_enter func110,ntmps110;go_wp2_with fail
   refine HR.out.mono ?_;rintro e w1 ⟨rfl,rfl⟩;go_wp2_with fail
   go_quiet ((go_at_call 146; exact Calls.quiet_of_same (uw _ _ _ _ hc1 _ hcm)))
   clear hw1;go_wp2_with fail
   refine (nM l false (UInt8.ofNat (gZ l.length false)) (l.take 1) (l.drop 1) dC.out hll _ dE.out _ _ _ _ _ _ _ (H1.out.drewN _) (H2.out.drewN _)).mono ?_;rintro e w3 ⟨a3,n3,c3,rfl,hx3,hb3⟩;go_wp2_with fail
   refine (lU l false HRR.out hll _ _ _ _ hx3).mono ?_;rintro e w4 ⟨rfl,hb4⟩;go_wp2;go_ret2
   exact ⟨rfl,((below_drewN (Below.refl w.heap.size w) _).trans hb3).trans (hb4.mono hb3.size)⟩
  .go_enter func110,ntmps110;go_wp2_with fail
   refine HR.out.mono ?_;rintro e w1 ⟨rfl,rfl⟩;go_wp2_with fail
   go_quiet ((go_at_call 146; exact Calls.quiet_of_same (uw _ _ _ _ hc1 _ hcm)))
   clear hw1;go_wp2_with fail
   refine (nM l true (UInt8.ofNat (gZ l.length true)) (l.take 1) (l.drop 1) fy.out hll _ fL.out _ _ _ _ _ _ _ (H1.out.drewN _) (H2.out.drewN _)).mono ?_;rintro e w3 ⟨a3,n3,c3,rfl,hx3,hb3⟩;go_wp2_with fail
   refine (lU l true HRR.out hll _ _ _ _ hx3).mono ?_;rintro e w4 ⟨rfl,hb4⟩;go_wp2;go_ret2
   exact ⟨rfl,((below_drewN (Below.refl w.heap.size w) _).trans hb3).trans (hb4.mono hb3.size)⟩
end Ni
end
end Go.Proofs.YtlcplcgigjagpaaGreatDoor
