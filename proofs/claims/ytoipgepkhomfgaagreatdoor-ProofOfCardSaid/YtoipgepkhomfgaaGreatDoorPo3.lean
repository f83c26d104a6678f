/-
 Contracts of nib.spread and nib.pairs.
-/
import Derived.Test.YtoipgepkhomfgaaGreatDoorPo2
import Derived.BigQuiet
open Go.Lib (hid)
open Go.Proofs.Tryz
set_option linter.unusedSimpArgs false
set_option linter.unusedVariables false
set_option maxHeartbeats 40000000
set_option maxRecDepth 100000
namespace Go.Proofs.YtoipgepkhomfgaaGreatDoor
variable {w wr:World} {k:Nat}
section
open Go.RowKit
namespace Ni
def ig (s:aL):aM:=(List.range (2*s.size)).map λi=>UInt8.ofNat (dX s i)
theorem wI (s:aL) (i:Nat):dX s i<16:=by
 unfold dX;have:=UInt8.toNat_lt (s.data.toList.getD (i/2) 0);split <;> omega
theorem gL (s:aL):(ig s).length=2*s.size:=by simp [ig]
theorem mH (s:aL) (i:Nat) (h:i<2*s.size):((ig s).getD i 0).toNat=dX s i:=by
 have:=wI s i;simp [ig,List.getD,h];omega
def Spr (w:World) (s:aL) (k:Nat) (wr:World):Prop :=
 wr.rowIs (w.heap.size+1) 5 (2*s.size) (λj=>.int .u8 (if j<k then dX s j else 0:Nat))/\wr.cell? ⟨w.heap.size,0,none⟩=some (.string s)/\Below w.heap.size w wr
theorem Spr.next {s:aL} (h:Spr w s k wr) (hk:k<2*s.size):Spr w s (k+1) (wr.setCell ⟨w.heap.size+1,k,none⟩ (.int .u8 (dX s k:Nat))):=by
 refine ⟨(h.1.set k _).congr ?_,?_,h.2.2.setCell (p:=⟨w.heap.size+1,k,none⟩) (by simp) _⟩
 .intro j hj;by_cases e:j=k
  .subst e; simp
  .have:j<k+1↔j<k:=by omega
   simp [e,this]
 .rw [World.cell?_setCell_other _ _ _ _ (by simp)];exact h.2.1
theorem Spr.start (w:World) (s:aL):Spr w s 0 ((w.alloc (.cells #[.string s] 9)).alloc (.cells (madeCells #[.int .u8 0] (2*s.size)) 5)):=by
 refine ⟨?_,?_,(aH.alloc aG _).alloc (by simp) _⟩
 .have:=World.rowIs_made (w.alloc (.cells #[.string s] 9)) (.int .u8 0) (2*s.size) 5;simpa using this
 .simp
theorem kX:(prog.info? 5).map (λi=>(i.zero,i.size,i.bytes))=some (some (.int .u8 0),1,1):=by kernel_rfl
theorem Cg (s:aL) (hs:s.size<=1000) (w:World) :
  Calls prog 71 #[.string s] w (UM w (ig s)):=by
 obtain ⟨m,hm⟩:=ay (2*s.size)
 have hmk:=run_make_row' (P:=prog) 40 5 (.int .u8 0) 1 underlying40 kX rfl .i64 .i64 m (by omega) (by omega);have e:((m:Nat):Int)=2*(s.size:Int):=by omega
 rw [e] at hmk;have HS:=hid (Spr.start w s);rw [hm] at HS;have HM:=hid hm;have hm2:m<=2*s.size:=by omega
 clear e hm;go_enter func71,ntmps71;go_wp2_with fail
 refine (eH _ _).mono ?_;rintro e w1 ⟨rfl,rfl⟩;go_wp2;clear hmk;go_loopw [14] (λi wr=>∃ k:Nat,k<=m/\i = .int .i64 k/\Spr w s k wr) (λi _=>m-(intOf i).toNat)
 case atStart=>exact ⟨0,Nat.zero_le _,rfl,HS.out⟩
 case round =>
  obtain ⟨k,hk,rfl,hS⟩:=hrel;by_cases hlt:k<m
  .have hc:=hS.2.1;have hz:=hS.1.lt;have hcell:wr.cell? ⟨w.heap.size+1,k,none⟩=some (.int .u8 0):=by
    rw [hS.1.cell (by rw [HM.out]; exact hlt)]; simp
   have hfr:=hS.1.frozen k;go_wp2_with fail
   refine (kJ _ s k (by unfold maxLen; omega) (by omega) _ hc).mono ?_;rintro e w2 ⟨rfl,rfl⟩;go_wp2;go_roundw
   case rel=>exact ⟨k+1,by omega,by go_num,hS.next (by rw [HM.out]; exact hlt)⟩
   case measure=>simp [intOf]; omega
  .obtain rfl:k=m:=by omega
   have HG:Hid (aZ wr (some ⟨w.heap.size+1,0,none⟩) k k (ig s)):=hid (by
    refine aZ.ofRow (ig s) (by unfold maxLen; omega) (by have:=hS.1; rw [HM.out] at this; exact this) (by rw [gL,HM.out]) (λj hj=>?_);rw [if_pos hj,mH s j (by rw [HM.out]; exact hj)])
   have hB:=hS.2.2;go_wp2;go_ret;exact ⟨_,_,_,rfl,HG.out,hB⟩
def gB (l:aM) (k:Nat):aM:=(List.range k).map λj=>UInt8.ofNat (16*(l.getD (2*j) 0).toNat+(l.getD (2*j+1) 0).toNat)
theorem Jo (l:aM) (k:Nat):gB l (k+1)=gB l k++[UInt8.ofNat (16*(l.getD (2*k) 0).toNat+(l.getD (2*k+1) 0).toNat)]:=by
 simp [gB,List.range_succ]
theorem mK (l:aM) (k:Nat):(gB l k).length=k:=by simp [gB]
theorem YC:∀ x:Fin 16,IntKind.u8.wrap (((x:Nat):Int)*16)=((x:Nat):Int)*16:=by decide +kernel
theorem Yu:∀ x y:Fin 16,bits .or .u8 (((x:Nat):Int)*16) ((y:Nat):Int)=((16*(x:Nat)+(y:Nat):Nat):Int):=by decide +kernel
theorem kQ (l:aM) (h:dh l=true) (j:Nat):(l.getD j 0).toNat<16:=by
 unfold dh at h;rw [List.all_eq_true] at h;by_cases hj:j<l.length
 .have:=h l[j] (List.getElem_mem _);simp [List.getD,hj] at this ⊢;omega
 .simp [List.getD,hj]
def Prs (w:World) (l:aM) (k:Nat) (wr:World):Prop :=
 Bu.Is w.heap.size w.heap.size (Lib.byteCells (gB l k)) wr/\Below w.heap.size w wr
theorem Prs.start (w:World) (l:aM):Prs w l 0 (w.alloc (.cells #[.pointer none,.slice none 0 0] 165)) :=
 ⟨Bu.fresh aG (by show (w.heap.push _)[w.heap.size]? = _; simp),aH.alloc aG _⟩
theorem Prs.write {l:aM} (h:Prs w l k wr) (hk:k<=1000) (c:Int) (hc:c=((16*(l.getD (2*k) 0).toNat+(l.getD (2*k+1) 0).toNat:Nat):Int)) (hx:(l.getD (2*k) 0).toNat<16) (hy:(l.getD (2*k+1) 0).toNat<16) :
  Calls prog 170 #[.pointer (some ⟨w.heap.size,0,none⟩),.int .u8 c] wr λe w'=>e = .returned .nilIface/\Prs w l (k+1) w':=by
 subst hc;refine (Bu.NY _ h.1 (by rw [Lib.byteCells_length,mK]; omega) h.2.size).mono ?_;rintro e w' ⟨rfl,h1,h2,_⟩;refine ⟨rfl,?_,h.2.trans h2⟩;rw [Jo,Lib.byteCells_append];have e:(UInt8.ofNat (16*(l.getD (2*k) 0).toNat+(l.getD (2*k+1) 0).toNat)).toNat=16*(l.getD (2*k) 0).toNat+(l.getD (2*k+1) 0).toNat:=by
  simp only [UInt8.toNat_ofNat']; omega
 have e2:Lib.byteCells [UInt8.ofNat (16*(l.getD (2*k) 0).toNat+(l.getD (2*k+1) 0).toNat)]=[.int .u8 ((16*(l.getD (2*k) 0).toNat+(l.getD (2*k+1) 0).toNat:Nat):Int)]:=by
  simp only [Lib.byteCells,List.map_cons,List.map_nil,e]
 rw [e2];exact h1
theorem Prs.drew {w wr:World} {l:aM} {k:Nat} (h:Prs w l k wr):Prs w l k wr.drew:=⟨h.1,h.2.drew⟩
theorem xg (a:aK) (n cap:Nat) (l:aM) (hr:dh l=true) (h2:n%2=0) (hn:n<=1000) (w:World) (h:aZ w a n cap l) :
  Calls prog 147 #[.slice a n cap] w λe w'=>e = .returned (.string ⟨(gB l (n/2)).toArray⟩)/\Below w.heap.size w w':=by
 have H:=hid h;have HR:=hid (kQ l hr);have H2:=hid h2;have HS:=hid (Prs.start w l);clear h hr h2;go_enter func147,ntmps147;go_wp2;go_loopw [4] (λi wr=>∃ k:Nat,2*k<=n/\i = .int .i64 (2*k)/\Prs w l k wr) (λi _=>n-(intOf i).toNat)
 case atStart=>exact ⟨0,Nat.zero_le _,rfl,HS.out⟩
 case round =>
  obtain ⟨k,hk,rfl,hP⟩:=hrel;by_cases hlt:2*k<n
  .have hlt1:2*k+1<n:=by have:=H2.out; omega
   obtain ⟨b,off,rfl,hb,hc⟩:=H.out.at' (2*k) hlt;obtain ⟨b',off',h1,_,hc'⟩:=H.out.at' (2*k+1) hlt1;simp at h1;obtain ⟨rfl,rfl⟩:=h1;have hx:=HR.out (2*k);have hy:=HR.out (2*k+1);obtain ⟨x,hxe⟩:=ay ((l.getD (2*k) 0).toNat)
   obtain ⟨y,hye⟩:=ay ((l.getD (2*k+1) 0).toNat)
   have ho:=Yu ⟨x,hxe ▸ hx⟩ ⟨y,hye ▸ hy⟩;have hw16:=YC ⟨x,hxe ▸ hx⟩;have HW:Hid (∀ c:Int,c=bits .or .u8 ((x:Int)*16) (y:Int)->Calls prog 170 #[.pointer (some ⟨w.heap.size,0,none⟩),.int .u8 c] wr.drew λe w'=>e = .returned .nilIface/\Prs w l (k+1) w'):=hid (λc hc=>by
    refine hP.drew.write (by omega) _ ?_ hx hy;rw [hxe,hye,hc];exact ho)
   have hcon:=hid (HW.out _ rfl);have C6:Hid (Calls prog 170 #[.pointer (some ⟨w.heap.size,0,none⟩),.int .u8 (bits .or .u8 (IntKind.u8.wrap ((x:Int)*16)) (y:Int))] wr.drew λe w'=>e = .returned .nilIface/\Prs w l (k+1) w'):=hid (HW.out _ (by rw [show IntKind.u8.wrap ((x:Int)*16)=(x:Int)*16 from hw16]));clear HW ho hw16;rw [hxe] at hc hx;rw [hye] at hc' hy;rw [<-hP.2.cell (p:=⟨b,off+2*k,none⟩) hb] at hc;rw [<-hP.2.cell (p:=⟨b,off+(2*k+1),none⟩) hb] at hc';clear hxe hye;go_wp2_with fail
   have q1:(0:Int)<=2*(k:Int):=by omega
   have q2:2*(k:Int)<(n:Int):=by omega
   have q3:(0:Int)<=2*(k:Int)+1:=by omega
   have q4:2*(k:Int)+1<(n:Int):=by omega
   have q5:(2*(k:Int)).toNat=2*k:=by omega
   have q6:(2*(k:Int)+1).toNat=2*k+1:=by omega
   have q7:IntKind.i64.wrap (2*(k:Int)+1)=2*(k:Int)+1:=IntWalk.i64_in _ (by omega);go_region_with (go_at_call 170; (first | (with_reducible refine hcon.out.mono ?_) | (with_reducible refine C6.out.mono ?_)); rintro e w' ⟨rfl,hP2⟩)
   all_goals clear q7 q6 q5
   all_goals go_wp2
   all_goals
    go_roundw
    case rel=>exact ⟨k+1,by omega,by go_num,hP2⟩
    case measure=>simp [intOf]; omega
  .have hkk:k=n/2:=by have:=H2.out; omega
   have HP:Hid (Prs w l (n/2) wr):=hid (by rw [<-hkk]; exact hP);clear hkk;go_wp2_with (go_at_call 96; refine (Bu.text HP.out.1 HP.out.2.size).mono ?_)
   rintro e w2 ⟨rfl,hb2⟩;go_wp2;go_ret;exact ⟨rfl,HP.out.2.trans hb2⟩
theorem Vj (a:aK) (n cap:Nat) (ls:List (aM)) (hn:n<=1000000) (hL:ls.flatten.length<=1099511627776) (w:World) (h:Cc.AX w a n ls) :
  Calls prog 148 #[.slice a n cap] w (UM w ls.flatten):=by
 have hc:=Cc.Bt a n cap ls hn hL w h;obtain ⟨r,hr⟩:=ay ls.flatten
 rw [hr] at hc ⊢;have HC:=hid hc;clear hc hr hL h;go_enter func148,ntmps148;go_wp2_with fail
 refine HC.out.mono ?_;rintro e w1 ⟨v,rfl,hown,hb⟩;obtain ⟨a',cap',rfl,hx⟩:=aZ.mQ hown;clear hown;go_wp2;go_ret;exact ⟨_,_,_,rfl,hx,hb⟩
def jQ:aM->aM->Nat
 | a::xs,b::ys=>if a=b then jQ xs ys+1 else 0
 | _,_=>0
theorem mE:∀ (k:Nat) (xs ys:aM),k<=xs.length->k<=ys.length->(∀ j,j<k->(xs.getD j 0).toNat=(ys.getD j 0).toNat)->
  (k=xs.length\/k=ys.length\/(xs.getD k 0).toNat≠(ys.getD k 0).toNat)->jQ xs ys=k
 | 0,[],_,_,_,_,_=>rfl
 | 0,_::_,[],_,_,_,_=>rfl
 | 0,a::xs,b::ys,_,_,_,h=>by
  have hne:a≠b:=by
   rintro rfl;simp at h
  simp [jQ,hne]
 | k+1,[],_,h,_,_,_=>absurd h (by simp)
 | k+1,_::_,[],_,h,_,_=>absurd h (by simp)
 | k+1,a::xs,b::ys,h1,h2,h3,h4=>by
  have hab:a=b:=UInt8.toNat_inj.1 (by simpa using h3 0 (by omega));have:=mE k xs ys (by simpa using h1) (by simpa using h2) (λj hj=>by simpa using h3 (j+1) (by omega)) (by simpa using h4);simp [jQ,hab,this]
def Alike (x y:aM) (k:Nat):Prop:=∀ j,j<k->(x.getD j 0).toNat=(y.getD j 0).toNat
theorem Alike.next {x y:aM} (h:Alike x y k) (e:(x.getD k 0).toNat=(y.getD k 0).toNat):Alike x y (k+1):=λj hj=>by
 by_cases hjk:j=k
 .subst hjk; exact e
 .exact h j (by omega)
theorem rE (a b:aK) (n m c d:Nat) (x y:aM) (hn:n<=1000000) (_hm:m<=1000000) (w:World) (ha:aZ w a n c x) (hb:aZ w b m d y) :
  Calls prog 158 #[.slice a n c,.slice b m d] w λe w'=>e = .returned (.int .i64 (jQ x y:Nat))/\∃ q,w'=w.drewN q:=by
 have HA:=hid ha;have HB:=hid hb;clear ha hb;go_enter func158,ntmps158;go_wp2;go_loopw [5] (λi wr=>∃ k:Nat,k<=n/\k<=m/\i = .int .i64 k/\Hid (Alike x y k)/\∃ q,wr=w.drewN q) (λi _=>n-(intOf i).toNat)
 case atStart=>exact ⟨0,Nat.zero_le _,Nat.zero_le _,rfl,hid (λj hj=>absurd hj (Nat.not_lt_zero _)),0,rfl⟩
 case round =>
  obtain ⟨k,hk,hkm,rfl,HK,q,rfl⟩:=hrel;by_cases hlt:k<n/\k<m
  .obtain ⟨h1,h2⟩:=hlt;obtain ⟨b1,off1,rfl,_,hc1⟩:=HA.out.at' k h1;obtain ⟨b2,off2,rfl,_,hc2⟩:=HB.out.at' k h2;obtain ⟨u,hu⟩:=ay ((x.getD k 0).toNat)
   obtain ⟨v,hv⟩:=ay ((y.getD k 0).toNat)
   rw [hu] at hc1;rw [hv] at hc2;by_cases huv:u=v
   .subst huv;have HN:=hid (HK.out.next (hu.trans hv.symm));clear hu hv;have hd:decide ((k:Int)<min (n:Int) (m:Int))=true:=aJ (by omega);go_wp2_with fail
    go_quiet (fail)
    go_wp2;go_roundw
    case rel=>exact ⟨k+1,by omega,by omega,by go_num,HN,(by first | exact ⟨_,rfl⟩ | exact ⟨_,World.drewN_drewN ..⟩)⟩
    case measure=>simp [intOf]; omega
   .have HE:Hid (jQ x y=k):=hid (mE k x y (by rw [HA.out.len]; exact hk) (by rw [HB.out.len]; exact hkm) HK.out (Or.inr (Or.inr (by rw [hu,hv]; exact huv))));have hd:decide ((k:Int)<min (n:Int) (m:Int))=true:=aJ (by omega);have Lq:((u:Int)==(v:Int))=false:=by simp; omega
    clear hu hv;go_wp2_with fail
    go_quiet (fail)
    go_wp2;go_ret;exact ⟨by rw [HE.out]; rfl,(by first | exact ⟨_,rfl⟩ | exact ⟨_,World.drewN_drewN ..⟩)⟩
  .have HE:Hid (jQ x y=k):=hid (mE k x y (by rw [HA.out.len]; exact hk) (by rw [HB.out.len]; exact hkm) HK.out (by rw [HA.out.len,HB.out.len]; omega));have hd:decide ((k:Int)<min (n:Int) (m:Int))=false:=decide_eq_false (by omega);go_wp2_with fail
   go_quiet (fail)
   go_wp2;go_ret;exact ⟨by rw [HE.out]; rfl,(by first | exact ⟨_,rfl⟩ | exact ⟨_,World.drewN_drewN ..⟩)⟩
theorem yT (a b:aK) (n m c d:Nat) (x y:aM) (hn:n<=1000000) (_hm:m<=1000000) (w:World) (ha:aZ w a n c x) (hb:aZ w b m d y) :
  Calls prog 55 #[.slice a n c,.slice b m d] w λe w'=>e = .returned (.int .i64 (jQ x y:Nat))/\∃ q,w'=w.drewN q:=by
 have HA:=hid ha;have HB:=hid hb;clear ha hb;go_enter func55,ntmps55;go_wp2;go_loopw [5] (λi wr=>∃ k:Nat,k<=n/\k<=m/\i = .int .i64 k/\Hid (Alike x y k)/\∃ q,wr=w.drewN q) (λi _=>n-(intOf i).toNat)
 case atStart=>exact ⟨0,Nat.zero_le _,Nat.zero_le _,rfl,hid (λj hj=>absurd hj (Nat.not_lt_zero _)),0,rfl⟩
 case round =>
  obtain ⟨k,hk,hkm,rfl,HK,q,rfl⟩:=hrel;by_cases h1:k<n
  .by_cases h2:k<m
   .obtain ⟨b1,off1,rfl,_,hc1⟩:=HA.out.at' k h1;obtain ⟨b2,off2,rfl,_,hc2⟩:=HB.out.at' k h2;obtain ⟨u,hu⟩:=ay ((x.getD k 0).toNat)
    obtain ⟨v,hv⟩:=ay ((y.getD k 0).toNat)
    rw [hu] at hc1;rw [hv] at hc2;have hd:decide ((m:Int)<=(k:Int))=false:=decide_eq_false (by omega);by_cases huv:u=v
    .subst huv;have HN:=hid (HK.out.next (hu.trans hv.symm));clear hu hv;go_wp2_with fail
     go_quiet (fail)
     go_wp2;go_roundw
     case rel=>exact ⟨k+1,by omega,by omega,by go_num,HN,(by first | exact ⟨_,rfl⟩ | exact ⟨_,World.drewN_drewN ..⟩)⟩
     case measure=>simp [intOf]; omega
    .have HE:Hid (jQ x y=k):=hid (mE k x y (by rw [HA.out.len]; exact hk) (by rw [HB.out.len]; exact hkm) HK.out (Or.inr (Or.inr (by rw [hu,hv]; exact huv))));have Lq:((u:Int) != (v:Int))=true:=by simp; omega
     clear hu hv;go_wp2_with fail
     go_quiet (fail)
     go_wp2;go_ret;exact ⟨by rw [HE.out]; rfl,(by first | exact ⟨_,rfl⟩ | exact ⟨_,World.drewN_drewN ..⟩)⟩
   .have HE:Hid (jQ x y=k):=hid (mE k x y (by rw [HA.out.len]; exact hk) (by rw [HB.out.len]; exact hkm) HK.out (by rw [HA.out.len,HB.out.len]; omega));have hd:decide ((m:Int)<=(k:Int))=true:=aJ (by omega);go_wp2_with fail
    go_quiet (fail)
    go_wp2;go_ret;exact ⟨by rw [HE.out]; rfl,(by first | exact ⟨_,rfl⟩ | exact ⟨_,World.drewN_drewN ..⟩)⟩
  .obtain rfl:k=n:=by omega
   have HE:Hid (jQ x y=k):=hid (mE k x y (by rw [HA.out.len]; exact hk) (by rw [HB.out.len]; exact hkm) HK.out (by rw [HA.out.len]; omega));go_wp2;go_ret;exact ⟨by rw [HE.out]; rfl,(by first | exact ⟨_,rfl⟩ | exact ⟨_,World.drewN_drewN ..⟩)⟩
def gZ (n:Nat) (leaf:Bool):Nat:=n%2+if leaf then 2 else 0
def jG (l:aM) (leaf:Bool):aM:=[UInt8.ofNat (gZ l.length leaf)]++((if l.length%2=1 then l.take 1 else [0])++l.drop (l.length%2))
def iG (l:aM) (leaf:Bool):aM:=gB (jG l leaf) (l.length/2+1)
theorem qQ (l:aM) (leaf:Bool):(jG l leaf).length=2*(l.length/2+1):=by
 unfold jG;rw [List.length_append,List.length_append,List.length_drop];by_cases h:l.length%2=1
 .rw [if_pos h,List.length_take]; simp; omega
 .rw [if_neg h]; simp; omega
theorem sU (l:aM) (leaf:Bool) (h:dh l=true):dh (jG l leaf)=true:=by
 unfold dh at h ⊢;rw [List.all_eq_true] at h ⊢;intro x hx;unfold jG at hx;simp only [List.mem_append,List.mem_singleton] at hx;rcases hx with hx | hx | hx
 .subst hx;have:gZ l.length leaf<=3:=by unfold gZ; cases leaf <;> simp <;> omega
  simp only [UInt8.toNat_ofNat',decide_eq_true_eq]; omega
 .split at hx
  .exact h x (List.mem_of_mem_take hx)
  .simp at hx; subst hx; decide
 .exact h x (List.mem_of_mem_drop hx)
theorem Zy (w:World) (m:UInt8) (v:Value) (hv:v = .int .u8 m.toNat) (a1 a2:aK) (n1 c1 n2 c2:Nat) (l1 l2:aM) (h1:aZ w a1 n1 c1 l1) (h2:aZ w a2 n2 c2 l2) :
  Cc.AX ((w.alloc (.cells #[v] 5)).alloc (.cells #[.slice (some ⟨w.heap.size,0,none⟩) 1 1,.slice a1 n1 c1,.slice a2 n2 c2] 40)) (some ⟨w.heap.size+1,0,none⟩) 3 [[m],l1,l2]:=by
 subst hv;have hb:Below w.heap.size w ((w.alloc (.cells #[.int .u8 m.toNat] 5)).alloc (.cells #[.slice (some ⟨w.heap.size,0,none⟩) 1 1,.slice a1 n1 c1,.slice a2 n2 c2] 40)) :=
  (aH.alloc aG _).alloc (by simp) _
 refine ⟨rfl,λj hj=>⟨w.heap.size+1,0,rfl,by simp,?_⟩⟩
 match j,hj with
 | 0,_ =>
  refine ⟨some ⟨w.heap.size,0,none⟩,1,1,by simp,⟨aG,by unfold maxLen; omega,rfl,λe=>(by cases e),λq hq=>?_⟩⟩;obtain rfl:q=0:=by omega
  exact ⟨w.heap.size,0,rfl,by simp; omega,by simp⟩
 | 1,_=>exact ⟨a1,n1,c1,by simp,h1.below hb⟩
 | 2,_=>exact ⟨a2,n2,c2,by simp,h2.below hb⟩
theorem nX (l:aM) (leaf:Bool) (mk:UInt8) (l1 l2:aM) (hf:[mk]++(l1++l2)=jG l leaf) (hl:l.length<=64) (v:Value) (hv:v = .int .u8 mk.toNat) (w:World) (a1 a2:aK) (n1 c1 n2 c2:Nat) (h1:aZ w a1 n1 c1 l1) (h2:aZ w a2 n2 c2 l2) :
  Calls prog 148 #[.slice (some ⟨w.heap.size+1,0,none⟩) 3 3] ((w.alloc (.cells #[v] 5)).alloc (.cells #[.slice (some ⟨w.heap.size,0,none⟩) 1 1,.slice a1 n1 c1,.slice a2 n2 c2] 40)) λe w'=>∃ a n cap,e = .returned (.slice a n cap)/\aZ w' a n cap (jG l leaf)/\Below w.heap.size w w':=by
 have e:[[mk],l1,l2].flatten=jG l leaf:=by rw [<-hf]; simp
 refine (Vj _ 3 3 [[mk],l1,l2] (by omega) (by rw [e,qQ]; omega) _ (Zy w mk v hv a1 a2 n1 c1 n2 c2 l1 l2 h1 h2)).mono ?_;rintro en w' ⟨a,n,cap,rfl,hx,hb⟩;rw [e] at hx;exact ⟨a,n,cap,rfl,hx,((aH.alloc aG _).alloc (by simp) _).trans (hb.mono (by simp; omega))⟩
theorem lU (l:aM) (leaf:Bool) (hr:dh l=true) (hl:l.length<=64) (a:aK) (n cap:Nat) (w:World) (h:aZ w a n cap (jG l leaf)) :
  Calls prog 147 #[.slice a n cap] w λe w'=>e = .returned (.string ⟨(iG l leaf).toArray⟩)/\Below w.heap.size w w':=by
 have hn:n=2*(l.length/2+1):=by rw [<-h.len,qQ]
 refine (xg a n cap (jG l leaf) (sU l leaf hr) (by omega) (by omega) w h).mono ?_;rintro e w' ⟨rfl,hb⟩;have e2:n/2=l.length/2+1:=by omega
 refine ⟨?_,hb⟩;unfold iG;rw [e2]
theorem TV:(prog.info? 5).map (λi=>(i.zero,i.size,i.bytes))=some (some (.int .u8 0),1,1):=by kernel_rfl
theorem Ea (l:aM) (leaf:Bool) (h:l.length%2=0):[UInt8.ofNat (gZ l.length leaf)]++([0]++l)=jG l leaf:=by
 unfold jG;rw [if_neg (by omega),h,List.drop_zero]
theorem Rm (a:aK) (n c:Nat) (l:aM) (leaf:Bool) (hn:n<=64) (h2:n%2=0) (hr:dh l=true) (w:World) (h:aZ w a n c l) :
  Calls prog 99 #[.slice a n c,.bool leaf] w λe w'=>e = .returned (.tuple #[.string ⟨(iG l leaf).toArray⟩,.int .i64 0])/\Below w.heap.size w w':=by
 have hR:=fB a n c l w h;rw [hr] at hR;have HR:=hid hR;have hnc:=h.1;have hcm:=h.2.1;unfold maxLen at hcm;have H:=hid h;have hm:(n:Int)%2=0:=by omega
 obtain ⟨i0,hi,hz0,hz1,hz2⟩:=info_parts TV;have HI:Hid (_/\_/\_/\_):=hid ⟨hi,hz0,hz1,hz2⟩;have e9:=hid (Ea l false (by rw [h.len]; exact h2));have fw:=hid (Ea l true (by rw [h.len]; exact h2));have ec:Hid (Value.int .u8 0 = .int .u8 (UInt8.ofNat (gZ l.length false)).toNat):=hid (by simp [gZ,h.len,h2]);have fx:Hid (Value.int .u8 (bits .or .u8 0 2) = .int .u8 (UInt8.ofNat (gZ l.length true)).toNat):=hid (by simp [gZ,h.len,h2]; decide +kernel);have HRR:=hid hr;have hll:l.length<=64:=by rw [h.len]; exact hn
 clear hR hr h h2 hi hz0 hz1 hz2;cases leaf
 .go_enter func99,ntmps99;go_wp2_with fail
  refine HR.out.mono ?_;rintro e w1 ⟨rfl,rfl⟩;go_wp2_with fail
  go_quiet ((go_at_call 146; exact Calls.quiet_of_same (BD _ _ _ _)))
  go_wp2_with (at_builtin; refine wpList_append_grows _ rfl (.tmp 30) (.tmp 31) 40 rfl 5 i0 (.int .u8 0) 1 1 underlying40 HI.out.1 HI.out.2.1 HI.out.2.2.1 HI.out.2.2.2 rfl (by decide) a 0 0 [] rfl (λ_=>⟨rfl,rfl⟩) rfl (by intro _ _ _ _ h; simp at h) ⟨w.heap.size,0,none⟩ 1 1 [.int .u8 0] rfl rfl ?c1 ?c2 (by omega) (by unfold maxLen; omega) (by omega) ?grow)
  case c1=>exact Bu.cell_one_new' _ _ _ _
  case c2=>intro u hu; simp at hu; subst hu; rfl
  case grow =>
   intro v' w2 hown hg;obtain ⟨a',cap',rfl,hx⟩:=aZ.mQ (l:=[0]) hown;have HX:=hid hx;have H2:=hid (((H.out.drewN nq).alloc (.cells #[.int .u8 0] 5)).grown hg);clear hx hown;go_wp2_with fail
   refine (nX l false (UInt8.ofNat (gZ l.length false)) [0] l e9.out (by omega) _ ec.out _ _ _ _ _ _ _ HX.out H2.out).mono ?_;rintro e w3 ⟨a3,n3,c3,rfl,hx3,hb3⟩;go_wp2_with fail
   refine (lU l false HRR.out (by omega) _ _ _ _ hx3).mono ?_;rintro e w4 ⟨rfl,hb4⟩;go_wp2;go_ret2
   have hbw:Below w.heap.size w w2:=((below_drewN (Below.refl w.heap.size w) nq).alloc aG _).grown hg (by simp) (λk hk=>by cases hk);exact ⟨rfl,(hbw.trans (hb3.mono hbw.size)).trans (hb4.mono (Nat.le_trans hbw.size hb3.size))⟩
 .go_enter func99,ntmps99;go_wp2_with fail
  refine HR.out.mono ?_;rintro e w1 ⟨rfl,rfl⟩;go_wp2_with fail
  go_quiet ((go_at_call 146; exact Calls.quiet_of_same (BD _ _ _ _)))
  go_wp2_with (at_builtin; refine wpList_append_grows _ rfl (.tmp 30) (.tmp 31) 40 rfl 5 i0 (.int .u8 0) 1 1 underlying40 HI.out.1 HI.out.2.1 HI.out.2.2.1 HI.out.2.2.2 rfl (by decide) a 0 0 [] rfl (λ_=>⟨rfl,rfl⟩) rfl (by intro _ _ _ _ h; simp at h) ⟨w.heap.size,0,none⟩ 1 1 [.int .u8 0] rfl rfl ?d1 ?d2 (by omega) (by unfold maxLen; omega) (by omega) ?C7)
  case d1=>exact Bu.cell_one_new' _ _ _ _
  case d2=>intro u hu; simp at hu; subst hu; rfl
  case C7 =>
   intro v' w2 hown hg;obtain ⟨a',cap',rfl,hx⟩:=aZ.mQ (l:=[0]) hown;have HX:=hid hx;have H2:=hid (((H.out.drewN nq).alloc (.cells #[.int .u8 0] 5)).grown hg);clear hx hown;go_wp2_with fail
   refine (nX l true (UInt8.ofNat (gZ l.length true)) [0] l fw.out (by omega) _ fx.out _ _ _ _ _ _ _ HX.out H2.out).mono ?_;rintro e w3 ⟨a3,n3,c3,rfl,hx3,hb3⟩;go_wp2_with fail
   refine (lU l true HRR.out (by omega) _ _ _ _ hx3).mono ?_;rintro e w4 ⟨rfl,hb4⟩;go_wp2;go_ret2
   have hbw:Below w.heap.size w w2:=((below_drewN (Below.refl w.heap.size w) nq).alloc aG _).grown hg (by simp) (λk hk=>by cases hk);exact ⟨rfl,(hbw.trans (hb3.mono hbw.size)).trans (hb4.mono (Nat.le_trans hbw.size hb3.size))⟩
theorem Hy (l:aM) (leaf:Bool) (h:l.length%2=1):[UInt8.ofNat (gZ l.length leaf)]++(l.take 1++l.drop 1)=jG l leaf:=by
 unfold jG;rw [if_pos h,h]
theorem Sb {b off n c:Nat} {l:aM} (h:aZ w (some ⟨b,off,none⟩) n c l) (h1:1<=n):aZ w (some ⟨b,off,none⟩) 1 1 (l.take 1):=by
 refine ⟨aG,by unfold maxLen; omega,by rw [List.length_take,h.len]; omega,λe=>(by cases e),λq hq=>?_⟩;obtain rfl:q=0:=by omega
 obtain ⟨b',off',e,h2,h3⟩:=h.at' 0 (by omega);simp at e;obtain ⟨rfl,rfl⟩:=e;refine ⟨b,off,rfl,h2,?_⟩;have e:(l.take 1).getD 0 0=l.getD 0 0:=by simp [List.getD]
 rw [e]; exact h3
theorem Vb {b off:Nat} {l:aM} (h:aZ w (some ⟨b,off,none⟩) 1 1 l):aZ w (some ⟨b,off,none⟩) 0 0 (l.drop 1) :=
 ⟨aG,Nat.zero_le _,by rw [List.length_drop,h.len],λ_=>rfl,λq hq=>absurd hq (Nat.not_lt_zero _)⟩
theorem Vl {b off n c:Nat} {l:aM} (h:aZ w (some ⟨b,off,none⟩) n c l) (h1:1<=n):aZ w (some ⟨b,off+1,none⟩) (n-1) (c-1) (l.drop 1):=by
 have hnc:=h.1;have hcm:=h.2.1;refine ⟨by omega,by omega,by rw [List.length_drop,h.len],λe=>(by cases e),λq hq=>?_⟩;obtain ⟨b',off',e,h2,h3⟩:=h.at' (1+q) (by omega);simp at e;obtain ⟨rfl,rfl⟩:=e;refine ⟨b,off+1,rfl,h2,?_⟩;have e:(l.drop 1).getD q 0=l.getD (1+q) 0:=by simp [List.getD,Nat.add_comm]
 rw [e,Nat.add_assoc]; exact h3
theorem Uf (b off:Nat) (n c:Nat) (l:aM) (leaf:Bool) (hn:n<=64) (h2:n%2=1) (hr:dh l=true) (w:World) (h:aZ w (some ⟨b,off,none⟩) n c l) :
  Calls prog 99 #[.slice (some ⟨b,off,none⟩) n c,.bool leaf] w λe w'=>e = .returned (.tuple #[.string ⟨(iG l leaf).toArray⟩,.int .i64 0])/\Below w.heap.size w w':=by
 have hR:=fB _ n c l w h;rw [hr] at hR;have HR:=hid hR;have hnc:=h.1;have hcm:=h.2.1;unfold maxLen at hcm;have H:=hid h;have hm:(n:Int)%2=1:=by omega
 have hn1:1<=n:=by omega
 have HRR:=hid hr;have hll:l.length<=64:=by rw [h.len]; exact hn
 have hw1:IntKind.i64.wrap 1=1:=by kernel_rfl
 have hc1:1<=c:=by omega
 have e9:=hid (Hy l false (by rw [h.len]; exact h2));have fw:=hid (Hy l true (by rw [h.len]; exact h2));have ec:Hid (Value.int .u8 1 = .int .u8 (UInt8.ofNat (gZ l.length false)).toNat):=hid (by simp [gZ,h.len,h2]);have fx:Hid (Value.int .u8 (bits .or .u8 1 2) = .int .u8 (UInt8.ofNat (gZ l.length true)).toNat):=hid (by simp [gZ,h.len,h2]; decide +kernel);have H1:Hid (aZ w (some ⟨b,off,none⟩) 1 1 (l.take 1)):=hid (Sb h hn1);clear hR hr h h2;by_cases hcc:c=1
 .subst hcc;obtain rfl:n=1:=by omega
  have H2:Hid (aZ w (some ⟨b,off,none⟩) 0 0 (l.drop 1)):=hid (Vb H.out);clear H;cases leaf
  .go_enter func99,ntmps99;go_wp2_with fail
   refine HR.out.mono ?_;rintro e w1 ⟨rfl,rfl⟩;go_wp2_with fail
   go_quiet ((go_at_call 146; exact Calls.quiet_of_same (tq _ _ _ _ hc1 _ hcm)))
   clear hw1;go_wp2_with fail
   refine (nX l false (UInt8.ofNat (gZ l.length false)) (l.take 1) (l.drop 1) e9.out hll _ ec.out _ _ _ _ _ _ _ (H1.out.drewN _) (H2.out.drewN _)).mono ?_;rintro e w3 ⟨a3,n3,c3,rfl,hx3,hb3⟩;go_wp2_with fail
   refine (lU l false HRR.out hll _ _ _ _ hx3).mono ?_;rintro e w4 ⟨rfl,hb4⟩;go_wp2;go_ret2
   exact ⟨rfl,((below_drewN (Below.refl w.heap.size w) _).trans hb3).trans (hb4.mono hb3.size)⟩
  .go_enter func99,ntmps99;go_wp2_with fail
   refine HR.out.mono ?_;rintro e w1 ⟨rfl,rfl⟩;go_wp2_with fail
   go_quiet ((go_at_call 146; exact Calls.quiet_of_same (tq _ _ _ _ hc1 _ hcm)))
   clear hw1;go_wp2_with fail
   refine (nX l true (UInt8.ofNat (gZ l.length true)) (l.take 1) (l.drop 1) fw.out hll _ fx.out _ _ _ _ _ _ _ (H1.out.drewN _) (H2.out.drewN _)).mono ?_;rintro e w3 ⟨a3,n3,c3,rfl,hx3,hb3⟩;go_wp2_with fail
   refine (lU l true HRR.out hll _ _ _ _ hx3).mono ?_;rintro e w4 ⟨rfl,hb4⟩;go_wp2;go_ret2
   exact ⟨rfl,((below_drewN (Below.refl w.heap.size w) _).trans hb3).trans (hb4.mono hb3.size)⟩
 .have H2:Hid (aZ w (some ⟨b,off+1,none⟩) (n-1) (c-1) (l.drop 1)):=hid (Vl H.out hn1);clear H;cases leaf
  .go_enter func99,ntmps99;go_wp2_with fail
   refine HR.out.mono ?_;rintro e w1 ⟨rfl,rfl⟩;go_wp2_with fail
   go_quiet ((go_at_call 146; exact Calls.quiet_of_same (tq _ _ _ _ hc1 _ hcm)))
   clear hw1;go_wp2_with fail
   refine (nX l false (UInt8.ofNat (gZ l.length false)) (l.take 1) (l.drop 1) e9.out hll _ ec.out _ _ _ _ _ _ _ (H1.out.drewN _) (H2.out.drewN _)).mono ?_;rintro e w3 ⟨a3,n3,c3,rfl,hx3,hb3⟩;go_wp2_with fail
   refine (lU l false HRR.out hll _ _ _ _ hx3).mono ?_;rintro e w4 ⟨rfl,hb4⟩;go_wp2;go_ret2
   exact ⟨rfl,((below_drewN (Below.refl w.heap.size w) _).trans hb3).trans (hb4.mono hb3.size)⟩
  .go_enter func99,ntmps99;go_wp2_with fail
   refine HR.out.mono ?_;rintro e w1 ⟨rfl,rfl⟩;go_wp2_with fail
   go_quiet ((go_at_call 146; exact Calls.quiet_of_same (tq _ _ _ _ hc1 _ hcm)))
   clear hw1;go_wp2_with fail
   refine (nX l true (UInt8.ofNat (gZ l.length true)) (l.take 1) (l.drop 1) fw.out hll _ fx.out _ _ _ _ _ _ _ (H1.out.drewN _) (H2.out.drewN _)).mono ?_;rintro e w3 ⟨a3,n3,c3,rfl,hx3,hb3⟩;go_wp2_with fail
   refine (lU l true HRR.out hll _ _ _ _ hx3).mono ?_;rintro e w4 ⟨rfl,hb4⟩;go_wp2;go_ret2
   exact ⟨rfl,((below_drewN (Below.refl w.heap.size w) _).trans hb3).trans (hb4.mono hb3.size)⟩
theorem Hg (c:Nat) (s:aL) (hs:s.size<=maxLen) (hi:0<s.size) (w:World) (hc:w.cell? ⟨c,0,none⟩=some (.string s)) :
  Calls prog 159 #[.int .i64 0,.pointer (some ⟨c,0,none⟩)] w λe w'=>e = .returned (.int .u8 (dX s 0:Nat))/\w=w' :=
 kJ c s 0 hs hi w hc
theorem GA (c:Nat) (s:aL) (hs:s.size<=maxLen) (hi:0<s.size) (w:World) (hc:w.cell? ⟨c,0,none⟩=some (.string s)) :
  Calls prog 159 #[.int .i64 1,.pointer (some ⟨c,0,none⟩)] w λe w'=>e = .returned (.int .u8 (dX s 1:Nat))/\w=w' :=
 kJ c s 1 hs hi w hc
theorem Zx:∀ x:Fin 16,bits .and .u8 ((x:Nat):Int) 1=(((x:Nat)%2:Nat):Int):=by decide +kernel
theorem YX:∀ x:Fin 16,bits .and .u8 ((x:Nat):Int) 2=((2*((x:Nat)/2%2):Nat):Int):=by decide +kernel
theorem and1 (x:Nat) (h:x<16):bits .and .u8 (x:Int) 1=((x%2:Nat):Int):=Zx ⟨x,h⟩
theorem ZH (x:Nat) (h:x<16):bits .and .u8 (x:Int) 2=((2*(x/2%2):Nat):Int):=YX ⟨x,h⟩
def Bad (s:aL):Prop:=(dX s 0%2=0/\(33<s.size\/3<dX s 0\/dX s 1≠0))\/(dX s 0%2=1/\(32<s.size\/3<dX s 0))
def qz (s:aL):Bool:=decide (dX s 0/2%2=1)
def nK (s:aL):aM:=(ig s).drop (2-dX s 0%2)
theorem Lr (w:World) :
  Calls prog 200 #[.string ByteArray.empty] w λe w'=>e = .returned (.tuple #[.slice none 0 0,.bool false,.int .i64 5])/\w=w':=by
 go_enter func200,ntmps200;go_wp2;go_ret3
 exact ⟨rfl,rfl⟩
theorem dJ {s:aL} (h:0<s.size):s.toList.isEmpty=false:=by
 rw [ByteArray.toList_eq];cases hd:s.data.toList with
 | nil =>
  have h1:s.data.toList.length=0:=by rw [hd]; rfl
  have h2:s.data.toList.length=s.size:=by simp
  omega
 | cons=>rfl
theorem KP (s:aL) (h0:0<s.size) (hs:s.size<=1000000) (hb:Bad s) (w:World) :
  Calls prog 200 #[.string s] w λe w'=>e = .returned (.tuple #[.slice none 0 0,.bool false,.int .i64 6])/\Below w.heap.size w w':=by
 have hmax:s.size<=maxLen:=by unfold maxLen; omega
 have HC:Hid (∀ wx:World,(wx.alloc (.cells #[.string s] 9)).cell? ⟨wx.heap.size,0,none⟩=some (.string s)):=hid (λwx=>by simp);have hne:=dJ h0;have hx16:=wI s 0;have hand:=and1 (dX s 0) hx16;have T0:=hid (λc wx hc=>Hg c s hmax h0 wx hc);have T1:=hid (λc wx hc=>GA c s hmax h0 wx hc);unfold Bad at hb;obtain ⟨x,hx⟩:=ay (dX s 0)
 obtain ⟨y,hy⟩:=ay (dX s 1)
 rw [hx] at hb hand hx16;rw [hy] at hb;simp only [hx] at T0;simp only [hy] at T1;clear hx hy hmax;rcases hb with ⟨hp,hb⟩ | ⟨hp,hb⟩
 .have hand0:bits .and .u8 (x:Int) 1=0:=by rw [hand,hp]; rfl
  clear hand hp;by_cases hb1:33<s.size
  .clear hb;go_enter func200,ntmps200;go_wp2_with fail
   refine (eH _ _).mono ?_;rintro e w1 ⟨rfl,rfl⟩;go_wp2_with fail
   refine (T0.out _ _ (HC.out _)).mono ?_;rintro e w2 ⟨rfl,rfl⟩;go_wp2;go_ret3
   exact ⟨rfl,aH.alloc aG _⟩
  .by_cases hb2:3<x
   .clear hb;go_enter func200,ntmps200;go_wp2_with fail
    refine (eH _ _).mono ?_;rintro e w1 ⟨rfl,rfl⟩;go_wp2_with fail
    refine (T0.out _ _ (HC.out _)).mono ?_;rintro e w2 ⟨rfl,rfl⟩;go_wp2;go_ret3
    exact ⟨rfl,aH.alloc aG _⟩
   .have hb3:((y:Int) != 0)=true:=by simp; omega
    clear hb;go_enter func200,ntmps200;go_wp2_with fail
    refine (eH _ _).mono ?_;rintro e w1 ⟨rfl,rfl⟩;go_wp2_with fail
    refine (T0.out _ _ (HC.out _)).mono ?_;rintro e w2 ⟨rfl,rfl⟩;go_wp2_with fail
    refine (T1.out _ _ (HC.out _)).mono ?_;rintro e w2 ⟨rfl,rfl⟩;go_wp2;go_ret3
    exact ⟨rfl,aH.alloc aG _⟩
 .have hand0:bits .and .u8 (x:Int) 1=1:=by rw [hand,hp]; rfl
  clear hand hp;by_cases hb1:32<s.size
  .clear hb;go_enter func200,ntmps200;go_wp2_with fail
   refine (eH _ _).mono ?_;rintro e w1 ⟨rfl,rfl⟩;go_wp2_with fail
   refine (T0.out _ _ (HC.out _)).mono ?_;rintro e w2 ⟨rfl,rfl⟩;go_wp2;go_ret3
   exact ⟨rfl,aH.alloc aG _⟩
  .have hb2:3<x:=by omega
   clear hb;go_enter func200,ntmps200;go_wp2_with fail
   refine (eH _ _).mono ?_;rintro e w1 ⟨rfl,rfl⟩;go_wp2_with fail
   refine (T0.out _ _ (HC.out _)).mono ?_;rintro e w2 ⟨rfl,rfl⟩;go_wp2;go_ret3
   exact ⟨rfl,aH.alloc aG _⟩
theorem sF (s:aL):dh (ig s)=true:=by
 unfold dh ig;rw [List.all_eq_true];intro x hx;simp only [List.mem_map,List.mem_range] at hx;obtain ⟨i,_,rfl⟩:=hx;have:=wI s i;simp only [UInt8.toNat_ofNat',decide_eq_true_eq]; omega
theorem RI (s:aL) (a:aK) (n cap:Nat) (w:World) (h:aZ w a n cap (ig s)) (k:Nat) (hk:k<=n) (ki:Int) (hki:ki=k) :
  Calls prog 146 #[.slice a n cap,.int .i64 ki,.int .i64 n] w λe w'=>∃ a' n' c',e = .returned (.slice a' n' c')/\aZ w a' n' c' ((ig s).drop k)/\w=w':=by
 subst hki;refine (Yw a n cap (ig s) k n hk aG w h).mono ?_;rintro e w' ⟨a',c',rfl,⟨hx,_⟩,rfl⟩;have e:((ig s).drop k).take (n-k)=(ig s).drop k:=List.take_of_length_le (by rw [List.length_drop,h.len]; exact aG);rw [e] at hx;exact ⟨a',_,c',rfl,hx,rfl⟩
def Unp (w:World) (s:aL) (e:Ending) (w':World):Prop :=
 ∃ a n cap,e = .returned (.tuple #[.slice a n cap,.bool (qz s),.int .i64 0])/\aZ w' a n cap (nK s)/\Below w.heap.size w w'
theorem QY (s:aL) (h0:0<s.size) (hb:¬ Bad s) (w:World) :
  Calls prog 200 #[.string s] w (Unp w s):=by
 have hx16:=wI s 0;have hs33:s.size<=33:=by unfold Bad at hb; omega
 have hmax:s.size<=maxLen:=by unfold maxLen; omega
 have HC:Hid (∀ wx:World,(wx.alloc (.cells #[.string s] 9)).cell? ⟨wx.heap.size,0,none⟩=some (.string s)):=hid (λwx=>by simp);have hne:=dJ h0;have hand:=and1 (dX s 0) hx16;have hand2:=ZH (dX s 0) hx16;have T0:=hid (λc wx hc=>Hg c s hmax h0 wx hc);have T1:=hid (λc wx hc=>GA c s hmax h0 wx hc);have SP:=hid (λwx=>Cg s (by omega) wx);have CP:=hid (RI s);have hlen:=gL s;have hlf:qz s=decide (dX s 0/2%2=1):=rfl;have hpl:nK s=(ig s).drop (2-dX s 0%2):=rfl;unfold Bad at hb;obtain ⟨x,hx⟩:=ay (dX s 0)
 obtain ⟨y,hy⟩:=ay (dX s 1)
 rw [hx] at hb hand hx16 hand2 hlf hpl;rw [hy] at hb;simp only [hx] at T0;simp only [hy] at T1;clear hx hy hmax;have HL:=hid hlen;have hx3:x<=3:=by omega
 by_cases hp:x%2=0
 .have hy0:y=0:=by omega
  subst hy0;have hand0:bits .and .u8 (x:Int) 1=0:=by rw [hand,hp]; rfl
  have HP:Hid (nK s=(ig s).drop 2):=hid (by rw [hpl,hp]);clear hand hpl hb hp hlen;by_cases hl:x/2%2=1
  .have hl2:bits .and .u8 (x:Int) 2=2:=by rw [hand2,hl]; rfl
   have o9:Hid (qz s=true):=hid (by rw [hlf]; exact aJ hl);clear hand2 hl hlf;go_enter func200,ntmps200;go_wp2_with fail
   refine (eH _ _).mono ?_;rintro e w1 ⟨rfl,rfl⟩;go_wp2_with fail
   refine (T0.out _ _ (HC.out _)).mono ?_;rintro e w2 ⟨rfl,rfl⟩;go_wp2_with fail
   refine (T1.out _ _ (HC.out _)).mono ?_;rintro e w2 ⟨rfl,rfl⟩;go_wp2_with fail
   refine (SP.out _).mono ?_;rintro e w3 ⟨a,n,cap,rfl,hx,hb3⟩;have hn2:2<=n:=by have:=hx.len; rw [HL.out] at this; omega
   have HX:=hid hx;clear hx;go_wp2_with fail
   refine (CP.out a n cap _ HX.out 2 (by omega) 2 rfl).mono ?_;rintro e w4 ⟨a4,n4,c4,rfl,hx4,rfl⟩;have j7:=hid hx4;clear hx4;go_wp2;go_ret3
   exact ⟨a4,n4,c4,by rw [o9.out]; rfl,by rw [HP.out]; exact j7.out,((Below.refl w.heap.size w).alloc aG _).trans (hb3.mono (by simp))⟩
  .have hl2:bits .and .u8 (x:Int) 2=0:=by rw [hand2,show x/2%2=0 by omega]; rfl
   have o9:Hid (qz s=false):=hid (by rw [hlf]; exact decide_eq_false hl);clear hand2 hl hlf;go_enter func200,ntmps200;go_wp2_with fail
   refine (eH _ _).mono ?_;rintro e w1 ⟨rfl,rfl⟩;go_wp2_with fail
   refine (T0.out _ _ (HC.out _)).mono ?_;rintro e w2 ⟨rfl,rfl⟩;go_wp2_with fail
   refine (T1.out _ _ (HC.out _)).mono ?_;rintro e w2 ⟨rfl,rfl⟩;go_wp2_with fail
   refine (SP.out _).mono ?_;rintro e w3 ⟨a,n,cap,rfl,hx,hb3⟩;have hn2:2<=n:=by have:=hx.len; rw [HL.out] at this; omega
   have HX:=hid hx;clear hx;go_wp2_with fail
   refine (CP.out a n cap _ HX.out 2 (by omega) 2 rfl).mono ?_;rintro e w4 ⟨a4,n4,c4,rfl,hx4,rfl⟩;have j7:=hid hx4;clear hx4;go_wp2;go_ret3
   exact ⟨a4,n4,c4,by rw [o9.out]; rfl,by rw [HP.out]; exact j7.out,((Below.refl w.heap.size w).alloc aG _).trans (hb3.mono (by simp))⟩
 .have hp1:x%2=1:=by omega
  have hs32:s.size<=32:=by omega
  have hand0:bits .and .u8 (x:Int) 1=1:=by rw [hand,hp1]; rfl
  have HP:Hid (nK s=(ig s).drop 1):=hid (by rw [hpl,hp1]);clear hand hpl hb hp hp1 hlen T1;by_cases hl:x/2%2=1
  .have hl2:bits .and .u8 (x:Int) 2=2:=by rw [hand2,hl]; rfl
   have o9:Hid (qz s=true):=hid (by rw [hlf]; exact aJ hl);clear hand2 hl hlf;go_enter func200,ntmps200;go_wp2_with fail
   refine (eH _ _).mono ?_;rintro e w1 ⟨rfl,rfl⟩;go_wp2_with fail
   refine (T0.out _ _ (HC.out _)).mono ?_;rintro e w2 ⟨rfl,rfl⟩;go_wp2_with fail
   refine (SP.out _).mono ?_;rintro e w3 ⟨a,n,cap,rfl,hx,hb3⟩;have hn2:2<=n:=by have:=hx.len; rw [HL.out] at this; omega
   have HX:=hid hx;clear hx;go_wp2_with fail
   refine (CP.out a n cap _ HX.out 1 (by omega) 1 rfl).mono ?_;rintro e w4 ⟨a4,n4,c4,rfl,hx4,rfl⟩;have j7:=hid hx4;clear hx4;go_wp2;go_ret3
   exact ⟨a4,n4,c4,by rw [o9.out]; rfl,by rw [HP.out]; exact j7.out,((Below.refl w.heap.size w).alloc aG _).trans (hb3.mono (by simp))⟩
  .have hl2:bits .and .u8 (x:Int) 2=0:=by rw [hand2,show x/2%2=0 by omega]; rfl
   have o9:Hid (qz s=false):=hid (by rw [hlf]; exact decide_eq_false hl);clear hand2 hl hlf;go_enter func200,ntmps200;go_wp2_with fail
   refine (eH _ _).mono ?_;rintro e w1 ⟨rfl,rfl⟩;go_wp2_with fail
   refine (T0.out _ _ (HC.out _)).mono ?_;rintro e w2 ⟨rfl,rfl⟩;go_wp2_with fail
   refine (SP.out _).mono ?_;rintro e w3 ⟨a,n,cap,rfl,hx,hb3⟩;have hn2:2<=n:=by have:=hx.len; rw [HL.out] at this; omega
   have HX:=hid hx;clear hx;go_wp2_with fail
   refine (CP.out a n cap _ HX.out 1 (by omega) 1 rfl).mono ?_;rintro e w4 ⟨a4,n4,c4,rfl,hx4,rfl⟩;have j7:=hid hx4;clear hx4;go_wp2;go_ret3
   exact ⟨a4,n4,c4,by rw [o9.out]; rfl,by rw [HP.out]; exact j7.out,((Below.refl w.heap.size w).alloc aG _).trans (hb3.mono (by simp))⟩
end Ni
end
end Go.Proofs.YtoipgepkhomfgaaGreatDoor
