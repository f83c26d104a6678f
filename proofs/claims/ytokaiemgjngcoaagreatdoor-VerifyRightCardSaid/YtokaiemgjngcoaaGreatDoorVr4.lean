/-
 Contracts of the plain answers' Right and Pack.
-/
import Derived.Test.YtokaiemgjngcoaaGreatDoorVr3
open Go.Lib (hid)
open Go.Proofs.Tryz
set_option linter.unusedSimpArgs false
set_option linter.unusedVariables false
set_option maxHeartbeats 40000000
set_option maxRecDepth 100000
namespace Go.Proofs.YtokaiemgjngcoaaGreatDoor
variable {B d g i j n:Nat} {k:aM} {P:Program} {w w1:World} {ops:Array Oper} {o:Oper} {Q:Exit->Act->World->Prop} {t:TypeId}
section
open Go.RowKit
namespace Ni
theorem Ht (l:aN) (leaf:Bool):((iZ l leaf).getD 0 0).toNat=gI l.length leaf:=by
 have:gI l.length leaf<=3:=by unfold gI; cases leaf <;> simp <;> omega
 simp [iZ]; omega
theorem TY (l:aN) (leaf:Bool):((iZ l leaf).getD 1 0).toNat=if l.length%2=1 then (l.getD 0 0).toNat else 0:=by
 unfold iZ;by_cases h:l.length%2=1
 .cases l with
  | nil=>simp at h
  | cons x r =>
   have h':(r.length+1)%2=1:=by simpa using h
   simp [h']
 .simp [h]
theorem vG (f:aN) (hf:cu f=true) (k j:Nat) (hj:j<k):((fK f k).getD j 0).toNat=16*(f.getD (2*j) 0).toNat+(f.getD (2*j+1) 0).toNat:=by
 have h1:=kT f hf (2*j);have h2:=kT f hf (2*j+1);have e:(fK f k).getD j 0=UInt8.ofNat (16*(f.getD (2*j) 0).toNat+(f.getD (2*j+1) 0).toNat):=by
  simp [fK,List.getD,hj]
 rw [e];simp only [UInt8.toNat_ofNat'];omega
theorem BN (f:aN) (hf:cu f=true) (k i:Nat) (hi:i<2*k):dZ ⟨(fK f k).toArray⟩ i=(f.getD i 0).toNat:=by
 have h1:=kT f hf (2*(i/2));have h2:=kT f hf (2*(i/2)+1);have e:=vG f hf k (i/2) (by omega);unfold dZ;show (if i%2=0 then ((fK f k).getD (i/2) 0).toNat/16 else ((fK f k).getD (i/2) 0).toNat%16)=_;rw [e];by_cases h:i%2=0
 .rw [if_pos h];have e2:2*(i/2)=i:=by omega
  rw [e2] at h1 h2 ⊢;omega
 .rw [if_neg h];have e2:2*(i/2)+1=i:=by omega
  rw [e2] at h2 ⊢;omega
theorem pK {a b:aN} (hl:a.length=b.length) (h:∀ i,i<a.length->(a.getD i 0).toNat=(b.getD i 0).toNat):a=b:=by
 apply List.ext_getElem hl;intro i h1 h2;have:=h i h1;simp only [List.getD,List.getElem?_eq_getElem h1,List.getElem?_eq_getElem h2,Option.getD_some] at this;exact UInt8.toNat_inj.1 this
theorem xG (f:aN) (hf:cu f=true) (k:Nat) (hk:f.length=2*k):fM ⟨(fK f k).toArray⟩=f:=by
 have hs:(⟨(fK f k).toArray⟩:aM).size=k:=by show (fK f k).toArray.size=k; simp [fK]
 apply pK
 .rw [fF,hs,hk]
 .intro i hi;rw [fF,hs] at hi;rw [mH _ _ (by rw [hs]; exact hi),BN f hf k i hi]
theorem zF (s:aM):fK (fM s) s.size=s.data.toList:=by
 apply pK
 .rw [kJ]; simp
 .intro j hj;rw [kJ] at hj;rw [vG _ (pF s) _ _ hj,mH s _ (by omega),mH s _ (by omega)];unfold dZ;rw [if_pos (by omega),if_neg (by omega),show 2*j/2=j by omega,show (2*j+1)/2=j by omega];omega
theorem rW (l:aN) (leaf:Bool):(⟨(jC l leaf).toArray⟩:aM).size=l.length/2+1:=by
 show (jC l leaf).toArray.size=_;simp [jC,fK]
theorem MB (l:aN) (leaf:Bool) (hr:cu l=true):fM ⟨(jC l leaf).toArray⟩=iZ l leaf :=
 xG _ (qb l leaf hr) _ (oH l leaf)
theorem oG (l:aN) (leaf:Bool) (hr:cu l=true) (i:Nat) (hi:i<2):dZ ⟨(jC l leaf).toArray⟩ i=((iZ l leaf).getD i 0).toNat :=
 BN _ (qb l leaf hr) _ _ (by omega)
theorem KP (l:aN) (leaf:Bool) (hr:cu l=true) (hl:l.length<=64):¬ Bad ⟨(jC l leaf).toArray⟩:=by
 unfold Bad;rw [oG l leaf hr 0 (by omega),oG l leaf hr 1 (by omega),Ht,TY,rW];unfold gI;cases leaf <;> simp only [if_true,if_false,Bool.false_eq_true] <;> split <;> omega
theorem KY (l:aN) (leaf:Bool) (hr:cu l=true):nX ⟨(jC l leaf).toArray⟩=leaf:=by
 unfold nX;rw [oG l leaf hr 0 (by omega),Ht];unfold gI;cases leaf <;> simp <;> omega
theorem KG (l:aN) (leaf:Bool) (hr:cu l=true):lC ⟨(jC l leaf).toArray⟩=l:=by
 unfold lC;rw [oG l leaf hr 0 (by omega),Ht,MB l leaf hr];have hm:gI l.length leaf%2=l.length%2:=by unfold gI; cases leaf <;> simp
 rw [hm];unfold iZ;by_cases h:l.length%2=1
 .rw [if_pos h,h];cases l with
  | nil=>simp at h
  | cons x r=>simp
 .rw [if_neg h,show l.length%2=0 by omega];simp
theorem gK (s:aM):(lC s).length=2*s.size-(2-dZ s 0%2):=by
 unfold lC; rw [List.length_drop,fF]
theorem Tc (s:aM) (hb:¬ Bad s):(lC s).length<=64:=by
 rw [gK]; unfold Bad at hb; omega
end Ni
end
section
open Go.RowKit
namespace No
open Rl Ni
def jP (x:It):Option aM:=if x.l then (if x.bytes.length<32 then some ⟨x.bytes.toArray⟩ else none) else (if dG x.s then some x.s else none)
def mP:List It->Option (List aM)
 | []=>some []
 | x::xs=>match jP x with
  | none=>none
  | some k=>match mP xs with
   | none=>none
   | some ks=>some (k::ks)
def iF (k:aM):List aM:=k::List.replicate 15 eB
instance (s : aM) : Decidable (Bad s) := by unfold Bad; infer_instance
def gG (x0 x1:It):Option Nd :=
 if x0.s.size=0\/Bad x0.s then none else
 if nX x0.s then some ⟨1,lC x0.s,x1.s,zks⟩ else (jP x1).map λk=>⟨2,lC x0.s,eB,iF k⟩
def dh (xs:List It):Option Nd :=
 match mP (xs.take 16) with
 | none=>none
 | some ks=>if (xs.getD 16 it0).l=false/\(xs.getD 16 it0).s.size=0 then some ⟨3,[],eB,ks⟩ else none
def dJ (xs:List It):Option Nd:=if xs.length=2 then gG (xs.getD 0 it0) (xs.getD 1 it0) else if xs.length=17 then dh xs else none
def jK (R:aM->Bool) (n:Nd):Bool :=
 if n.kd=1 then decide (n.v.size≠0)&&decide (n.v.size<=65552)&&decide ((cZ n.ks).length=0) else
 if n.kd=2 then decide (0<n.p.length)&&decide (n.v.size=0)&&decide ((cZ n.ks).length=1)&&decide ((n.ks.getD 0 eB).size≠0)&&R (n.ks.getD 0 eB) else
 if n.kd=3 then decide (n.p.length=0)&&decide (n.v.size=0)&&decide (2<=(cZ n.ks).length)&&(cZ n.ks).all R else false
def fB (R:aM->Bool) (n:Nd):Bool:=decide (n.p.length<=64)&&cu n.p&&jK R n
theorem EY {R R':aM->Bool} {n:Nd} (h:∀ k∈n.ks,R k=R' k) (hl:n.ks.length=16):jK R n=jK R' n:=by
 unfold jK;have h0:R (n.ks.getD 0 eB)=R' (n.ks.getD 0 eB):=by
  apply h;rw [List.getD_eq_getElem?_getD,List.getElem?_eq_getElem (by omega)];exact List.getElem_mem _
 have h1:(cZ n.ks).all R=(cZ n.ks).all R':=by
  rw [Bool.eq_iff_iff,List.all_eq_true,List.all_eq_true];constructor
  .intro g k hk; rw [<-h k (List.mem_filter.1 hk).1]; exact g k hk
  .intro g k hk; rw [h k (List.mem_filter.1 hk).1]; exact g k hk
 rw [h0,h1]
theorem GJ {R R':aM->Bool} {n:Nd} (h:∀ k∈n.ks,R k=R' k) (hl:n.ks.length=16):fB R n=fB R' n:=by
 unfold fB;rw [EY h hl]
def mK (s:aN):Option Nd :=
 match fV s with
 | .error _=>none
 | .ok x=>match dJ x.xs with
  | none=>none
  | some n=>if fB (λk=>dG k||(if _h:k.size<32/\k.size<s.length then (mK k.data.toList).isSome else false)) n then some n else none
termination_by s.length
decreasing_by
 rw [gT];exact _h.2
def bU (k:aM):Bool:=dG k||(decide (k.size<32)&&(mK k.data.toList).isSome)
theorem kD {s:aN} {x:It} (hs:s.length<=4294967296) (h:fV s = .ok x):x.bytes=s/\Fits 0 x/\x.size<=4096:=by
 unfold fV at h;cases hr:eO s 0 0 with
 | error c=>rw [hr] at h; cases h
 | ok q =>
  obtain ⟨y,n,k⟩:=q;rw [hr] at h;dsimp only at h;by_cases hn:n<s.length
  .rw [if_pos hn] at h; cases h
  .rw [if_neg hn] at h;obtain rfl:=gX h;obtain ⟨g1,g2,g3⟩:=(back s.length hs).1 _ _ _ _ _ _ aH hr;obtain ⟨p1,p2,p3,p4⟩:=(props s.length).1 _ _ _ _ _ _ aH hr;refine ⟨?_,g2,by omega⟩;rw [g1,List.take_of_length_le (by omega)]
theorem xV {xs:List It} {x:It} (h:x∈xs):x.bytes.length<=((xs.map It.bytes).flatten).length:=by
 induction xs with
 | nil=>cases h
 | cons y ys ih =>
  rw [List.map_cons,List.flatten_cons,List.length_append];rcases List.mem_cons.1 h with rfl | h
  .omega
  .have:=ih h; omega
theorem vo {d:Nat} {x:It} (h:Fits d x) (hb:x.bytes.length<=4294967296):x.l=true->x.bytes.length=(iT ((x.xs.map It.bytes).flatten).length true).length+((x.xs.map It.bytes).flatten).length:=by
 intro hl;cases h with
 | mk ha hs hx hy =>
  rename_i l s xs;obtain rfl:l=true:=hl;obtain rfl:=hs rfl;have hi:=mJ (.mk true ⟨#[]⟩ xs);rw [inner_mk] at hi;rw [jZ xs (Nat.le_trans hi hb),List.length_append];rfl
theorem yU {d:Nat} {x:It} (h:Fits d x) (hx:x.xs≠[]):x.l=true:=by
 cases h with
 | mk ha hs hx' hy =>
  rename_i l s xs;cases l with
  | true=>rfl
  | false=>exact absurd (hx' rfl) hx
theorem sS {x y:It} (h:Fits d x) (hb:x.bytes.length<=4294967296) (hy:y∈x.xs):y.bytes.length<x.bytes.length:=by
 have hl:=yU h (by intro e; rw [e] at hy; cases hy);have h1:=vo h hb hl;have h2:=xV hy;have h3:=gM ((x.xs.map It.bytes).flatten).length true;omega
theorem JN {d:Nat} {x y:It} (h:Fits d x) (hy:y∈x.xs):Fits (d+1) y:=by
 cases h with
 | mk ha hs hx h=>exact h y hy
theorem BR {x:It} (h:jP x=some k):dG k=true\/k.size=x.bytes.length/\k.size<32:=by
 unfold jP at h;split at h
 .split at h
  .rename_i h1;obtain rfl:=Option.some.inj h;exact .inr ⟨sW _,by rw [sW]; exact h1⟩
  .cases h
 .split at h
  .rename_i h1;obtain rfl:=Option.some.inj h;exact .inl h1
  .cases h
theorem zX:∀ {xs:List It} {ks:List aM},mP xs=some ks->ks.length=xs.length/\∀ k∈ks,∃ x∈xs,jP x=some k
 | [],ks,h=>by
  obtain rfl:=Option.some.inj h;exact ⟨rfl,λk hk=>by cases hk⟩
 | x::xs,ks,h=>by
  unfold mP at h;split at h
  .cases h
  .rename_i k hk;split at h
   .cases h
   .rename_i ks' hks;obtain rfl:=Option.some.inj h;obtain ⟨h1,h2⟩:=zX hks;refine ⟨by simp [h1],λj hj=>?_⟩;rcases List.mem_cons.1 hj with rfl | hj
    .exact ⟨x,List.mem_cons_self ..,hk⟩
    .obtain ⟨y,hy,e⟩:=h2 j hj;exact ⟨y,List.mem_cons_of_mem _ hy,e⟩
theorem tY:dG eB=true:=aK (.inl rfl)
theorem iP (k:aM):(iF k).length=16:=by simp [iF]
theorem jE {xs:List It} (h:i<xs.length):xs.getD i it0∈xs:=by
 rw [List.getD_eq_getElem?_getD,List.getElem?_eq_getElem h];exact List.getElem_mem _
theorem GY {xs:List It} {n:Nd} (h:dJ xs=some n):n.ks.length=16/\∀ k∈n.ks,dG k=true\/∃ x∈xs,jP x=some k:=by
 have hz:∀ k∈zks,dG k=true:=λk hk=>by
  rw [List.eq_of_mem_replicate hk]; exact tY
 unfold dJ at h;by_cases h2:xs.length=2
 .rw [if_pos h2] at h;unfold gG at h;split at h
  .cases h
  .split at h
   .obtain rfl:=Option.some.inj h;exact ⟨rfl,λk hk=>.inl (hz k hk)⟩
   .obtain ⟨k,hk,rfl⟩:=Option.map_eq_some_iff.1 h;refine ⟨iP k,λj hj=>?_⟩;rcases List.mem_cons.1 hj with rfl | hj
    .exact .inr ⟨_,jE (by omega),hk⟩
    .rw [List.eq_of_mem_replicate hj]; exact .inl tY
 .rw [if_neg h2] at h;by_cases eE:xs.length=17
  .rw [if_pos eE] at h;unfold dh at h;split at h
   .cases h
   .rename_i ks hks;split at h
    .obtain rfl:=Option.some.inj h;obtain ⟨g1,g2⟩:=zX hks;refine ⟨by rw [g1,List.length_take]; omega,λk hk=>?_⟩;obtain ⟨x,hx,e⟩:=g2 k hk;exact .inr ⟨x,List.mem_of_mem_take hx,e⟩
    .cases h
  .rw [if_neg eE] at h; cases h
theorem yB {s:aN} {x:It} {n:Nd} (hs:s.length<=4294967296) (h:fV s = .ok x) (hn:dJ x.xs=some n):n.ks.length=16/\∀ k∈n.ks,dG k=true\/(k.size<32/\k.size<s.length):=by
 obtain ⟨g1,g2,g3⟩:=kD hs h;obtain ⟨h1,h2⟩:=GY hn;refine ⟨h1,λk hk=>?_⟩;rcases h2 k hk with hp | ⟨y,hy,e⟩
 .exact .inl hp
 .rcases BR e with hp | ⟨e1,e2⟩
  .exact .inl hp
  .have:=sS g2 (by rw [g1]; exact hs) hy;rw [g1] at this;exact .inr ⟨e2,by omega⟩
theorem CY (s:aN) (hs:s.length<=4294967296):mK s=match fV s with
  | .error _=>none
  | .ok x=>match dJ x.xs with
   | none=>none
   | some n=>if fB bU n then some n else none:=by
 rw [mK];cases hw:fV s with
 | error c=>rfl
 | ok x =>
  dsimp only;cases hn:dJ x.xs with
  | none=>rfl
  | some n =>
   dsimp only;obtain ⟨h1,h2⟩:=yB hs hw hn;rw [GJ (R':=bU) (λk hk=>?_) h1];unfold bU;rcases h2 k hk with hp | hb
   .rw [hp]; rfl
   .rw [dif_pos hb];simp [hb.1]
theorem qB {s:aN} (hs:s.length<=4294967296) {n:Nd} (h:mK s=some n):∃ x,fV s = .ok x/\dJ x.xs=some n/\fB bU n=true:=by
 rw [CY s hs] at h;split at h
 .cases h
 .rename_i x hw;split at h
  .cases h
  .rename_i m hm;split at h
   .rename_i hmay;obtain rfl:=Option.some.inj h;exact ⟨x,hw,hm,hmay⟩
   .cases h
end No
end
section
open Go.RowKit
namespace Rf
open Rl Ni No
theorem Er {s:aN} (hs:s.length<=4294967296) {n:Nd} (h:mK s=some n):n.ks.length=16/\fB bU n=true/\∀ k∈n.ks,dG k=true\/(k.size<32/\k.size<s.length):=by
 obtain ⟨x,h1,h2,h3⟩:=qB hs h;obtain ⟨g1,g2⟩:=yB hs h1 h2;exact ⟨g1,h3,g2⟩
theorem kP {xs:List aM} (hj:j<xs.length):xs.getD j eB∈xs:=by
 have e:xs.getD j eB=xs[j]:=by simp [List.getD,hj]
 rw [e]; exact List.getElem_mem hj
theorem ou (h:dG k=true):k.size=0\/k.size=32:=of_decide_eq_true h
def zR (k:aM):Nat:=if k.size<32 then k.size else 0
theorem Nr (h:dG k=true):zR k=0:=by
 unfold zR;have:=ou h;split <;> omega
theorem Jd {x:It} (h:jP x=some k):zR k<=x.bytes.length:=by
 rcases BR h with hp | ⟨h1,h2⟩
 .rw [Nr hp]; omega
 .unfold zR; rw [if_pos h2]; omega
theorem DX:∀ {xs:List It} {ks:List aM},mP xs=some ks->(ks.map zR).sum<=((xs.map It.bytes).flatten).length
 | [],ks,h=>by
  obtain rfl:=Option.some.inj h;simp
 | x::xs,ks,h=>by
  unfold mP at h;split at h
  .cases h
  .rename_i k hk;split at h
   .cases h
   .rename_i ks' hks;obtain rfl:=Option.some.inj h;have h1:=DX hks;have h2:=Jd hk;rw [List.map_cons,List.sum_cons,List.map_cons,List.flatten_cons,List.length_append];omega
theorem xZ:∀ (m:Nat),((List.replicate m eB).map zR).sum=0
 | 0=>rfl
 | m+1=>by rw [List.replicate_succ,List.map_cons,List.sum_cons,xZ m]; rfl
theorem LV (xs:List It) (q:Nat):(((xs.take q).map It.bytes).flatten).length<=((xs.map It.bytes).flatten).length:=by
 have h:(xs.map It.bytes).flatten=((xs.take q).map It.bytes).flatten++((xs.drop q).map It.bytes).flatten:=by
  rw [<-List.flatten_append,<-List.map_append,List.take_append_drop]
 rw [h,List.length_append];omega
theorem Mj {xs:List It} {n:Nd} (h:dJ xs=some n):(n.ks.map zR).sum<=((xs.map It.bytes).flatten).length:=by
 unfold dJ at h;by_cases h2:xs.length=2
 .rw [if_pos h2] at h;unfold gG at h;split at h
  .cases h
  .split at h
   .obtain rfl:=Option.some.inj h;have:(zks.map zR).sum=0:=xZ 16;show (zks.map zR).sum<=_;omega
   .obtain ⟨k,hk,rfl⟩:=Option.map_eq_some_iff.1 h;have h1:=Jd hk;have h3:=xV (jE (xs:=xs) (i:=1) (by omega));show ((k::List.replicate 15 eB).map zR).sum<=_;rw [List.map_cons,List.sum_cons,xZ];omega
 .rw [if_neg h2] at h;by_cases eE:xs.length=17
  .rw [if_pos eE] at h;unfold dh at h;split at h
   .cases h
   .rename_i ks hks;split at h
    .obtain rfl:=Option.some.inj h;exact Nat.le_trans (DX hks) (LV xs 16)
    .cases h
  .rw [if_neg eE] at h; cases h
theorem Kr {xs:List It} {n:Nd} (h:dJ xs=some n):xs≠[]:=by
 rintro rfl;unfold dJ at h;rw [if_neg (by decide),if_neg (by decide)] at h;cases h
theorem SL {s:aN} (hs:s.length<=4294967296) {n:Nd} (h:mK s=some n):(n.ks.map zR).sum+1<=s.length:=by
 obtain ⟨x,h1,h2,h3⟩:=qB hs h;obtain ⟨g1,g2,g3⟩:=kD hs h1;have hl:=yU g2 (Kr h2);have hb:=vo g2 (by rw [g1]; exact hs) hl;have ho:=Mj h2;have hh:=gM ((x.xs.map It.bytes).flatten).length true;rw [g1] at hb;omega
end Rf
end
namespace Sh
def sZ (x:Nat):Nat:=x/2+x%2*2147483648
def bK:Nat->Nat->Nat
 | x,0=>x
 | x,n+1=>bK (sZ x) n
theorem Oc (x:Nat) (h:x<4294967296):sZ x<4294967296:=by unfold sZ; omega
theorem bS:∀ (n x:Nat),x<4294967296->bK x n<4294967296
 | 0,_,h=>h
 | n+1,x,h=>bS n _ (Oc x h)
theorem xC:∀ (n x:Nat),bK x (n+1)=sZ (bK x n)
 | 0,_=>rfl
 | n+1,x=>by
  show bK (sZ x) (n+1)=sZ (bK (sZ x) n);exact xC n (sZ x)
theorem Fa:∀ (n x:Nat),x<4294967296->n<=32->bK x n=x/2 ^ n+x%2 ^ n*2 ^ (32-n)
 | 0,x,_,_=>by simp [bK,Nat.mod_one]
 | n+1,x,h,hn=>by
  rw [xC,Fa n x h (by omega)];unfold sZ;have e1:2 ^ (32-n)=2*2 ^ (32-(n+1)):=by rw [<-Nat.pow_succ']; congr 1; omega
  have e2:(2:Nat) ^ (n+1)=2 ^ n*2:=Nat.pow_succ ..
  have e3:(2:Nat) ^ n*2 ^ (32-(n+1))=2147483648:=by
   rw [<-Nat.pow_add,show n+(32-(n+1))=31 by omega]
  have hp:0<2 ^ n:=Nat.pow_pos (by omega);generalize 2 ^ (32-(n+1))=A at *
  generalize 2 ^ n=B at *
  rw [e1,e2,<-Nat.div_div_eq_div_mul,Nat.mod_mul];generalize hq:x/B=q;generalize x%B=r;have h1:r*(2*A)=2*(r*A):=by rw [Nat.mul_left_comm]
  have h2:(r+B*(q%2))*A=r*A+q%2*2147483648:=by
   rw [Nat.add_mul,<-e3,Nat.mul_assoc,Nat.mul_left_comm (q%2) B A]
  rw [h1,h2];generalize r*A=z;omega
def rQ:Nat->Nat->Nat
 | x,0=>x
 | x,n+1=>rQ (x/2) n
theorem qy:∀ (n x:Nat),rQ x n=x/2 ^ n
 | 0,x=>by simp [rQ]
 | n+1,x=>by
  show rQ (x/2) n=_;rw [qy n,Nat.div_div_eq_div_mul,Nat.pow_succ']
def UC:List Nat:=[
 1116352408,1899447441,3049323471,3921009573,961987163,1508970993,2453635748,2870763221,
 3624381080,310598401,607225278,1426881987,1925078388,2162078206,2614888103,3248222580,
 3835390401,4022224774,264347078,604807628,770255983,1249150122,1555081692,1996064986,
 2554220882,2821834349,2952996808,3210313671,3336571891,3584528711,113926993,338241895,
 666307205,773529912,1294757372,1396182291,1695183700,1986661051,2177026350,2456956037,
 2730485921,2820302411,3259730800,3345764771,3516065817,3600352804,4094571909,275423344,
 430227734,506948616,659060556,883997877,958139571,1322822218,1537002063,1747873779,
 1955562222,2024104815,2227730452,2361852424,2428436474,2756734187,3204031479,3329325298]
def kN (i:Nat):Nat:=UC.getD i 0
end Sh
section
open Go.RowKit
namespace Sh
theorem gL {rest:List Oper} {a:Act} (hgd:o.guard=none) (v:Value) (w':World)
  (hr:(execOp a.eval o).run P w = .ok (.value v) w') (h:wpList P ops Q rest (a.put o.dst v) w'):wpList P ops Q (o::rest) a w :=
 wpList_plain hgd λK hK=>by
  unfold Oper.wp;rw [hr];exact hK _ _ h
end Sh
end
namespace Sh
def mM (g:Nat->Nat) (i:Nat):Nat->Nat
 | 0=>0
 | j+1=>256*mM g i j+g (4*i+j)
theorem Fz (g:Nat->Nat) (hg:∀ q,g q<256) (i:Nat):∀ j,mM g i j<256 ^ j
 | 0=>by simp [mM]
 | j+1=>by
  have:=Fz g hg i j;have:=hg (4*i+j);rw [mM,Nat.pow_succ];omega
def sg0 (x:Nat):Nat:=bK x 7 ^^^ bK x 18 ^^^ rQ x 3
def sg1 (x:Nat):Nat:=bK x 17 ^^^ bK x 19 ^^^ rQ x 10
def AY (g:Nat->Nat) (l:List Nat) (k:Nat):Nat :=
 if k<16 then mM g k 4 else (l.getD (k-16) 0+sg0 (l.getD (k-15) 0)+l.getD (k-7) 0+sg1 (l.getD (k-2) 0))%4294967296
def mV (g:Nat->Nat):Nat->List Nat
 | 0=>[]
 | k+1=>mV g k++[AY g (mV g k) k]
theorem jv (g:Nat->Nat):∀ k,(mV g k).length=k
 | 0=>rfl
 | k+1=>by rw [mV,List.length_append,jv g k]; rfl
theorem Ob (g:Nat->Nat) (hg:∀ q,g q<256) (l:List Nat) (k:Nat):AY g l k<4294967296:=by
 unfold AY;split
 .exact Fz g hg k 4
 .exact Nat.mod_lt _ (by omega)
theorem Df (g:Nat->Nat) (hg:∀ q,g q<256):∀ k,∀ x∈mV g k,x<4294967296
 | 0,x,h=>by cases h
 | k+1,x,h=>by
  rw [mV] at h;rcases List.mem_append.1 h with h | h
  .exact Df g hg k x h
  .rw [List.mem_singleton.1 h]; exact Ob g hg _ _
theorem getD_lt {l:List Nat} (h:∀ x∈l,x<4294967296) (j:Nat):l.getD j 0<4294967296:=by
 by_cases hj:j<l.length
 .rw [List.getD,List.getElem?_eq_getElem hj]; exact h _ (List.getElem_mem hj)
 .rw [List.getD,List.getElem?_eq_none (by omega)]; decide
theorem wV {a b c:Nat} (ha:a<4294967296) (hb:b<4294967296) (hc:c<4294967296):a ^^^ b ^^^ c<4294967296 :=
 Nat.xor_lt_two_pow (n:=32) (Nat.xor_lt_two_pow (n:=32) ha hb) hc
theorem Ba (x n:Nat) (h:x<4294967296):rQ x n<4294967296:=by rw [qy]; exact Nat.lt_of_le_of_lt (Nat.div_le_self _ _) h
theorem Ua (x:Nat) (h:x<4294967296):sg0 x<4294967296:=wV (bS _ _ h) (bS _ _ h) (Ba _ _ h)
theorem Ui (x:Nat) (h:x<4294967296):sg1 x<4294967296:=wV (bS _ _ h) (bS _ _ h) (Ba _ _ h)
def bs1 (e:Nat):Nat:=bK e 6 ^^^ bK e 11 ^^^ bK e 25
def bs0 (a:Nat):Nat:=bK a 2 ^^^ bK a 13 ^^^ bK a 22
def EX (e f g:Nat):Nat:=(e &&& f) ||| ((4294967295-e) &&& g)
def EH (a b c:Nat):Nat:=(a &&& b) ||| (a &&& c) ||| (b &&& c)
theorem Um (x:Nat) (h:x<4294967296):bs1 x<4294967296:=wV (bS _ _ h) (bS _ _ h) (bS _ _ h)
theorem Ux (x:Nat) (h:x<4294967296):bs0 x<4294967296:=wV (bS _ _ h) (bS _ _ h) (bS _ _ h)
theorem QA (e f g:Nat) (he:e<4294967296):EX e f g<4294967296 :=
 Nat.or_lt_two_pow (n:=32) (Nat.lt_of_le_of_lt Nat.and_le_left he) (Nat.lt_of_le_of_lt Nat.and_le_left (by omega))
theorem Qo (a b c:Nat) (ha:a<4294967296) (hb:b<4294967296):EH a b c<4294967296 :=
 Nat.or_lt_two_pow (n:=32) (Nat.or_lt_two_pow (n:=32) (Nat.lt_of_le_of_lt Nat.and_le_left ha) (Nat.lt_of_le_of_lt Nat.and_le_left ha)) (Nat.lt_of_le_of_lt Nat.and_le_left hb)
def xN (k w e f g h:Nat):Nat:=(h+bs1 e+EX e f g+k+w)%4294967296
def yN (a b c:Nat):Nat:=(bs0 a+EH a b c)%4294967296
def uP (k w:Nat) (v:List Nat):List Nat :=
 [(xN k w (v.getD 4 0) (v.getD 5 0) (v.getD 6 0) (v.getD 7 0)+yN (v.getD 0 0) (v.getD 1 0) (v.getD 2 0))%4294967296,v.getD 0 0,v.getD 1 0,v.getD 2 0,
  (v.getD 3 0+xN k w (v.getD 4 0) (v.getD 5 0) (v.getD 6 0) (v.getD 7 0))%4294967296,v.getD 4 0,v.getD 5 0,v.getD 6 0]
def Am (ws:List Nat) (h:List Nat):Nat->List Nat
 | 0=>h
 | k+1=>uP (kN k) (ws.getD k 0) (Am ws h k)
theorem vN (ws h:List Nat) (hh:h.length=8):∀ k,(Am ws h k).length=8
 | 0=>hh
 | _+1=>rfl
theorem Cq (ws h:List Nat) (hh:∀ x∈h,x<4294967296):∀ k,∀ x∈Am ws h k,x<4294967296
 | 0=>hh
 | k+1=>by
  have ih:=λj=>getD_lt (Cq ws h hh k) j;intro x hx;simp only [Am,uP,List.mem_cons,List.not_mem_nil,or_false] at hx;rcases hx with rfl | rfl | rfl | rfl | rfl | rfl | rfl | rfl <;> first | exact ih _ | exact Nat.mod_lt _ (by omega)
def Gw (h v:List Nat) (k:Nat):List Nat:=(List.range k).map λi=>(h.getD i 0+v.getD i 0)%4294967296
def qZ (g:Nat->Nat) (h:List Nat):List Nat:=Gw h (Am (mV g 64) h 64) 8
theorem vH (h v:List Nat) (k:Nat):(Gw h v k).length=k:=by simp [Gw]
theorem Ju (h v:List Nat) (k:Nat):∀ x∈Gw h v k,x<4294967296:=by
 intro x hx;simp only [Gw,List.mem_map] at hx;obtain ⟨_,_,rfl⟩:=hx;exact Nat.mod_lt _ (by omega)
def qY (h v:List Nat) (j:Nat):List Nat:=(List.range 8).map λi=>if i<j then (h.getD i 0+v.getD i 0)%4294967296 else h.getD i 0
theorem nD (h v:List Nat) (j:Nat):(qY h v j).length=8:=by simp [qY]
theorem Kz (h v:List Nat) (hh:h.length=8):qY h v 0=h:=by
 apply List.ext_getElem
 .rw [nD,hh]
 .intro i h1 h2;simp [qY,List.getD,h2]
theorem QS (h v:List Nat):qY h v 8=Gw h v 8:=by
 unfold qY Gw;apply List.map_congr_left;intro i hi;rw [if_pos (List.mem_range.1 hi)]
theorem LA (h v:List Nat) (j:Nat) (hj:j<8):(qY h v j).getD j 0=h.getD j 0:=by simp [qY,List.getD,hj]
theorem Pj (h v:List Nat) (j:Nat) (hj:j<8):(qY h v j).set j ((h.getD j 0+v.getD j 0)%4294967296)=qY h v (j+1):=by
 apply List.ext_getElem
 .simp [nD]
 .intro i h1 h2;rw [nD] at h2;by_cases e:i=j
  .subst e; simp [qY]
  .rw [List.getElem_set_ne (by omega)];have:i<j+1↔i<j:=by omega
   simp [qY,this]
theorem eight (l:List Nat) (h:l.length=8):∃ x0 x1 x2 x3 x4 x5 x6 x7,l=[x0,x1,x2,x3,x4,x5,x6,x7]:=by
 match l,h with
 | [x0,x1,x2,x3,x4,x5,x6,x7],_=>exact ⟨_,_,_,_,_,_,_,_,rfl⟩
def jI (n:Nat):Nat:=(119-n%64)%64
def JB (l:aN) (k:Nat):aN:=l++[128]++List.replicate k 0
def beK (N k:Nat):aN:=((List.range k).map λj=>UInt8.ofNat (N/256 ^ j%256)).reverse
def jQ (l:aN):aN:=JB l (jI l.length)++beK (8*l.length) 8
theorem Dl (l:aN) (k:Nat):(JB l k).length=l.length+1+k:=by simp [JB]; omega
theorem yE (N k:Nat):(beK N k).length=k:=by simp [beK]
theorem CS (l:aN):(jQ l).length=l.length+9+jI l.length:=by simp [jQ,Dl,yE]; omega
theorem ML (l:aN):(jQ l).length%64=0:=by rw [CS]; unfold jI; omega
def start:List Nat:=[1779033703,3144134277,1013904242,2773480762,1359893119,2600822924,528734635,1541459225]
def qR (t:aN) (k q:Nat):Nat:=(t.getD (64*k+q) 0).toNat
def sI (t:aN):Nat->List Nat
 | 0=>start
 | k+1=>qZ (qR t k) (sI t k)
def kS (t:aN) (h:List Nat):Nat->List Nat
 | 0=>h
 | k+1=>qZ (qR t k) (kS t h k)
theorem yO (t:aN):∀ k,kS t start k=sI t k
 | 0=>rfl
 | k+1=>by rw [kS,sI,yO t k]
theorem vP (t:aN) (h:List Nat) (hh:h.length=8):∀ k,(kS t h k).length=8
 | 0=>hh
 | _+1=>vH _ _ _
theorem Jk (t:aN) (h:List Nat) (hh:∀ x∈h,x<4294967296):∀ k,∀ x∈kS t h k,x<4294967296
 | 0=>hh
 | _+1=>Ju _ _ _
theorem vL {g g':Nat->Nat} (i:Nat):∀ j,(∀ q,q<4*i+j->g q=g' q)->mM g i j=mM g' i j
 | 0,_=>rfl
 | j+1,h=>by rw [mM,mM,vL i j (λq hq=>h q (by omega)),h _ (by omega)]
theorem yZ {g g':Nat->Nat} (h:∀ q,q<64->g q=g' q):∀ k,mV g k=mV g' k
 | 0=>rfl
 | k+1=>by
  rw [mV,mV,yZ h k];congr 2;unfold AY;split
  .exact vL k 4 (λq hq=>h q (by omega))
  .rfl
theorem sw {g g':Nat->Nat} (h:∀ q,q<64->g q=g' q) (hs:List Nat):qZ g hs=qZ g' hs:=by
 unfold qZ;rw [yZ h]
theorem Bl (t u:aN) (a:Nat) (ht:t.length=64*a) (h:List Nat):∀ b,kS (t++u) h (a+b)=kS u (kS t h a) b
 | 0=>by
  have:∀ k,k<=a->kS (t++u) h k=kS t h k:=by
   intro k
   induction k with
   | zero=>intro _; rfl
   | succ k ih =>
    intro hk;rw [kS,kS,ih (by omega)];refine sw (λq hq=>?_) _;unfold qR;rw [List.getD,List.getD,List.getElem?_append_left (by omega)]
  exact this a aH
 | b+1=>by
  show kS (t++u) h (a+b+1)=_;rw [kS,kS,Bl t u a ht h b];refine sw (λq _=>?_) _;unfold qR;rw [List.getD,List.getD,List.getElem?_append_right (by omega),ht,show 64*(a+b)+q-64*a=64*b+q by omega]
theorem Dh (t:aN):∀ k,(sI t k).length=8
 | 0=>rfl
 | _+1=>vH _ _ _
theorem Pn (t:aN):∀ k,∀ x∈sI t k,x<4294967296
 | 0=>by show ∀ x∈start,x<4294967296; decide
 | _+1=>Ju _ _ _
def rC (s:aM) (q:Nat):Nat:=(s.data.toList.getD q 0).toNat
theorem Mk (s:aM) (q:Nat):rC s q<256:=UInt8.toNat_lt _
theorem LC (s:aM) (q:Nat) (h:q<s.size):s[q].toNat=rC s q:=by
 have hl:q<s.data.toList.length:=by simpa using h
 unfold rC;rw [List.getD,List.getElem?_eq_getElem hl]; rfl
def Cg (h:List Nat) (i:Nat):Nat:=h.getD (i/4) 0/256 ^ (3-i%4)%256
def NJ (h:List Nat) (k:Nat):aN:=(List.range k).map λi=>UInt8.ofNat (Cg h i)
theorem DU (h:List Nat) (k:Nat):(NJ h k).length=k:=by simp [NJ]
def Nn (l:aN):aN:=NJ (sI (jQ l) ((jQ l).length/64)) 32
theorem pG (l:aN):(Nn l).length=32:=DU _ _
end Sh
section
open Go.RowKit
namespace Sh
end Sh
end
section
open Go.RowKit
namespace Sm
open Sh
theorem Tt {a b:Int} (h:a=b):Ending.returned (.int .u32 a) = .returned (.int .u32 b):=by rw [h]
theorem SY (n:Nat) (h1:1<=n) (h2:n<=31):bits .and .u64 (IntKind.u64.wrap (-(n:Int))) 31=32-(n:Int):=by
 have e:IntKind.u64.wrap (-(n:Int))=((18446744073709551616-n:Nat):Int):=by rw [IntKind.wrap_u64]; omega
 rw [e,show (31:Int)=((31:Nat):Int) from rfl,u64_and_nat _ _ (by omega) (by omega),nat_mask5];omega
theorem Uw (x n:Nat) (hx:x<4294967296) (h2:n<=31) :
  bits .or .u32 ((x:Int)*2 ^ (32-n)%4294967296) ((x:Int)/2 ^ (32-(32-n)))=(bK x n:Nat):=by
 have e0:32-(32-n)=n:=by omega
 have hp:2 ^ n*2 ^ (32-n)=4294967296:=by rw [<-Nat.pow_add,show n+(32-n)=32 by omega]
 have e1:x*2 ^ (32-n)%4294967296=x%2 ^ n*2 ^ (32-n):=by rw [<-hp,Nat.mul_mod_mul_right]
 have hb:x/2 ^ n<2 ^ (32-n):=by
  rw [Nat.div_lt_iff_lt_mul (Nat.pow_pos (by omega)),Nat.mul_comm,hp]; exact hx
 have ha:x*2 ^ (32-n)%4294967296<4294967296:=Nat.mod_lt _ (by omega);have c1:((x:Int)*2 ^ (32-n)%4294967296)=((x*2 ^ (32-n)%4294967296:Nat):Int):=by simp
 have c2:((x:Int)/2 ^ n)=((x/2 ^ n:Nat):Int):=by simp
 rw [e0,c1,c2,u32_or_nat _ _ ha (Nat.lt_of_le_of_lt (Nat.div_le_self _ _) hx),e1,nat_join (32-n) _ _ (Nat.mul_mod_left _ _) hb,Fa n x hx (by omega),Nat.add_comm]
theorem SF (x n:Nat) (hx:x<4294967296) (h1:1<=n) (h2:n<=31) (w:World) :
  Calls prog 181 #[.int .u32 x,.int .i64 (-(n:Int))] w λe w'=>e = .returned (.int .u32 (bK x n:Nat))/\w=w':=by
 have hA:=SY n h1 h2;have HO:=hid (Uw x n hx h2);go_enter func181,ntmps181;go_wp2;go_ret;exact ⟨Tt HO.out,rfl⟩
theorem eD (x n:Nat) (N:Int) (hN:N=n) (hx:x<4294967296) (h1:1<=n) (h2:n<=31) (w:World) :
  Calls prog 170 #[.int .u32 x,.int .i64 N] w λe w'=>e = .returned (.int .u32 (bK x n:Nat))/\w=w':=by
 subst hN;have HR:=hid (SF x n hx h1 h2);go_enter func170,ntmps170;go_wp2_with (go_at_call 181; refine (HR.out _).mono ?_; rintro e w1 ⟨rfl,rfl⟩)
 go_ret;exact ⟨rfl,rfl⟩
def upB (m n k:Nat):Nat:=n/256 ^ (m-1-k)%256
def ni (w:World) (g off m n:Nat):Nat->World
 | 0=>w
 | k+1=>(ni w g off m n k).setCell ⟨g,off+k,none⟩ (.int .u8 (upB m n k:Nat))
theorem qJ {w:World} {g off m n N:Nat} {t:TypeId} {f:Nat->Value} (h:w.rowIs g t N f):∀ k,(ni w g off m n k).rowIs g t N (λj=>if off<=j/\j<off+k then .int .u8 (upB m n (j-off):Nat) else f j)
 | 0=>h.congr (λj _=>by rw [if_neg (by omega)])
 | k+1=>((qJ h k).set (off+k) _).congr (λj _=>by
  by_cases e:j=off+k
  .subst e; simp
  .by_cases e2:off<=j/\j<off+k
   .rw [if_neg e,if_pos e2,if_pos (by omega)]
   .rw [if_neg e,if_neg e2,if_neg (by omega)])
theorem qh {B:Nat} {w0 w:World} (h:Below B w0 w) {g off m n:Nat} (hg:B<=g):∀ k,Below B w0 (ni w g off m n k)
 | 0=>h
 | k+1=>(qh h hg k).setCell (p:=⟨g,off+k,none⟩) hg _
theorem wK (g off m c n N:Nat) (t:TypeId) (f:Nat->Value) (w:World) (h:w.rowIs g t N f) (hm:off+m<=N) (pf:m<=8) :
  Calls prog 108 #[.slice (some ⟨g,off,none⟩) m c,.int .u64 n] w λe w'=>e = .returned (.tuple #[])/\w'=ni w g off m n m:=by
 have yk:=hid (λk=>qJ (off:=off) (m:=m) (n:=n) h k);clear h;go_enter func108,ntmps108;go_wp2;go_loopw [7] (λi wr=>∃ k:Nat,k<=m/\i = .int .i64 k/\wr=ni w g off m n k) (λi _=>m-(intOf i).toNat)
 case atStart=>exact ⟨0,Nat.zero_le _,rfl,rfl⟩
 case round =>
  obtain ⟨k,hk,rfl,rfl⟩:=hrel;by_cases hlt:k<m
  .have hr:=yk.out k;have hc:=hr.cell (i:=off+k) (by omega);rw [if_neg (by omega)] at hc;have hf:=hr.frozen (off+k);clear hr;have HN:Hid ((ni w g off m n k).setCell ⟨g,off+k,none⟩ (.int .u8 (upB m n k:Nat))=ni w g off m n (k+1)):=hid rfl;obtain ⟨wk,hwk⟩:=aA (ni w g off m n k)
   rw [hwk] at hc hf HN ⊢;clear hwk;go_wp2;have HE:((n:Int)/2 ^ (8*(m-1-k))%256)=(upB m n k:Nat):=by
    unfold upB;rw [show 2 ^ (8*(m-1-k))=((256 ^ (m-1-k):Nat):Int) by rw [Int.natCast_pow,show ((256:Nat):Int)=2 ^ 8 from rfl,<-Int.pow_mul]];simp
   go_roundw
   case rel=>exact ⟨k+1,by omega,by go_num,by rw [HE,HN.out]⟩
   case measure=>simp [intOf]; omega
  .obtain rfl:k=m:=by omega
   have HW:Hid (ni w g off k n k=ni w g off k n k):=hid rfl;obtain ⟨wk,hwk⟩:=aA (ni w g off k n k)
   have Th:=hid hwk;rw [hwk];clear yk hwk HW;go_wp2;go_end0;exact ⟨rfl,Th.out.symm⟩
def nV (n:Nat):aN:=[128]++List.replicate (jI n) 0++beK (8*n) 8
theorem Kn (l:aN):jQ l=l++nV l.length:=by simp [jQ,JB,nV]
theorem pq (n:Nat):(nV n).length=jI n+9:=by simp [nV,yE]
theorem QB (n j:Nat) (h:j<8):((beK n 8).getD j 0).toNat=upB 8 n j:=by
 unfold upB;have:(beK n 8).getD j 0=UInt8.ofNat (n/256 ^ (7-j)%256):=by
  unfold beK;rw [List.getD,List.getElem?_reverse (by simpa using h)];simp only [List.length_map,List.length_range,List.getElem?_map];rw [List.getElem?_range (by omega)];simp only [Option.map_some,Option.getD_some]
 rw [this];simp
theorem KE (n j:Nat) (h:j<jI n+9):((nV n).getD j 0).toNat=if j=0 then 128 else if 1+jI n<=j then upB 8 (8*n) (j-(1+jI n)) else 0:=by
 unfold nV;by_cases h0:j=0
 .subst h0; simp
 .rw [if_neg h0];by_cases h1:1+jI n<=j
  .rw [if_pos h1,List.getD,List.getElem?_append_right (by simp; omega)];rw [<-QB _ _ (by omega),List.getD];congr 3;simp;omega
  .rw [if_neg h1,List.getD,List.getElem?_append_left (by simp; omega),List.getElem?_append_right (by simp; omega)];simp only [List.length_singleton,List.getElem?_replicate];rw [if_pos (by omega)];rfl
theorem Dy (n:Nat) (hn:n<=1000000) (w:World) :
  Calls prog 107 #[.int .i64 n] w λe w'=>e = .returned (.string ⟨(nV n).toArray⟩)/\Below w.heap.size w w':=by
 have hz:jI n<64:=Nat.mod_lt _ (by omega);obtain ⟨z,AI⟩:=aA (jI n)
 obtain ⟨m,hm⟩:=aA (z+9)
 have hmk:=run_make_row' (P:=prog) 35 5 (.int .u8 0) 1 underlying35 Bu.uq rfl .i64 .i64 m (by omega) (by omega);have e:((m:Nat):Int)=1+(z:Int)+8:=by omega
 rw [e] at hmk;have hr:(w.alloc (.cells ((madeCells #[Value.int IntKind.u8 0] m).setIfInBounds 0 (.int .u8 128)) 5)).rowIs w.heap.size 5 m (λj=>if j=0 then .int .u8 128 else .int .u8 0):=by
  have h0:=(World.rowIs_made w (.int .u8 0) m 5).set 0 (.int .u8 128);rw [World.setCell_alloc_at _ _ _ _ _ rfl] at h0;exact h0
 have pf:m-(1+z)=8:=by omega
 have hc0:=(World.rowIs_made w (.int .u8 0) m 5).cell (i:=0) (by omega);have hf0:=(World.rowIs_made w (.int .u8 0) m 5).frozen 0;have HL:=wK w.heap.size (1+z) (m-(1+z)) (m-(1+z)) (8*n) m 5 _ _ hr (by omega) (by omega);rw [show ((8*n:Nat):Int)=8*(n:Int) by omega] at HL;have HL:=hid HL;have hR:=qJ (off:=1+z) (m:=m-(1+z)) (n:=8*n) hr (m-(1+z))
 have hB:=qh (g:=w.heap.size) (off:=1+z) (m:=m-(1+z)) (n:=8*n) ((Below.refl w.heap.size w).alloc aH (.cells ((madeCells #[Value.int IntKind.u8 0] m).setIfInBounds 0 (.int .u8 128)) 5)) aH (m-(1+z));obtain ⟨W,hW⟩:=aA (ni (w.alloc (.cells ((madeCells #[Value.int IntKind.u8 0] m).setIfInBounds 0 (.int .u8 128)) 5)) w.heap.size (1+z) (m-(1+z)) (8*n) (m-(1+z)))
 rw [hW] at hR hB HL;have hI:bf W (some ⟨w.heap.size,0,none⟩) m m (nV n):=by
  refine bf.ofRow (nV n) (by unfold maxLen; omega) hR (by rw [pq,AI,hm]) (λj hj=>?_);rw [KE n j (by omega),AI,pf];by_cases h0:j=0
  .subst h0; simp
  .by_cases h1:1+z<=j
   .rw [if_pos ⟨h1,by omega⟩,if_neg h0,if_pos h1]
   .rw [if_neg (by omega),if_neg h0,if_neg h0,if_neg h1]; rfl
 have hcv:=nA hI;have hzi:(119-(n:Int)%64)%64=z:=by unfold jI at AI; omega
 clear hr e hR hI hW AI pf;go_enter func107,ntmps107;go_wp2_with fail
 refine HL.out.mono ?_;rintro e w1 ⟨rfl,rfl⟩;clear hmk hc0 hf0;go_wp2;go_ret;exact ⟨rfl,hB⟩
def ac (l:List Nat):aO:=(l.map λ(x:Nat)=>Value.int .u32 (x:Int)).toArray
theorem bg (l:List Nat):(ac l).size=l.length:=by simp [ac]
theorem Ig (l:List Nat) (j:Nat) (h:j<l.length):(ac l)[j]? = some (.int .u32 (l.getD j 0:Nat)):=by simp [ac,List.getD,h]
theorem gY (l:List Nat):(ac l).all (·.oneCell')=true:=by
 rw [Array.all_eq_true];intro i hi;simp [ac];rfl
theorem lK:(prog.info? 211).map (·.size)=some 64:=by kernel_rfl
theorem iU:(prog.info? 173).map (·.size)=some 8:=by kernel_rfl
theorem UM {f:Nat->Value} (l:List Nat) (h:w.rowIs g t n f) (hl:l.length=n) (hf:∀ j,j<n->f j = .int .u32 (l.getD j 0:Nat)):w.heap[g]? = some (.cells (ac l) t (0,0)):=by
 obtain ⟨c,hg,hs,hc⟩:=h;have:c=ac l:=by
  apply Array.ext
  .rw [hs,bg,hl]
  .intro i hi _;have h1:=hc i (by omega);rw [hf i (by omega),<-Ig l i (by omega)] at h1;have h2:c[i]? = some c[i]:=Array.getElem?_eq_getElem hi;rw [h2] at h1;have h3:i<(ac l).size:=by rw [bg]; omega
   rw [Array.getElem?_eq_getElem h3] at h1;exact Option.some.inj h1
 rw [hg,this]
theorem dU (h:Below B w w1) (hg:B<=g) (cs:aO):Below B w (w1.setRow g cs) :=
 h.trans ⟨rfl,rfl,rfl,by simp,λk hk=>setRow_other w1 g k cs (by omega)⟩
def Row (w:World) (g:Nat) (t:TypeId) (n:Nat) (l:List Nat):Prop:=w.rowIs g t n (λj=>.int .u32 (l.getD j 0:Nat))
theorem Row.put {l:List Nat} (h:Row w g t n l) (x:Nat):Row (w.setCell ⟨g,l.length,none⟩ (.int .u32 x)) g t n (l++[x]) :=
 (World.rowIs.set h l.length _).congr λj _=>by
  by_cases e:j=l.length
  .subst e; simp
  .rw [if_neg e];by_cases e2:j<l.length
   .simp [List.getD,List.getElem?_append_left e2]
   .rw [List.getD,List.getElem?_eq_none (by omega),List.getD,List.getElem?_eq_none (by simp; omega)]
def za (n:Nat):aO:=ac (List.replicate n 0)
theorem Row.zero (w:World) (t:TypeId) (n:Nat):Row (w.alloc (.cells (za n) t)) w.heap.size t n []:=by
 have h:=World.rowIs_alloc w (za n) t (λ_=>.int .u32 (([]:List Nat).getD 0 0:Nat)) (λi hi=>by
  have hi':i<n:=by simpa [za,ac] using hi
  simp [za,ac,hi'])
 have e:(za n).size=n:=by simp [za,ac]
 rw [e] at h;exact h.congr λj _=>by simp
theorem iK (ev:Operand->Value) (o:Oper) (ho:o.op = .alloc 211) (w:World) :
  (execOp ev o).run prog w = .ok (.value (.pointer (some ⟨w.heap.size,0,none⟩))) (w.alloc (.cells (za 64) 211)):=by
 unfold execOp;rw [ho];kernel_rfl
theorem jA (ev:Operand->Value) (o:Oper) (ho:o.op = .alloc 173) (w:World) :
  (execOp ev o).run prog w = .ok (.value (.pointer (some ⟨w.heap.size,0,none⟩))) (w.alloc (.cells (za 8) 173)):=by
 unfold execOp;rw [ho];kernel_rfl
theorem Vj (a b:Nat) (ha:a<256) (hb:b<256):bits .or .u32 ((a:Int)*16777216) ((b:Int)*65536)=((a*16777216+b*65536:Nat):Int):=by
 have:=u32_or_nat (a*16777216) (b*65536) (by omega) (by omega);rw [nat_join 24 _ _ (by omega) (by omega)] at this;simpa using this
theorem Vg (a c:Nat) (ha:a<65536) (hc:c<256):bits .or .u32 ((a*65536:Nat):Int) ((c:Int)*256)=((a*65536+c*256:Nat):Int):=by
 have:=u32_or_nat (a*65536) (c*256) (by omega) (by omega);rw [nat_join 16 _ _ (by omega) (by omega)] at this;simpa using this
theorem Vi (a d:Nat) (ha:a<16777216) (hd:d<256):bits .or .u32 ((a*256:Nat):Int) (d:Int)=((a*256+d:Nat):Int):=by
 have:=u32_or_nat (a*256) d (by omega) (by omega);rw [nat_join 8 _ _ (by omega) (by omega)] at this;simpa using this
theorem Ta (g:Nat->Nat) (k:Nat):mM g k 4=((g (4*k)*256+g (4*k+1))*256+g (4*k+2))*256+g (4*k+3):=by
 simp only [mM,Nat.add_zero];omega
theorem Du (t:TypeId) (ht:prog.underlying t=some .string) (s:aM) (i v:Nat) (n:Int) (hn:n=i) (hi:i<s.size) (hv:s[i].toNat=v) (w:World) :
  (Instr.index t (.string s) (.int .i64 n)).run prog w = .ok (.int .u8 v) w:=by
 subst hn hv;rw [run_index_string w _ _ _ _ ht];simp [hi]
theorem lJ (ev:Operand->Value) (o:Oper) (T:TypeId) (hT:prog.underlying T=some .string) (s:aM) (i v:Nat) (n:Int) (ho:∃ x y,o.op = .index T x y/\ev x = .string s/\ev y = .int .i64 n) (hn:n=i)
  (hv:∃ h:i<s.size,s[i].toNat=v) (w:World):(execOp ev o).run prog w = .ok (.value (.int .u8 v)) w:=by
 obtain ⟨x,y,ho,hx,hy⟩:=ho;have h:=Du T hT s i v n hn hv.1 hv.2 w;unfold execOp;rw [ho];simp only [hx,hy];simp [h]
theorem Di (s:aM) (hs:64<=s.size) (hsm:s.size<=1000000) (w:World) :
  Calls prog 148 #[.string s] w λe w'=>e = .returned (.agg (ac (mV (rC s) 64)))/\Below w.heap.size w w':=by
 have HQ:=hid (LC s);have HG:=hid (Mk s);have hR0:=Row.zero (w.alloc (.cells (za 64) 211)) 211 64;rw [show (w.alloc (.cells (za 64) 211)).heap.size=w.heap.size+1 by simp] at hR0;have j0:=hid hR0;clear hR0;obtain ⟨g,hg⟩:=aA (rC s)
 rw [hg] at HQ HG ⊢;clear hg;go_enter func148,ntmps148;go_wp2_with (refine gL rfl _ _ (iK _ _ rfl _) ?_)
 go_loopw [8] (λi wr=>∃ k:Nat,k<=16/\i = .int .i64 k/\Hid (Row wr (w.heap.size+1) 211 64 (mV g k))/\Below (w.heap.size+1) (w.alloc (.cells (za 64) 211)) wr) (λi _=>16-(intOf i).toNat)
 case atStart=>exact ⟨0,by omega,rfl,j0,aI.alloc (by simp) _⟩
 case round =>
  obtain ⟨k,hk,rfl,HR,hB⟩:=hrel;by_cases hlt:k<16
  .have p0:4*k<s.size:=by omega
   have p1:4*k+1<s.size:=by omega
   have p2:4*k+2<s.size:=by omega
   have p3:4*k+3<s.size:=by omega
   have q0:=HQ.out _ p0;have q1:=HQ.out _ p1;have q2:=HQ.out _ p2;have q3:=HQ.out _ p3;have g0:=HG.out (4*k);have g1:=HG.out (4*k+1);have g2:=HG.out (4*k+2);have g3:=HG.out (4*k+3);have hc:=HR.out.cell (i:=k) (by omega);have hf:=HR.out.frozen k;have HN:Hid (Row (wr.setCell ⟨w.heap.size+1,k,none⟩ (.int .u32 (mM g k 4:Nat))) (w.heap.size+1) 211 64 (mV g (k+1))):=hid (by
    have:=Row.put HR.out (mM g k 4);rw [jv] at this;rw [mV,AY,if_pos hlt];exact this)
   have HW:=sec (Ta g k);obtain ⟨a,ha⟩:=aA (g (4*k))
   obtain ⟨b,hb⟩:=aA (g (4*k+1))
   obtain ⟨c,hc'⟩:=aA (g (4*k+2))
   obtain ⟨d,hd⟩:=aA (g (4*k+3))
   rw [ha,hb,hc',hd] at HW;rw [ha] at q0 g0;rw [hb] at q1 g1;rw [hc'] at q2 g2;rw [hd] at q3 g3;clear ha hb hc' hd;have o1:=Vj a b g0 g1;have o2:=Vg (a*256+b) c (by omega) g2;have o3:=Vi ((a*256+b)*256+c) d (by omega) g3;rw [show (a*256+b)*65536=a*16777216+b*65536 by omega] at o2;rw [show ((a*256+b)*256+c)*256=a*16777216+b*65536+c*256 by omega] at o3;rw [show a*16777216+b*65536+c*256+d=mM g k 4 by rw [HW.out]; omega] at o3;obtain ⟨y2,hy2⟩:=aA (a*16777216+b*65536+c*256)
   rw [hy2] at o2 o3;obtain ⟨y1,hy1⟩:=aA (a*16777216+b*65536)
   rw [hy1] at o1 o2;clear hy1 hy2;obtain ⟨W,Mo⟩:=aA (mM g k 4)
   rw [Mo] at o3 HN;clear Mo HW;have O1:=sec o1;have O2:=sec o2;have O3:=sec o3;clear o1 o2 o3;have l4:(0:Int)<=(k:Int):=by omega
   have l5:(k:Int)<64:=by omega
   have va:IntKind.u32.wrap (a:Int)=a:=by rw [IntKind.wrap_u32']; omega
   have vb:IntKind.u32.wrap (b:Int)=b:=by rw [IntKind.wrap_u32']; omega
   have vc:IntKind.u32.wrap (c:Int)=c:=by rw [IntKind.wrap_u32']; omega
   have vd:IntKind.u32.wrap (d:Int)=d:=by rw [IntKind.wrap_u32']; omega
   have V5:IntKind.u32.wrap ((a:Int)*16777216)=(a:Int)*16777216:=by rw [IntKind.wrap_u32']; omega
   have V6:IntKind.u32.wrap ((b:Int)*65536)=(b:Int)*65536:=by rw [IntKind.wrap_u32']; omega
   have V7:IntKind.u32.wrap ((c:Int)*256)=(c:Int)*256:=by rw [IntKind.wrap_u32']; omega
   have w0:IntKind.i64.wrap (4*(k:Int))=4*(k:Int):=IntWalk.i64_in _ (by omega);have w1:IntKind.i64.wrap (4*(k:Int)+1)=4*(k:Int)+1:=IntWalk.i64_in _ (by omega);have w2:IntKind.i64.wrap (4*(k:Int)+2)=4*(k:Int)+2:=IntWalk.i64_in _ (by omega);have w3:IntKind.i64.wrap (4*(k:Int)+3)=4*(k:Int)+3:=IntWalk.i64_in _ (by omega);have Q0:Sec (∃ h:4*k<s.size,s[4*k].toNat=a):=sec ⟨p0,q0⟩;have Q1:Sec (∃ h:4*k+1<s.size,s[4*k+1].toNat=b):=sec ⟨p1,q1⟩
   have Q2:Sec (∃ h:4*k+2<s.size,s[4*k+2].toNat=c):=sec ⟨p2,q2⟩;have Q3:Sec (∃ h:4*k+3<s.size,s[4*k+3].toNat=d):=sec ⟨p3,q3⟩;clear p0 p1 p2 p3 q0 q1 q2 q3;go_wp2_with fail
   refine aD (S:=λ_=>True) (trivial) λhld=>?_;refine aj 0 ?_;try simp only [Act.put,au]
   refine aj 1 ?_;try simp only [Act.put,au]
   refine aj 2 ?_;try simp only [Act.put,au]
   refine aj 3 ?_;try simp only [Act.put,au]
   refine aj 4 ?_ (hy:=by intro wz hSw; refine lJ _ _ 9 underlying9 s (4*k) a (4*(k:Int)) ?_ (by omega) Q0.out wz; exact ⟨_,_,rfl,rfl,rfl⟩);try simp only [Act.put,au]
   refine aj 5 ?_;try simp only [Act.put,au]
   refine aj 6 ?_;try simp only [Act.put,au]
   refine aj 7 ?_;try simp only [Act.put,au]
   refine aj 8 ?_;try simp only [Act.put,au]
   refine aj 9 ?_;try simp only [Act.put,au]
   refine aj 10 ?_;try simp only [Act.put,au]
   refine aj 11 ?_ (hy:=by intro wz hSw; refine lJ _ _ 9 underlying9 s (4*k+1) b (4*(k:Int)+1) ?_ (by omega) Q1.out wz; exact ⟨_,_,rfl,rfl,rfl⟩);try simp only [Act.put,au]
   refine aj 12 ?_;try simp only [Act.put,au]
   refine aj 13 ?_;try simp only [Act.put,au]
   refine aj 14 ?_;try simp only [Act.put,au]
   refine aj 15 ?_;try simp only [Act.put,au]
   refine aj 16 ?_;try simp only [Act.put,au]
   refine aj 17 ?_;try simp only [Act.put,au]
   refine aj 18 ?_;try simp only [Act.put,au]
   refine aj 19 ?_ (hy:=by intro wz hSw; refine lJ _ _ 9 underlying9 s (4*k+2) c (4*(k:Int)+2) ?_ (by omega) Q2.out wz; exact ⟨_,_,rfl,rfl,rfl⟩);try simp only [Act.put,au]
   refine aj 20 ?_;try simp only [Act.put,au]
   refine aj 21 ?_;try simp only [Act.put,au]
   refine aj 22 ?_;try simp only [Act.put,au]
   refine aj 23 ?_;try simp only [Act.put,au]
   refine aj 24 ?_;try simp only [Act.put,au]
   refine aj 25 ?_;try simp only [Act.put,au]
   refine aj 26 ?_;try simp only [Act.put,au]
   refine aj 27 ?_ (hy:=by intro wz hSw; refine lJ _ _ 9 underlying9 s (4*k+3) d (4*(k:Int)+3) ?_ (by omega) Q3.out wz; exact ⟨_,_,rfl,rfl,rfl⟩);try simp only [Act.put,au]
   refine aj 28 ?_;try simp only [Act.put,au]
   refine aj 29 ?_;try simp only [Act.put,au]
   refine aj 30 ?_;try simp only [Act.put,au]
   refine ak 31 λK hK=>?_;go_simp;refine hK.out _ _ ?_ (λhld=>?_)
   .trivial
   clear hK K;try simp only [Act.put,au]
   refine aC ?_;go_wp2;go_roundw
   case rel=>exact ⟨k+1,by omega,by go_num,by rw [O1.out,O2.out,O3.out]; exact HN,(hB.setCell (p:=⟨w.heap.size+1,k,none⟩) (by simp) _).drew⟩
   case measure=>simp [intOf]; omega
  .have l9:k=16:=by omega
   rw [l9] at HR;clear l9;go_wp2;go_loopw [5,6,7] (λi _ _ wr=>∃ k:Nat,16<=k/\k<=64/\i = .int .i64 k/\Hid (Row wr (w.heap.size+1) 211 64 (mV g k))/\Below (w.heap.size+1) (w.alloc (.cells (za 64) 211)) wr) (λi _ _ _=>64-(intOf i).toNat)
   case atStart=>exact ⟨16,by omega,by omega,rfl,HR,hB⟩
   case round =>
    clear HR hB hk hlt;obtain ⟨k,h16,hk,rfl,HR,hB⟩:=hrel;by_cases hlt:k<64
    .obtain ⟨p,rfl⟩:∃ p,k=p+16:=⟨k-16,by omega⟩
     obtain ⟨l,hl⟩:=aA (mV g (p+16))
     have hll:l.length=p+16:=by rw [<-hl]; exact jv g _
     have hlb:=λj=>getD_lt (l:=l) (by rw [<-hl]; exact Df g HG.out _) j;have hR:=HR.out;rw [hl] at hR;have c0:=hR.cell (i:=p) (by omega);have c1:=hR.cell (i:=p+1) (by omega);have c9:=hR.cell (i:=p+9) (by omega);have c14:=hR.cell (i:=p+14) (by omega);have cs:=hR.cell (i:=p+16) (by omega);have hfr:=hR.frozen (p+16)
     have HN:Hid (Row (wr.setCell ⟨w.heap.size+1,p+16,none⟩ (.int .u32 ((l.getD p 0+sg0 (l.getD (p+1) 0)+l.getD (p+9) 0+sg1 (l.getD (p+14) 0))%4294967296:Nat))) (w.heap.size+1) 211 64 (mV g (p+16+1))):=hid (by
      have:=Row.put hR ((l.getD p 0+sg0 (l.getD (p+1) 0)+l.getD (p+9) 0+sg1 (l.getD (p+14) 0))%4294967296);rw [hll] at this;rw [mV,hl,AY,if_neg (by omega),show p+16-16=p by omega,show p+16-15=p+1 by omega,show p+16-7=p+9 by omega,show p+16-2=p+14 by omega];exact this)
     have b0:=hlb p;have b1:=hlb (p+1);have b9:=hlb (p+9);have b14:=hlb (p+14);clear HR hl hll hlb hR;obtain ⟨x0,hx0⟩:=aA (l.getD p 0)
     obtain ⟨x1,hx1⟩:=aA (l.getD (p+1) 0)
     obtain ⟨x9,vh⟩:=aA (l.getD (p+9) 0)
     obtain ⟨cV,yl⟩:=aA (l.getD (p+14) 0)
     rw [hx0] at HN c0 b0;rw [hx1] at HN c1 b1;rw [vh] at HN c9 b9;rw [yl] at HN c14 b14;clear hx0 hx1 vh yl;have HT1:=hid (eD x1 7 7 rfl b1 (by omega) (by omega));have HT2:=hid (eD x1 18 18 rfl b1 (by omega) (by omega));have nB:=hid (eD cV 17 17 rfl b14 (by omega) (by omega));have tx:=hid (eD cV 19 19 rfl b14 (by omega) (by omega));have e1:=u32_xor_nat (bK x1 7) (bK x1 18) (bS 7 x1 b1) (bS 18 x1 b1);have e2:=u32_xor_nat (bK x1 7 ^^^ bK x1 18) (x1/8) (Nat.xor_lt_two_pow (n:=32) (bS 7 x1 b1) (bS 18 x1 b1)) (by omega)
     have e4:=u32_xor_nat (bK cV 17) (bK cV 19) (bS 17 cV b14) (bS 19 cV b14);have e5:=u32_xor_nat (bK cV 17 ^^^ bK cV 19) (cV/1024) (Nat.xor_lt_two_pow (n:=32) (bS 17 cV b14) (bS 19 cV b14)) (by omega);have q1:bK x1 7 ^^^ bK x1 18 ^^^ (x1/8)=sg0 x1:=by unfold sg0; rw [qy]
     have q2:bK cV 17 ^^^ bK cV 19 ^^^ (cV/1024)=sg1 cV:=by unfold sg1; rw [qy]
     rw [q1] at e2;rw [q2] at e5;have Tl:=Ua x1 b1;have To:=Ui cV b14;obtain ⟨z0,hz0⟩:=aA (sg0 x1)
     obtain ⟨z1,hz1⟩:=aA (sg1 cV)
     rw [hz0] at HN e2 Tl;rw [hz1] at HN e5 To;clear hz0 hz1 q1 q2;generalize bK x1 7 ^^^ bK x1 18=y1 at e1 e2;generalize bK cV 17 ^^^ bK cV 19=y4 at e4 e5;generalize bK x1 7=a1 at HT1 e1;generalize bK x1 18=a2 at HT2 e1;generalize bK cV 17=a4 at nB e4;generalize bK cV 19=a5 at tx e4;have E1:=sec e1;have E2:=sec e2;have E4:=sec e4;have E5:=sec e5;clear e1 e2 e4 e5;have l0:(0:Int)<=(p:Int)+1:=by omega
     have l1:(p:Int)+1<64:=by omega
     have l2:(0:Int)<=(p:Int)+14:=by omega
     have l3:(p:Int)+14<64:=by omega
     have l4:((p:Int)+14).toNat=p+14:=by omega
     have l5:((p:Int)+1).toNat=p+1:=by omega
     have w1:IntKind.i64.wrap ((p:Int)+16-15)=(p:Int)+1:=by rw [IntKind.wrap_i64]; omega
     have Ts:IntKind.i64.wrap ((p:Int)+16-2)=(p:Int)+14:=by rw [IntKind.wrap_i64]; omega
     go_wp2_with fail
     go_quiet (fail)
     obtain ⟨n1,rfl⟩:=ay nq
     clear l0 l1 l2 l3 l4 l5 w1 Ts c1 c14;have e1:=E1.out;have e2:=E2.out;have e4:=E4.out;have e5:=E5.out;rw [show ((x1/8:Nat):Int)=(x1:Int)/8 by omega] at e2;rw [show ((cV/1024:Nat):Int)=(cV:Int)/1024 by omega] at e5;clear E1 E2 E4 E5;go_wp2_with fail
     (with_reducible refine (HT1.out _).mono ?_)
     rintro e w3 ⟨rfl,rfl⟩;go_wp2_with fail
     (with_reducible refine (HT2.out _).mono ?_)
     rintro e w3 ⟨rfl,rfl⟩;go_wp2_with fail
     (with_reducible refine (nB.out _).mono ?_)
     rintro e w3 ⟨rfl,rfl⟩;go_wp2_with fail
     (with_reducible refine (tx.out _).mono ?_)
     rintro e w3 ⟨rfl,rfl⟩;go_wp2_with fail
     clear HT1 HT2 nB tx e1 e2 e4 e5;have l0:(0:Int)<=(p:Int):=by omega
     have l1:(p:Int)<64:=by omega
     have l2:(0:Int)<=(p:Int)+9:=by omega
     have l3:(p:Int)+9<64:=by omega
     have l4:((p:Int)+9).toNat=p+9:=by omega
     have w1:IntKind.i64.wrap (p:Int)=(p:Int):=by rw [IntKind.wrap_i64]; omega
     have w9:IntKind.i64.wrap ((p:Int)+16-7)=(p:Int)+9:=by rw [IntKind.wrap_i64]; omega
     have l6:(0:Int)<=(p:Int)+16:=by omega
     have l7:(p:Int)+16<64:=by omega
     have l8:((p:Int)+16).toNat=p+16:=by omega
     have HV:Sec (((((x0:Int)+z0)%4294967296+x9)%4294967296+z1)%4294967296=((x0+z0+x9+z1)%4294967296:Nat)):=sec (by omega);refine aD (S:=λw'=>w'.cell? ⟨w.heap.size+1,p,none⟩=some (.int .u32 (x0:Nat))/\w'.cell? ⟨w.heap.size+1,p+9,none⟩=some (.int .u32 (x9:Nat))) (⟨c0,c9⟩) λhld=>?_;refine aj 0 ?_;try simp only [Act.put,au]
     refine aj 1 ?_;try simp only [Act.put,au]
     refine aj 2 ?_;try simp only [Act.put,au]
     refine aj 3 ?_;try simp only [Act.put,au]
     refine aj 4 ?_;try simp only [Act.put,au]
     refine aj 5 ?_;try simp only [Act.put,au]
     refine aj 6 ?_;try simp only [Act.put,au]
     refine aj 7 ?_;try simp only [Act.put,au]
     refine aj 8 ?_;try simp only [Act.put,au]
     refine aj 9 ?_;try simp only [Act.put,au]
     refine aj 10 ?_;try simp only [Act.put,au]
     refine aj 11 ?_;try simp only [Act.put,au]
     refine aj 12 ?_;try simp only [Act.put,au]
     refine aj 13 ?_;try simp only [Act.put,au]
     refine aj 14 ?_;try simp only [Act.put,au]
     refine ak 15 λK hK=>?_;go_simp;refine hK.out _ _ (⟨by rw [World.cell?_setCell_other _ _ _ _ (by simp; try omega)]; exact c0,by rw [World.cell?_setCell_other _ _ _ _ (by simp; try omega)]; exact c9⟩) λhld=>?_;clear hK K;try simp only [Act.put,au]
     refine aC ?_;clear l0 l1 l2 l3 l4 l6 l7 l8 w1 w9 hld;go_wp2;go_roundw
     case rel=>exact ⟨p+16+1,by omega,by omega,by go_num,hid (by rw [HV.out]; exact HN.out),(below_drewN hB (n1+1)).setCell (p:=⟨w.heap.size+1,p+16,none⟩) (by simp) _⟩
     case measure=>simp [intOf]; omega
    .obtain rfl:k=64:=by omega
     have HG2:=hid (UM (mV g 64) HR.out (jv g 64) (λ_ _=>rfl));have HB0:Hid (wr.heap[w.heap.size]? = some (.cells (za 64) 211 (0,0))):=hid (by rw [hB.block _ (by simp)]; exact heap_alloc_new _ _);obtain ⟨l,hl⟩:=aA (mV g 64)
     have hll:l.length=64:=by rw [<-hl]; exact jv g _
     rw [hl] at HG2;have dE:=sec hl;clear HR hl;go_wp2_with (first | (refine wpList_load_row rfl _ _ rfl (w.heap.size+1) rfl 211 (ac l) (0,0) _ HG2.out underlying211 rfl (by rw [bg,hll]; exact lK) ?_) | (refine wpList_store_rowTo rfl 211 _ _ rfl rfl _ (ac l) rfl rfl 211 (za 64) HB0.out (by rw [bg,hll]; exact lK) (by rw [bg,hll,za,bg]; simp) (gY _) ?_))
     exact bodyPost_ret (results_cell_row rfl _ _ w.heap.size 211 (ac l) (0,0) _ rfl (setRow_heap _ _ _ _ _ _ HB0.out) underlying211 rfl (by rw [bg,hll]; exact lK)) rfl ⟨by rw [dE.out],dU (((Below.refl w.heap.size w).alloc aH _).trans (hB.mono (by simp))) aH _⟩
theorem JQ (e:Nat) (he:e<4294967296):4294967295 ^^^ e=4294967295-e:=by
 apply Nat.eq_of_testBit_eq;intro i;have h:=Nat.testBit_two_pow_sub_succ (n:=32) (x:=e) he i;rw [show 2 ^ 32-(e+1)=4294967295-e by omega] at h;have h1:=Nat.testBit_two_pow_sub_one (n:=32) (i:=i);rw [show 2 ^ 32-1=4294967295 by rfl] at h1;rw [Nat.testBit_xor,h,h1];by_cases hi:i<32
 .simp [hi]
 .have:e.testBit i=false:=Nat.testBit_lt_two_pow (aJ he (Nat.pow_le_pow_right (n:=2) (by omega) (show 32<=i by omega)));simp [hi,this]
theorem OW (e f g:Nat) (he:e<4294967296):(e &&& f) ^^^ ((4294967295-e) &&& g)=EX e f g:=by
 unfold EX;rw [<-JQ e he];apply Nat.eq_of_testBit_eq;intro i;have h1:=Nat.testBit_two_pow_sub_one (n:=32) (i:=i);rw [show 2 ^ 32-1=4294967295 by rfl] at h1;simp only [Nat.testBit_xor,Nat.testBit_and,Nat.testBit_or,h1];by_cases hi:i<32
 .simp only [hi,decide_true];cases e.testBit i <;> cases f.testBit i <;> cases g.testBit i <;> rfl
 .have:e.testBit i=false:=Nat.testBit_lt_two_pow (aJ he (Nat.pow_le_pow_right (n:=2) (by omega) (show 32<=i by omega)));simp [hi,this]
theorem QE (a b c:Nat):(a &&& b) ^^^ (a &&& c) ^^^ (b &&& c)=EH a b c:=by
 unfold EH;apply Nat.eq_of_testBit_eq;intro i;simp only [Nat.testBit_xor,Nat.testBit_and,Nat.testBit_or];cases a.testBit i <;> cases b.testBit i <;> cases c.testBit i <;> rfl
theorem Rt (x0 x1 x2 x3 x4 x5 x6 x7 v0 v1 v2 v3 v4 v5 v6 v7:Nat) :
  ((((((((ac [x0,x1,x2,x3,x4,x5,x6,x7]).setIfInBounds 0 (.int .u32 v0)).setIfInBounds 1 (.int .u32 v1)).setIfInBounds 2 (.int .u32 v2)).setIfInBounds 3 (.int .u32 v3)).setIfInBounds 4 (.int .u32 v4)).setIfInBounds 5 (.int .u32 v5)).setIfInBounds 6 (.int .u32 v6)).setIfInBounds 7 (.int .u32 v7)
   = ac [v0,v1,v2,v3,v4,v5,v6,v7]:=by
 simp [ac]
theorem UA {r:Option Nat} (h:w.grownBy w1 r):w.grownBy w1.drew r:=⟨h.os,h.tape,h.output,h.size,h.block⟩
theorem FQ (v:Value) (h:w.grownBy w1 (some g)):w.grownBy (w1.setCell ⟨g,j,none⟩ v) (some g) :=
 ⟨h.os,h.tape,h.output,by have:=h.size; simp; omega,λk hk hne=>(heap_setCell_other _ _ _ _ (by simpa using hne)).trans (h.block k hk hne)⟩
theorem Ii (n x:Nat) (w:World) :
  Calls prog 149 #[.int .u32 n,.int .u32 x] w λe w'=>e = .returned (.func (Fn.func 171) #[] #[.pointer (some ⟨w.heap.size,0,none⟩),.pointer (some ⟨w.heap.size+1,0,none⟩)])/\w'=(w.alloc (.cells #[.int .u32 n] 140)).alloc (.cells #[.int .u32 x] 140):=by
 go_enter func149,ntmps149;go_wp2;go_ret;exact ⟨rfl,rfl⟩
theorem Nj (g bn bw kk wk x0 x1 x2 x3 x4 x5 x6 x7:Nat) (b0:x0<4294967296) (b1:x1<4294967296) (b2:x2<4294967296) (b4:x4<4294967296) (b5:x5<4294967296) (b6:x6<4294967296)
  (w:World) (hg:w.heap[g]? = some (.cells (ac [x0,x1,x2,x3,x4,x5,x6,x7]) 173 (0,0))) (hn:w.cell? ⟨bn,0,none⟩=some (.int .u32 kk)) (hw:w.cell? ⟨bw,0,none⟩=some (.int .u32 wk)) :
  Calls prog 171 #[.pointer (some ⟨g,0,none⟩),.pointer (some ⟨bn,0,none⟩),.pointer (some ⟨bw,0,none⟩)] w λe w'=>e = .returned (.tuple #[])/\w'.heap[g]? = some (.cells (ac (uP kk wk [x0,x1,x2,x3,x4,x5,x6,x7])) 173 (0,0))/\w.grownBy w' (some g):=by
 have c0:w.cell? ⟨g,0,none⟩=some (.int .u32 x0):=cell_of_row w g 0 _ _ _ hg;have c1:w.cell? ⟨g,1,none⟩=some (.int .u32 x1):=cell_of_row w g 1 _ _ _ hg;have c2:w.cell? ⟨g,2,none⟩=some (.int .u32 x2):=cell_of_row w g 2 _ _ _ hg;have c3:w.cell? ⟨g,3,none⟩=some (.int .u32 x3):=cell_of_row w g 3 _ _ _ hg;have c4:w.cell? ⟨g,4,none⟩=some (.int .u32 x4):=cell_of_row w g 4 _ _ _ hg;have c5:w.cell? ⟨g,5,none⟩=some (.int .u32 x5):=cell_of_row w g 5 _ _ _ hg;have c6:w.cell? ⟨g,6,none⟩=some (.int .u32 x6):=cell_of_row w g 6 _ _ _ hg
 have c7:w.cell? ⟨g,7,none⟩=some (.int .u32 x7):=cell_of_row w g 7 _ _ _ hg;have fz:∀ j,w.frozen? ⟨g,j,none⟩=false:=λj=>frozen_of_row w g j _ _ hg;have HG:=sec hg;have Tu:=sec fz;clear hg fz;go_enter func171,ntmps171;go_wp2_with fail
 go_quiet (fail)
 obtain ⟨n1,rfl⟩:=ay nq
 go_wp2_with fail
 go_quiet (fail)
 obtain ⟨n2,rfl⟩:=ay nq
 have hpk:=QA x4 x5 x6 b4;have A1:=u32_and_nat x4 x5 b4 b5;have A2:=u32_xor_nat 4294967295 x4 (by omega) b4;rw [JQ x4 b4] at A2;have A3:=u32_and_nat (4294967295-x4) x6 (by omega) b6;have A4:=u32_xor_nat (x4 &&& x5) ((4294967295-x4) &&& x6) (Nat.lt_of_le_of_lt Nat.and_le_left b4) (Nat.lt_of_le_of_lt Nat.and_le_left (by omega));rw [OW x4 x5 x6 b4] at A4;have A2:bits .xor .u32 IntKind.u32.max (x4:Int)=((4294967295-x4:Nat):Int):=A2;obtain ⟨pk,s9⟩:=aA (EX x4 x5 x6)
 rw [s9] at hpk A4;have Ty:=sec s9;clear s9;obtain ⟨m4,Mu⟩:=aA (4294967295-x4)
 rw [Mu] at A2 A3 A4;clear Mu;generalize x4 &&& x5=p1 at A1 A4;generalize m4 &&& x6=p2 at A3 A4;go_wp2_with fail
 clear A1 A2 A3 A4;have HT1:=hid (eD x4 6 6 rfl b4 (by omega) (by omega));have HT2:=hid (eD x4 11 11 rfl b4 (by omega) (by omega));have HT3:=hid (eD x4 25 25 rfl b4 (by omega) (by omega));have e1:=u32_xor_nat (bK x4 6) (bK x4 11) (bS 6 x4 b4) (bS 11 x4 b4);have e2:=u32_xor_nat (bK x4 6 ^^^ bK x4 11) (bK x4 25) (Nat.xor_lt_two_pow (n:=32) (bS 6 x4 b4) (bS 11 x4 b4)) (bS 25 x4 b4);have hq:bK x4 6 ^^^ bK x4 11 ^^^ bK x4 25=bs1 x4:=rfl;rw [hq] at e2;have TC:=Um x4 b4;obtain ⟨B1,hB1⟩:=aA (bs1 x4)
 rw [hB1] at e2 TC;have HB1:=sec hB1;clear hB1 hq;generalize bK x4 6 ^^^ bK x4 11=y1 at e1 e2;generalize bK x4 6=a1 at HT1 e1;generalize bK x4 11=a2 at HT2 e1;generalize bK x4 25=a3 at HT3 e2;have HX:Sec ((x7+B1+pk+kk+wk)%4294967296=((((x7+B1)%4294967296+pk)%4294967296+kk)%4294967296+wk)%4294967296):=sec (by omega);have v1:IntKind.u32.wrap ((x7:Int)+B1)=((x7+B1)%4294967296:Nat):=by rw [IntKind.wrap_u32']; omega
 have v2:IntKind.u32.wrap ((((x7+B1)%4294967296:Nat):Int)+pk)=(((x7+B1)%4294967296+pk)%4294967296:Nat):=by rw [IntKind.wrap_u32']; omega
 have v3:IntKind.u32.wrap (((((x7+B1)%4294967296+pk)%4294967296:Nat):Int)+kk)=((((x7+B1)%4294967296+pk)%4294967296+kk)%4294967296:Nat):=by rw [IntKind.wrap_u32']; omega
 have v4:IntKind.u32.wrap ((((((x7+B1)%4294967296+pk)%4294967296+kk)%4294967296:Nat):Int)+wk)=(((((x7+B1)%4294967296+pk)%4294967296+kk)%4294967296+wk)%4294967296:Nat):=by rw [IntKind.wrap_u32']; omega
 obtain ⟨s1,h1⟩:=aA ((x7+B1)%4294967296)
 rw [h1] at v1 v2 v3 v4 HX;obtain ⟨s2,h2⟩:=aA ((s1+pk)%4294967296)
 rw [h2] at v2 v3 v4 HX;obtain ⟨s3,h3⟩:=aA ((s2+kk)%4294967296)
 rw [h3] at v3 v4 HX;have TE:(s3+wk)%4294967296<4294967296:=Nat.mod_lt _ (by omega);obtain ⟨X,hX⟩:=aA ((s3+wk)%4294967296)
 rw [hX] at v4 HX TE;clear h1 h2 h3 hX;refine aD (S:=λw'=>w'.cell? ⟨bn,0,none⟩=some (.int .u32 (kk:Nat))/\w'.cell? ⟨bw,0,none⟩=some (.int .u32 (wk:Nat))) (⟨hn,hw⟩) λhld=>?_;refine aj 0 ?_;try simp only [Act.put,au]
 refine aj 1 ?_;try simp only [Act.put,au]
 refine aj 3 ?_;try simp only [Act.put,au]
 refine aj 6 ?_;try simp only [Act.put,au]
 refine aj 10 ?_;try simp only [Act.put,au]
 refine aj 12 ?_;try simp only [Act.put,au]
 refine aj 14 ?_;try simp only [Act.put,au]
 refine ak 2 λK hK=>?_;go_simp;go_at_call 170
 (with_reducible refine (HT1.out _).mono ?_)
 rintro e w3 ⟨rfl,rfl⟩;refine hK.out _ _ ?_ (λhld=>?_)
 .assumption
 clear hK K;try simp only [Act.put,au]
 refine ak 4 λK hK=>?_;go_simp;go_at_call 170
 (with_reducible refine (HT2.out _).mono ?_)
 rintro e w3 ⟨rfl,rfl⟩;refine hK.out _ _ ?_ (λhld=>?_)
 .assumption
 clear hK K;try simp only [Act.put,au]
 refine aj 5 ?_;try simp only [Act.put,au]
 refine ak 7 λK hK=>?_;go_simp;go_at_call 170
 (with_reducible refine (HT3.out _).mono ?_)
 rintro e w3 ⟨rfl,rfl⟩;refine hK.out _ _ ?_ (λhld=>?_)
 .assumption
 clear hK K;try simp only [Act.put,au]
 refine aj 8 ?_;try simp only [Act.put,au]
 refine aj 9 ?_;try simp only [Act.put,au]
 refine aj 11 ?_;try simp only [Act.put,au]
 refine aj 13 ?_;try simp only [Act.put,au]
 refine aj 15 ?_;try simp only [Act.put,au]
 refine aj 16 ?_;try simp only [Act.put,au]
 refine aC ?_;clear HT1 HT2 HT3 e1 e2 v1 v2 v3 v4 hld;have HT1:=hid (eD x0 2 2 rfl b0 (by omega) (by omega));have HT2:=hid (eD x0 13 13 rfl b0 (by omega) (by omega));have HT3:=hid (eD x0 22 22 rfl b0 (by omega) (by omega));have e1:=u32_xor_nat (bK x0 2) (bK x0 13) (bS 2 x0 b0) (bS 13 x0 b0);have e2:=u32_xor_nat (bK x0 2 ^^^ bK x0 13) (bK x0 22) (Nat.xor_lt_two_pow (n:=32) (bS 2 x0 b0) (bS 13 x0 b0)) (bS 22 x0 b0);have hq:bK x0 2 ^^^ bK x0 13 ^^^ bK x0 22=bs0 x0:=rfl;rw [hq] at e2;have TO:=Ux x0 b0
 obtain ⟨B0,hB0⟩:=aA (bs0 x0)
 rw [hB0] at e2 TO;have HB0:=sec hB0;clear hB0 hq;generalize bK x0 2 ^^^ bK x0 13=y1 at e1 e2;generalize bK x0 2=a1 at HT1 e1;generalize bK x0 13=a2 at HT2 e1;generalize bK x0 22=a3 at HT3 e2;have hmo:=Qo x0 x1 x2 b0 b1;have A1:=u32_and_nat x0 x1 b0 b1;have A2:=u32_and_nat x0 x2 b0 b2;have A3:=u32_xor_nat (x0 &&& x1) (x0 &&& x2) (Nat.lt_of_le_of_lt Nat.and_le_left b0) (Nat.lt_of_le_of_lt Nat.and_le_left b0);have A4:=u32_and_nat x1 x2 b1 b2
 have A5:=u32_xor_nat ((x0 &&& x1) ^^^ (x0 &&& x2)) (x1 &&& x2) (Nat.xor_lt_two_pow (n:=32) (Nat.lt_of_le_of_lt Nat.and_le_left b0) (Nat.lt_of_le_of_lt Nat.and_le_left b0)) (Nat.lt_of_le_of_lt Nat.and_le_left b1);rw [QE] at A5;obtain ⟨mo,sb⟩:=aA (EH x0 x1 x2)
 rw [sb] at hmo A5;have TX:=sec sb;clear sb;generalize (x0 &&& x1) ^^^ (x0 &&& x2)=q3 at A3 A5;generalize x0 &&& x1=q1 at A1 A3;generalize x0 &&& x2=q2 at A2 A3;generalize x1 &&& x2=q5 at A4 A5;go_wp2_with fail
 (with_reducible refine (HT1.out _).mono ?_)
 rintro e w3 ⟨rfl,rfl⟩;go_wp2_with fail
 (with_reducible refine (HT2.out _).mono ?_)
 rintro e w3 ⟨rfl,rfl⟩;go_wp2_with fail
 (with_reducible refine (HT3.out _).mono ?_)
 rintro e w3 ⟨rfl,rfl⟩;go_wp2_with fail
 clear A1 A2 A3 A4 A5 HT1 HT2 HT3 e1 e2;have hY:((B0:Int)+mo)%4294967296=((B0+mo)%4294967296:Nat):=by omega
 have HY:Sec (yN x0 x1 x2=(B0+mo)%4294967296):=sec (by unfold yN; rw [HB0.out,TX.out]);have TZ:(B0+mo)%4294967296<4294967296:=Nat.mod_lt _ (by omega);obtain ⟨Y,My⟩:=aA ((B0+mo)%4294967296)
 rw [My] at hY HY TZ;rw [hY];clear hY My;have fz:=Tu.out;have v1:IntKind.u32.wrap ((X:Int)+Y)=((X+Y)%4294967296:Nat):=by rw [IntKind.wrap_u32']; omega
 have v2:IntKind.u32.wrap ((x3:Int)+X)=((x3+X)%4294967296:Nat):=by rw [IntKind.wrap_u32']; omega
 have fN:Sec (uP kk wk [x0,x1,x2,x3,x4,x5,x6,x7]=[(X+Y)%4294967296,x0,x1,x2,(x3+X)%4294967296,x4,x5,x6]):=sec (by
  show [(xN kk wk x4 x5 x6 x7+yN x0 x1 x2)%4294967296,x0,x1,x2,(x3+xN kk wk x4 x5 x6 x7)%4294967296,x4,x5,x6]=_;rw [HY.out,show xN kk wk x4 x5 x6 x7=X by unfold xN; rw [HB1.out,Ty.out]; exact HX.out])
 obtain ⟨N0,hN0⟩:=aA ((X+Y)%4294967296)
 obtain ⟨N4,Mz⟩:=aA ((x3+X)%4294967296)
 rw [hN0] at v1 fN;rw [Mz] at v2 fN;clear hN0 Mz;refine aD (S:=λ_=>True) (trivial) λhld=>?_;refine aj 0 ?_;try simp only [Act.put,au]
 refine aj 1 ?_;try simp only [Act.put,au]
 refine aj 2 ?_;try simp only [Act.put,au]
 refine aj 3 ?_;try simp only [Act.put,au]
 refine aj 4 ?_;try simp only [Act.put,au]
 refine aj 5 ?_;try simp only [Act.put,au]
 refine aj 6 ?_;try simp only [Act.put,au]
 refine aj 7 ?_;try simp only [Act.put,au]
 refine aj 8 ?_;try simp only [Act.put,au]
 refine aj 9 ?_;try simp only [Act.put,au]
 refine aj 10 ?_;try simp only [Act.put,au]
 refine aj 11 ?_;try simp only [Act.put,au]
 refine aj 13 ?_;try simp only [Act.put,au]
 refine aj 16 ?_;try simp only [Act.put,au]
 refine aj 19 ?_;try simp only [Act.put,au]
 refine ak 12 λK hK=>?_;go_simp;refine hK.out _ _ ?_ (λhld=>?_)
 .trivial
 clear hK K;try simp only [Act.put,au]
 refine aj 14 ?_;try simp only [Act.put,au]
 refine ak 15 λK hK=>?_;go_simp;refine hK.out _ _ ?_ (λhld=>?_)
 .trivial
 clear hK K;try simp only [Act.put,au]
 refine aj 17 ?_;try simp only [Act.put,au]
 refine ak 18 λK hK=>?_;go_simp;refine hK.out _ _ ?_ (λhld=>?_)
 .trivial
 clear hK K;try simp only [Act.put,au]
 refine aj 20 ?_;try simp only [Act.put,au]
 refine ak 21 λK hK=>?_;go_simp;refine hK.out _ _ ?_ (λhld=>?_)
 .trivial
 clear hK K;try simp only [Act.put,au]
 refine aC ?_;go_wp2_with fail
 refine aD (S:=λ_=>True) (trivial) λhld=>?_;refine aj 0 ?_;try simp only [Act.put,au]
 refine aj 1 ?_;try simp only [Act.put,au]
 refine aj 2 ?_;try simp only [Act.put,au]
 refine aj 3 ?_;try simp only [Act.put,au]
 refine aj 4 ?_;try simp only [Act.put,au]
 refine aj 5 ?_;try simp only [Act.put,au]
 refine aj 6 ?_;try simp only [Act.put,au]
 refine aj 7 ?_;try simp only [Act.put,au]
 refine aj 8 ?_;try simp only [Act.put,au]
 refine aj 9 ?_;try simp only [Act.put,au]
 refine aj 10 ?_;try simp only [Act.put,au]
 refine aj 11 ?_;try simp only [Act.put,au]
 refine aj 13 ?_;try simp only [Act.put,au]
 refine aj 16 ?_;try simp only [Act.put,au]
 refine aj 19 ?_;try simp only [Act.put,au]
 refine ak 12 λK hK=>?_;go_simp;refine hK.out _ _ ?_ (λhld=>?_)
 .trivial
 clear hK K;try simp only [Act.put,au]
 refine aj 14 ?_;try simp only [Act.put,au]
 refine ak 15 λK hK=>?_;go_simp;refine hK.out _ _ ?_ (λhld=>?_)
 .trivial
 clear hK K;try simp only [Act.put,au]
 refine aj 17 ?_;try simp only [Act.put,au]
 refine ak 18 λK hK=>?_;go_simp;refine hK.out _ _ ?_ (λhld=>?_)
 .trivial
 clear hK K;try simp only [Act.put,au]
 refine aj 20 ?_;try simp only [Act.put,au]
 refine ak 21 λK hK=>?_;go_simp;refine hK.out _ _ ?_ (λhld=>?_)
 .trivial
 clear hK K;try simp only [Act.put,au]
 refine aC ?_;clear v1 v2 hld fz c0 c1 c2 c3 c4 c5 c6 c7 hn hw;go_end0;have k0:(w.drewN (n1+n2+1+1)).heap[g]? = some (.cells (ac [x0,x1,x2,x3,x4,x5,x6,x7]) 173 (0,0)):=HG.out;have k1:=heap_setCell_same _ g 0 _ _ (.int .u32 N0) k0;have k2:=heap_setCell_same _ g 1 _ _ (.int .u32 x0) k1;have k3:=heap_setCell_same _ g 2 _ _ (.int .u32 x1) k2;have k4:=heap_setCell_same _ g 3 _ _ (.int .u32 x2) k3;have k5:=heap_setCell_same _ g 4 _ _ (.int .u32 N4) k4;have k6:=heap_setCell_same _ g 5 _ _ (.int .u32 x4) k5
 have k7:=heap_setCell_same _ g 6 _ _ (.int .u32 x5) k6;have k8:=heap_setCell_same _ g 7 _ _ (.int .u32 x6) k7;refine ⟨rfl,?_,?_⟩
 .rw [fN.out,heap_drew,k8,Rt]
 .exact UA (FQ _ (FQ _ (FQ _ (FQ _ (FQ _ (FQ _ (FQ _ (FQ _ ⟨rfl,rfl,rfl,aH,λ_ _ _=>rfl⟩))))))))
end Sm
end
end Go.Proofs.YtokaiemgjngcoaaGreatDoor
