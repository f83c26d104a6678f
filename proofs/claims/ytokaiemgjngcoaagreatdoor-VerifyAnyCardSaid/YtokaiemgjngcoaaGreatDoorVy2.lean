/-
 How many items were met: contracts of (*rlp.tally).meet and (*rlp.tally).check.
-/
import Derived.Test.YtokaiemgjngcoaaGreatDoorVy1
open Go.Lib (hid)
open Go.Proofs.Tryz
set_option linter.unusedSimpArgs false
set_option linter.unusedVariables false
set_option maxHeartbeats 40000000
set_option maxRecDepth 100000
namespace Go.Proofs.YtokaiemgjngcoaaGreatDoor
variable {w w' w0 w1:World} {B c cap g m n:Nat} {k:Int} {a:aL} {v z:Value} {bs:List Value} {t:TypeId} {o:Oper} {K:Act->World->Prop} {Q:Exit->Act->World->Prop} {ops:Array Oper} {cells cs':aO} {ev:Operand->Value} {act:Act}
section
open Go.RowKit
namespace Rl
open Pk
def Tal (w:World) (g:Nat) (k:Int):Prop:=w.cell? ⟨g,0,none⟩=some (.int .i64 k)/\w.frozen? ⟨g,0,none⟩=false
theorem Tal.lt (h:Tal w g k):g<w.heap.size:=World.block_lt_of_cell? w _ h.1
theorem Tal.below (h:Tal w g k) (hb:Below w.heap.size w w'):Tal w' g k :=
 ⟨(hb.cell (p:=⟨g,0,none⟩) h.lt).trans h.1,(hb.frozen (p:=⟨g,0,none⟩) h.lt).trans h.2⟩
theorem Tal.set (h:Tal w g k) (k':Int):Tal (w.setCell ⟨g,0,none⟩ (.int .i64 k')) g k':=by
 refine ⟨?_,?_⟩
 .exact World.cell?_setCell_same _ _ _ h.1
 .rw [World.frozen?_setCell]; exact h.2
theorem Ub (w:World) (r:Option Nat):w.grownBy w r:=⟨rfl,rfl,rfl,aH,λ_ _ _=>rfl⟩
theorem gX {w2:World} {r:Option Nat} (h:w.grownBy w1 r) (h2:w1.grownBy w2 r):w.grownBy w2 r :=
 ⟨h2.os.trans h.os,h2.tape.trans h.tape,h2.output.trans h.output,Nat.le_trans h.size h2.size,λk hk hr=>(h2.block k (aJ hk h.size) hr).trans (h.block k hk hr)⟩
theorem uW {r:Option Nat} (h:Below w.heap.size w w1):w.grownBy w1 r:=⟨h.os,h.tape,h.output,h.size,λk hk _=>h.block k hk⟩
theorem uh (w:World) (g o:Nat) (v:Value):w.grownBy (w.setCell ⟨g,o,none⟩ v) (some g) :=
 ⟨rfl,rfl,rfl,by simp,λk _ hr=>Below.heap_setCell w _ v k (λe=>hr (by rw [e]))⟩
theorem Au (h:Below B w0 w) (hg:w.grownBy w' (some g)) (hB:B<=w0.heap.size) (hr:B<=g):Below B w0 w' :=
 h.grown hg (Nat.le_trans hB h.size) (λk hk=>by cases hk; exact hr)
theorem oP (g:Nat) (around k:Int) (ha:around<=64) (h0:0<=k) (hk:k+1<=4096) (w:World) (h:Tal w g k) :
  Calls prog 138 #[.pointer (some ⟨g,0,none⟩),.int .i64 around] w λe w'=>e = .returned (.tuple #[])/\w'=w.setCell ⟨g,0,none⟩ (.int .i64 (k+1)):=by
 obtain ⟨hc,hz⟩:=h;go_enter func138,ntmps138;go_wp2;go_end0;exact ⟨rfl,rfl⟩
theorem Np (g:Nat) (around k:Int) (ha:¬ around<=64) (h0:0<=k) (hk:k+1<=1099511627776) (w:World) (h:Tal w g k) :
  Calls prog 138 #[.pointer (some ⟨g,0,none⟩),.int .i64 around] w λe w'=>e = .panicked [fT 17]/\w'=w.setCell ⟨g,0,none⟩ (.int .i64 (k+1)):=by
 obtain ⟨hc,hz⟩:=h;go_enter func138,ntmps138;go_wp2_with (go_at_call 139; refine (jq _ _).mono ?_; rintro e w1 ⟨rfl,rfl⟩)
 simp [bodyPost]
theorem RB (g:Nat) (around k:Int) (ha:around<=64) (hk:¬ k+1<=4096) (hk2:k+1<=1099511627776) (w:World) (h:Tal w g k) :
  Calls prog 138 #[.pointer (some ⟨g,0,none⟩),.int .i64 around] w λe w'=>e = .panicked [fT 4]/\w'=w.setCell ⟨g,0,none⟩ (.int .i64 (k+1)):=by
 obtain ⟨hc,hz⟩:=h;go_enter func138,ntmps138;go_wp2_with (go_at_call 139; refine (jq _ _).mono ?_; rintro e w1 ⟨rfl,rfl⟩)
 simp [bodyPost]
inductive Fits:Nat->It->Prop
 | mk {around:Nat} {l:Bool} {s:aM} {xs:List It} (ha:around<=64) (hs:l=true->s=⟨#[]⟩) (hx:l=false->xs=[]) (h:∀ y∈xs,Fits (around+1) y):Fits around (.mk l s xs)
theorem vQ (xs:List It) (q:Nat) (x:It) (h:xs[q]? = some x):((xs.take q).map It.size).sum+x.size<=(xs.map It.size).sum:=by
 have:=FT xs q x h;have h2:(xs.map It.size).sum=((xs.take (q+1)).map It.size).sum+((xs.drop (q+1)).map It.size).sum:=by
  rw [<-List.sum_append_nat,<-List.map_append,List.take_append_drop]
 omega
theorem CY {l:Bool} {s:aM} (hg:g<w.heap.size) (h:w1=(w.alloc (.cells #[.bool l,.string s,.slice a n cap] 96)).setCell ⟨g,0,none⟩ z) :
  w1.cell? ⟨w.heap.size,0,none⟩=some (.bool l)/\w1.cell? ⟨w.heap.size,1,none⟩=some (.string s)/\w1.cell? ⟨w.heap.size,2,none⟩=some (.slice a n cap):=by
 subst h;refine ⟨?_,?_,?_⟩;all_goals
  rw [World.cell?_setCell_other _ _ _ _ (by simp; try omega),World.cell?_alloc_mark];rfl
theorem sG (x:It):∀ (around k g:Nat) (ar:Int) (w0 w:World) (v:Value),ar=around->Rk w0 x v->Below w0.heap.size w0 w->w0.heap.size<=g->Fits around x->k+x.size<=4096->Tal w g k->
  Calls prog 99 #[.pointer (some ⟨g,0,none⟩),v,.int .i64 ar] w λe w'=>e = .returned (.tuple #[])/\Tal w' g (k+x.size:Nat)/\w.grownBy w' (some g):=by
 induction x using It.ind with
 | h l s xs ih =>
  rintro around k g ar w0 w v har ⟨a,n,cap,rfl,h⟩ hB hg hF hk hT;have hm:=h.max;have hnc:=h.le;have hlen:=h.len;unfold maxLen at hm;have hgl:=hT.lt;cases hF with
  | mk ha hs hx hy =>
   rw [It.size_mk] at hk ⊢;have H:=hid h;have HY:=hid hy;have gE:=hid ih;have HB0:=hid hB;have HM:=hid (oP g ar k (by omega) (by omega) (by omega) (w.alloc (.cells (itC (.mk l s xs) a n cap) 96)) (hT.below (al1 _ _)));have HT:=hid ((hT.below (al1 w (.cells (itC (.mk l s xs) a n cap) 96))).set (k+1));have Lk:=hid har;have XU:ar<=64:=by omega
   clear h hy ih hB hT har;unfold itV;dsimp only [It.l,It.s,It.xs,itC] at H HM HT hlen ⊢;cases l with
   | false =>
    obtain rfl:=hx rfl;have hn0:n=0:=hlen.symm;subst hn0;clear hs hx gE HY;go_enter func99,ntmps99;go_wp2_with fail
    with_reducible refine HM.out.mono ?_
    rintro e w1 ⟨rfl,hw1⟩;obtain ⟨c0,c1,c2⟩:=CY hgl hw1;have HT1:Hid (Tal w1 g (k+1)):=hid (by rw [hw1]; exact HT.out);have si:Hid (w.grownBy w1 (some g)):=hid (by rw [hw1]; exact gX (uW (al1 _ _)) (uh _ _ _ _));clear hw1 HM HT;go_wp2;refine wp_loop_rounds 1 ?_;rw [rounds_succ];go_wp2;go_end0;exact ⟨rfl,by have:=HT1.out; simpa using this,si.out⟩
   | true =>
    obtain rfl:=hs rfl;clear hs hx;go_enter func99,ntmps99;go_wp2_with fail
    with_reducible refine HM.out.mono ?_
    rintro e w1 ⟨rfl,hw1⟩;obtain ⟨c0,c1,c2⟩:=CY hgl hw1;have HT1:Hid (Tal w1 g (k+1)):=hid (by rw [hw1]; exact HT.out);have si:Hid (w.grownBy w1 (some g)):=hid (by rw [hw1]; exact gX (uW (al1 _ _)) (uh _ _ _ _));clear hw1 HM HT;go_wp2;go_loopw [33] (λi wr=>∃ q:Nat,q<=n/\i = .int .i64 q/\Hid (Tal wr g (k+1+((xs.take q).map It.size).sum:Nat))/\Hid (w.grownBy wr (some g))) (λi _=>n-(intOf i).toNat)
    case atStart=>exact ⟨0,Nat.zero_le _,rfl,hid (by have:=HT1.out; simpa using this),hid si.out⟩
    case round =>
     obtain ⟨q,hq,rfl,HQ,HG⟩:=hrel;have cr:=hid (Au HB0.out HG.out aH hg);clear c0 c1 c2 HT1 si;by_cases hlt:q<n
     .obtain ⟨x,b,off,A,N,C,hx,rfl,hb,hL,hI⟩:=H.out.at' q hlt;obtain ⟨e0,e1,e2⟩:=hL.stays cr.out hb;have hsum:=vQ xs q x hx;have HS:=hid (FT xs q x hx);have HI:=hid (gE.out x (List.mem_of_getElem? hx) (around+1) (k+1+((xs.take q).map It.size).sum) g (wrap64 (ar+1)) w0 (wr.alloc (.cells #[.bool x.l,.string x.s,.slice A N C] 96)) (itV x A N C) (by have:=Lk.out; simp only [wrap64]; omega) ⟨A,N,C,rfl,hI⟩ (cr.out.alloc cr.out.size _) hg (HY.out x (List.mem_of_getElem? hx)) (by omega) (HQ.out.below (al1 _ _)));unfold itV at HI
      clear hL hI hx gE hsum;go_wp2_with fail
      with_reducible refine HI.out.mono ?_
      rintro e w2 ⟨rfl,ht2,hg2⟩;have HT2:=hid ht2;have HG2:=hid (gX HG.out (gX (uW (al1 _ _)) hg2));clear ht2 hg2;go_wp2;go_roundw
      case rel=>exact ⟨q+1,by omega,by go_num,hid (by rw [HS.out,<-Nat.add_assoc]; exact HT2.out),hid HG2.out⟩
      case measure=>simp [intOf]; omega
     .obtain rfl:q=n:=by omega
      clear gE HY;go_wp2;go_end0;refine ⟨rfl,?_,HG.out⟩;have:=HQ.out;rw [List.take_of_length_le (Nat.le_of_eq hlen)] at this;rw [<-Nat.add_assoc];exact this
end Rl
end
section
open Go.RowKit
namespace Rl
def iT (l:Bool) (s:aM) (m:Nat):aN:=if l=false/\m=1/\(s.data.toList.headD 0).toNat<128 then [] else jI (min m 4294967296) l
def qZ (l:Bool) (s:aM) (m:Nat):aM:=⟨(iT l s m).toArray⟩
theorem Km (m:Nat):qQ m=min m 4294967296:=by unfold qQ; omega
theorem rD {l:Bool} {s:aM} (h:¬ (l=false/\m=1/\(s.data.toList.headD 0).toNat<128)):qZ l s m=fF (min m 4294967296) l:=by unfold qZ iT fF; rw [if_neg h]
theorem Ie {l:Bool} {s:aM} (h:l=false/\m=1/\(s.data.toList.headD 0).toNat<128):qZ l s m=⟨#[]⟩:=by unfold qZ iT; rw [if_pos h]
theorem Rn {s:aM} (h:0<s.size):s.data.toList.headD 0=s[0]:=by
 obtain ⟨⟨l⟩⟩:=s;cases l with
 | nil=>simp [ByteArray.size] at h
 | cons c l=>rfl
theorem Co (x:It) (a:aL) (n cap m:Nat) (hm:m<2 ^ 63) (hx:x.l=false->m=x.s.size) (w:World) :
  Calls prog 141 #[itV x a n cap,.int .i64 m] w λe w'=>e = .returned (.string (qZ x.l x.s m))/\Below w.heap.size w w':=by
 obtain ⟨l,s,xs⟩:=x;unfold itV;dsimp only [It.l,It.s] at hx ⊢;have hh:=λw=>SC m (by omega) l w;rw [Km] at hh;have HH:=hid hh;clear hh;cases l with
 | true =>
  have HF:=hid (rD (l:=true) (s:=s) (m:=m) (by simp));clear hx;go_enter func141,ntmps141;go_wp2_with fail
  with_reducible refine (HH.out _).mono ?_
  rintro e w1 ⟨rfl,hb⟩;go_wp2;go_ret;exact ⟨by rw [HF.out]; rfl,bst (al1 _ _) hb⟩
 | false =>
  by_cases h1:m=1
  .have hs:s.size=1:=by rw [<-hx rfl,h1]
   have h0:0<s.size:=by omega
   have hf:=Rn h0;by_cases hc:s[0].toNat<128
   .have HF:=hid (Ie (l:=false) (s:=s) (m:=m) ⟨rfl,h1,by rw [hf]; exact hc⟩);clear hx hf HH;have hm1:((m:Int)==1)=true:=by simp; omega
    clear h1;go_enter func141,ntmps141;go_wp2;go_ret;exact ⟨by rw [HF.out]; rfl,al1 _ _⟩
   .have HF:=hid (rD (l:=false) (s:=s) (m:=m) (by rw [hf]; omega));clear hx hf;have hm1:((m:Int)==1)=true:=by simp; omega
    clear h1;go_enter func141,ntmps141;go_wp2_with fail
    with_reducible refine (HH.out _).mono ?_
    rintro e w1 ⟨rfl,hb⟩;go_wp2;go_ret;exact ⟨by rw [HF.out]; rfl,bst (al1 _ _) hb⟩
  .have HF:=hid (rD (l:=false) (s:=s) (m:=m) (by omega));have hm1:((m:Int)==1)=false:=by simp; omega
   clear hx;go_enter func141,ntmps141;go_wp2_with fail
   with_reducible refine (HH.out _).mono ?_
   rintro e w1 ⟨rfl,hb⟩;go_wp2;go_ret;exact ⟨by rw [HF.out]; rfl,bst (al1 _ _) hb⟩
end Rl
namespace It
def bytes:It->aN
 | .mk l s xs=>Rl.iT l s (s.data.toList++(xs.map bytes).flatten).length++(s.data.toList++(xs.map bytes).flatten)
termination_by x=>SizeOf.sizeOf x
decreasing_by
 all_goals
  rename_i h;have:=List.sizeOf_lt_of_mem h;simp;omega
def inner (x:It):aN:=x.s.data.toList++(x.xs.map bytes).flatten
theorem nT (x:It):x.bytes=Rl.iT x.l x.s x.inner.length++x.inner:=by
 cases x;rw [bytes];rfl
end It
namespace Rl
def jo (xs:List It) (q:Nat):aN:=((xs.take q).map It.bytes).flatten
theorem FI (xs:List It):jo xs 0=[]:=rfl
theorem rG (xs:List It) (q:Nat) (x:It) (h:xs[q]? = some x):jo xs (q+1)=jo xs q++x.bytes:=by
 unfold jo;rw [List.take_add_one,h];simp
theorem uD (xs:List It) (n:Nat) (h:xs.length=n):jo xs n=(xs.map It.bytes).flatten:=by
 unfold jo;rw [List.take_of_length_le (Nat.le_of_eq h)]
theorem wY (xs:List It) (q:Nat):(jo xs q).length<=((xs.map It.bytes).flatten).length:=by
 have:(xs.map It.bytes).flatten=jo xs q++((xs.drop q).map It.bytes).flatten:=by
  unfold jo;rw [<-List.flatten_append,<-List.map_append,List.take_append_drop]
 rw [this,List.length_append];omega
theorem kX (x:It):x.inner.length<=x.bytes.length:=by
 rw [It.nT,List.length_append];omega
theorem inner_mk (l:Bool) (s:aM) (xs:List It):(It.mk l s xs).inner=s.data.toList++(xs.map It.bytes).flatten:=rfl
theorem dZ (s:aM):s.data.toList.length=s.size:=by rw [Array.length_toList]; rfl
theorem zf {around:Nat} {x:It} (h:Fits around x) (hl:x.l=false):x.inner.length=x.s.size:=by
 cases h with
 | mk ha hs hx h =>
  rw [hx hl,inner_mk,List.map_nil,List.flatten_nil,List.append_nil,dZ];rfl
theorem Jq (x:It):∀ (around:Nat) (w:World) (v:Value),Rk w x v->Fits around x->x.inner.length<=1099511627776->
  Calls prog 142 #[v] w λe w'=>e = .returned (.int .i64 x.inner.length)/\Below w.heap.size w w':=by
 induction x using It.ind with
 | h l s xs ih =>
  rintro around w v ⟨a,n,cap,rfl,h⟩ hF hk;have hm:=h.max;have hnc:=h.le;have hlen:xs.length=n:=h.len;unfold maxLen at hm;cases hF with
  | mk ha hs hx hy =>
   rw [inner_mk,List.length_append,dZ] at hk ⊢;have H:=hid h;have HY:=hid hy;have gE:=hid ih;have HK:=hid hk;have hss:s.size<=1099511627776:=by omega
   clear h hy ih hs hx hk;unfold itV;dsimp only [It.l,It.s,It.xs] at H ⊢;go_enter func142,ntmps142;go_wp2;go_loopw [3,13] (λacc i wr=>∃ q k:Nat,q<=n/\i = .int .i64 q/\acc = .int .i64 k/\Hid (k=s.size+(jo xs q).length)/\Below (w.heap.size+1) (w.alloc (.cells #[.bool l,.string s,.slice a n cap] 96)) wr) (λ_ i _=>n-(intOf i).toNat)
   case atStart=>exact ⟨0,s.size,Nat.zero_le _,rfl,rfl,hid rfl,aI⟩
   case round =>
    obtain ⟨q,k,hq,rfl,rfl,HQ,hB⟩:=hrel;have HB:=hid hB;clear hB;by_cases hlt:q<n
    .obtain ⟨x,b,off,A,N,C,hx,rfl,hb,hL,hI⟩:=H.out.at' q hlt;have hBw:=nY HB.out;obtain ⟨e0,e1,e2⟩:=hL.stays hBw hb;have hst:=rG xs q x hx;have hle:=wY xs (q+1);have hk2:=HK.out;have hkq:=HQ.out;have hin:=kX x;have hby:x.bytes.length=(iT x.l x.s x.inner.length).length+x.inner.length:=by
      rw [It.nT,List.length_append]
     rw [hst,List.length_append] at hle;have HS:Hid (k+(iT x.l x.s x.inner.length).length+x.inner.length=s.size+(jo xs (q+1)).length):=hid (by
      rw [hst,List.length_append]; omega)
     have hfx:=HY.out x (List.mem_of_getElem? hx);have HI:=hid (gE.out x (List.mem_of_getElem? hx) (around+1) (wr.alloc (.cells #[.bool x.l,.string x.s,.slice A N C] 96)) (itV x A N C) ⟨A,N,C,rfl,hI.stays (bst hBw (al1 _ _))⟩ hfx (by omega));have HF:=hid (λw=>Co x A N C x.inner.length (by omega) (λe=>zf hfx e) w);have hb1:x.inner.length<=1099511627776:=by omega
     have hb2:(iT x.l x.s x.inner.length).length<=1099511627776:=by omega
     have hb3:k<=1099511627776:=by omega
     have hsz:(qZ x.l x.s x.inner.length).size=(iT x.l x.s x.inner.length).length:=rfl;obtain ⟨m,hm'⟩:=aA x.inner.length
     rw [hm'] at HI HF hb1 hb2 hsz HS;obtain ⟨f,hf⟩:=aA (qZ x.l x.s m)
     obtain ⟨p,hp⟩:=aA ((iT x.l x.s m).length)
     rw [hp] at hsz hb2 HS;simp only [hf] at HF hsz;unfold itV at HI HF;clear hL hI hx gE HY hst hle hk2 hkq hin hby hfx hm' hf hp;go_wp2_with fail
     with_reducible refine HI.out.mono ?_
     rintro e w2 ⟨rfl,hb2'⟩;have d0:w2.cell? ⟨wr.heap.size,0,none⟩=some (.bool x.l):=by rw [hb2'.cell (p:=⟨wr.heap.size,0,none⟩) (by simp),World.cell?_alloc_mark]; rfl
     have d1:w2.cell? ⟨wr.heap.size,1,none⟩=some (.string x.s):=by rw [hb2'.cell (p:=⟨wr.heap.size,1,none⟩) (by simp),World.cell?_alloc_mark]; rfl
     have d2:w2.cell? ⟨wr.heap.size,2,none⟩=some (.slice A N C):=by rw [hb2'.cell (p:=⟨wr.heap.size,2,none⟩) (by simp),World.cell?_alloc_mark]; rfl
     have HB2:=hid (yJ HB.out (bst (al1 _ _) hb2'));clear hb2';go_wp2_with fail
     with_reducible refine (HF.out _).mono ?_
     rintro e w3 ⟨rfl,fx⟩;have HB3:=hid (yJ HB2.out fx);clear fx;go_wp2;go_roundw
     case rel=>exact ⟨q+1,k+p+m,by omega,by go_num,by go_num,hid HS.out,HB3.out⟩
     case measure=>simp [intOf]; omega
    .obtain rfl:q=n:=by omega
     clear gE HY;go_wp2;go_ret;refine ⟨?_,nY HB.out⟩;have:=HQ.out;rw [uD xs _ hlen] at this;rw [this];rfl
end Rl
end
section
open Go.RowKit
namespace Bu
theorem write {b:Nat} (s:aM) (h:Is B b bs w) (hlen:bs.length+s.size<=140737488355328) (hBw:B<=w.heap.size) :
  Calls prog 140 #[.pointer (some ⟨b,0,none⟩),.string s] w λe w'=>e = .returned (.tuple #[.int .i64 s.size,.nilIface])/\(Is B b (bs++Lib.strCells s) w'/\Below B w w'/\Lib.OthersKept 5 (some b) w w'):=by
 obtain ⟨i0,hi,hz0,hz1,hz2⟩:=info_parts wH;go_enter func140,ntmps140;go_wp2_with (go_at_call 165; refine (check h).mono ?_)
 rintro e w1 ⟨rfl,h1,hb1,hk1⟩;obtain ⟨hB,v,hbk,hown,hne⟩:=h1;have c0:w1.cell? ⟨b,0,none⟩=some (.pointer (some ⟨b,0,none⟩)):=by rw [Lib.cell_of_heap hbk]; rfl
 have c1:w1.cell? ⟨b,1,none⟩=some v:=by rw [Lib.cell_of_heap hbk]; rfl
 go_wp2_with (at_builtin; refine Lib.wpList_append_own_string _ rfl _ _ 35 9 rfl B 5 i0 underlying35 underlying9 hi hz0 hz1 hz2 _ _ _ rfl hown s rfl ?c3 ?c4 ?c5 ?_)
 case c3=>unfold maxLen; omega
 case c4=>omega
 case c5=>have:=hb1.size; omega
 intro v' w2 hown' hgrow _;have hlt:b<w1.heap.size:=by
  rcases Nat.lt_or_ge b w1.heap.size with h' | h'
  .exact h'
  .simp [Array.getElem?_eq_none h'] at hbk
 have hb2:w2.heap[b]? = some (.cells #[.pointer (some ⟨b,0,none⟩),v] 167 (0,0)):=by
  rw [hgrow.block b hlt (λe=>hne e.symm)];exact hbk
 have d1:w2.cell? ⟨b,1,none⟩=some v:=by rw [Lib.cell_of_heap hb2]; rfl
 have f1:w2.frozen? ⟨b,1,none⟩=false:=Lib.frozen_of_heap hb2 1;obtain ⟨ao,n',cap,rfl⟩:∃ ao n' cap,v' = .slice ao n' cap:=by
  rcases hown'.2 with ⟨hv,_⟩ | ⟨g,cap,cur,hv,_⟩
  .exact ⟨_,_,_,hv⟩
  .exact ⟨_,_,_,hv⟩
 go_wp2;go_ret2
 refine ⟨rfl,Or.inr ?_,?_,(hk1.grown hgrow (Fh hown)).setCell ⟨b,1,none⟩ rfl _⟩
 .exact Lib.BuilderAt.put (T:=167) (e:=5) hB hb2 (bs':=bs++Lib.strCells s) (by simpa [Lib.strCells_length] using hown') (by decide)
 .exact (hb1.grown hgrow (by have:=hb1.size; omega) (λk hk=>(hown.lt k hk).1)).setCell (p:=⟨b,1,none⟩) hB _
end Bu
end
section
open Go.RowKit
namespace Rl
theorem Av {b:Nat} {cs:aO} (h:Rg.Own w b cs 96) (hk:Lib.OthersKept 5 (some g) w w') (hne:b≠g):Rg.Own w' b cs 96:=by
 have h1:=hk b _ h.2 (λe=>hne (Option.some.inj e)) (λc fz e=>by cases e);exact ⟨(Array.getElem?_eq_some_iff.1 h1).1,h1⟩
theorem yE (x:It):∀ (around g:Nat) (w0 w:World) (v:Value) (bs:aN),Rk w0 x v->Below w0.heap.size w0 w->Fits around x->bs.length+x.bytes.length<=1099511627776->Bu.Is w0.heap.size g (Lib.byteCells bs) w->
  Calls prog 100 #[.pointer (some ⟨g,0,none⟩),v] w λe w'=>e = .returned (.tuple #[])/\Bu.Is w0.heap.size g (Lib.byteCells (bs++x.bytes)) w'/\Below w0.heap.size w0 w':=by
 induction x using It.ind with
 | h l s xs ih =>
  rintro around g w0 w v bs ⟨a,n,cap,rfl,h⟩ hB hF hk hIs;have hm:=h.max;have hnc:=h.le;have hlen:xs.length=n:=h.len;unfold maxLen at hm;have hby:=It.nT (.mk l s xs);have hin:=kX (.mk l s xs);have hfr:=λw=>Co (.mk l s xs) a n cap (It.mk l s xs).inner.length (by omega) (λe=>zf hF e) w;have B6:=λw1 (hw:Below w0.heap.size w0 w1)=>Jq (.mk l s xs) around w1 (itV (.mk l s xs) a n cap) ⟨a,n,cap,rfl,h.stays hw⟩ hF (by omega);cases hF with
  | mk ha hs hx hy =>
   have GF:=hid B6;have GG:=hid hfr;have H:=hid h;have HY:=hid hy;have gE:=hid ih;have cr:=hid hB;have hown:Rg.Own (w.alloc (.cells (itC (.mk l s xs) a n cap) 96)) w.heap.size (itC (.mk l s xs) a n cap) 96:=Rg.Own.new _ _ _;replace hIs:=hIs.kept (Bu.kG (al1 w (.cells (itC (.mk l s xs) a n cap) 96)));replace hB:=hB.alloc hB.size (.cells (itC (.mk l s xs) a n cap) 96);rw [hby,List.length_append,inner_mk,List.length_append,dZ] at hk
   have pA:Hid ((Lib.byteCells bs).length+(qZ l s (It.mk l s xs).inner.length).size<=140737488355328):=hid (by
    rw [Lib.byteCells_length];show bs.length+(iT l s (It.mk l s xs).inner.length).length<=_;rw [inner_mk,List.length_append,dZ];dsimp only [It.l,It.s] at hk;omega)
   clear h hy ih B6 hfr hs hx ha hin;unfold itV at GF GG ⊢;dsimp only [It.l,It.s,It.xs,itC] at H GF GG hown hIs hB ⊢;go_enter func100,ntmps100;go_wp2_with fail
   replace hIs:Bu.Is w0.heap.size g (Lib.byteCells bs) (w.alloc (.cells #[.bool l,.string s,.slice a n cap] 96)).drew:=hIs;refine aD (S:=λw'=>Below w0.heap.size w0 w'/\Rg.Own w' w.heap.size (itC (.mk l s xs) a n cap) 96) (⟨hB.drew,hown.drew⟩) λhld=>?_;refine aj 0 ?_;try simp only [Act.put,au]
   refine aj 1 ?_ (hy:=by intro wz hSw; obtain ⟨z0,z1,z2⟩:=dB hSw.2.2; dsimp only [It.l,It.s,It.xs] at z0 z1 z2; go_simp <;> with_reducible rfl);try simp only [Act.put,au]
   refine aj 2 ?_ (hy:=by intro wz hSw; obtain ⟨z0,z1,z2⟩:=dB hSw.2.2; dsimp only [It.l,It.s,It.xs] at z0 z1 z2; go_simp <;> with_reducible rfl);try simp only [Act.put,au]
   refine ak 3 λK hK=>?_;go_simp;go_at_call 142
   (with_reducible refine (GF.out _ hld.1).mono ?_)
   rintro e il ⟨rfl,hbx⟩;replace hIs:=hIs.kept (Bu.kG hbx);refine hK.out _ _ (⟨tL hld.1 hbx aH,hld.2.below hbx⟩) λhld=>?_;clear hK K hbx;try simp only [Act.put,au]
   refine ak 4 λK hK=>?_;go_simp;go_at_call 141
   (with_reducible refine (GG.out _).mono ?_)
   rintro e wv1 ⟨rfl,hbx⟩;replace hIs:=hIs.kept (Bu.kG hbx);refine hK.out _ _ (⟨tL hld.1 hbx aH,hld.2.below hbx⟩) λhld=>?_;clear hK K hbx;try simp only [Act.put,au]
   refine ak 5 λK hK=>?_;go_simp;go_at_call 140
   (with_reducible refine (Bu.write _ hIs pA.out hld.1.size).mono ?_)
   rintro e Ln ⟨rfl,B7,hbx,hok⟩;have hne:=hIs.Tv hld.2.2 (by decide);have hown:=Av hld.2 hok hne;refine hK.out _ _ (⟨hld.1.trans hbx,hown⟩) λhld=>?_;clear hK K;try simp only [Act.put,au]
   refine aC ?_;clear hB hIs hbx hok hne hown;have GM:=hid hld;have B8:=hid B7;obtain ⟨c0,c1,c2⟩:=dB hld.2.2;dsimp only [It.l,It.s,It.xs] at c0 c1 c2;clear hld B7;go_wp2_with fail
   obtain ⟨P,hP,hP1⟩:∃ P,P=bs++iT l s (It.mk l s xs).inner.length++s.data.toList/\P.length+(xs.map It.bytes).flatten.length<=1099511627776:=⟨_,rfl,by
    rw [List.length_append,List.length_append,dZ,inner_mk,List.length_append,dZ];dsimp only [It.l,It.s] at hk;omega⟩
   have HP:Hid (P++(xs.map It.bytes).flatten=bs++(It.mk l s xs).bytes):=hid (by rw [hP,hby]; simp [inner_mk,It.l,It.s]);have GO:Hid (Bu.Is w0.heap.size g (Lib.byteCells (bs++iT l s (It.mk l s xs).inner.length)) Ln):=hid (by
    have:=B8.out;rw [Lib.strCells_eq,<-Lib.byteCells_append] at this;exact this)
   have HL2:Hid ((Lib.byteCells (bs++iT l s (It.mk l s xs).inner.length)).length+s.size<=140737488355328):=hid (by
    have:=congrArg List.length hP;rw [List.length_append,dZ] at this;rw [Lib.byteCells_length];omega)
   have HE:Hid (Lib.byteCells (bs++iT l s (It.mk l s xs).inner.length)++Lib.strCells s=Lib.byteCells P):=hid (by rw [hP,Lib.strCells_eq,<-Lib.byteCells_append]);have pS:=hid hP1;clear hP hP1 hk hby B8 GG GF pA
   with_reducible refine (Bu.write s GO.out HL2.out GM.out.1.size).mono ?_
   rintro e Zk ⟨rfl,uk,ej,B9⟩;rw [HE.out] at uk;have sk:=Av GM.out.2 B9 (GO.out.Tv GM.out.2.2 (by decide));obtain ⟨d0,d1,d2⟩:=dB sk.2;dsimp only [It.l,It.s,It.xs] at d0 d1 d2;have Lo:=hid uk;have pZ:=hid (GM.out.1.trans ej);clear uk ej B9 sk c0 c1 c2;go_wp2;go_loopw [19] (λi wr=>∃ q:Nat,q<=n/\i = .int .i64 q/\Hid (Bu.Is w0.heap.size g (Lib.byteCells (P++jo xs q)) wr)/\Hid (Below w0.heap.size w0 wr)) (λi _=>n-(intOf i).toNat)
   case atStart=>exact ⟨0,Nat.zero_le _,rfl,hid (by rw [FI,List.append_nil]; exact Lo.out),hid pZ.out⟩
   case round =>
    obtain ⟨q,hq,rfl,HQ,HB⟩:=hrel;clear d0 d1 d2;by_cases hlt:q<n
    .obtain ⟨x,b,off,A,N,C,hx,rfl,hb,hL,hI⟩:=H.out.at' q hlt;obtain ⟨e0,e1,e2⟩:=hL.stays HB.out hb;have hst:=rG xs q x hx;have hle:=wY xs (q+1);have XV:=pS.out;rw [hst,List.length_append] at hle;have HS:=hid hst;have HI:=hid (gE.out x (List.mem_of_getElem? hx) (around+1) g w0 (wr.alloc (.cells #[.bool x.l,.string x.s,.slice A N C] 96)) (itV x A N C) (P++jo xs q) ⟨A,N,C,rfl,hI⟩ (HB.out.alloc HB.out.size _) (HY.out x (List.mem_of_getElem? hx)) (by rw [List.length_append]; omega) (HQ.out.kept (Bu.kG (al1 _ _))));unfold itV at HI
     clear hL hI hx gE HY hst hle XV;go_wp2_with fail
     with_reducible refine HI.out.mono ?_
     rintro e w2 ⟨rfl,hI2,hb2⟩;have HI2:=hid hI2;have HB2:=hid hb2;clear hI2 hb2;go_wp2;go_roundw
     case rel=>exact ⟨q+1,by omega,by go_num,hid (by rw [HS.out,<-List.append_assoc]; exact HI2.out),hid HB2.out⟩
     case measure=>simp [intOf]; omega
    .obtain rfl:q=n:=by omega
     clear gE HY;go_wp2;go_end0;refine ⟨rfl,?_,?_⟩
     .have:=HQ.out;rw [uD xs _ hlen,HP.out] at this;exact this
     .exact HB.out
open Pk
theorem nR {b:Nat} {cs:aO} {T:TypeId} (h:Rg.Own w b cs T) (hg:w.grownBy w' (some g)) (hne:b≠g):Rg.Own w' b cs T :=
 ⟨aJ h.1 hg.size,(hg.block b h.1 (λe=>hne (Option.some.inj e))).trans h.2⟩
theorem oK {b:Nat} {cs:aO} {T:TypeId} (h:Rg.Own w b cs T) (v:Value) (hne:b≠g):Rg.Own (w.setCell ⟨g,0,none⟩ v) b cs T:=nR h (uh w g 0 v) hne
theorem nH {b:Nat} {T:TypeId} (h:Rg.Own w b #[v] T):w.cell? ⟨b,0,none⟩=some v/\w.frozen? ⟨b,0,none⟩=false:=by
 refine ⟨?_,?_⟩
 .simp [World.cell?,h.2]
 .simp [World.frozen?,h.2]
theorem OJ (x:It) (g b:Nat) (w0 w:World) (a:aL) (n cap:Nat) (h:gZ w0 x.xs a n cap) (hB:Below w0.heap.size w0 w) (hg:w0.heap.size<=g) (hF:Fits 0 x) (hk:x.size<=4096) (hT:Tal w g 0) (hO:Rg.Own w b (itC x a n cap) 96) :
  Calls prog 98 #[.pointer (some ⟨g,0,none⟩),.pointer (some ⟨b,0,none⟩)] w λe w'=>e = .returned (.tuple #[])/\w.grownBy w' (some g):=by
 obtain ⟨c0,c1,c2⟩:=dB hO.2;have HC:=hid (sG x 0 0 g 0 w0 w (itV x a n cap) rfl ⟨a,n,cap,rfl,h⟩ hB hg hF (by omega) hT);unfold itV at HC;clear h hB hF hk hT hO;go_enter func98,ntmps98;go_wp2_with fail
 with_reducible refine HC.out.mono ?_
 rintro e w1 ⟨rfl,_,hg1⟩;have HG:=hid hg1;clear hg1;go_wp2;go_end0;exact ⟨rfl,HG.out⟩
theorem yH (x:It) (w:World) (v:Value) (h:Rk w x v) (hF:Fits 0 x) (hk:x.size<=4096) (hl:x.bytes.length<=1099511627776) :
  Calls prog 60 #[v] w λe w'=>e = .returned (.tuple #[.string ⟨x.bytes.toArray⟩,.int .i64 0])/\Below w.heap.size w w':=by
 obtain ⟨a,n,cap,rfl,h⟩:=h;have eK:∀ (fn:Fn) (first cap:aO) (w:World),(Instr.makeFunc fn first cap).run prog w = .ok (.func fn first cap) w:=λ_ _ _ _=>rfl;obtain ⟨w2,hw2⟩:=ay ((w.alloc (.cells (itC x a n cap) 96)).alloc (.cells #[.int .i64 0] 163))
 have ho1:Rg.Own w2 w.heap.size (itC x a n cap) 96:=by rw [hw2]; exact (Rg.Own.new _ _ _).below (al1 _ _)
 have ho2:Rg.Own w2 (w.heap.size+1) #[.int .i64 0] 163:=by
  rw [hw2];have:=Rg.Own.new (w.alloc (.cells (itC x a n cap) 96)) #[.int .i64 0] 163;simpa using this
 have hb2:Below w.heap.size w w2:=by rw [hw2]; exact al2 _ _ _
 have hs2:w2.heap.size=w.heap.size+2:=by rw [hw2]; simp
 have S9:Rg.Own (w2.alloc (.cells #[.int .i64 0] 29)) w2.heap.size #[.int .i64 0] 29:=Rg.Own.new _ _ _;have ul:=ho1.below (al1 w2 (.cells #[.int .i64 0] 29));have Be:=ho2.below (al1 w2 (.cells #[.int .i64 0] 29));have Lq:=hb2.alloc hb2.size (.cells #[.int .i64 0] 29);have HC:=hid (qb 98 #[.pointer (some ⟨w.heap.size+1,0,none⟩),.pointer (some ⟨w.heap.size,0,none⟩)] (by intro wx; kernel_rfl) w2
  (λw'=>(w2.alloc (.cells #[.int .i64 0] 29)).grownBy w' (some (w.heap.size+1))) (by
   refine (OJ x (w.heap.size+1) w.heap.size w _ a n cap h Lq (by omega) hF hk (nH Be) ul).mono ?_;rintro e w' ⟨rfl,hg⟩;exact ⟨rfl,nH (nR S9 hg (by omega)),hg⟩))
 have Bi:=λ(w':World) hb hIs=>yE x 0 (w'.heap.size) w (w'.alloc (.cells #[.pointer none,.slice none 0 0] 167)) (itV x a n cap) [] ⟨a,n,cap,rfl,h⟩ hb hF (by simpa using hl) hIs;have qk:=hid Bi;clear Bi h hF hk hl;unfold itV at qk ⊢;unfold itC at hw2;go_enter func60,ntmps60;go_wp2_with fail
 rw [<-hw2];refine HC.out.mono ?_;rintro e w3 ⟨rfl,w1,hg1,hw3⟩;have ho3:Rg.Own w3 w.heap.size (itC x a n cap) 96:=by rw [hw3]; exact oK (nR ul hg1 (by omega)) _ (by omega)
 have hb3:Below w.heap.size w w3:=by
  rw [hw3];exact (Au Lq hg1 aH (by omega)).setCell (p:=⟨w2.heap.size,0,none⟩) (by show w.heap.size<=w2.heap.size; omega) _
 have HB3:=hid hb3;have hB3:Below w.heap.size w (w3.alloc (.cells #[.pointer none,.slice none 0 0] 167)):=hb3.alloc hb3.size _;have Bk:=hid (qk.out w3 hB3 (Bu.fresh (b:=w3.heap.size) hb3.size (heap_alloc_new _ _)));obtain ⟨c0,c1,c2⟩:=dB (ho3.below (al1 w3 (.cells #[.pointer none,.slice none 0 0] 167))).2;clear hw3 ho3 hb3 hB3 qk HC hg1 Lq Be ul S9 hs2 hb2 ho2 ho1 hw2;go_wp2_with fail
 with_reducible refine Bk.out.mono ?_
 rintro e w4 ⟨rfl,Lt,hb4⟩;rw [List.nil_append] at Lt;have HI4:=hid Lt;have co:=hid hb4;clear Lt hb4 c0 c1 c2 Bk;go_wp2_with fail
 with_reducible refine (Bu.text HI4.out co.out.size).mono ?_
 rintro e w5 ⟨rfl,hb5⟩;have al:=hid (co.out.trans hb5);clear hb5;go_wp2;go_ret2
 exact ⟨rfl,al.out⟩
end Rl
end
section
open Go.RowKit
namespace Rl
mutual
def bR:aN->Nat->Nat->Except Int (It × Nat × Nat)
 | [],around,k=>if 64<around then .error 17 else if 4096<k+1 then .error 4 else .error 5
 | c::t,around,k =>
  if 64<around then .error 17 else if 4096<k+1 then .error 4 else
  match gJ (c::t) with
  | .error e=>.error e
  | .ok (true,a,v)=>if t.length+1-a<v then .error 5 else
   match iZ ((t.drop (a-1)).take v) (around+1) (k+1) with
   | .error e=>.error e
   | .ok (xs,k')=>.ok (.mk true ⟨#[]⟩ xs,a+v,k')
  | .ok (false,a,v)=>if t.length+1-a<v then .error 5 else
   if a=1/\v=1/\(t.headD 0).toNat<128 then .error 6 else .ok (.mk false ⟨(((c::t).drop a).take v).toArray⟩ [],a+v,k+1)
termination_by s=>(s.length,0)
decreasing_by
 apply Prod.Lex.left;rw [List.length_take,List.length_drop,List.length_cons];omega
def iZ:aN->Nat->Nat->Except Int (List It × Nat)
 | [],_,k=>.ok ([],k)
 | c::t,around,k =>
  match bR (c::t) around k with
  | .error e=>.error e
  | .ok (x,n,k') =>
   match iZ (t.drop (n-1)) around k' with
   | .error e=>.error e
   | .ok (xs,k'')=>.ok (x::xs,k'')
termination_by s=>(s.length,1)
decreasing_by
 .apply Prod.Lex.right;omega
 .apply Prod.Lex.left;rw [List.length_drop,List.length_cons];omega
end
theorem iG {α β:Type} {x y : α} (h:(Except.ok x:Except β α) = .ok y):x=y:=by cases h; rfl
theorem kL {c:UInt8} {t:aN} {l:Bool} {a v:Nat} (h:gJ (c::t) = .ok (l,a,v)):a<=t.length+1/\1<=a+v/\v<2 ^ 64/\a<=9/\(l=true->1<=a):=by
 have hc:=c.toNat_lt;obtain ⟨M,hM,hM2⟩:∃ M,(if 192<=c.toNat then 192 else 128)=M/\(M=192\/M=128/\c.toNat<192):=⟨_,rfl,by
  by_cases e:192<=c.toNat
  .exact .inl (if_pos e)
  .exact .inr ⟨if_neg e,by omega⟩⟩
 dsimp only [gJ] at h;rw [hM] at h;clear hM;by_cases h1:c.toNat<128
 .rw [if_pos h1] at h;have:=iG h;simp only [Prod.mk.injEq] at this;obtain ⟨rfl,rfl,rfl⟩:=this;refine ⟨by omega,by omega,by omega,by omega,λe=>by cases e⟩
 .rw [if_neg h1] at h;by_cases h2:c.toNat-M<=55
  .rw [if_pos h2] at h;have:=iG h;simp only [Prod.mk.injEq] at this;obtain ⟨rfl,rfl,rfl⟩:=this;refine ⟨by omega,by omega,by omega,by omega,λ_=>by omega⟩
  .rw [if_neg h2] at h;by_cases h3:t.length<c.toNat-M-55
   .rw [if_pos h3] at h; cases h
   .rw [if_neg h3] at h;by_cases h4:t.headD 0=0\/dS (t.take (c.toNat-M-55))<=55
    .rw [if_pos h4] at h; cases h
    .rw [if_neg h4] at h;have:=iG h;simp only [Prod.mk.injEq] at this;obtain ⟨rfl,rfl,rfl⟩:=this;have hl:=uT (t.take (c.toNat-M-55));have h8:(t.take (c.toNat-M-55)).length<=8:=by
      rw [List.length_take]; omega
     refine ⟨by omega,by omega,?_,by omega,λ_=>by omega⟩;exact aJ hl (Nat.le_trans (Nat.pow_le_pow_right (by omega) h8) (by decide))
theorem props (N:Nat):(∀ (s:aN) (around k:Nat) (x:It) (n k':Nat),s.length<=N->bR s around k = .ok (x,n,k')->1<=n/\n<=s.length/\k<k'/\k'<=4096)/\
  (∀ (s:aN) (around k:Nat) (xs:List It) (k':Nat),s.length<=N->k<=4096->iZ s around k = .ok (xs,k')->k+xs.length<=k'/\k'<=4096):=by
 induction N using Nat.strongRecOn with
 | ind N ih =>
  have hread:∀ (s:aN) (around k:Nat) (x:It) (n k':Nat),s.length<=N->bR s around k = .ok (x,n,k')->1<=n/\n<=s.length/\k<k'/\k'<=4096:=by
   intro s around k x n k' hN h;cases s with
   | nil =>
    rw [bR] at h;split at h
    .cases h
    .split at h <;> cases h
   | cons c t =>
    rw [bR] at h;split at h
    .cases h
    .split at h
     .cases h
     .rename_i hk;split at h
      .cases h
      .rename_i a v hh;obtain ⟨h1,h2,h3,h4,h5⟩:=kL hh;have h6:=h5 rfl;split at h
       .cases h
       .rename_i hv;split at h
        .cases h
        .rename_i xs k2 ha;have:=iG h;simp only [Prod.mk.injEq] at this;obtain ⟨rfl,rfl,rfl⟩:=this;rw [List.length_cons] at hN ⊢;obtain ⟨g1,g2⟩:=(ih (N-1) (by omega)).2 _ _ _ _ _ (by rw [List.length_take,List.length_drop]; omega) (by omega) ha;omega
      .rename_i a v hh;obtain ⟨h1,h2,h3,h4,h5⟩:=kL hh;split at h
       .cases h
       .rename_i hv;split at h
        .cases h
        .have:=iG h;simp only [Prod.mk.injEq] at this;obtain ⟨rfl,rfl,rfl⟩:=this;rw [List.length_cons];omega
  refine ⟨hread,λs around k xs k' hN hk h=>?_⟩;cases s with
  | nil =>
   rw [iZ] at h;have:=iG h;simp only [Prod.mk.injEq] at this;obtain ⟨rfl,rfl⟩:=this;simp;omega
  | cons c t =>
   rw [iZ] at h;split at h
   .cases h
   .rename_i x n k2 hr;obtain ⟨g1,g2,g3,g4⟩:=hread _ _ _ _ _ _ hN hr;split at h
    .cases h
    .rename_i ys k3 ha;have:=iG h;simp only [Prod.mk.injEq] at this;obtain ⟨rfl,rfl⟩:=this;rw [List.length_cons] at hN;obtain ⟨e1,e2⟩:=(ih (N-1) (by omega)).2 _ _ _ _ _ (by rw [List.length_drop]; omega) g4 ha;rw [List.length_cons];omega
open Pk
def iH (s:aM) (g:Nat) (ar:Int) (w:World):Except Int (It × Nat × Nat)->Prop
 | .error c=>Calls prog 157 #[.pointer (some ⟨g,0,none⟩),.string s,.int .i64 ar] w λe w'=>e = .panicked [fT c]/\w.grownBy w' (some g)
 | .ok (x,n,k')=>Calls prog 157 #[.pointer (some ⟨g,0,none⟩),.string s,.int .i64 ar] w λe w' =>
   ∃ a nn cap,e = .returned (.tuple #[itV x a nn cap,.int .i64 n])/\bP w.heap.size w' x.xs a nn cap/\Tal w' g k'/\w.grownBy w' (some g)
def Du (s:aM):Prop:=∀ (around k g:Nat) (ar:Int) (w:World),ar=around->around<=65->k<=4096->Tal w g k->iH s g ar w (bR s.data.toList around k)
def Vz (g:Nat) (w:World):Except Int (List It × Nat)->Ending->World->Prop
 | .error c=>λe w'=>e = .panicked [fT c]/\w.grownBy w' (some g)
 | .ok (xs,k')=>λe w'=>∃ a nn cap,e = .returned (.slice a nn cap)/\bP w.heap.size w' xs a nn cap/\Tal w' g k'/\w.grownBy w' (some g)
def VW (s:aM) (g:Nat) (ar:Int) (w:World) (r:Except Int (List It × Nat)):Prop:=Calls prog 176 #[.pointer (some ⟨g,0,none⟩),.string s,.int .i64 ar] w (Vz g w r)
def VF (s:aM):Prop:=∀ (around k g:Nat) (ar:Int) (w:World),ar=around->around<=65->k<=4096->Tal w g k->VW s g ar w (iZ s.data.toList around k)
theorem gG (s:aN) (around k:Nat):bR s around k =
  if 64<around then .error 17 else if 4096<k+1 then .error 4 else
  match gJ s with
  | .error e=>.error e
  | .ok (l,a,v)=>if s.length-a<v then .error 5 else
   if l then (match iZ ((s.drop a).take v) (around+1) (k+1) with
    | .error e=>.error e
    | .ok (xs,k')=>.ok (.mk true ⟨#[]⟩ xs,a+v,k'))
   else if a=1/\v=1/\((s.drop 1).headD 0).toNat<128 then .error 6 else .ok (.mk false ⟨((s.drop a).take v).toArray⟩ [],a+v,k+1):=by
 cases s with
 | nil=>rw [bR]; rfl
 | cons c t =>
  rw [bR];split
  .rfl
  .split
   .rfl
   .cases hh:gJ (c::t) with
    | error e=>rfl
    | ok r =>
     obtain ⟨l,a,v⟩:=r;cases l with
     | false=>rfl
     | true =>
      have h1:=(kL hh).2.2.2.2 rfl;have h2:(c::t).drop a=t.drop (a-1):=by
       obtain ⟨b,rfl⟩:∃ b,a=b+1:=⟨a-1,by omega⟩
       rfl
      dsimp only;rw [h2];rfl
theorem met {k:Nat} (hT:Tal w g k) (h:w1=(w.alloc (.cells #[.bool false,.string ⟨#[]⟩,.slice none 0 0] 96)).setCell ⟨g,0,none⟩ (.int .i64 (k+1))) :
  Rg.Own w1 w.heap.size (itC it0 none 0 0) 96/\Tal w1 g (k+1:Nat)/\w.grownBy w1 (some g):=by
 have hlt:=hT.lt;refine ⟨?_,?_,?_⟩
 .rw [h]; exact oK (Rg.Own.new w (itC it0 none 0 0) 96) _ (by omega)
 .rw [h]; exact (hT.below (al1 w (.cells (itC it0 none 0 0) 96))).set (k+1)
 .rw [h]; exact gX (uW (al1 _ _)) (uh _ _ _ _)
theorem Og (s:aM) (around k g:Nat) (ar:Int) (w:World) (har:ar=around) (ha:64<around) (hk:k<=4096) (hT:Tal w g k):iH s g ar w (.error 17):=by
 have HM:=hid (Np g ar k (by omega) (by omega) (by omega) (w.alloc (.cells #[.bool false,.string ⟨#[]⟩,.slice none 0 0] 96)) (hT.below (al1 _ _)));have HT:=hid hT;clear har hT;unfold iH;go_enter func157,ntmps157;go_wp2_with fail
 with_reducible refine HM.out.mono ?_
 rintro e w1 ⟨rfl,hw1⟩;have HG:=hid (met HT.out hw1).2.2;clear hw1;go_wp2;simp [bodyPost];exact HG.out
theorem QB (s:aM) (around k g:Nat) (ar:Int) (w:World) (har:ar=around) (ha:around<=64) (hk:k<=4096) (hk2:4096<k+1) (hT:Tal w g k):iH s g ar w (.error 4):=by
 have HM:=hid (RB g ar k (by omega) (by omega) (by omega) (w.alloc (.cells #[.bool false,.string ⟨#[]⟩,.slice none 0 0] 96)) (hT.below (al1 _ _)));have HT:=hid hT;clear har hT;unfold iH;go_enter func157,ntmps157;go_wp2_with fail
 with_reducible refine HM.out.mono ?_
 rintro e w1 ⟨rfl,hw1⟩;have HG:=hid (met HT.out hw1).2.2;clear hw1;go_wp2;simp [bodyPost];exact HG.out
theorem Na (s:aM) (around k g:Nat) (ar c:Int) (w:World) (har:ar=around) (ha:around<=64) (hk2:k+1<=4096) (hT:Tal w g k) (hh:gJ s.data.toList = .error c):iH s g ar w (.error c):=by
 have HM:=hid (oP g ar k (by omega) (by omega) (by omega) (w.alloc (.cells #[.bool false,.string ⟨#[]⟩,.slice none 0 0] 96)) (hT.below (al1 _ _)));have HT:=hid hT;have ht:=ku s;rw [hh] at ht;have HH:Hid (∀ w,Calls prog 175 #[.string s] w λe w'=>e = .panicked [fT c]/\w=w'):=hid ht;clear har hT ht;unfold iH;go_enter func157,ntmps157;go_wp2_with fail
 with_reducible refine HM.out.mono ?_
 rintro e w1 ⟨rfl,hw1⟩;have HG:=hid (met HT.out hw1).2.2;clear hw1;go_wp2_with fail
 with_reducible refine (HH.out _).mono ?_
 rintro e w2 ⟨rfl,rfl⟩;go_wp2;simp [bodyPost];exact HG.out
theorem IJ (s:aM) (around k g:Nat) (ar:Int) (w:World) (l:Bool) (a v:Nat) (har:ar=around) (ha:around<=64) (hk2:k+1<=4096) (hT:Tal w g k) (hh:gJ s.data.toList = .ok (l,a,v)) (hsz:s.size<=9223372036854775807) (has:a<=s.size) (hlt:s.size-a<v):iH s g ar w (.error 5):=by
 have HM:=hid (oP g ar k (by omega) (by omega) (by omega) (w.alloc (.cells #[.bool false,.string ⟨#[]⟩,.slice none 0 0] 96)) (hT.below (al1 _ _)));have HT:=hid hT;have ht:=ku s;rw [hh] at ht;have HH:Hid (∀ w,Calls prog 175 #[.string s] w λe w'=>e = .returned (.tuple #[.bool l,.int .i64 a,.int .u64 v])/\w=w'):=hid ht;have hA:(s.size:Int)-(a:Int)=((s.size-a:Nat):Int):=by omega
 clear har hT ht hh;unfold iH;go_enter func157,ntmps157;go_wp2_with fail
 with_reducible refine HM.out.mono ?_
 rintro e w1 ⟨rfl,hw1⟩;obtain ⟨ho1,ht1,hg1⟩:=met HT.out hw1;have HO:=hid ho1;have HT1:=hid ht1;have HG:=hid hg1;clear hw1 ho1 ht1 hg1 HM;go_wp2_with fail
 with_reducible refine (HH.out _).mono ?_
 rintro e w2 ⟨rfl,rfl⟩;go_wp2_with (go_at_call 139; refine (jq _ _).mono ?_; rintro e w3 ⟨rfl,rfl⟩)
 simp [bodyPost];exact HG.out
theorem fO (s:aM) (a v:Nat):s.extract a (a+v)=⟨((s.data.toList.drop a).take v).toArray⟩:=by
 apply ByteArray.ext;apply Array.toList_inj.1;simp [List.extract_eq_take_drop]
theorem yV {b:Nat} (h:Tal w g k) (hne:b≠g) (cs:aO):Tal (w.setRow b cs) g k:=by
 have e:(w.setRow b cs).heap[g]? = w.heap[g]? := setRow_other w b g cs (λe=>hne e.symm);exact ⟨(World.cell?_of_block (a:=⟨g,0,none⟩) e).trans h.1,(World.frozen?_of_block (a:=⟨g,0,none⟩) e).trans h.2⟩
theorem EG {b:Nat} (h:w.grownBy w1 (some g)) (hb:w.heap.size<=b) (cs:aO):w.grownBy (w1.setRow b cs) (some g) :=
 ⟨h.os,h.tape,h.output,by simp; exact h.size,λk hk hr=>(setRow_other w1 b k cs (by omega)).trans (h.block k hk hr)⟩
theorem Kg (s:aM) (around k g:Nat) (ar:Int) (w:World) (a v:Nat) (har:ar=around) (ha:around<=64) (hk2:k+1<=4096) (hT:Tal w g k) (hh:gJ s.data.toList = .ok (false,a,v)) (hsz:s.size<=9223372036854775807) (has:a+v<=s.size)
  (h1:a≠1):iH s g ar w (.ok (.mk false ⟨((s.data.toList.drop a).take v).toArray⟩ [],a+v,k+1)):=by
 have HM:=hid (oP g ar k (by omega) (by omega) (by omega) (w.alloc (.cells #[.bool false,.string ⟨#[]⟩,.slice none 0 0] 96)) (hT.below (al1 _ _)));have HT:=hid hT;have ht:=ku s;rw [hh] at ht;have HH:Hid (∀ w,Calls prog 175 #[.string s] w λe w'=>e = .returned (.tuple #[.bool false,.int .i64 a,.int .u64 v])/\w=w'):=hid ht;have hA:(s.size:Int)-(a:Int)=((s.size-a:Nat):Int):=by omega
 have hle:v<=s.size-a:=by omega
 obtain ⟨B,hB⟩:=aA (s.extract a (a+v))
 have mb:B.size=v:=by rw [<-hB,ByteArray.size_extract]; omega
 have mx:Hid (B=⟨((s.data.toList.drop a).take v).toArray⟩):=hid (by rw [<-hB]; exact fO s a v);have q1:((a:Int)==1)=false:=by simp; omega
 clear har hT ht hh;unfold iH;go_enter func157,ntmps157;go_wp2_with fail
 with_reducible refine HM.out.mono ?_
 rintro e w1 ⟨rfl,hw1⟩;obtain ⟨ho1,ht1,hg1⟩:=met HT.out hw1;have HO:=hid ho1;have HT1:=hid ht1;have HG:=hid hg1;clear hw1 ho1 ht1 hg1 HM;go_wp2_with fail
 with_reducible refine (HH.out _).mono ?_
 rintro e w2 ⟨rfl,rfl⟩;go_wp2_with fail
 with_reducible refine (kW B w1).mono ?_
 rintro e w3 ⟨rfl,hb3⟩;have ce:=hid (HO.out.below hb3);have HT3:=hid (HT1.out.below hb3);have r6:=hid (gX HG.out (uW hb3));clear hb3;go_wp2_with (refine wpList_store_rowTo rfl 96 _ _ rfl rfl _ (itC (.mk false B []) none 0 0) rfl rfl 96 (itC it0 none 0 0) ce.out.2 (gV _ _ _ _) rfl (jl _ _ _ _) ?_)
 refine bodyPost_ret (mq rfl _ rfl (dB (setRow_heap _ _ _ _ _ _ ce.out.2))) rfl ⟨none,0,0,?_,bP.nil _ _,yV HT3.out (by have:=HT.out.lt; omega) _,EG r6.out aH _⟩;show Ending.returned (.tuple #[itV (.mk false B []) none 0 0,.int .i64 ((a:Int)+(v:Int))])=_;rw [mx.out];rfl
theorem Jm (s:aM) (around k g:Nat) (ar:Int) (w:World) (a v:Nat) (har:ar=around) (ha:around<=64) (hk2:k+1<=4096) (hT:Tal w g k) (hh:gJ s.data.toList = .ok (false,a,v)) (hsz:s.size<=9223372036854775807) (has:a+v<=s.size)
  (h1:a=1) (h2:v≠1):iH s g ar w (.ok (.mk false ⟨((s.data.toList.drop a).take v).toArray⟩ [],a+v,k+1)):=by
 have HM:=hid (oP g ar k (by omega) (by omega) (by omega) (w.alloc (.cells #[.bool false,.string ⟨#[]⟩,.slice none 0 0] 96)) (hT.below (al1 _ _)));have HT:=hid hT;have ht:=ku s;rw [hh] at ht;have HH:Hid (∀ w,Calls prog 175 #[.string s] w λe w'=>e = .returned (.tuple #[.bool false,.int .i64 a,.int .u64 v])/\w=w'):=hid ht;have hA:(s.size:Int)-(a:Int)=((s.size-a:Nat):Int):=by omega
 have hle:v<=s.size-a:=by omega
 obtain ⟨B,hB⟩:=aA (s.extract a (a+v))
 have mb:B.size=v:=by rw [<-hB,ByteArray.size_extract]; omega
 have mx:Hid (B=⟨((s.data.toList.drop a).take v).toArray⟩):=hid (by rw [<-hB]; exact fO s a v);have q1:((a:Int)==1)=true:=by simp; omega
 have q2:((v:Int)==1)=false:=by simp; omega
 clear h1;clear har hT ht hh;unfold iH;go_enter func157,ntmps157;go_wp2_with fail
 with_reducible refine HM.out.mono ?_
 rintro e w1 ⟨rfl,hw1⟩;obtain ⟨ho1,ht1,hg1⟩:=met HT.out hw1;have HO:=hid ho1;have HT1:=hid ht1;have HG:=hid hg1;clear hw1 ho1 ht1 hg1 HM;go_wp2_with fail
 with_reducible refine (HH.out _).mono ?_
 rintro e w2 ⟨rfl,rfl⟩;go_wp2_with fail
 with_reducible refine (kW B w1).mono ?_
 rintro e w3 ⟨rfl,hb3⟩;have ce:=hid (HO.out.below hb3);have HT3:=hid (HT1.out.below hb3);have r6:=hid (gX HG.out (uW hb3));clear hb3;go_wp2_with (refine wpList_store_rowTo rfl 96 _ _ rfl rfl _ (itC (.mk false B []) none 0 0) rfl rfl 96 (itC it0 none 0 0) ce.out.2 (gV _ _ _ _) rfl (jl _ _ _ _) ?_)
 refine bodyPost_ret (mq rfl _ rfl (dB (setRow_heap _ _ _ _ _ _ ce.out.2))) rfl ⟨none,0,0,?_,bP.nil _ _,yV HT3.out (by have:=HT.out.lt; omega) _,EG r6.out aH _⟩;show Ending.returned (.tuple #[itV (.mk false B []) none 0 0,.int .i64 ((a:Int)+(v:Int))])=_;rw [mx.out];rfl
theorem Jw (s:aM) (around k g:Nat) (ar:Int) (w:World) (a v:Nat) (har:ar=around) (ha:around<=64) (hk2:k+1<=4096) (hT:Tal w g k) (hh:gJ s.data.toList = .ok (false,a,v)) (hsz:s.size<=9223372036854775807) (has:a+v<=s.size)
  (h1:a=1) (h2:v=1) (h3:128<=((s.data.toList.drop 1).headD 0).toNat):iH s g ar w (.ok (.mk false ⟨((s.data.toList.drop a).take v).toArray⟩ [],a+v,k+1)):=by
 have HM:=hid (oP g ar k (by omega) (by omega) (by omega) (w.alloc (.cells #[.bool false,.string ⟨#[]⟩,.slice none 0 0] 96)) (hT.below (al1 _ _)));have HT:=hid hT;have ht:=ku s;rw [hh] at ht;have HH:Hid (∀ w,Calls prog 175 #[.string s] w λe w'=>e = .returned (.tuple #[.bool false,.int .i64 a,.int .u64 v])/\w=w'):=hid ht;have hA:(s.size:Int)-(a:Int)=((s.size-a:Nat):Int):=by omega
 have hle:v<=s.size-a:=by omega
 obtain ⟨B,hB⟩:=aA (s.extract a (a+v))
 have mb:B.size=v:=by rw [<-hB,ByteArray.size_extract]; omega
 have mx:Hid (B=⟨((s.data.toList.drop a).take v).toArray⟩):=hid (by rw [<-hB]; exact fO s a v);have q1:((a:Int)==1)=true:=by simp; omega
 have q2:((v:Int)==1)=true:=by simp; omega
 have q0:0<B.size:=by omega
 have q3:128<=B[0].toNat:=by
  rw [<-kJ q0,mx.out,h1,h2];revert h3;cases (s.data.toList.drop 1) <;> simp
 clear h1 h2 h3;clear har hT ht hh;unfold iH;go_enter func157,ntmps157;go_wp2_with fail
 with_reducible refine HM.out.mono ?_
 rintro e w1 ⟨rfl,hw1⟩;obtain ⟨ho1,ht1,hg1⟩:=met HT.out hw1;have HO:=hid ho1;have HT1:=hid ht1;have HG:=hid hg1;clear hw1 ho1 ht1 hg1 HM;go_wp2_with fail
 with_reducible refine (HH.out _).mono ?_
 rintro e w2 ⟨rfl,rfl⟩;go_wp2_with fail
 with_reducible refine (kW B w1).mono ?_
 rintro e w3 ⟨rfl,hb3⟩;have ce:=hid (HO.out.below hb3);have HT3:=hid (HT1.out.below hb3);have r6:=hid (gX HG.out (uW hb3));clear hb3;go_wp2_with (refine wpList_store_rowTo rfl 96 _ _ rfl rfl _ (itC (.mk false B []) none 0 0) rfl rfl 96 (itC it0 none 0 0) ce.out.2 (gV _ _ _ _) rfl (jl _ _ _ _) ?_)
 refine bodyPost_ret (mq rfl _ rfl (dB (setRow_heap _ _ _ _ _ _ ce.out.2))) rfl ⟨none,0,0,?_,bP.nil _ _,yV HT3.out (by have:=HT.out.lt; omega) _,EG r6.out aH _⟩;show Ending.returned (.tuple #[itV (.mk false B []) none 0 0,.int .i64 ((a:Int)+(v:Int))])=_;rw [mx.out];rfl
theorem QG (s:aM) (around k g:Nat) (ar:Int) (w:World) (a v:Nat) (har:ar=around) (ha:around<=64) (hk2:k+1<=4096) (hT:Tal w g k) (hh:gJ s.data.toList = .ok (false,a,v)) (hsz:s.size<=9223372036854775807) (has:a+v<=s.size)
  (h1:a=1) (h2:v=1) (h3:((s.data.toList.drop 1).headD 0).toNat<128):iH s g ar w (.error 6):=by
 have HM:=hid (oP g ar k (by omega) (by omega) (by omega) (w.alloc (.cells #[.bool false,.string ⟨#[]⟩,.slice none 0 0] 96)) (hT.below (al1 _ _)));have HT:=hid hT;have ht:=ku s;rw [hh] at ht;have HH:Hid (∀ w,Calls prog 175 #[.string s] w λe w'=>e = .returned (.tuple #[.bool false,.int .i64 a,.int .u64 v])/\w=w'):=hid ht;have hA:(s.size:Int)-(a:Int)=((s.size-a:Nat):Int):=by omega
 have hle:v<=s.size-a:=by omega
 obtain ⟨B,hB⟩:=aA (s.extract a (a+v))
 have mb:B.size=v:=by rw [<-hB,ByteArray.size_extract]; omega
 have mx:Hid (B=⟨((s.data.toList.drop a).take v).toArray⟩):=hid (by rw [<-hB]; exact fO s a v);have q1:((a:Int)==1)=true:=by simp; omega
 have q2:((v:Int)==1)=true:=by simp; omega
 have q0:0<B.size:=by omega
 have q3:B[0].toNat<128:=by
  rw [<-kJ q0,mx.out,h1,h2];revert h3;have hl:0<(s.data.toList.drop 1).length:=by rw [List.length_drop,<-bF]; omega
  revert hl;cases (s.data.toList.drop 1) <;> simp
 clear h1 h2 h3;clear har hT ht hh;unfold iH;go_enter func157,ntmps157;go_wp2_with fail
 with_reducible refine HM.out.mono ?_
 rintro e w1 ⟨rfl,hw1⟩;obtain ⟨ho1,ht1,hg1⟩:=met HT.out hw1;have HO:=hid ho1;have HT1:=hid ht1;have HG:=hid hg1;clear hw1 ho1 ht1 hg1 HM;go_wp2_with fail
 with_reducible refine (HH.out _).mono ?_
 rintro e w2 ⟨rfl,rfl⟩;go_wp2_with (go_at_call 139; refine (jq _ _).mono ?_; rintro e w3 ⟨rfl,rfl⟩)
 simp [bodyPost];exact HG.out
theorem Nl (s:aM) (around k g:Nat) (ar:Int) (w:World) (a v:Nat) (har:ar=around) (ha:around<=64) (hk2:k+1<=4096) (hT:Tal w g k) (hh:gJ s.data.toList = .ok (true,a,v)) (hsz:s.size<=9223372036854775807) (has:a+v<=s.size)
  (hC:VF (s.extract a (a+v))):iH s g ar w (match iZ ((s.data.toList.drop a).take v) (around+1) (k+1) with
   | .error e=>.error e
   | .ok (xs,k')=>.ok (.mk true ⟨#[]⟩ xs,a+v,k')):=by
 have HM:=hid (oP g ar k (by omega) (by omega) (by omega) (w.alloc (.cells #[.bool false,.string ⟨#[]⟩,.slice none 0 0] 96)) (hT.below (al1 _ _)));have HT:=hid hT;have ht:=ku s;rw [hh] at ht;have HH:Hid (∀ w,Calls prog 175 #[.string s] w λe w'=>e = .returned (.tuple #[.bool true,.int .i64 a,.int .u64 v])/\w=w'):=hid ht;have hA:(s.size:Int)-(a:Int)=((s.size-a:Nat):Int):=by omega
 have hle:v<=s.size-a:=by omega
 have hBl:(s.extract a (a+v)).data.toList=(s.data.toList.drop a).take v:=by rw [fO]
 obtain ⟨B,hB⟩:=aA (s.extract a (a+v))
 rw [hB] at hC hBl;have HA:=hid (λ(w1:World) (ht:Tal w1 g (k+1:Nat))=>hC (around+1) (k+1) g (wrap64 (ar+1)) w1 (by simp only [wrap64]; omega) (by omega) (by omega) ht);have mb:B.size=v:=by rw [<-hB,ByteArray.size_extract]; omega
 rw [hBl] at HA;clear har hT ht hh hBl hC;cases hr:iZ ((s.data.toList.drop a).take v) (around+1) (k+1) with
 | error c =>
  rw [hr] at HA;clear hr;have Bm:Hid (∀ w1,Tal w1 g (k+1:Nat)->Calls prog 176 #[.pointer (some ⟨g,0,none⟩),.string B,.int .i64 (wrap64 (ar+1))] w1 λe w'=>e = .panicked [fT c]/\w1.grownBy w' (some g)):=hid HA.out;clear HA;dsimp only;unfold iH;go_enter func157,ntmps157;go_wp2_with fail
  with_reducible refine HM.out.mono ?_
  rintro e w1 ⟨rfl,hw1⟩;obtain ⟨ho1,ht1,hg1⟩:=met HT.out hw1;have HO:=hid ho1;have HT1:=hid ht1;have HG:=hid hg1;clear hw1 ho1 ht1 hg1 HM;go_wp2_with fail
  with_reducible refine (HH.out _).mono ?_
  rintro e w2 ⟨rfl,rfl⟩;go_wp2_with fail
  with_reducible refine (Bm.out _ HT1.out).mono ?_
  rintro e w3 ⟨rfl,hg3⟩;have r6:=hid (gX HG.out hg3);clear hg3;go_wp2;simp [bodyPost];exact r6.out
 | ok r =>
  obtain ⟨xs,k'⟩:=r;rw [hr] at HA;clear hr;have Bm:Hid (∀ w1,Tal w1 g (k+1:Nat)->Calls prog 176 #[.pointer (some ⟨g,0,none⟩),.string B,.int .i64 (wrap64 (ar+1))] w1 λe w' =>
   ∃ a nn cap,e = .returned (.slice a nn cap)/\bP w1.heap.size w' xs a nn cap/\Tal w' g k'/\w1.grownBy w' (some g)):=hid HA.out
  clear HA;dsimp only;unfold iH;go_enter func157,ntmps157;go_wp2_with fail
  with_reducible refine HM.out.mono ?_
  rintro e w1 ⟨rfl,hw1⟩;obtain ⟨ho1,ht1,hg1⟩:=met HT.out hw1;have HO:=hid ho1;have HT1:=hid ht1;have HG:=hid hg1;clear hw1 ho1 ht1 hg1 HM;go_wp2_with fail
  with_reducible refine (HH.out _).mono ?_
  rintro e w2 ⟨rfl,rfl⟩;go_wp2_with fail
  with_reducible refine (Bm.out _ HT1.out).mono ?_
  rintro e w3 ⟨xa,xn,xc,rfl,cL,ht3,hg3⟩;have ce:=hid (nR HO.out hg3 (by have:=HT.out.lt; omega));have HI3:=hid (jG cL HO.out.1);have HT3:=hid ht3;have r6:=hid (gX HG.out hg3);have cJ:=hid HG.out.size;clear hg3 cL ht3;go_wp2_with (refine wpList_store_rowTo rfl 96 _ _ rfl rfl _ (itC (.mk true ⟨#[]⟩ xs) xa xn xc) rfl rfl 96 (itC it0 none 0 0) ce.out.2 (gV _ _ _ _) rfl (jl _ _ _ _) ?_)
  refine bodyPost_ret (mq rfl _ rfl (dB (setRow_heap _ _ _ _ _ _ ce.out.2))) rfl ⟨xa,xn,xc,?_,bP.weak (HI3.out _) cJ.out,yV HT3.out (by have:=HT.out.lt; omega) _,EG r6.out aH _⟩;show Ending.returned (.tuple #[itV (.mk true ⟨#[]⟩ xs) xa xn xc,.int .i64 ((a:Int)+(v:Int))])=_;rfl
abbrev Hdr:Type:=aL × Nat × Nat
def flat:List It->List Hdr->List Value
 | x::xs,h::hs=>.bool x.l :: .string x.s :: .slice h.1 h.2.1 h.2.2::flat xs hs
 | _,_=>[]
theorem Dw:∀ (xs:List It) (hs:List Hdr) (x:It) (h:Hdr),hs.length=xs.length->flat (xs++[x]) (hs++[h])=flat xs hs++[.bool x.l,.string x.s,.slice h.1 h.2.1 h.2.2]
 | [],[],_,_,_=>rfl
 | y::xs,g::hs,x,h,e=>by
  have:=Dw xs hs x h (by simpa using e);simp [flat,this]
theorem Le:∀ (xs:List It) (hs:List Hdr) (j:Nat) (x:It) (h:Hdr),xs[j]? = some x->hs[j]? = some h->
  (flat xs hs)[j*3]? = some (.bool x.l)/\(flat xs hs)[j*3+1]? = some (.string x.s)/\(flat xs hs)[j*3+2]? = some (.slice h.1 h.2.1 h.2.2)
 | [],_,_,_,_,hx,_=>by simp at hx
 | _::_,[],_,_,_,_,hh=>by simp at hh
 | y::xs,g::hs,0,x,h,hx,hh=>by
  simp at hx hh;subst hx hh;simp [flat]
 | y::xs,g::hs,j+1,x,h,hx,hh=>by
  have:=Le xs hs j x h (by simpa using hx) (by simpa using hh);rw [show (j+1)*3=j*3+3 by omega];simp only [flat,List.getElem?_cons_succ];exact this
def lW (B:Nat) (w:World) (v:Value) (xs:List It):Prop :=
 ∃ hs:List Hdr,hs.length=xs.length/\w.ownsRow B 96 3 v xs.length (flat xs hs)/\∀ (j:Nat) (x:It) (h:Hdr),xs[j]? = some x->hs[j]? = some h->iE (λb=>B<=b/\v.ownBlock≠some b) w x.xs h.1 h.2.1 h.2.2
theorem lW.nil (B:Nat) (w:World):lW B w (.slice none 0 0) []:=⟨[],rfl,World.ownsRow_nil _ _ _ _,λ_ _ _ hx _=>by simp at hx⟩
theorem lW.lt {B:Nat} {w:World} {v:Value} {xs:List It} (h:lW B w v xs):∀ k,v.ownBlock=some k->B<=k/\k<w.heap.size:=by
 obtain ⟨hs,_,ho,_⟩:=h;exact ho.lt
theorem lW.gb {xs:List It} (h:lW B w v xs) (hg:w.grownBy w' (some g)) (hlt:g<B):lW B w' v xs:=by
 have hl:=h.lt;obtain ⟨hs,hlen,ho,hi⟩:=h;refine ⟨hs,hlen,ho.kept hg (.inr λe=>?_),λj x h hx hh=>?_⟩
 .have:=(hl g e).1;omega
 .exact (hi j x h hx hh).kept hg.size λb o hb hlt'=>World.cell?_of_block (a:=⟨b,o,none⟩) (hg.block b hlt' (λe=>by have:=Option.some.inj e; omega))
theorem lW.below' {xs:List It} (h:lW B w v xs) (hb:Below w.heap.size w w'):lW B w' v xs:=by
 obtain ⟨hs,hlen,ho,hi⟩:=h;refine ⟨hs,hlen,ho.kept (Bu.kG hb) (by cases v.ownBlock <;> simp),λj x h hx hh=>(hi j x h hx hh).stays hb⟩
theorem lW.push {v':Value} {xs:List It} {x:It} {hs:List Hdr} (hlen:hs.length=xs.length) (hi:∀ (j:Nat) (x:It) (h:Hdr),xs[j]? = some x->hs[j]? = some h->iE (λb=>B<=b/\v.ownBlock≠some b) w x.xs h.1 h.2.1 h.2.2)
  (hI:iE (λb=>B<=b/\v.ownBlock≠some b) w x.xs a n cap) (ho:w'.ownsRow B 96 3 v' (xs.length+1) (flat xs hs++[.bool x.l,.string x.s,.slice a n cap]))
  (hg:w.grownBy w' v.ownBlock) (hat:v'.ownBlock=v.ownBlock\/v'.ownBlock=some w.heap.size):lW B w' v' (xs++[x]):=by
 have keep:∀ {ys:List It} {a:aL} {n cap:Nat},iE (λb=>B<=b/\v.ownBlock≠some b) w ys a n cap->iE (λb=>B<=b/\v'.ownBlock≠some b) w' ys a n cap:=λhh=>by
  have h1:=hh.to (p':=λb=>(B<=b/\v'.ownBlock≠some b)/\v.ownBlock≠some b) λb hlt hb=>⟨⟨hb.1,λe=>by
   rcases hat with h2 | h2
   .exact hb.2 (h2 ▸ e)
   .rw [h2] at e;have:=Option.some.inj e;omega⟩,hb.2⟩
  have h2:=h1.kept (w':=w') hg.size λb o hb hlt=>World.cell?_of_block (a:=⟨b,o,none⟩) (hg.block b hlt (λe=>hb.2 e.symm));exact h2.to λb _ hb=>hb.1
 refine ⟨hs++[(a,n,cap)],by simp [hlen],?_,λj y h hy hh=>?_⟩
 .rw [List.length_append,Dw xs hs x (a,n,cap) hlen];exact ho
 .by_cases hj:j<xs.length
  .rw [List.getElem?_append_left hj] at hy;rw [List.getElem?_append_left (by omega)] at hh;exact keep (hi j y h hy hh)
  .have hj2:j=xs.length:=by
    have:=(List.getElem?_eq_some_iff.1 hy).1;simp at this;omega
   subst hj2;rw [List.getElem?_append_right aH,Nat.sub_self] at hy;rw [List.getElem?_append_right (by omega),hlen,Nat.sub_self] at hh;simp at hy hh;subst hy hh;exact keep hI
theorem lW.done {xs:List It} (h:lW B w v xs) (hn:xs.length<=4096):∃ a n cap,v = .slice a n cap/\bP B w xs a n cap:=by
 obtain ⟨hs,hlen,ho,hi⟩:=h;rcases ho.2 with ⟨rfl,hz⟩ | ⟨g,cap,cur,rfl,hbg,hg,hnc,hcm,hcs,htake⟩
 .have:xs=[]:=List.eq_nil_of_length_eq_zero hz;subst this;exact ⟨none,0,0,rfl,bP.nil _ _⟩
 .refine ⟨_,_,_,rfl,iE.mk (λj=>(hs.getD j (none,0,0)).1) (λj=>(hs.getD j (none,0,0)).2.1) (λj=>(hs.getD j (none,0,0)).2.2) rfl hnc hcm (by omega) (λe=>by cases e) (λj x hx=>?_) (λj x hx=>?_)⟩
  .have hj:j<hs.length:=by rw [hlen]; exact (List.getElem?_eq_some_iff.1 hx).1
   have hh:hs[j]? = some (hs.getD j (none,0,0)):=by simp [hj]
   obtain ⟨f0,f1,f2⟩:=Le xs hs j x _ hx hh;have e:∀ i,(⟨g,0,none⟩:Addr).add i=⟨g,0+i,none⟩:=λi=>Addr.add_mid g 0 i;refine ⟨g,0,rfl,hbg,(Array.getElem?_eq_some_iff.1 hg).1,?_,?_,?_⟩
   .have:=ho.cells (g:=g) rfl _ _ f0;rw [e] at this;exact this
   .have:=ho.cells (g:=g) rfl _ _ f1;rw [e,<-Nat.add_assoc] at this;exact this
   .have:=ho.cells (g:=g) rfl _ _ f2;rw [e,<-Nat.add_assoc] at this;exact this
  .have hj:j<hs.length:=by rw [hlen]; exact (List.getElem?_eq_some_iff.1 hx).1
   have hh:hs[j]? = some (hs.getD j (none,0,0)):=by simp [hj]
   exact (hi j x _ hx hh).to λb _ hb=>hb.1
theorem xQ:(prog.info? 96).map (λi=>(i.zero,i.size,i.bytes))=some (some (.agg #[.bool false,.string ⟨#[]⟩,.slice none 0 0]),3,48):=by kernel_rfl
theorem FQ {a:Act} {x:It} {A:aL} {N C:Nat} (hw:Region.wanted o (yielded ops a.tmps)=true)
  (ho:∃ y,o.op = .buildSlice 94 1 #[(0,y)]/\a.eval y = .agg #[.bool x.l,.string x.s,.slice A N C])
  (h:∀ w' b,Rg.Own w' b (itC x A N C) 96->Below w.heap.size w w'->K (a.put o.dst (.slice (some ⟨b,0,none⟩) 1 1)) w'):if Region.wanted o (yielded ops a.tmps)=true then Oper.wp prog o a w K Q else K (a.put o.dst undef) w:=by
 obtain ⟨y,ho,hy⟩:=ho;obtain ⟨i0,hi,hz,hs,hby⟩:=info_parts xQ;refine Rg.want hw (wp_buildSlice 94 96 1 _ ho (itC x A N C) i0 _ underlying94 hi hz (by rw [hs]; decide) (by rw [hs]; decide) ?_ (h _ _ (Rg.Own.new _ _ _) (al1 _ _)));simp only [List.map_toArray,List.map_cons,List.map_nil,hy,hs];kernel_rfl
theorem Gp {o:Oper} {a:Act} {w:World} {K:Act->World->Prop} {Q:Exit->Act->World->Prop} {ops:Array Oper} {B b2:Nat} {v:Value} {xs:List It} {x:It} {A:aL} {N C:Nat} (hw:Region.wanted o (yielded ops a.tmps)=true)
  (ho:∃ s y,o.op = .call { callee:=.builtin .append,args:=#[s,y],argTypes:=#[94,94] }/\a.eval s=v/\a.eval y = .slice (some ⟨b2,0,none⟩) 1 1)
  (hR:lW B w v xs) (h2:Rg.Own w b2 (itC x A N C) 96) (hI:iE (λb=>B<=b/\v.ownBlock≠some b) w x.xs A N C) (hn:xs.length<=4096) (hB:B<=w.heap.size)
  (h:∀ v' w',lW B w' v' (xs++[x])->w.grownBy w' v.ownBlock->K (a.put o.dst v') w'):if Region.wanted o (yielded ops a.tmps)=true then Oper.wp prog o a w K Q else K (a.put o.dst undef) w:=by
 obtain ⟨s,y,ho,hs,hy⟩:=ho;obtain ⟨i0,z0,hi,hz,hsz,hby,hzc⟩:=sZ;obtain ⟨hs',hlen,hown,hi'⟩:=hR;obtain ⟨v',w',hr,h3,h4,_,h5⟩:=run_append_own_at (P:=prog) w B 94 o.type 96 i0 z0 3 48 underlying94 hi hz hsz hby hzc (by decide) v xs.length _ hown ⟨b2,0,none⟩ 1 1 [.bool x.l,.string x.s,.slice A N C] rfl
  (λj u hu=>by
   obtain ⟨c0,c1,c2⟩:=dB h2.2;rw [Addr.add_mid,Nat.zero_add]
   match j,hu with
   | 0,hu=>cases hu; exact c0
   | 1,hu=>cases hu; exact c1
   | 2,hu=>cases hu; exact c2)
  (λu hu=>by simp at hu; rcases hu with rfl | rfl | rfl <;> rfl) (by unfold maxLen; omega) (by omega) hB
 refine Rg.want hw ?_;unfold Oper.wp execOp;simp only [ho,resolve,invoke,builtin,Sem.run_bind,Sem.run_pure,Result.andThen_ok,List.map_toArray,List.map_cons,List.map_nil,hs,hy,hr];exact h v' w' (lW.push hlen hi' hI h3 h4 h5) h4
theorem Tal.gb {r:Option Nat} (h:Tal w g k) (hg:w.grownBy w' r) (hr:∀ j,r=some j->g≠j):Tal w' g k:=by
 have e:w'.heap[g]? = w.heap[g]? := hg.block g h.lt (λe=>hr g e.symm rfl);exact ⟨(World.cell?_of_block (a:=⟨g,0,none⟩) e).trans h.1,(World.frozen?_of_block (a:=⟨g,0,none⟩) e).trans h.2⟩
theorem WU {r:Option Nat} (h:w.grownBy w1 (some g)) (h2:w1.grownBy w' r) (hr:∀ j,r=some j->w.heap.size<=j):w.grownBy w' (some g) :=
 ⟨h2.os.trans h.os,h2.tape.trans h.tape,h2.output.trans h.output,Nat.le_trans h.size h2.size,λk hk hne=>(h2.block k (aJ hk h.size) (λe=>by have:=hr k e.symm; omega)).trans (h.block k hk hne)⟩
theorem qo {b:Nat} {cs:aO} {T:TypeId} {r:Option Nat} (h:Rg.Own w b cs T) (hg:w.grownBy w' r) (hne:r≠some b):Rg.Own w' b cs T :=
 ⟨aJ h.1 hg.size,(hg.block b h.1 (λe=>hne e.symm)).trans h.2⟩
def glue (xs:List It):Except Int (List It × Nat)->Except Int (List It × Nat)
 | .error c=>.error c
 | .ok (ys,k)=>.ok (xs++ys,k)
theorem wW {s:aN} {around k n k':Nat} {xs:List It} {x:It} (hs:s≠[]) (hn:1<=n) (h:bR s around k = .ok (x,n,k')):glue xs (iZ s around k)=glue (xs++[x]) (iZ (s.drop n) around k'):=by
 cases s with
 | nil=>exact absurd rfl hs
 | cons c t =>
  obtain ⟨m,rfl⟩:∃ m,n=m+1:=⟨n-1,by omega⟩
  rw [iZ,h];dsimp only;rw [Nat.add_sub_cancel,List.drop_succ_cons];cases iZ (t.drop m) around k' with
  | error e=>rfl
  | ok r=>obtain ⟨ys,k2⟩:=r; simp [glue]
theorem Af {s:aN} {around k:Nat} {xs:List It} {c:Int} (hs:s≠[]) (h:bR s around k = .error c):glue xs (iZ s around k) = .error c:=by
 cases s with
 | nil=>exact absurd rfl hs
 | cons d t=>rw [iZ,h]; rfl
theorem zX (xs:List It) (around k:Nat):glue xs (iZ [] around k) = .ok (xs,k):=by
 rw [iZ];simp [glue]
theorem vU (r:Except Int (List It × Nat)):glue [] r=r:=by
 cases r with
 | error c=>rfl
 | ok r=>rfl
theorem ug (r:aM) (n:Nat) (h:n<=r.size):(r.extract n r.size).data.toList=r.data.toList.drop n:=by
 have:=fO r n (r.size-n);rw [show n+(r.size-n)=r.size by omega] at this;rw [this];show (r.data.toList.drop n).take (r.size-n)=_;rw [List.take_of_length_le];rw [List.length_drop,<-bF];exact aH
def pU:Value->Nat
 | .string r=>r.size
 | _=>0
theorem NS (s:aM) (hsz:s.size<=9223372036854775807) (hR:∀ t:aM,t.size<=s.size->Du t):VF s:=by
 intro around k g ar w har ha hk hT;have hgl:=hT.lt;obtain ⟨r0,hr0⟩:=aA (iZ s.data.toList around k)
 rw [hr0];have lO:=hid hR;have Lk:=hid har;have HT:=hid hT;have H0:Hid (r0=glue [] (iZ s.data.toList around k)):=hid (by rw [vU,hr0]);clear hR har hT hr0;unfold VW;go_enter func176,ntmps176;go_wp2;go_loopw [1,7] (λrs v wr=>∃ (r:aM) (xs:List It) (kk:Nat),rs = .string r/\r.size<=s.size/\kk<=4096/\xs.length<=kk/\Hid (r0=glue xs (iZ r.data.toList around kk))/\Hid (lW w.heap.size wr v xs)/\Hid (Tal wr g kk)/\Hid (w.grownBy wr (some g))) (λrs _ _=>pU rs)
 case atStart=>exact ⟨s,[],k,rfl,aH,hk,Nat.zero_le _,hid H0.out,hid (lW.nil _ _),hid HT.out,hid (Ub _ _)⟩
 case round =>
  obtain ⟨r,xs,kk,rfl,hrs,hkk,hxk,gt,cA,un,HG⟩:=hrel;clear H0 HT;by_cases hne:r.data.toList=[]
  .have e1:(r.toList==[])=true:=by rw [ByteArray.toList_eq,hne]; rfl
   have e2:(r.toList != [])=false:=by rw [bne,e1]; rfl
   have hg:=gt.out;rw [hne,zX] at hg;obtain ⟨a',n',c',hv,hI⟩:=cA.out.done (by omega);subst hg;subst hv;have HI:=hid hI;clear lO hI cA gt hne;go_wp2;go_ret;exact ⟨a',n',c',rfl,HI.out,un.out,HG.out⟩
  .have e1:(r.toList==[])=false:=by rw [beq_eq_false_iff_ne,ByteArray.toList_eq]; exact hne
   have e2:(r.toList != [])=true:=by rw [bne,e1]; rfl
   have hrd:=lO.out r hrs around kk g ar wr Lk.out ha hkk un.out;cases hrr:bR r.data.toList around kk with
   | error c =>
    rw [hrr] at hrd;have HD:Hid (Calls prog 157 #[.pointer (some ⟨g,0,none⟩),.string r,.int .i64 ar] wr λe w'=>e = .panicked [fT c]/\wr.grownBy w' (some g)):=hid hrd;have hg:=gt.out;rw [Af hne hrr] at hg;subst hg;clear lO hrd hrr gt hne cA;go_wp2_with fail
    with_reducible refine HD.out.mono ?_
    rintro e w1 ⟨rfl,hg1⟩;have si:=hid (gX HG.out hg1);clear hg1;go_wp2;simp [bodyPost];exact ⟨rfl,si.out⟩
   | ok q =>
    obtain ⟨x,n,k2⟩:=q;rw [hrr] at hrd;have HD:Hid (Calls prog 157 #[.pointer (some ⟨g,0,none⟩),.string r,.int .i64 ar] wr λe w' =>
     ∃ a nn cap,e = .returned (.tuple #[itV x a nn cap,.int .i64 n])/\bP wr.heap.size w' x.xs a nn cap/\Tal w' g k2/\wr.grownBy w' (some g)):=hid hrd
    obtain ⟨p1,p2,p3,p4⟩:=(props r.data.toList.length).1 _ _ _ _ _ _ aH hrr;rw [<-bF] at p2;have hg:=gt.out;rw [wW hne p1 hrr] at hg;have nz:=hid hg;have hlv:=cA.out.lt;have ff:Hid (∀ j,u7.ownBlock=some j->w.heap.size<=j/\g≠j):=hid (λj hj=>⟨(hlv j hj).1,by have:=(hlv j hj).1; omega⟩);have Sa:Hid (∀ j,u7.ownBlock=some j->j<wr.heap.size):=hid (λj hj=>(hlv j hj).2);have hrb:r.size<=9223372036854775807:=by omega
    clear lO hrd hrr gt hne hg hlv;unfold itV at HD;go_wp2_with fail
    with_reducible refine HD.out.mono ?_
    rintro e w1 ⟨A,N,C,rfl,hI,ht,hg1⟩;have hz1:=hg1.size;have hD:Below w1.heap.size w1 (w1.alloc (.cells #[.bool x.l,.string x.s,.slice A N C] 96)).drew:=(al1 _ _).drew;have HR1:=hid ((cA.out.gb hg1 hgl).below' hD);have HI1:Hid (iE (λb=>w.heap.size<=b/\u7.ownBlock≠some b) (w1.alloc (.cells #[.bool x.l,.string x.s,.slice A N C] 96)).drew x.xs A N C):=hid ((hI.to (λb _ hb=>⟨Nat.le_trans HG.out.size hb,λe=>by have:=Sa.out b e; omega⟩)).stays hD);have HT1:=hid (ht.below hD);have si:=hid (gX (gX HG.out hg1) (uW hD))
    have HZ1:Hid (w.heap.size<=(w1.alloc (.cells #[.bool x.l,.string x.s,.slice A N C] 96)).drew.heap.size):=hid (Nat.le_trans HG.out.size (Nat.le_trans hz1 hD.size));have XW:Rg.Own (w1.alloc (.cells #[.bool x.l,.string x.s,.slice A N C] 96)) w1.heap.size (itC x A N C) 96:=Rg.Own.new _ _ _;have XX:Hid (u7.ownBlock≠some w1.heap.size):=hid (λe=>by have:=Sa.out _ e; omega);have HN:Hid (xs.length<=4096):=hid (by omega);clear hI ht hg1 hz1 hD HD;go_wp2_with fail
    refine aD (S:=λw'=>Rg.Own w' w1.heap.size (itC x A N C) 96) (XW.drew) λhld=>?_;refine aj 0 ?_;try simp only [Act.put,au]
    refine aj 1 ?_ (hy:=by intro wz hSw; obtain ⟨z0,z1,z2⟩:=dB hSw.2; go_simp <;> with_reducible rfl);try simp only [Act.put,au]
    refine aj 4 ?_;try simp only [Act.put,au]
    refine aj 5 ?_;try simp only [Act.put,au]
    refine aj 6 ?_ (hy:=by intro wz hSw; have G9:(n:Int)<=(r.size:Int):=(by omega); go_simp <;> with_reducible rfl);try simp only [Act.put,au]
    refine ak 2 λK hK=>?_;refine FQ (x:=x) (by rfl) ⟨_,rfl,rfl⟩ ?_;rintro il b2 h2 hbx;have io:=hid (HR1.out.below' hbx);have HI0:=hid (HI1.out.stays hbx);have HT0:=hid (HT1.out.below hbx);have dc:=hid (gX si.out (uW hbx));have HZ0:=hid (Nat.le_trans HZ1.out hbx.size);refine hK.out _ _ (hld.below hbx) λhld=>?_;clear hK K hbx;try simp only [Act.put,au]
    refine ak 3 λK hK=>?_;refine Gp (by rfl) ⟨_,_,rfl,rfl,rfl⟩ io.out h2 HI0.out HN.out HZ0.out ?_;rintro v' Ln By GP;have XY:=hid By;have XZ:=hid (HT0.out.gb GP (λk hk=>(ff.out k hk).2));have BB:=hid (WU dc.out GP (λk hk=>(ff.out k hk).1));have hown:=qo hld GP (λe=>XX.out e);refine hK.out _ _ (hown) λhld=>?_;clear hK K hown By GP;try simp only [Act.put,au]
    refine aj 7 ?_;try simp only [Act.put,au]
    refine aj 8 ?_;try simp only [Act.put,au]
    refine aC ?_;have HE:Hid ((r.extract n r.size).data.toList=r.data.toList.drop n):=hid (ug r n p2);have hes:(r.extract n r.size).size=r.size-n:=by rw [ByteArray.size_extract]; omega
    obtain ⟨r2,hr2⟩:=aA (r.extract n r.size)
    rw [hr2] at HE hes;simp only [hr2];clear hr2;go_wp2;go_roundw
    case rel=>exact ⟨r2,xs++[x],k2,rfl,by omega,p4,by rw [List.length_append,List.length_singleton]; omega,hid (by rw [HE.out]; exact nz.out),hid XY.out,hid XZ.out,hid BB.out⟩
    case measure=>simp [pU]; omega
theorem JG (s:aM) (hsz:s.size<=9223372036854775807) (hA:∀ t:aM,t.size<s.size->VF t):Du s:=by
 intro around k g ar w har ha hk hT;rw [gG];by_cases h1:64<around
 .rw [if_pos h1]; exact Og s around k g ar w har h1 hk hT
 .rw [if_neg h1];by_cases h2:4096<k+1
  .rw [if_pos h2]; exact QB s around k g ar w har (by omega) hk h2 hT
  .rw [if_neg h2];cases hh:gJ s.data.toList with
   | error c=>exact Na s around k g ar c w har (by omega) (by omega) hT hh
   | ok r =>
    obtain ⟨l,a,v⟩:=r;dsimp only;have hp:a<=s.size/\1<=a+v/\v<2 ^ 64/\(l=true->1<=a):=by
     cases hl:s.data.toList with
     | nil=>rw [hl] at hh; cases hh
     | cons c t =>
      rw [hl] at hh;have hsl:s.size=t.length+1:=by rw [bF,hl]; rfl
      obtain ⟨q1,q2,q3,_,q5⟩:=kL hh;exact ⟨by omega,q2,q3,q5⟩
    obtain ⟨hp1,hp2,hp3,Y0⟩:=hp;rw [<-bF];by_cases h3:s.size-a<v
    .rw [if_pos h3]; exact IJ s around k g ar w l a v har (by omega) (by omega) hT hh hsz hp1 h3
    .rw [if_neg h3];have has:a+v<=s.size:=by omega
     cases l with
     | true =>
      rw [if_pos rfl];exact Nl s around k g ar w a v har (by omega) (by omega) hT hh hsz has (hA _ (by rw [ByteArray.size_extract]; have:=Y0 rfl; omega))
     | false =>
      rw [if_neg (by decide)];by_cases h4:a=1/\v=1/\((s.data.toList.drop 1).headD 0).toNat<128
      .rw [if_pos h4];exact QG s around k g ar w a v har (by omega) (by omega) hT hh hsz has h4.1 h4.2.1 h4.2.2
      .rw [if_neg h4];by_cases h5:a=1
       .by_cases h6:v=1
        .exact Jw s around k g ar w a v har (by omega) (by omega) hT hh hsz has h5 h6 (by
          have:¬ ((s.data.toList.drop 1).headD 0).toNat<128:=λe=>h4 ⟨h5,h6,e⟩;omega)
        .exact Jm s around k g ar w a v har (by omega) (by omega) hT hh hsz has h5 h6
       .exact Kg s around k g ar w a v har (by omega) (by omega) hT hh hsz has h5
theorem tells (N:Nat):∀ s:aM,s.size<=N->s.size<=9223372036854775807->Du s/\VF s:=by
 induction N using Nat.strongRecOn with
 | ind N ih =>
  have hr:∀ s:aM,s.size<=N->s.size<=9223372036854775807->Du s:=λs hN hs =>
   JG s hs λt ht=>(ih t.size (by omega) t aH (by omega)).2
  exact λs hN hs=>⟨hr s hN hs,NS s hs λt ht=>hr t (by omega) (by omega)⟩
structure Fr (ks:List Nat) (w w':World):Prop where
 os:w'.os=w.os
 tape:w'.tape=w.tape
 output:w'.output=w.output
 size:w.heap.size<=w'.heap.size
 block:∀ k,k<w.heap.size->k ∉ ks->w'.heap[k]? = w.heap[k]?
theorem Fr.of {ks:List Nat} (h:w.grownBy w' (some g)) (hg:g∈ks):Fr ks w w' :=
 ⟨h.os,h.tape,h.output,h.size,λk hk hn=>h.block k hk (λe=>hn (by rw [Option.some.inj e]; exact hg))⟩
theorem Fr.row {ks:List Nat} (h:Fr ks w w1) (hg:g∈ks) (cs:aO):Fr ks w (w1.setRow g cs) :=
 ⟨h.os,h.tape,h.output,by simp; exact h.size,λk hk hn=>(setRow_other w1 g k cs (λe=>hn (e ▸ hg))).trans (h.block k hk hn)⟩
theorem Fr.below {ks:List Nat} (h:Fr ks w w') (hb:Below B w0 w) (hB:B<=w0.heap.size) (hk:∀ k,k∈ks->B<=k):Below B w0 w' :=
 ⟨h.os.trans hb.os,h.tape.trans hb.tape,h.output.trans hb.output,Nat.le_trans hb.size h.size,λk hlt=>(h.block k (aJ hlt (Nat.le_trans hB hb.size)) (λe=>by have:=hk k e; omega)).trans (hb.block k hlt)⟩
theorem Fr.own {ks:List Nat} {b:Nat} {cs:aO} {T:TypeId} (h:Fr ks w w') (ho:Rg.Own w b cs T) (hn:b ∉ ks):Rg.Own w' b cs T :=
 ⟨aJ ho.1 h.size,(h.block b ho.1 hn).trans ho.2⟩
theorem nA {b:Nat} {cs:aO} {T:TypeId} (h:Rg.Own w b cs T) (hne:b≠g):Rg.Own (w.setRow g cs') b cs T :=
 ⟨by simp; exact h.1,(setRow_other w g b cs' hne).trans h.2⟩
theorem iW {b:Nat} {cs:aO} {T:TypeId} (h:Rg.Own w b cs T):Rg.Own (w.setRow b cs') b cs' T :=
 ⟨by simp; exact h.1,setRow_heap _ _ _ _ _ _ h.2⟩
theorem SL (s:aM) (hC:Du s) (x:It) (n k':Nat) (hr:bR s.data.toList 0 0 = .ok (x,n,k')) (g bs bx bn:Nat) (w:World) (hT:Tal w g 0) (hS:Rg.Own w bs #[.string s] 9) (hX:Rg.Own w bx (itC it0 none 0 0) 96) (hN:Rg.Own w bn #[.int .i64 0] 3)
  (h2:bx≠g) (h3:bn≠g) (h4:bn≠bx) :
  Calls prog 156 #[.pointer (some ⟨g,0,none⟩),.pointer (some ⟨bs,0,none⟩),.pointer (some ⟨bx,0,none⟩),.pointer (some ⟨bn,0,none⟩)] w λe w' =>
   e = .returned (.tuple #[])/\∃ a nn cap,Rg.Own w' bx (itC x a nn cap) 96/\Rg.Own w' bn #[.int .i64 n] 3/\bP w.heap.size w' x.xs a nn cap/\Fr [g,bx,bn] w w':=by
 have hd:=hC 0 0 g 0 w rfl (by omega) (by omega) hT;rw [hr] at hd;have HD:Hid (Calls prog 157 #[.pointer (some ⟨g,0,none⟩),.string s,.int .i64 0] w λe w' =>
   ∃ a nn cap,e = .returned (.tuple #[itV x a nn cap,.int .i64 n])/\bP w.heap.size w' x.xs a nn cap/\Tal w' g k'/\w.grownBy w' (some g)):=hid hd
 obtain ⟨c0,_⟩:=nH hS;have HX:=hid hX;have HN:=hid hN;unfold itV at HD;clear hd hC hr hT hS hX hN;go_enter func156,ntmps156;go_wp2_with fail
 with_reducible refine HD.out.mono ?_
 rintro e w1 ⟨a,nn,cap,rfl,hI,_,hg⟩;have dl:=hid (nR HX.out hg h2);have el:=hid (nR HN.out hg h3);have HI:=hid hI;have HF:=hid (Fr.of (ks:=[g,bx,bn]) hg (by simp));have ce:=hid (nA el.out (cs':=itC x a nn cap) h4);clear hI hg c0;go_wp2_with (first | (refine wpList_store_rowTo rfl 96 _ _ rfl rfl _ (itC x a nn cap) rfl rfl 96 (itC it0 none 0 0) dl.out.2 (gV _ _ _ _) rfl (jl _ _ _ _) ?_) | (refine wpList_store_oneTo rfl 3 _ _ rfl rfl _ (.int .i64 n) rfl rfl rfl 3 (.int .i64 0) ce.out.2 (by kernel_rfl) ?_))
 go_end0;refine ⟨rfl,a,nn,cap,nA (iW dl.out) (Ne.symm h4),iW ce.out,?_,(HF.out.row (by simp) _).row (by simp) _⟩;exact jG (jG HI.out HX.out.1 _) HN.out.1 _
theorem OZ (s:aM) (hC:Du s) (c:Int) (hr:bR s.data.toList 0 0 = .error c) (g bs bx bn:Nat) (w:World) (hT:Tal w g 0) (hS:Rg.Own w bs #[.string s] 9) :
  Calls prog 156 #[.pointer (some ⟨g,0,none⟩),.pointer (some ⟨bs,0,none⟩),.pointer (some ⟨bx,0,none⟩),.pointer (some ⟨bn,0,none⟩)] w λe w'=>e = .panicked [fT c]/\w.grownBy w' (some g):=by
 have hd:=hC 0 0 g 0 w rfl (by omega) (by omega) hT;rw [hr] at hd;have HD:Hid (Calls prog 157 #[.pointer (some ⟨g,0,none⟩),.string s,.int .i64 0] w λe w'=>e = .panicked [fT c]/\w.grownBy w' (some g)):=hid hd;obtain ⟨c0,_⟩:=nH hS;clear hd hC hr hT hS;go_enter func156,ntmps156;go_wp2_with fail
 with_reducible refine HD.out.mono ?_
 rintro e w1 ⟨rfl,hg⟩;have HG:=hid hg;clear hg;go_wp2;simp [bodyPost];exact HG.out
theorem Vt {xs:List It} (h:bP B w xs a n cap) (hu:Rg.Upd w g w') (hg:g<B):bP B w' xs a n cap :=
 bP.kept h (Nat.le_of_eq hu.size.symm) (λb o hB _=>World.cell?_of_block (a:=⟨b,o,none⟩) (hu.block b (by omega)))
def nG (s:aM) (w:World):World:=((((w.alloc (.cells #[.string s] 9)).alloc (.cells #[.bool false,.string ⟨#[]⟩,.slice none 0 0] 96)).alloc (.cells #[.int .i64 0] 163)).alloc (.cells #[.bool false,.string ⟨#[]⟩,.slice none 0 0] 96)).alloc (.cells #[.int .i64 0] 3)
abbrev Xm (w:World):Value:=.func (.func 156) #[] #[.pointer (some ⟨w.heap.size+2,0,none⟩),.pointer (some ⟨w.heap.size,0,none⟩),.pointer (some ⟨w.heap.size+3,0,none⟩),.pointer (some ⟨w.heap.size+4,0,none⟩)]
theorem KF (s:aM) (w:World):(nG s w).heap.size=w.heap.size+5/\Below w.heap.size w (nG s w)/\Rg.Own (nG s w) w.heap.size #[.string s] 9/\Rg.Own (nG s w) (w.heap.size+1) (itC it0 none 0 0) 96/\
  Rg.Own (nG s w) (w.heap.size+2) #[.int .i64 0] 163/\Rg.Own (nG s w) (w.heap.size+3) (itC it0 none 0 0) 96/\Rg.Own (nG s w) (w.heap.size+4) #[.int .i64 0] 3:=by
 unfold nG;obtain ⟨w1,h1⟩:=ay (w.alloc (.cells #[.string s] 9))
 have s1:w1.heap.size=w.heap.size+1:=by rw [h1]; simp
 have o1:Rg.Own w1 w.heap.size #[.string s] 9:=by rw [h1]; exact Rg.Own.new _ _ _
 have b1:Below w.heap.size w w1:=by rw [h1]; exact al1 _ _
 rw [<-h1];obtain ⟨w2,h2⟩:=ay (w1.alloc (.cells #[.bool false,.string ⟨#[]⟩,.slice none 0 0] 96))
 have s2:w2.heap.size=w.heap.size+2:=by rw [h2]; simp; omega
 have o2:Rg.Own w2 w1.heap.size (itC it0 none 0 0) 96:=by rw [h2]; exact Rg.Own.new _ _ _
 have b2:Below w1.heap.size w1 w2:=by rw [h2]; exact al1 _ _
 rw [<-h2];obtain ⟨w3,h3⟩:=ay (w2.alloc (.cells #[.int .i64 0] 163))
 have s3:w3.heap.size=w.heap.size+3:=by rw [h3]; simp; omega
 have o3:Rg.Own w3 w2.heap.size #[.int .i64 0] 163:=by rw [h3]; exact Rg.Own.new _ _ _
 have b3:Below w2.heap.size w2 w3:=by rw [h3]; exact al1 _ _
 rw [<-h3];obtain ⟨w4,h4⟩:=ay (w3.alloc (.cells #[.bool false,.string ⟨#[]⟩,.slice none 0 0] 96))
 have s4:w4.heap.size=w.heap.size+4:=by rw [h4]; simp; omega
 have o4:Rg.Own w4 w3.heap.size (itC it0 none 0 0) 96:=by rw [h4]; exact Rg.Own.new _ _ _
 have b4:Below w3.heap.size w3 w4:=by rw [h4]; exact al1 _ _
 rw [<-h4];obtain ⟨w5,h5⟩:=ay (w4.alloc (.cells #[.int .i64 0] 3))
 have s5:w5.heap.size=w.heap.size+5:=by rw [h5]; simp; omega
 have o5:Rg.Own w5 w4.heap.size #[.int .i64 0] 3:=by rw [h5]; exact Rg.Own.new _ _ _
 have b5:Below w4.heap.size w4 w5:=by rw [h5]; exact al1 _ _
 rw [<-h5];rw [s1] at o2;rw [s2] at o3;rw [s3] at o4;rw [s4] at o5;exact ⟨s5,bst (bst (bst (bst b1 b2) b3) b4) b5,(((o1.below b2).below b3).below b4).below b5,((o2.below b3).below b4).below b5,(o3.below b4).below b5,o4.below b5,o5⟩
theorem ru (s:aM) (x:It) (n c:Int) (w:World) (P:aL->Nat->Nat->Prop) (H:Calls prog 97 #[Xm w] (nG s w) λe w'=>e = .returned (.int .i64 c)/\
   ∃ a nn cap,Rg.Own w' (w.heap.size+3) (itC x a nn cap) 96/\Rg.Own w' (w.heap.size+4) #[.int .i64 n] 3/\Rg.Own w' (w.heap.size+1) (itC it0 none 0 0) 96/\P a nn cap/\bP (w.heap.size+5) w' x.xs a nn cap/\Below w.heap.size w w') :
  Calls prog 121 #[.string s] w λe w'=>∃ a nn cap,e = .returned (.tuple #[itV x a nn cap,.int .i64 n,.int .i64 c])/\P a nn cap/\bP (w.heap.size+5) w' x.xs a nn cap/\Below w.heap.size w w':=by
 have eK:∀ (fn:Fn) (first cap:aO) (w:World),(Instr.makeFunc fn first cap).run prog w = .ok (.func fn first cap) w:=λ_ _ _ _=>rfl;have HC:=hid H;clear H;obtain ⟨w5,eh⟩:=ay (nG s w)
 rw [<-eh] at HC;unfold nG at eh;go_enter func121,ntmps121;go_wp2_with fail
 rw [<-eh]
 with_reducible refine HC.out.mono ?_
 rintro e w6 ⟨rfl,a,nn,cap,hX,hN,hO,hP,GS,d8⟩;have HP:=hid hP;have J8:=hid GS;have bd:=hid d8;clear GS d8 hP HC eh;go_wp2_with fail
 refine aD (S:=λw'=>Rg.Own w' (w.heap.size+3) (itC x a nn cap) 96/\Rg.Own w' (w.heap.size+4) #[.int .i64 n] 3) (⟨hX.drew,hN.drew⟩) λhld=>?_;refine aj 0 ?_ (hy:=by intro wz hSw; obtain ⟨z0,z1,z2⟩:=dB hSw.1.2; go_simp <;> with_reducible rfl);try simp only [Act.put,au]
 refine aj 1 ?_ (hy:=by intro wz hSw; have z:=(nH hSw.2).1; go_simp <;> with_reducible rfl);try simp only [Act.put,au]
 refine aj 2 ?_;try simp only [Act.put,au]
 refine ak 3 λK hK=>?_;refine Rg.meetStore (by rfl) hO 96 (itC x a nn cap) ⟨_,_,rfl,rfl,rfl⟩ (gV _ _ _ _) rfl (jl _ _ _ _) ?_;rintro Ln Y1 hu;have sl:=hld.1.upd hu (by omega);have Se:=hld.2.upd hu (by omega);have am:=hid (hu.below (B:=w.heap.size) bd.out.drew (by omega));have GO:=hid (Vt (J8.out.stays aI.drew) hu (by omega));refine hK.out _ _ (⟨sl,Se⟩) λhld=>?_;clear hK K hu sl Se hO;try simp only [Act.put]
 refine aj 4 ?_;try simp only [Act.put,au]
 refine aj 5 ?_;try simp only [Act.put,au]
 refine aC ?_;go_wp2;exact bodyPost_ret (OG rfl _ rfl (dB Y1.2)) rfl ⟨a,nn,cap,rfl,HP.out,GO.out,am.out⟩
def Ea (w:World):Except Int (It × Nat × Nat)->Ending->World->Prop
 | .error c=>λe w'=>e = .returned (.tuple #[itV it0 none 0 0,.int .i64 0,.int .i64 c])/\Below w.heap.size w w'
 | .ok (x,n,_)=>λe w'=>∃ a nn cap,e = .returned (.tuple #[itV x a nn cap,.int .i64 n,.int .i64 0])/\bP w.heap.size w' x.xs a nn cap/\Below w.heap.size w w'
theorem DT (s:aM) (hsz:s.size<=9223372036854775807) (w:World):Calls prog 121 #[.string s] w (Ea w (bR s.data.toList 0 0)):=by
 have hC:=(tells s.size s aH hsz).1;obtain ⟨f0,f1,f2,f3,f4,f5,f6⟩:=KF s w;have hE:Rg.Own ((nG s w).alloc (.cells #[.int .i64 0] 29)) (nG s w).heap.size #[.int .i64 0] 29:=Rg.Own.new _ _ _;have hA:=al1 (nG s w) (.cells #[.int .i64 0] 29);have g2:=f2.below hA;have g3:=f3.below hA;have g4:=f4.below hA;have g5:=f5.below hA;have g6:=f6.below hA;have g1:=bst f1 hA;have gs:((nG s w).alloc (.cells #[.int .i64 0] 29)).heap.size=w.heap.size+6:=by simp; omega
 cases hr:bR s.data.toList 0 0 with
 | error c =>
  refine (ru s it0 0 c w (λa nn cap=>a=none/\nn=0/\cap=0) ((qF 156 _ (by intro wx; kernel_rfl) (nG s w) c
   (λw'=>((nG s w).alloc (.cells #[.int .i64 0] 29)).grownBy w' (some (w.heap.size+2))) (by
    refine (OZ s hC c hr (w.heap.size+2) w.heap.size (w.heap.size+3) (w.heap.size+4) _ (nH g4) g2).mono ?_;rintro e w' ⟨rfl,hg⟩;exact ⟨rfl,nH (nR hE hg (by omega)),hg⟩)).mono ?_)).mono ?_
  .rintro e w' ⟨rfl,w1,hg,rfl⟩;exact ⟨rfl,none,0,0,oK (nR g5 hg (by omega)) _ (by omega),oK (nR g6 hg (by omega)) _ (by omega),oK (nR g3 hg (by omega)) _ (by omega),⟨rfl,rfl,rfl⟩,bP.nil _ _,
    (Au g1 hg aH (by omega)).setCell (p:=⟨(nG s w).heap.size,0,none⟩) (by show w.heap.size<=(nG s w).heap.size; omega) _⟩
  .rintro e w' ⟨a,nn,cap,rfl,⟨rfl,rfl,rfl⟩,_,hb⟩;exact ⟨rfl,hb⟩
 | ok r =>
  obtain ⟨x,n,k'⟩:=r;refine (ru s x n 0 w (λ_ _ _=>True) ((qb 156 _ (by intro wx; kernel_rfl) (nG s w)
   (λw'=>∃ a nn cap,Rg.Own w' (w.heap.size+3) (itC x a nn cap) 96/\Rg.Own w' (w.heap.size+4) #[.int .i64 n] 3/\bP (w.heap.size+6) w' x.xs a nn cap/\Fr [w.heap.size+2,w.heap.size+3,w.heap.size+4] ((nG s w).alloc (.cells #[.int .i64 0] 29)) w') (by
    refine (SL s hC x n k' hr (w.heap.size+2) w.heap.size (w.heap.size+3) (w.heap.size+4) _ (nH g4) g2 g5 g6 (by omega) (by omega) (by omega)).mono ?_;rintro e w' ⟨rfl,a,nn,cap,e1,e2,e3,e4⟩;rw [gs] at e3;exact ⟨rfl,nH (e4.own hE (by simp; omega)),a,nn,cap,e1,e2,e3,e4⟩)).mono ?_)).mono ?_
  .rintro e w' ⟨rfl,w1,⟨a,nn,cap,e1,e2,e3,e4⟩,rfl⟩;refine ⟨rfl,a,nn,cap,oK e1 _ (by omega),oK e2 _ (by omega),oK (e4.own g3 (by simp)) _ (by omega),trivial,?_,?_⟩
   .refine bP.weak (bP.kept e3 (by simp) (λb o hB _=>World.cell?_of_block (a:=⟨b,o,none⟩) (Below.heap_setCell w1 _ _ b (by show b≠(nG s w).heap.size; omega)))) (by omega)
   .exact (e4.below g1 aH (by simp)).setCell (p:=⟨(nG s w).heap.size,0,none⟩) (by show w.heap.size<=(nG s w).heap.size; omega) _
  .rintro e w' ⟨a,nn,cap,rfl,_,hI,hb⟩;exact ⟨a,nn,cap,rfl,bP.weak hI (by omega),hb⟩
def dJ (s:aN):Except Int It :=
 match bR s 0 0 with
 | .error c=>.error c
 | .ok (x,n,_)=>if n<s.length then .error 6 else .ok x
def pV (w:World):Except Int It->Ending->World->Prop
 | .error c=>λe w'=>e = .returned (.tuple #[itV it0 none 0 0,.int .i64 c])/\Below w.heap.size w w'
 | .ok x=>λe w'=>∃ a nn cap,e = .returned (.tuple #[itV x a nn cap,.int .i64 0])/\bP w.heap.size w' x.xs a nn cap/\Below w.heap.size w w'
theorem JM {s:aN} {c:Int} (h:gJ s = .error c):0<c:=by
 cases s with
 | nil=>cases h; decide
 | cons d t =>
  dsimp only [gJ] at h;generalize (if 192<=d.toNat then 192 else 128)=M at h;split at h
  .cases h
  .split at h
   .cases h
   .split at h
    .cases h; decide
    .split at h
     .cases h; decide
     .cases h
theorem codes (N:Nat):(∀ (s:aN) (around k:Nat) (c:Int),s.length<=N->bR s around k = .error c->0<c)/\(∀ (s:aN) (around k:Nat) (c:Int),s.length<=N->iZ s around k = .error c->0<c):=by
 induction N using Nat.strongRecOn with
 | ind N ih =>
  have hread:∀ (s:aN) (around k:Nat) (c:Int),s.length<=N->bR s around k = .error c->0<c:=by
   intro s around k c hN h;cases s with
   | nil =>
    rw [bR] at h;split at h
    .cases h; decide
    .split at h <;> (cases h; decide)
   | cons d t =>
    rw [bR] at h;split at h
    .cases h; decide
    .split at h
     .cases h; decide
     .split at h
      .rename_i hh; cases h; exact JM hh
      .rename_i a v hh;split at h
       .cases h; decide
       .split at h
        .rename_i ha;cases h;rw [List.length_cons] at hN;exact (ih (N-1) (by omega)).2 _ _ _ _ (by rw [List.length_take,List.length_drop]; omega) ha
        .cases h
      .split at h
       .cases h; decide
       .split at h
        .cases h; decide
        .cases h
  refine ⟨hread,λs around k c hN h=>?_⟩;cases s with
  | nil=>rw [iZ] at h; cases h
  | cons d t =>
   rw [iZ] at h;split at h
   .rename_i hr; cases h; exact hread _ _ _ _ hN hr
   .split at h
    .rename_i ha;cases h;rw [List.length_cons] at hN;exact (ih (N-1) (by omega)).2 _ _ _ _ (by rw [List.length_drop]; omega) ha
    .cases h
theorem Cb (s:aM) (hsz:s.size<=9223372036854775807) (w:World):Calls prog 75 #[.string s] w (pV w (dJ s.data.toList)):=by
 have hg:=DT s hsz (w.alloc (.cells #[.bool false,.string ⟨#[]⟩,.slice none 0 0] 96));unfold dJ;have hO:Rg.Own (w.alloc (.cells #[.bool false,.string ⟨#[]⟩,.slice none 0 0] 96)) w.heap.size (itC it0 none 0 0) 96:=Rg.Own.new _ _ _;have HO:=hid hO;clear hO;cases hr:bR s.data.toList 0 0 with
 | error c =>
  have hc:0<c:=(codes s.data.toList.length).1 _ _ _ _ aH hr;rw [hr] at hg;have HG:Hid (Calls prog 121 #[.string s] (w.alloc (.cells #[.bool false,.string ⟨#[]⟩,.slice none 0 0] 96)) λe w'=>e = .returned (.tuple #[itV it0 none 0 0,.int .i64 0,.int .i64 c])/\Below (w.alloc (.cells #[.bool false,.string ⟨#[]⟩,.slice none 0 0] 96)).heap.size (w.alloc (.cells #[.bool false,.string ⟨#[]⟩,.slice none 0 0] 96)) w'):=hid hg;have hne:(c != 0)=true:=by simp; omega
  clear hg hr hc;dsimp only [pV];unfold itV at HG;dsimp only [it0,It.l,It.s] at HG;go_enter func75,ntmps75;go_wp2_with fail
  with_reducible refine HG.out.mono ?_
  rintro e w1 ⟨rfl,hb⟩;have dl:=hid ((HO.out.below hb).below (al1 w1 (.cells #[.bool false,.string ⟨#[]⟩,.slice none 0 0] 96)));have HB1:=hid (bst (nY (yt hb)) (al1 w1 (.cells #[.bool false,.string ⟨#[]⟩,.slice none 0 0] 96)));clear hb;go_wp2_with (refine wpList_store_rowTo rfl 96 _ _ rfl rfl w.heap.size (itC it0 none 0 0) rfl rfl 96 (itC it0 none 0 0) dl.out.2 (gV _ _ _ _) rfl (jl _ _ _ _) ?_)
  exact bodyPost_ret (mq rfl _ rfl (dB (setRow_heap _ _ _ _ _ _ dl.out.2))) rfl ⟨rfl,bI HB1.out aH _⟩
 | ok q =>
  obtain ⟨x,n,k'⟩:=q;obtain ⟨_,p2,_,_⟩:=(props s.data.toList.length).1 _ _ _ _ _ _ aH hr;rw [hr] at hg;have HG:Hid (Calls prog 121 #[.string s] (w.alloc (.cells #[.bool false,.string ⟨#[]⟩,.slice none 0 0] 96)) λe w'=>∃ a nn cap,e = .returned (.tuple #[itV x a nn cap,.int .i64 n,.int .i64 0])/\
   bP (w.alloc (.cells #[.bool false,.string ⟨#[]⟩,.slice none 0 0] 96)).heap.size w' x.xs a nn cap/\Below (w.alloc (.cells #[.bool false,.string ⟨#[]⟩,.slice none 0 0] 96)).heap.size (w.alloc (.cells #[.bool false,.string ⟨#[]⟩,.slice none 0 0] 96)) w'):=hid hg
  clear hg hr;unfold itV at HG;dsimp only;rw [<-bF] at p2 ⊢;by_cases hlt:n<s.size
  .rw [if_pos hlt];dsimp only [pV];go_enter func75,ntmps75;go_wp2_with fail
   with_reducible refine HG.out.mono ?_
   rintro e w1 ⟨a,nn,cap,rfl,_,hb⟩;have dl:=hid ((HO.out.below hb).below (al1 w1 (.cells #[.bool x.l,.string x.s,.slice a nn cap] 96)));have HB1:=hid (bst (nY (yt hb)) (al1 w1 (.cells #[.bool x.l,.string x.s,.slice a nn cap] 96)));clear hb;go_wp2_with (refine wpList_store_rowTo rfl 96 _ _ rfl rfl w.heap.size (itC it0 none 0 0) rfl rfl 96 (itC it0 none 0 0) dl.out.2 (gV _ _ _ _) rfl (jl _ _ _ _) ?_)
   exact bodyPost_ret (mq rfl _ rfl (dB (setRow_heap _ _ _ _ _ _ dl.out.2))) rfl ⟨rfl,bI HB1.out aH _⟩
  .rw [if_neg hlt];dsimp only [pV];go_enter func75,ntmps75;go_wp2_with fail
   with_reducible refine HG.out.mono ?_
   rintro e w1 ⟨a,nn,cap,rfl,hI,hb⟩;have dl:=hid ((HO.out.below hb).below (al1 w1 (.cells #[.bool x.l,.string x.s,.slice a nn cap] 96)));have HB1:=hid (bst (nY (yt hb)) (al1 w1 (.cells #[.bool x.l,.string x.s,.slice a nn cap] 96)));have HI:=hid (hI.alloc (.cells #[.bool x.l,.string x.s,.slice a nn cap] 96));clear hb hI;go_wp2_with (refine wpList_store_rowTo rfl 96 _ _ rfl rfl w.heap.size (itC x a nn cap) rfl rfl 96 (itC it0 none 0 0) dl.out.2 (gV _ _ _ _) rfl (jl _ _ _ _) ?_)
   exact bodyPost_ret (mq rfl _ rfl (dB (setRow_heap _ _ _ _ _ _ dl.out.2))) rfl ⟨a,nn,cap,rfl,bP.weak (jG HI.out (by simp) _) (by simp),bI HB1.out aH _⟩
end Rl
end
section
open Go.RowKit
namespace Rl
theorem Qv (l:aN) (h:l.headD 0≠0):0<dS l:=by
 cases l with
 | nil=>exact absurd rfl h
 | cons c t =>
  have hc:0<c.toNat:=by
   rcases Nat.eq_zero_or_pos c.toNat with e | e
   .exact absurd (UInt8.toNat_inj.1 (by simpa using e)) h
   .exact e
  have key:∀ (t:aN) (a:Nat),0<a->0<t.foldl (λa b=>a*256+b.toNat) a:=by
   intro t
   induction t with
   | nil=>intro a ha; exact ha
   | cons d t ih=>intro a ha; exact ih (a*256+d.toNat) (by omega)
  unfold dS;exact key t (0*256+c.toNat) (by omega)
theorem Mw (l:aN) (h:l.headD 0≠0):iI (dS l)=l:=by
 obtain ⟨N,hN⟩:=aA l.length
 induction N generalizing l with
 | zero =>
  rw [List.eq_nil_of_length_eq_zero hN] at h;exact absurd rfl h
 | succ N ih =>
  have hne:l≠[]:=by rintro rfl; cases hN
  obtain ⟨d,c,rfl⟩:∃ d c,l=d++[c]:=⟨l.dropLast,l.getLast hne,(List.dropLast_concat_getLast hne).symm⟩
  have hd:d.length=N:=by simpa using hN
  have hpos:=Qv _ h;rw [iF] at hpos ⊢;rw [uZ hpos];have hc:=c.toNat_lt;have e1:(dS d*256+c.toNat)/256=dS d:=by omega
  have e2:UInt8.ofNat (dS d*256+c.toNat)=c:=by
   apply UInt8.toNat_inj.1;simp only [UInt8.toNat_ofNat'];omega
  rw [e1,e2];cases d with
  | nil=>simp [dS,rZ]
  | cons x y=>rw [ih (x::y) (by simpa using h) hd]
theorem MJ (n:Nat):dS (iI n)=n:=by
 induction n using Nat.strongRecOn with
 | ind n ih =>
  by_cases h:0<n
  .rw [uZ h,iF,ih (n/256) (by omega)];simp only [UInt8.toNat_ofNat'];omega
  .obtain rfl:n=0:=by omega
   rw [rZ]; rfl
theorem Dj (n:Nat) (h:0<n):(iI n).headD 0≠0:=by
 induction n using Nat.strongRecOn with
 | ind n ih =>
  rw [uZ h];by_cases h2:0<n/256
  .have:=ih (n/256) (by omega) h2;cases hb:iI (n/256) with
   | nil=>rw [hb] at this; exact absurd rfl this
   | cons c t=>rw [hb] at this; exact this
  .rw [show n/256=0 by omega,rZ];intro e;have e2:UInt8.ofNat n=0:=e;have:=congrArg UInt8.toNat e2;simp only [UInt8.toNat_ofNat'] at this;have e0:(0:UInt8).toNat=0:=rfl;omega
theorem vM (c:UInt8):(if 192<=c.toNat then 192 else 128)=mark (decide (192<=c.toNat)):=by
 unfold mark;by_cases h:192<=c.toNat <;> simp [h]
theorem Vk (l:Bool):mark l=192\/mark l=128:=by cases l <;> simp [mark]
theorem wP {c:UInt8} {t:aN} {l:Bool} {a v:Nat} (h:gJ (c::t) = .ok (l,a,v)) (ha:1<=a):(c::t).take a=jI v l:=by
 have hc:=c.toNat_lt;dsimp only [gJ] at h;rw [vM] at h;obtain ⟨L,hL⟩:=aA (decide (192<=c.toNat))
 have hM:mark L<=c.toNat\/c.toNat<128:=by
  rw [<-hL,<-vM];split <;> omega
 rw [hL] at h;by_cases h1:c.toNat<128
 .rw [if_pos h1] at h;have:=iG h;simp only [Prod.mk.injEq] at this;omega
 .rw [if_neg h1] at h;have hM2:mark L<=c.toNat:=by omega
  by_cases h2:c.toNat-mark L<=55
  .rw [if_pos h2] at h;have:=iG h;simp only [Prod.mk.injEq] at this;obtain ⟨rfl,rfl,rfl⟩:=this;unfold jI;rw [if_pos (by omega),show mark L+(c.toNat-mark L)=c.toNat by omega];simp
  .rw [if_neg h2] at h;by_cases h3:t.length<c.toNat-mark L-55
   .rw [if_pos h3] at h; cases h
   .rw [if_neg h3] at h;obtain ⟨m,hm⟩:=aA (c.toNat-mark L-55)
    rw [hm] at h h3;by_cases h4:t.headD 0=0\/dS (t.take m)<=55
    .rw [if_pos h4] at h; cases h
    .rw [if_neg h4] at h;have:=iG h;simp only [Prod.mk.injEq] at this;obtain ⟨rfl,rfl,rfl⟩:=this;have hh:(t.take m).headD 0≠0:=by
      cases t with
      | nil=>exact absurd (.inl rfl) h4
      | cons x y =>
       have:0<m:=by omega
       rw [List.take_cons this];intro e;exact h4 (.inl e)
     unfold jI;rw [if_neg (by omega),Mw _ hh,List.length_take,show min m t.length=m by omega,show mark L+55+m=c.toNat by omega,Nat.add_comm 1 m,List.take_succ_cons];simp
theorem iU (n:Nat) (l:Bool):1<=(jI n l).length:=by unfold jI; split <;> simp
theorem AJ (n:Nat) (hn:n<2 ^ 64) (l:Bool) (t:aN):gJ (jI n l++t) = .ok (l,(jI n l).length,n):=by
 have hmk:=Vk l;have hl:decide (192<=mark l)=l:=by cases l <;> rfl
 unfold jI;by_cases h:n<56
 .rw [if_pos h];obtain ⟨c,hc⟩:=aA (UInt8.ofNat (mark l+n))
  have hcn:c.toNat=mark l+n:=by rw [<-hc]; simp only [UInt8.toNat_ofNat']; omega
  rw [hc];show gJ (c::t)=_;have hd:decide (192<=c.toNat)=l:=by
   rw [<-hl,hcn];cases l <;> simp [mark] <;> omega
  dsimp only [gJ];rw [vM,hd,if_neg (by omega),if_pos (by omega)];simp [hcn]
 .rw [if_neg h];have h8:=mP hn;have hv:=MJ n;have hh:=Dj n (by omega);obtain ⟨B,hB⟩:=aA (iI n)
  rw [hB] at h8 hv hh ⊢;have h1:1<=B.length:=by
   cases B with
   | nil=>exact absurd rfl hh
   | cons _ _=>simp
  obtain ⟨c,hc⟩:=aA (UInt8.ofNat (mark l+55+B.length))
  have hcn:c.toNat=mark l+55+B.length:=by rw [<-hc]; simp only [UInt8.toNat_ofNat']; omega
  rw [hc];show gJ (c::(B++t))=_;have hd:decide (192<=c.toNat)=l:=by
   rw [<-hl,hcn];cases l <;> simp [mark] <;> omega
  have e1:c.toNat-mark l-55=B.length:=by omega
  have e2:(B++t).take B.length=B:=by simp
  have e3:(B++t).headD 0=B.headD 0:=by
   cases B with
   | nil=>exact absurd rfl hh
   | cons _ _=>rfl
  dsimp only [gJ];rw [vM,hd,if_neg (by omega),if_neg (by omega),if_neg (by rw [e1]; simp),e1,e2,e3,hv,if_neg (by
   rintro (e | e)
   .exact hh e
   .omega)]
  simp [Nat.add_comm]
theorem jB (xs:List It) (h:((xs.map It.bytes).flatten).length<=4294967296):(It.mk true ⟨#[]⟩ xs).bytes=jI ((xs.map It.bytes).flatten).length true++(xs.map It.bytes).flatten:=by
 rw [It.nT,inner_mk];show iT true _ ([]++_:aN).length++([]++_)=_;rw [List.nil_append];unfold iT;rw [if_neg (by simp),Nat.min_eq_left h]
theorem oG (s:aM):(It.mk false s []).inner=s.data.toList:=by
 rw [inner_mk,List.map_nil,List.flatten_nil,List.append_nil]
theorem jY (s:aM) (h:s.size<=4294967296):(It.mk false s []).bytes=(if s.size=1/\(s.data.toList.headD 0).toNat<128 then [] else jI s.size false)++s.data.toList:=by
 rw [It.nT,oG];show iT false s _++_=_;rw [dZ];unfold iT;simp only [true_and];rw [Nat.min_eq_left h]
theorem back (N:Nat) (Y2:N<=4294967296):(∀ (s:aN) (around k:Nat) (x:It) (n k':Nat),s.length<=N->bR s around k = .ok (x,n,k')->x.bytes=s.take n/\Fits around x/\k'=k+x.size)/\
  (∀ (s:aN) (around k:Nat) (xs:List It) (k':Nat),s.length<=N->iZ s around k = .ok (xs,k')->(xs.map It.bytes).flatten=s/\(∀ y∈xs,Fits around y)/\k'=k+(xs.map It.size).sum):=by
 induction N using Nat.strongRecOn with
 | ind N ih =>
  have hread:∀ (s:aN) (around k:Nat) (x:It) (n k':Nat),s.length<=N->bR s around k = .ok (x,n,k')->x.bytes=s.take n/\Fits around x/\k'=k+x.size:=by
   intro s around k x n k' hN h;cases s with
   | nil =>
    rw [bR] at h;split at h
    .cases h
    .split at h <;> cases h
   | cons c t =>
    rw [bR] at h;split at h
    .cases h
    .rename_i har;split at h
     .cases h
     .rename_i hk;rw [List.length_cons] at hN;split at h
      .cases h
      .rename_i a v hh;obtain ⟨h1,h2,h3,h4,h5⟩:=kL hh;have h6:=h5 rfl;split at h
       .cases h
       .rename_i hv;split at h
        .cases h
        .rename_i xs k2 hx;have:=iG h;simp only [Prod.mk.injEq] at this;obtain ⟨rfl,rfl,rfl⟩:=this;have hl:((t.drop (a-1)).take v).length=v:=by rw [List.length_take,List.length_drop]; omega
         obtain ⟨g1,g2,g3⟩:=(ih (N-1) (by omega) (by omega)).2 _ _ _ _ _ (by rw [hl]; omega) hx;refine ⟨?_,.mk (by omega) (λ_=>rfl) (λe=>by cases e) g2,?_⟩
         .rw [jB xs (by rw [g1,hl]; omega),g1,hl,List.take_add,<-wP hh h6];congr 2;obtain ⟨b,rfl⟩:∃ b,a=b+1:=⟨a-1,by omega⟩
          rfl
         .rw [g3,It.size_mk]; omega
      .rename_i a v hh;obtain ⟨h1,h2,h3,h4,h5⟩:=kL hh;split at h
       .cases h
       .rename_i hv;split at h
        .cases h
        .rename_i hbad;have:=iG h;simp only [Prod.mk.injEq] at this;obtain ⟨rfl,rfl,rfl⟩:=this;have hl:(((c::t).drop a).take v).length=v:=by rw [List.length_take,List.length_drop,List.length_cons]; omega
         refine ⟨?_,.mk (by omega) (λe=>by cases e) (λ_=>rfl) (λy hy=>by cases hy),?_⟩
         .have hsz:(⟨(((c::t).drop a).take v).toArray⟩:aM).size=v:=by
           show (((c::t).drop a).take v).toArray.size=v;rw [List.size_toArray,hl]
          rw [jY _ (by rw [hsz]; omega),hsz,List.take_add];show _++((c::t).drop a).take v=_;congr 1;by_cases ha:1<=a
          .rw [if_neg,<-wP hh ha];rintro ⟨e1,e2⟩;apply hbad;obtain ⟨b,rfl⟩:∃ b,a=b+1:=⟨a-1,by omega⟩
           have hb:=wP hh ha;rw [e1] at hb;have hlen:=congrArg List.length hb;rw [List.length_take,List.length_cons,show (jI 1 false).length=1 from rfl] at hlen;have hb0:b=0:=by omega
           subst hb0;refine ⟨rfl,e1,?_⟩;rw [e1] at e2;cases t with
           | nil=>simp at h1 hv; omega
           | cons d u=>exact e2
          .obtain rfl:a=0:=by omega
           dsimp only [gJ] at hh;rw [vM] at hh;by_cases hc:c.toNat<128
           .rw [if_pos hc] at hh;have:=iG hh;simp only [Prod.mk.injEq] at this;obtain ⟨_,_,rfl⟩:=this;rw [if_pos ⟨rfl,hc⟩];rfl
           .exfalso;rw [if_neg hc] at hh;split at hh
            .have:=iG hh;simp only [Prod.mk.injEq] at this;omega
            .split at hh
             .cases hh
             .split at hh
              .cases hh
              .have:=iG hh;simp only [Prod.mk.injEq] at this;omega
         .rw [It.size_mk]; simp
  refine ⟨hread,λs around k xs k' hN h=>?_⟩;cases s with
  | nil =>
   rw [iZ] at h;have:=iG h;simp only [Prod.mk.injEq] at this;obtain ⟨rfl,rfl⟩:=this;exact ⟨rfl,(λy hy=>absurd hy List.not_mem_nil),rfl⟩
  | cons c t =>
   rw [iZ] at h;split at h
   .cases h
   .rename_i x n k2 hr;obtain ⟨p1,p2,p3,p4⟩:=(props N).1 _ _ _ _ _ _ hN hr;obtain ⟨g1,g2,g3⟩:=hread _ _ _ _ _ _ hN hr;split at h
    .cases h
    .rename_i ys k3 ha;have:=iG h;simp only [Prod.mk.injEq] at this;obtain ⟨rfl,rfl⟩:=this;rw [List.length_cons] at hN;obtain ⟨e1,e2,e3⟩:=(ih (N-1) (by omega) (by omega)).2 _ _ _ _ _ (by rw [List.length_drop]; omega) ha;refine ⟨?_,λy hy=>?_,?_⟩
     .rw [List.map_cons,List.flatten_cons,g1,e1];obtain ⟨b,rfl⟩:∃ b,n=b+1:=⟨n-1,by omega⟩
      show (c::t).take (b+1)++t.drop b=_;rw [List.take_succ_cons,List.cons_append,List.take_append_drop]
     .rcases List.mem_cons.1 hy with rfl | hy
      .exact g2
      .exact e2 y hy
     .rw [e3,g3,List.map_cons,List.sum_cons]; omega
theorem pO {around:Nat} {x:It} (h:Fits around x) (hb:x.bytes.length<=4294967296):x.bytes≠[]:=by
 cases h with
 | mk ha hs hx h =>
  rename_i l s xs;have hi:=kX (.mk l s xs);cases l with
  | true =>
   obtain rfl:=hs rfl;rw [jB xs (by rw [inner_mk] at hi; exact Nat.le_trans hi hb)];intro e;have h2:=iU ((xs.map It.bytes).flatten).length true;have h3:=congrArg List.length e;rw [List.length_append,List.length_nil] at h3;omega
  | false =>
   obtain rfl:=hx rfl;rw [oG,dZ] at hi;rw [jY s (by omega)];intro e;by_cases h1:s.size=1/\(s.data.toList.headD 0).toNat<128
   .rw [if_pos h1] at e;have h3:=congrArg List.length e;rw [List.nil_append,dZ,List.length_nil] at h3;omega
   .rw [if_neg h1] at e;have h2:=iU s.size false;have h3:=congrArg List.length e;rw [List.length_append,List.length_nil] at h3;omega
theorem IE (xs:List It):∀ (around k:Nat),(∀ y∈xs,Fits around y)->(∀ y∈xs,∀ (k:Nat) (t:aN),y.bytes.length<=4294967296->k+y.size<=4096->bR (y.bytes++t) around k = .ok (y,y.bytes.length,k+y.size))->
  ((xs.map It.bytes).flatten).length<=4294967296->k+(xs.map It.size).sum<=4096->iZ ((xs.map It.bytes).flatten) around k = .ok (xs,k+(xs.map It.size).sum):=by
 induction xs with
 | nil=>intro around k _ _ _ _; show iZ [] around k=_; rw [iZ]; rfl
 | cons x xs ih =>
  intro around k hF hR hb hk;rw [List.map_cons,List.flatten_cons] at hb ⊢;rw [List.length_append] at hb;rw [List.map_cons,List.sum_cons] at hk ⊢;have hr:=hR x (List.mem_cons_self ..) k ((xs.map It.bytes).flatten) (by omega) (by omega);have hp:=pO (hF x (List.mem_cons_self ..)) (by omega);have hi:=ih around (k+x.size) (λy hy=>hF y (List.mem_cons_of_mem _ hy)) (λy hy=>hR y (List.mem_cons_of_mem _ hy)) (by omega) (by omega);cases hB:x.bytes with
  | nil=>exact absurd hB hp
  | cons c t =>
   rw [hB] at hr;rw [List.cons_append] at hr ⊢;rw [iZ,hr];dsimp only;rw [List.length_cons,Nat.add_sub_cancel];have:(t++(xs.map It.bytes).flatten).drop t.length=(xs.map It.bytes).flatten:=by simp
   rw [this,hi];dsimp only;rw [Nat.add_assoc]
theorem forth (x:It):∀ (around k:Nat) (t:aN),Fits around x->x.bytes.length<=4294967296->k+x.size<=4096->bR (x.bytes++t) around k = .ok (x,x.bytes.length,k+x.size):=by
 induction x using It.ind with
 | h l s xs ih =>
  intro around k t hF hb hk;have hi:=kX (.mk l s xs);cases hF with
  | mk ha hs hx h =>
   rw [It.size_mk] at hk ⊢;cases l with
   | true =>
    obtain rfl:=hs rfl;rw [inner_mk] at hi;have hi2:((xs.map It.bytes).flatten).length<=4294967296:=Nat.le_trans hi hb;have hall:=IE xs (around+1) (k+1) h (λy hy k t h1 h2=>ih y hy (around+1) k t (h y hy) h1 h2) hi2 (by omega);rw [jB xs hi2] at hb ⊢;obtain ⟨B,hB⟩:=aA ((xs.map It.bytes).flatten)
    rw [hB] at hall hi2 hb ⊢;have hh:=AJ B.length (by omega) true (B++t);have h1:=iU B.length true;cases hH:jI B.length true with
    | nil=>rw [hH] at h1; simp at h1
    | cons c u =>
     rw [hH] at hh;rw [List.append_assoc,List.cons_append] at *
     rw [bR,if_neg (by omega),if_neg (by omega),hh];dsimp only;have e1:(u++(B++t)).length+1-(c::u).length=(B++t).length:=by simp <;> omega
     have e2:((u++(B++t)).drop ((c::u).length-1)).take B.length=B:=by simp
     rw [e1,if_neg (by simp),e2,hall];dsimp only;rw [List.length_append,Nat.add_assoc]
   | false =>
    obtain rfl:=hx rfl;rw [oG,dZ] at hi;have h32:s.size<=4294967296:=by omega
    rw [jY s h32] at hb ⊢;have Ly:(⟨s.data.toList.toArray⟩:aM)=s:=by simp
    by_cases h1:s.size=1/\(s.data.toList.headD 0).toNat<128
    .rw [if_pos h1,List.nil_append] at hb ⊢;have hl:=dZ s;rw [h1.1] at hl;obtain ⟨c,hc⟩:=List.length_eq_one_iff.1 hl;rw [hc] at h1 Ly ⊢;have hcc:c.toNat<128:=h1.2;have hh:gJ (c::t) = .ok (false,0,1):=by dsimp only [gJ]; rw [if_pos hcc]
     show bR (c::t) around k=_;rw [bR,if_neg (by omega),if_neg (by simp at hk; omega),hh];dsimp only;rw [if_neg (by omega),if_neg (by omega)];simp only [List.drop_zero,List.take_succ_cons,List.take_zero];rw [Ly];simp
    .rw [if_neg h1] at hb ⊢;have hh:=AJ s.size (by omega) false (s.data.toList++t);have hl1:=iU s.size false;have hsh:(jI s.size false).length=1->s.size<56:=by
      intro e;apply Classical.byContradiction;intro hn;unfold jI at e;rw [if_neg hn,List.length_cons] at e;have:=Dj s.size (by omega);cases hb:iI s.size with
      | nil=>rw [hb] at this; exact this rfl
      | cons _ _=>rw [hb] at e; simp at e
     cases hH:jI s.size false with
     | nil=>rw [hH] at hl1; simp at hl1
     | cons c u =>
      rw [hH] at hh hsh;rw [List.append_assoc,List.cons_append] at *
      rw [bR,if_neg (by omega),if_neg (by simp at hk; omega),hh];dsimp only;have e1:(u++(s.data.toList++t)).length+1-(c::u).length=s.size+t.length:=by
       rw [List.length_append,List.length_append,dZ,List.length_cons]; omega
      have e2:(((c::(u++(s.data.toList++t)))).drop (c::u).length).take s.size=s.data.toList:=by
       rw [List.length_cons,List.drop_succ_cons,List.drop_left,<-dZ,List.take_left]
      rw [e1,if_neg (by omega),if_neg (by
       rintro ⟨g1,g2,g3⟩;apply h1;refine ⟨g2,?_⟩;have hu:u=[]:=List.eq_nil_of_length_eq_zero (by rw [List.length_cons] at g1; omega);subst hu;rw [List.nil_append] at g3;have hl:=dZ s;cases hd:s.data.toList with
       | nil=>rw [hd] at hl; simp at hl; omega
       | cons d e=>rw [hd] at g3; exact g3),e2,Ly]
      simp;omega
theorem Ah (a b:aN):(⟨a.toArray⟩:aM)++⟨b.toArray⟩=⟨(a++b).toArray⟩:=by
 apply ByteArray.ext;simp
theorem Em (s:aM):(⟨s.data.toList.toArray⟩:aM)=s:=by simp
theorem dM (l:aN):(⟨l.toArray⟩:aM).size=l.length:=by
 show l.toArray.size=_;simp
theorem eO {s:aM} (h:0<s.size):s.toList.isEmpty=false:=by
 rw [ByteArray.toList_eq];cases hd:s.data.toList with
 | nil =>
  have h1:s.data.toList.length=0:=by rw [hd]; rfl
  have h2:s.data.toList.length=s.size:=by simp
  omega
 | cons=>rfl
theorem mJ (n:Nat) (l:Bool) (h:n<2 ^ 64):(jI n l).length<=9:=by
 have:=mP h;unfold jI;split <;> simp; omega
theorem Iz (x:It):∀ (d:Nat) (w:World) (v:Value),Rk w x v->Fits d x->x.bytes.length<=4294967296->
  Calls prog 81 #[v] w λe w'=>e = .returned (.string ⟨x.bytes.toArray⟩)/\Below w.heap.size w w':=by
 induction x using It.ind with
 | h l s xs ih =>
  rintro d w v ⟨a,n,cap,rfl,h⟩ hF hb;have hm:=h.max;have hnc:=h.le;unfold maxLen at hm;obtain ⟨w1,hw1⟩:=ay (w.alloc (.cells #[.bool l,.string s,.slice a n cap] 96))
  have hO:Rg.Own w1 w.heap.size (itC (.mk l s xs) a n cap) 96:=by rw [hw1]; exact Rg.Own.new _ _ _
  obtain ⟨c0,c1,c2⟩:=dB hO.2;have HB:Hid (Below w.heap.size w w1):=hid (by rw [hw1]; exact al1 _ _);have HZ:Hid (w.heap.size<w1.heap.size):=hid hO.1;have HO:=hid hO;have H:=hid h;clear h hO;unfold itV;dsimp only [It.l,It.s,It.xs] at c0 c1 c2 H ⊢;have hin:=kX (.mk l s xs);cases hF with
  | mk ha hs hx hy =>
   cases l with
   | false =>
    obtain rfl:=hx rfl;rw [oG,dZ] at hin;have h32:s.size<=4294967296:=by omega
    have hbt:=jY s h32;clear ih hx hs hy hin hb;by_cases h1:s.size=1/\(s.data.toList.headD 0).toNat<128
    .rw [if_pos h1,List.nil_append] at hbt;have HF:Hid ((⟨(It.mk false s []).bytes.toArray⟩:aM)=s):=hid (by rw [hbt,Em]);have hq:((s.size:Int)==1)=true:=by simp; omega
     have hg:=get_at s 0 (by omega);have hz0:0<s.size:=by omega
     have ur:(s[0]'hz0).toNat<=127:=by
      rw [hg];have:=h1.2;cases hd:s.data.toList with
      | nil=>rw [hd] at this; simp
      | cons y ys=>rw [hd] at this; simp at this ⊢; omega
     have hs0:0<s.size:=by omega
     have H1:=hid h1;clear hbt hg;subst hw1;go_enter func81,ntmps81;go_wp2;go_ret;exact ⟨by rw [HF.out]; rfl,HB.out⟩
    .rw [if_neg h1] at hbt;have HF:Hid ((⟨(It.mk false s []).bytes.toArray⟩:aM)=fF s.size false++s):=hid (by
      rw [hbt];unfold fF
      conv=>rhs; rw [<-Em s]
      rw [Ah])
     have GT:=mJ s.size false (by omega);have sa:Hid (¬ 9223372036854775807<(fF s.size false).size+s.size):=hid (by
      unfold fF;rw [dM];omega)
     have HH:=hid (λw=>pY s.size h32 false w);clear hbt GT;by_cases hq1:s.size=1
     .have hq:((s.size:Int)==1)=true:=by simp; omega
      have hs0:0<s.size:=by omega
      have ur:¬ (s[0]'hs0).toNat<=127:=by
       intro hc;apply h1;refine ⟨hq1,?_⟩;rw [get_at s 0 (by omega)] at hc;cases hd:s.data.toList with
       | nil=>simp
       | cons y ys=>rw [hd] at hc; simp at hc ⊢; omega
      clear h1 hq1;subst hw1;go_enter func81,ntmps81;go_wp2_with fail
      obtain ⟨w1,hw1⟩:=ay (w.alloc (.cells #[.bool false,.string s,.slice a n cap] 96))
      rw [<-hw1] at c0 c1 c2 HB HZ HO ⊢;clear hw1;refine aD (S:=λw'=>Below w1.heap.size w1 w') (aI.drew) λhld=>?_;refine aj 0 ?_;try simp only [Act.put,au]
      refine aj 1 ?_ (hy:=by intro wz hSw; have hcc:=hSw.cell (p:=⟨w.heap.size,1,none⟩) HZ.out; rw [c1] at hcc; (try dsimp only at hSw); go_simp <;> with_reducible rfl);try simp only [Act.put,au]
      refine aj 2 ?_;try simp only [Act.put,au]
      refine aj 4 ?_;try simp only [Act.put,au]
      refine aj 5 ?_ (hy:=by intro wz hSw; have hcc:=hSw.cell (p:=⟨w.heap.size,1,none⟩) HZ.out; rw [c1] at hcc; (try dsimp only at hSw); go_simp <;> with_reducible rfl);try simp only [Act.put,au]
      refine ak 3 λK hK=>?_;go_simp;go_at_call 69
      (with_reducible refine (HH.out _).mono ?_)
      rintro e il ⟨rfl,hbx⟩;refine hK.out _ _ (Below.trans hld (hbx.mono hld.size)) λhld=>?_;clear hK K;try simp only [Act.put,au]
      refine aj 6 ?_ (hy:=by intro wz hSw; have FO:=sa.out; go_simp <;> with_reducible rfl);try simp only [Act.put,au]
      refine aj 7 ?_;try simp only [Act.put,au]
      refine aC ?_;go_wp2;go_ret;exact ⟨by rw [HF.out]; rfl,bst HB.out hld⟩
     .have hq:((s.size:Int)==1)=false:=by simp; omega
      clear h1;subst hw1;go_enter func81,ntmps81;go_wp2_with fail
      obtain ⟨w1,hw1⟩:=ay (w.alloc (.cells #[.bool false,.string s,.slice a n cap] 96))
      rw [<-hw1] at c0 c1 c2 HB HZ HO ⊢;clear hw1;refine aD (S:=λw'=>Below w1.heap.size w1 w') (aI.drew) λhld=>?_;refine aj 0 ?_;try simp only [Act.put,au]
      refine aj 1 ?_ (hy:=by intro wz hSw; have hcc:=hSw.cell (p:=⟨w.heap.size,1,none⟩) HZ.out; rw [c1] at hcc; (try dsimp only at hSw); go_simp <;> with_reducible rfl);try simp only [Act.put,au]
      refine aj 2 ?_;try simp only [Act.put,au]
      refine aj 4 ?_;try simp only [Act.put,au]
      refine aj 5 ?_ (hy:=by intro wz hSw; have hcc:=hSw.cell (p:=⟨w.heap.size,1,none⟩) HZ.out; rw [c1] at hcc; (try dsimp only at hSw); go_simp <;> with_reducible rfl);try simp only [Act.put,au]
      refine ak 3 λK hK=>?_;go_simp;go_at_call 69
      (with_reducible refine (HH.out _).mono ?_)
      rintro e il ⟨rfl,hbx⟩;refine hK.out _ _ (Below.trans hld (hbx.mono hld.size)) λhld=>?_;clear hK K;try simp only [Act.put,au]
      refine aj 6 ?_ (hy:=by intro wz hSw; have FO:=sa.out; go_simp <;> with_reducible rfl);try simp only [Act.put,au]
      refine aj 7 ?_;try simp only [Act.put,au]
      refine aC ?_;go_wp2;go_ret;exact ⟨by rw [HF.out]; rfl,bst HB.out hld⟩
   | true =>
    obtain rfl:=hs rfl;rw [inner_mk] at hin;have hin2:((xs.map It.bytes).flatten).length<=4294967296:=Nat.le_trans hin hb;have hbl:=jB xs hin2;have ic:Hid ((⟨(It.mk true ⟨#[]⟩ xs).bytes.toArray⟩:aM)=fF ((xs.map It.bytes).flatten).length true++⟨((xs.map It.bytes).flatten).toArray⟩):=hid (by
     rw [hbl];unfold fF;rw [Ah])
    have HLen:Hid (((xs.map It.bytes).flatten).length<=4294967296):=hid hin2;have gE:=hid ih;have HY:=hid hy;clear ih hx hs hy hin hb hbl hin2;subst hw1;go_enter func81,ntmps81;go_wp2;go_loopw [3,4] (λt i wr=>∃ (q:Nat),q<=n/\i = .int .i64 q/\t = .string ⟨(jo xs q).toArray⟩/\Below (w.heap.size+1) (w.alloc (.cells #[.bool true,.string ⟨#[]⟩,.slice a n cap] 96)) wr) (λ_ i _=>n-(intOf i).toNat)
    case atStart=>exact ⟨0,Nat.zero_le _,rfl,rfl,aI⟩
    case round =>
     obtain ⟨q,hq,rfl,rfl,hB⟩:=hrel;have e2:wr.cell? ⟨w.heap.size,2,none⟩=some (.slice a n cap):=by
      rw [hB.cell (p:=⟨w.heap.size,2,none⟩) (Nat.lt_succ_self _)]; exact c2
     have HB1:=hid hB;clear hB;by_cases hlt:q<n
     .obtain ⟨x,b,off,A,N,C,hx,rfl,hb,hL,hI⟩:=H.out.at' q hlt;have hBw:=nY HB1.out;obtain ⟨e0,e1,e3⟩:=hL.stays hBw hb;have hstep:=rG xs q x hx;have hle:=wY xs (q+1);have hle2:=HLen.out;rw [hstep,List.length_append] at hle;have HS:Hid ((⟨(jo xs (q+1)).toArray⟩:aM)=⟨(jo xs q).toArray⟩++⟨x.bytes.toArray⟩):=hid (by rw [hstep,Ah]);have HI:=hid (gE.out x (List.mem_of_getElem? hx) (d+1) wr (itV x A N C) ⟨A,N,C,rfl,hI.stays hBw⟩ (HY.out x (List.mem_of_getElem? hx)) (by omega))
      obtain ⟨T,hT⟩:=aA (⟨(jo xs q).toArray⟩:aM)
      obtain ⟨X,hX⟩:=aA (⟨x.bytes.toArray⟩:aM)
      have hsz:T.size+X.size<=4294967296:=by rw [<-hT,<-hX,dM,dM]; omega
      rw [hT,hX] at HS;rw [hX] at HI;rw [hT];unfold itV at HI;clear hL hI hBw hx hT hX hstep hle hle2;go_wp2_with fail
      refine HI.out.mono ?_;rintro e w1 ⟨rfl,hb1⟩;go_wp2;go_roundw
      case rel=>exact ⟨q+1,by omega,by go_num,by rw [HS.out],yJ HB1.out hb1⟩
      case measure=>simp [intOf]; omega
     .obtain rfl:q=n:=by omega
      have hfl:=uD xs q H.out.len;rw [hfl];have HF:=ic;obtain ⟨T,hT⟩:=aA ((xs.map It.bytes).flatten)
      rw [hT] at HF HLen ⊢;have hlen:=HLen.out;have GT:=mJ T.length true (by omega);have eb:Hid ((⟨T.toArray⟩:aM).size=T.length):=hid (dM T);have HH:=hid (λw=>pY T.length hlen true w);have sa:(fF T.length true).size<=9:=by unfold fF; rw [dM]; exact GT
      obtain ⟨X,hX⟩:=aA (⟨T.toArray⟩:aM)
      rw [hX] at HF eb ⊢;have hxs:=eb.out;rw [<-hxs] at HF HH sa;have hxl:X.size<=4294967296:=by omega
      clear hX hfl hlen GT hT hxs gE HY HLen eb ic;go_wp2_with fail
      refine (HH.out _).mono ?_;rintro e w1 ⟨rfl,hb1⟩;go_wp2;go_ret;exact ⟨by rw [HF.out]; rfl,bst (nY HB1.out) hb1⟩
end Rl
end
section
open Go.RowKit
structure Nd where
 kd:Int
 p:aN
 v:aM
 ks:List aM
abbrev eB:aM:=⟨#[]⟩
def zks:List aM:=List.replicate 16 eB
theorem bK:zks.length=16:=rfl
def iN (ks:List aM):aO:=(ks.map Value.string).toArray
def ndC (N:Nd) (a:aL) (n c:Nat):aO:=(Value.int .i64 N.kd::Value.slice a n c::Value.string N.v::N.ks.map Value.string).toArray
def nd0:Nd:=⟨0,[],eB,zks⟩
def BsF (B:Nat) (w:World) (a:aL) (n c:Nat) (l:aN):Prop:=bf w a n c l/\∀ ad,a=some ad->B<=ad.block
theorem BsF.below {B:Nat} {w w':World} {a:aL} {n c:Nat} {l:aN} (h:BsF B w a n c l) (hb:Below w.heap.size w w'):BsF B w' a n c l:=⟨h.1.below hb,h.2⟩
theorem BsF.weak {B':Nat} {l:aN} (h:BsF B w a n c l) (hB:B'<=B):BsF B' w a n c l:=⟨h.1,λad e=>Nat.le_trans hB (h.2 ad e)⟩
theorem BsF.upd {l:aN} (h:BsF B w a n c l) (hu:Rg.Upd w g w') (hg:g<B):BsF B w' a n c l:=by
 refine ⟨⟨h.1.1,h.1.2.1,h.1.2.2.1,h.1.2.2.2.1,λj hj=>?_⟩,h.2⟩;obtain ⟨b,off,e,hlt,hc⟩:=h.1.2.2.2.2 j hj;have hB:B<=b:=h.2 _ e;exact ⟨b,off,e,by rw [hu.size]; exact hlt,by rw [World.cell?_of_block (hu.block b (by omega))]; exact hc⟩
theorem BsF.row {l:aN} (h:BsF B w a n c l) (hg:g<B) (cs:aO):BsF B (w.setRow g cs) a n c l:=h.upd (Rg.Upd.set _ _ _) hg
theorem BsF.nil (B:Nat) (w:World):BsF B w none 0 0 []:=⟨bf.nil w,λ_ e=>by cases e⟩
abbrev dL (w:World) (b:Nat) (N:Nd) (a:aL) (n c:Nat):Prop:=Rg.Own w b (ndC N a n c) 67
theorem DI (ks:List aM):(iN ks).size=ks.length:=by simp [iN]
theorem dD (N:Nd) (a:aL) (n c:Nat) (h:N.ks.length=16):(ndC N a n c).size=19:=by simp [ndC,h]
theorem jf (N:Nd) (a:aL) (n c:Nat):(ndC N a n c).all (·.oneCell')=true:=by
 unfold ndC;simp [Value.oneCell']
theorem Dx:(prog.info? 67).map (·.size)=some 19:=by kernel_rfl
theorem Cz:(prog.info? 65).map (·.size)=some 16:=by kernel_rfl
theorem gH (N:Nd) (a:aL) (n c:Nat) (h:N.ks.length=16):(prog.info? 67).map (·.size)=some (ndC N a n c).size:=by rw [dD _ _ _ _ h]; exact Dx
theorem Oc (ks:List aM) (h:ks.length=16):(prog.info? 65).map (·.size)=some (iN ks).size:=by rw [DI,h]; exact Cz
theorem eF {b:Nat} {N:Nd} (h:dL w b N a n c) :
  w.cell? ⟨b,0,none⟩=some (.int .i64 N.kd)/\w.cell? ⟨b,1,none⟩=some (.slice a n c)/\w.cell? ⟨b,2,none⟩=some (.string N.v):=by
 refine ⟨?_,?_,?_⟩;all_goals
  rw [cell_of_row w b _ _ _ _ h.2];rfl
theorem mG {b:Nat} {N:Nd} (h:dL w b N a n c) (hl:N.ks.length=16) (j:Nat) (hj:j<16) :
  w.cell? ⟨b,3+j,none⟩=some (.string (N.ks.getD j eB)):=by
 rw [cell_of_row w b _ _ _ _ h.2];unfold ndC;rw [show 3+j=j+1+1+1 by omega];simp [List.getD,hl,hj]
theorem fB {b j:Nat} {cs:aO} {T:TypeId} (h:Rg.Own w b cs T):w.frozen? ⟨b,j,none⟩=false:=by
 simp [World.frozen?,h.2]
theorem sixteen {α:Type} (l:List α) (h:l.length=16):∃ a b c d e f g i j k m n o p q r,l=[a,b,c,d,e,f,g,i,j,k,m,n,o,p,q,r]:=by
 match l,h with
 | [a,b,c,d,e,f,g,i,j,k,m,n,o,p,q,r],_=>exact ⟨_,_,_,_,_,_,_,_,_,_,_,_,_,_,_,_,rfl⟩
theorem rU {b:Nat} {N:Nd} (h:dL w b N a n c) (hl:N.ks.length=16) :
  (loadVar 67 ⟨b,0,none⟩).run prog w = .ok (.agg (ndC N a n c)) w :=
 run_loadVar_row (P:=prog) w b 67 67 (ndC N a n c) (0,0) _ h.2 underlying67 rfl (gH N a n c hl)
theorem UQ {b:Nat} {N:Nd} (h:dL w b N a n c) (hl:N.ks.length=16) :
  (Instr.loadAt 67 (.pointer (some ⟨b,0,none⟩))).run prog w = .ok (.agg (ndC N a n c)) w:=by
 simp only [Instr.loadAt,Instr.sureAddr,Sem.run_bind,Sem.run_pure,Result.andThen_ok,rU h hl]
theorem Um {b:Nat} {N:Nd} (h:dL w b N a n c) (hl:N.ks.length=16) :
  (Instr.loadAt 65 (.pointer (some ⟨b,3,none⟩))).run prog w = .ok (.agg (iN N.ks)) w:=by
 have hc:w.rangeAt b 3 (N.ks.map Value.string):=λj v hv=>by
  have hj:j<16:=by
   have:=(List.getElem?_eq_some_iff.1 hv).1;simpa [hl] using this
  rw [mG h hl j hj];have hx:N.ks[j]? = some (N.ks[j]'(by omega)):=List.getElem?_eq_getElem (by omega);rw [List.getElem?_map,hx] at hv;rw [<-Option.some.inj hv];simp [List.getD,hx]
 exact run_loadAt_mid w b 3 65 (N.ks.map Value.string) _ hc underlying65 rfl (by rw [List.length_map,hl]; exact Cz)
abbrev qO (w:World) (b:Nat) (ks:List aM):Prop:=Rg.Own w b (iN ks) 65
theorem TW {b:Nat} {ks:List aM} (h:qO w b ks) (hl:ks.length=16) :
  (Instr.loadAt 65 (.pointer (some ⟨b,0,none⟩))).run prog w = .ok (.agg (iN ks)) w:=by
 simp only [Instr.loadAt,Instr.sureAddr,Sem.run_bind,Sem.run_pure,Result.andThen_ok,run_loadVar_row (P:=prog) w b 65 65 (iN ks) (0,0) _ h.2 underlying65 rfl (Oc ks hl)]
theorem aY (ev:Operand->Value) (o:Oper) (w:World) (b:Nat) (hb:b=w.heap.size) (ho:o.op = .alloc 67) :
  (execOp ev o).run prog w = .ok (.value (.pointer (some ⟨b,0,none⟩))) (w.alloc (.cells (ndC nd0 none 0 0) 67)):=by
 subst hb;unfold execOp;rw [ho];kernel_rfl
theorem vB (ev:Operand->Value) (o:Oper) (w:World) (b:Nat) (hb:b=w.heap.size) (ho:o.op = .alloc 65) :
  (execOp ev o).run prog w = .ok (.value (.pointer (some ⟨b,0,none⟩))) (w.alloc (.cells (iN zks) 65)):=by
 subst hb;unfold execOp;rw [ho];kernel_rfl
theorem lY:prog.built 67 []=some (ndC nd0 none 0 0):=by kernel_rfl
theorem qH (a:aL) (n c:Nat) (p:aN) (v:aM):prog.built 67 [(0,.int .i64 1),(1,.slice a n c),(2,.string v)]=some (ndC ⟨1,p,v,zks⟩ a n c):=by kernel_rfl
theorem vL (k:Int):prog.built 67 [(0,.int .i64 k)]=some (ndC ⟨k,[],eB,zks⟩ none 0 0):=by kernel_rfl
theorem Jk (k:Int) (a:aL) (n c:Nat) (p:aN):prog.built 67 [(0,.int .i64 k),(1,.slice a n c)]=some (ndC ⟨k,p,eB,zks⟩ a n c):=by kernel_rfl
theorem MB (s:aM):prog.built 65 [(0,.string s)]=some (iN (s::List.replicate 15 eB)):=by kernel_rfl
theorem Tn (k:Int) (ks:List aM) (h:ks.length=16):prog.built 67 [(0,.int .i64 k),(3,.agg (iN ks))]=some (ndC ⟨k,[],eB,ks⟩ none 0 0):=by
 obtain ⟨x0,x1,x2,x3,x4,x5,x6,x7,x8,x9,x10,RW,S0,S1,cF,S2,rfl⟩:=sixteen ks h;kernel_rfl
theorem wI (k:Int) (a:aL) (n c:Nat) (p:aN) (ks:List aM) (h:ks.length=16):prog.built 67 [(0,.int .i64 k),(1,.slice a n c),(3,.agg (iN ks))]=some (ndC ⟨k,p,eB,ks⟩ a n c):=by
 obtain ⟨x0,x1,x2,x3,x4,x5,x6,x7,x8,x9,x10,RW,S0,S1,cF,S2,rfl⟩:=sixteen ks h;kernel_rfl
theorem OT {parts:Array (Nat × Value)} {l:List (Nat × Value)} (w:World) (hl:parts.toList=l) (h:prog.built t l=some cells):(Instr.build t parts).run prog w = .ok (.agg cells) w :=
 run_build w t parts cells (by rw [hl]; exact h)
theorem tC {fn:Func} {p:Tmp} (hf:fn.results = #[.cell p 67]) (tmps:aO) {b:Nat} {N:Nd} (hp:tmps.getD p undef = .pointer (some ⟨b,0,none⟩)) (h:dL w b N a n c) (hl:N.ks.length=16) :
  (results fn tmps).run prog w = .ok (.agg (ndC N a n c)) w:=by
 have hp':tmps[p]?.getD undef = .pointer (some ⟨b,0,none⟩):=by simpa using hp
 simp [results,hf,hp',asAddr,rU h hl]
theorem dU {fn:Func} {p u:Tmp} (hf:fn.results = #[.cell p 67,.tmp u]) (tmps:aO) {b:Nat} {N:Nd} (hp:tmps.getD p undef = .pointer (some ⟨b,0,none⟩)) (h:dL w b N a n c) (hl:N.ks.length=16) :
  (results fn tmps).run prog w = .ok (.tuple #[.agg (ndC N a n c),tmps.getD u undef]) w:=by
 have hp':tmps[p]?.getD undef = .pointer (some ⟨b,0,none⟩):=by simpa using hp
 simp [results,hf,hp',asAddr,rU h hl]
theorem dG {b:Nat} {N M:Nd} {a':aL} {n' c':Nat} (h:dL w b N a n c):dL (w.setRow b (ndC M a' n' c')) b M a' n' c' :=
 ⟨by simp; exact h.1,setRow_heap _ _ _ _ _ _ h.2⟩
theorem bX (h:Below B w w1) (hg:B<=g) (cs:aO):Below B w (w1.setRow g cs) :=
 h.trans ⟨rfl,rfl,rfl,by simp,λk hk=>setRow_other w1 g k cs (by omega)⟩
theorem bH {b:Nat} {N:Nd} (h:dL w b N a n c) (hl:N.ks.length=16) (ho:∃ x,o.op = .load 67 x/\ev x = .pointer (some ⟨b,0,none⟩)) :
  (execOp ev o).run prog w = .ok (.value (.agg (ndC N a n c))) w:=by
 obtain ⟨x,ho,hx⟩:=ho;unfold execOp;simp only [ho,hx,Sem.run_bind,Sem.run_pure,Result.andThen_ok,UQ h hl]
theorem uG {b:Nat} {N:Nd} (h:dL w b N a n c) (hl:N.ks.length=16) (ho:∃ x,o.op = .load 65 x/\ev x = .pointer (some ⟨b,3,none⟩)) :
  (execOp ev o).run prog w = .ok (.value (.agg (iN N.ks))) w:=by
 obtain ⟨x,ho,hx⟩:=ho;unfold execOp;simp only [ho,hx,Sem.run_bind,Sem.run_pure,Result.andThen_ok,Um h hl]
theorem nQ {b:Nat} {ks:List aM} (h:qO w b ks) (hl:ks.length=16) (ho:∃ x,o.op = .load 65 x/\ev x = .pointer (some ⟨b,0,none⟩)) :
  (execOp ev o).run prog w = .ok (.value (.agg (iN ks))) w:=by
 obtain ⟨x,ho,hx⟩:=ho;unfold execOp;simp only [ho,hx,Sem.run_bind,Sem.run_pure,Result.andThen_ok,TW h hl]
theorem bC {l:List (Nat × Value)} (h:prog.built t l=some cells) (ho:∃ ps,o.op = .build t ps/\(ps.toList.map λp=>(p.1,ev p.2))=l) :
  (execOp ev o).run prog w = .ok (.value (.agg cells)) w:=by
 obtain ⟨ps,ho,hx⟩:=ho;unfold execOp;simp only [ho,Sem.run_bind,Sem.run_pure,Result.andThen_ok,OT w (l:=l) (by rw [Array.toList_map]; exact hx) h]
theorem bA {rest:List Oper} {b:Nat} {N:Nd} (h:dL w b N a n c) (hl:N.ks.length=16) (M:Nd) (a':aL) (n' c':Nat) (hm:M.ks.length=16)
  (hgd:o.guard=none) (x y:Operand) (ho:o.op = .store 67 x y) (hx:act.eval x = .pointer (some ⟨b,0,none⟩)) (hy:act.eval y = .agg (ndC M a' n' c')) (hd:o.dst=none)
  (hQ:wpList prog ops Q rest act (w.setRow b (ndC M a' n' c'))):wpList prog ops Q (o::rest) act w :=
 wpList_store_rowTo hgd 67 x y ho hd b _ hx hy 67 _ h.2 (gH _ _ _ _ hm) (by rw [dD _ _ _ _ hl,dD _ _ _ _ hm]) (jf _ _ _ _) hQ
end
section
open Go.RowKit
namespace No
def Fu (w:World) (N:Nd) (e:Ending) (w':World):Prop:=∃ a n c,e = .returned (.agg (ndC N a n c))/\BsF w.heap.size w' a n c N.p/\N.ks.length=16/\Below w.heap.size w w'
theorem kE (ks:List aM) (hl:ks.length=16) (w:World):Calls prog 112 #[.agg (iN ks)] w (Fu w ⟨3,[],eB,ks⟩):=by
 obtain ⟨w2,hw2⟩:=ay ((w.alloc (.cells (iN ks) 65)).alloc (.cells (ndC nd0 none 0 0) 67))
 have hK:qO w2 w.heap.size ks:=by rw [hw2]; exact (Rg.Own.new _ _ _).below (al1 _ _)
 have hO:dL w2 (w.heap.size+1) nd0 none 0 0:=by
  rw [hw2];have:=Rg.Own.new (w.alloc (.cells (iN ks) 65)) (ndC nd0 none 0 0) 67;simpa using this
 have HK:=hid hK;have HO:=hid hO;have HB:Hid (Below w.heap.size w w2):=hid (by rw [hw2]; exact al2 _ _ _);have HL:=hid hl;clear hO hK hl;subst hw2;go_enter func112,ntmps112;go_wp2_with (first
  | (refine aB (aY _ _ _ (w.heap.size+1) (by simp) rfl) ?_)
  | (refine aB (nQ HK.out HL.out ⟨_,rfl,rfl⟩) ?_)
  | (refine aB (bC (Tn 3 ks HL.out) ?_) ?_; · exact ⟨_,rfl,rfl⟩)
  | (refine bA HO.out rfl ⟨3,[],eB,ks⟩ none 0 0 HL.out rfl _ _ rfl rfl rfl rfl ?_))
 exact bodyPost_ret (tC rfl _ rfl (dG HO.out) HL.out) rfl ⟨none,0,0,rfl,BsF.nil _ _,HL.out,bX HB.out (Nat.le_succ _) _⟩
end No
end
end Go.Proofs.YtokaiemgjngcoaaGreatDoor
