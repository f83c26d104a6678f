/-
 The contract of walk.place.ways.
-/
import Derived.Test.YtokaiemgjngcoaaGreatDoorVs20
open Go.Lib (hid)
open Go.Proofs.Tryz
set_option linter.unusedSimpArgs false
set_option linter.unusedVariables false
set_option maxHeartbeats 40000000
set_option maxRecDepth 100000
namespace Go.Proofs.YtokaiemgjngcoaaGreatDoor
variable {B D b2 g j m n off:Nat} {e ty:TypeId} {Ki P:Nat->Prop} {Q:Exit->Act->World->Prop} {c:Code} {a:Act} {o:Oper} {args tmps:aO} {ops:Array Oper} {W w1 w2 w4 wr:World} {v' v12:Value} {ev:Operand->Value}
section
open Go.RowKit
namespace Tm
open Tr Ni Pk Ky No Rf Rl da
open Sm (Tab)
theorem Qi {B' sz:Nat} {w:World} {v:Value} {xs:List Value} (h:w.ownsRow B e sz v n xs) (hB:B'<=B):w.ownsRow B' e sz v n xs :=
 ⟨h.1,h.2.imp id λ⟨g,cap,cur,e,hg,r⟩=>⟨g,cap,cur,e,Nat.le_trans hB hg,r⟩⟩
theorem UL (p:aL) (o:Nat) (h:Hdl) (a:Pa) (N:Nd) (na:aL) (nn nc:Nat) (hl:N.ks.length=16) (w:World) (ha:bf w h.1 h.2.1 h.2.2 a) (hN:bf w na nn nc N.p) (h3:a.length<64\/N.kd≠3) (hp:a.length+N.p.length<=64) :
  Calls prog 94 #[.agg (plA p o h),.agg (ndC N na nn nc)] w λe w'=>∃ v hs,e = .returned v/\rD w.heap.size w' v hs (lM N a 16)/\Below w.heap.size w w':=by
 obtain ⟨i0,hi,hz0,hz1,hz2⟩:=CW;have HI:Hid (_/\_/\_/\_):=hid ⟨hi,hz0,hz1,hz2⟩;obtain ⟨w1,hw1⟩:=ay (w.alloc (.cells (plA p o h) 111))
 have hb1:Below w.heap.size w w1:=by rw [hw1]; exact al1 _ _
 have hs1:w1.heap.size=w.heap.size+1:=by rw [hw1]; simp
 have am:Rg.Own w1 w.heap.size (plA p o h) 111:=by rw [hw1]; exact Rg.Own.new _ _ _
 obtain ⟨w2,hw2⟩:=ay (w1.alloc (.cells (ndC N na nn nc) 67))
 have hb2':=al1 w1 (.cells (ndC N na nn nc) 67);have hO2:dZ w2 (w.heap.size+1) N na nn nc:=by rw [hw2,<-hs1]; exact Rg.Own.new _ _ _
 rw [<-hw2] at hb2';have hb2:Below w.heap.size w w2:=bst hb1 hb2';have hs2:w2.heap.size=w.heap.size+2:=by rw [hw2]; simp; omega
 have ec:=hid (am.below hb2');have io:=hid hO2;have HL:=hid hl;have HA:=hid (ha.below hb2);have ZO:=hid (hN.below hb2);have HB2:=hid hb2;have HS2:Hid (_=_):=hid hs2;have T9:Hid (∀ (wr:World) (m:Hdl) (l:Pa),Below w2.heap.size w2 wr->bf wr m.1 m.2.1 m.2.2 l->a.length+l.length<=64->Calls prog 132 #[.agg (plA p o h),.slice m.1 m.2.1 m.2.2] wr (Ta wr (a++l))):=hid (λwr m l hb hm hl=>Je p o h m a l wr (HA.out.below hb) hm hl);clear hi hz0 hz1 hz2 hb1 hs1 am hb2' hO2 hb2 hs2 ha hN hl
 go_enter func94,ntmps94;go_wp2_with (first
  | (rw [<-hw1,<-hw2]; refine aB (uq io.out HL.out ⟨_,rfl,rfl⟩) ?_))
 go_loopw [5,10] (λv i wr=>∃ (j:Nat) (hs:List Hdl),j<=16/\i = .int .i64 j/\Hid (rD (w.heap.size+2) wr v hs (lM N a j))/\Hid (Below w2.heap.size w2 wr)) (λ_ i _=>16-(intOf i).toNat)
 case atStart=>exact ⟨0,[],Nat.zero_le _,rfl,hid (rD.nil _ _),hid (by rw [hw2,hw1]; exact aI)⟩
 case round =>
  obtain ⟨j,hs,hj,rfl,HW,HB⟩:=hrel;clear hw1 hw2;have hsz:w.heap.size+2<=wr.heap.size:=by have:=HB.out.size; have:=HS2.out; omega
  by_cases hlt:j<16
  .have hsl:hs.length<=16:=by have:=HW.out.len; have:=Ez N a j; omega
   by_cases hk:(N.ks.getD j eB).size=0
   .have fh:Hid (lM N a (j+1)=lM N a j):=hid (by rw [qw]; unfold sD; rw [if_pos hk,List.append_nil]);have HE:Hid (N.ks.getD j eB=eB):=hid (dI hk);clear hk;go_wp2_with (refine Rg.run rfl (.string (N.ks.getD j eB)) _ (kS HL.out hlt ⟨_,_,rfl,rfl,rfl⟩) ?_; rw [HE.out])
    go_roundw
    case rel=>exact ⟨j+1,hs,by omega,by go_num,hid (by rw [fh.out]; exact HW.out),HB⟩
    case measure=>simp [intOf]; omega
   .have hne:=Ni.dJ (s:=N.ks.getD j eB) (by omega);obtain ⟨K,hK⟩:=aA (N.ks.getD j eB)
    have HK:=hid hK;have hne2:(K.toList==[])=false:=by
     rw [hK] at hne;cases e:K.toList with
     | nil=>rw [e] at hne; cases hne
     | cons x r=>rfl
    rw [hK] at hne;have c0:=aV (j:=0) (io.out.below HB.out) (v:=.int .i64 N.kd) rfl;have GP:=hid (Ji.own (ec.out.below HB.out));by_cases h3':N.kd=3
    .have fh:Hid (lM N a (j+1)=lM N a j++[a++[UInt8.ofNat j]]):=hid (by rw [qw]; unfold sD; rw [if_neg hk,if_pos h3']);rw [h3'] at c0;have hwrap:IntKind.u8.wrap (j:Int)=(j:Int):=by rw [IntKind.wrap_u8]; omega
     have hlen:a.length+[UInt8.ofNat j].length<=64:=by
      rcases h3 with h3 | h3
      .show a.length+1<=64;omega
      .exact absurd h3' h3
     have mC:Hid (bf (wr.alloc (.cells #[.int .u8 j] 5)) (some ⟨wr.heap.size,0,none⟩) 1 1 [UInt8.ofNat j]):=hid (bf.new wr [UInt8.ofNat j] (by show 1<=maxLen; unfold maxLen; decide) _ _ (by
      have:(UInt8.ofNat j).toNat=j:=by rw [UInt8.toNat_ofNat']; omega
      simp [this]))
     have hal:=al1 wr (.cells #[.int .u8 j] 5);have j4:=hid (T9.out (wr.alloc (.cells #[.int .u8 j] 5)) (some ⟨wr.heap.size,0,none⟩,1,1) [UInt8.ofNat j] (bst HB.out hal) mC.out hlen);have d8:=hid hal;obtain ⟨A,hA⟩:=aA (a++[UInt8.ofNat j])
     rw [hA] at fh j4;clear hk hal h3' hK hlen hA;go_wp2_with (first
      | (refine Rg.run rfl (.string (N.ks.getD j eB)) _ (kS HL.out hlt ⟨_,_,rfl,rfl,rfl⟩) ?_; rw [HK.out])
      | (refine aB (lU GP.out ⟨_,rfl,rfl⟩) ?_))
     refine j4.out.mono ?_;rintro e w4 ⟨r,rfl,hr,hb4⟩;have hs4:=hb4.size;have mL:=d8.out.size;have HR:Hid (BsP (λb=>wr.heap.size<=b) w4 r A):=hid (hr.to λb _ hb=>Nat.le_trans mL hb);have aq:Hid (Below wr.heap.size wr w4):=hid (bst d8.out hb4);have cP:Hid (w4.ownsRow (w.heap.size+2) 35 1 u5 hs.length (hs.map hv)):=hid (HW.out.keep aq.out.size (λb _ hl=>aq.out.block b hl)).row;have mN:w.heap.size+2<=w4.heap.size:=by omega
     clear hr hb4 j4 GP c0 hs4 mL;go_wp2_with (first
      | (at_builtin; refine wpList_append_own_at _ rfl _ _ 160 rfl (w.heap.size+2) 35 i0 (.slice none 0 0) 1 24 underlying160 HI.out.1 HI.out.2.1 HI.out.2.2.1 HI.out.2.2.2 rfl (by decide) _ _ _ rfl (cP.out.alloc _) ⟨w4.heap.size,0,none⟩ 1 1 [hv r] rfl rfl ?d1 ?d2 ?d3 ?d4 ?d5 ?_))
     case d1=>exact Bu.cell_one_new' _ _ _ _
     case d2=>intro u hu; simp at hu; subst hu; rfl
     case d3=>unfold maxLen; omega
     case d4=>omega
     case d5=>simp; omega
     intro v' w5 hown5 cT _ i9;have cU:=al1 w4 (.cells #[hv r] 35);have HN:Hid (rD (w.heap.size+2) w5 v' (hs++[r]) (lM N a (j+1))):=hid (by
      rw [fh.out];exact rD.push HW.out hsz (bst aq.out cU) (HR.out.kept cU.size λb _ hl=>cU.block b hl) hown5 cT (by simpa using i9))
     have hlt':=HW.out.row.lt;have yl:Hid (Below w2.heap.size w2 w5):=hid ((bst (bst HB.out aq.out) cU).grown cT (by have:=aq.out.size; have:=HB.out.size; simp; omega) (λg hg=>by have:=(hlt' g hg).1; have:=HS2.out; omega));clear cT hown5 i9 HR aq cP;go_wp2;go_roundw
     case rel=>exact ⟨j+1,hs++[r],by omega,by go_num,HN,yl⟩
     case measure=>simp [intOf]; omega
    .have fh:Hid (lM N a (j+1)=lM N a j++[a++N.p]):=hid (by rw [qw]; unfold sD; rw [if_neg hk,if_neg h3']);have hk3:(N.kd==3)=false:=by simp [h3']
     have c1:=aV (j:=1) (io.out.below HB.out) (v:=.slice na nn nc) rfl;have j4:=hid (T9.out wr (na,nn,nc) N.p HB.out (ZO.out.below HB.out) hp);have d8:=hid (Below.refl wr.heap.size wr);obtain ⟨A,hA⟩:=aA (a++N.p)
     rw [hA] at fh j4;clear hk hK hA;go_wp2_with (first
      | (refine Rg.run rfl (.string (N.ks.getD j eB)) _ (kS HL.out hlt ⟨_,_,rfl,rfl,rfl⟩) ?_; rw [HK.out])
      | (refine aB (lU GP.out ⟨_,rfl,rfl⟩) ?_))
     refine j4.out.mono ?_;rintro e w4 ⟨r,rfl,hr,hb4⟩;have hs4:=hb4.size;have mL:=d8.out.size;have HR:Hid (BsP (λb=>wr.heap.size<=b) w4 r A):=hid (hr.to λb _ hb=>Nat.le_trans mL hb);have aq:Hid (Below wr.heap.size wr w4):=hid (bst d8.out hb4);have cP:Hid (w4.ownsRow (w.heap.size+2) 35 1 u5 hs.length (hs.map hv)):=hid (HW.out.keep aq.out.size (λb _ hl=>aq.out.block b hl)).row;have mN:w.heap.size+2<=w4.heap.size:=by omega
     clear hr hb4 j4 GP c0 hs4 mL;go_wp2_with (first
      | (at_builtin; refine wpList_append_own_at _ rfl _ _ 160 rfl (w.heap.size+2) 35 i0 (.slice none 0 0) 1 24 underlying160 HI.out.1 HI.out.2.1 HI.out.2.2.1 HI.out.2.2.2 rfl (by decide) _ _ _ rfl (cP.out.alloc _) ⟨w4.heap.size,0,none⟩ 1 1 [hv r] rfl rfl ?d1 ?d2 ?d3 ?d4 ?d5 ?_))
     case d1=>exact Bu.cell_one_new' _ _ _ _
     case d2=>intro u hu; simp at hu; subst hu; rfl
     case d3=>unfold maxLen; omega
     case d4=>omega
     case d5=>simp; omega
     intro v' w5 hown5 cT _ i9;have cU:=al1 w4 (.cells #[hv r] 35);have HN:Hid (rD (w.heap.size+2) w5 v' (hs++[r]) (lM N a (j+1))):=hid (by
      rw [fh.out];exact rD.push HW.out hsz (bst aq.out cU) (HR.out.kept cU.size λb _ hl=>cU.block b hl) hown5 cT (by simpa using i9))
     have hlt':=HW.out.row.lt;have yl:Hid (Below w2.heap.size w2 w5):=hid ((bst (bst HB.out aq.out) cU).grown cT (by have:=aq.out.size; have:=HB.out.size; simp; omega) (λg hg=>by have:=(hlt' g hg).1; have:=HS2.out; omega));clear cT hown5 i9 HR aq cP;go_wp2;go_roundw
     case rel=>exact ⟨j+1,hs++[r],by omega,by go_num,HN,yl⟩
     case measure=>simp [intOf]; omega
  .obtain rfl:j=16:=by omega
   have cN:Hid (rD w.heap.size wr u5 hs (lM N a 16)/\Below w.heap.size w wr):=hid ⟨⟨Qi HW.out.row (by omega),HW.out.len,λj hj=>(HW.out.bs j hj).to λb _ h=>⟨by omega,h.2⟩⟩,bst HB2.out HB.out⟩;clear HW HB hlt;go_wp2;go_ret;exact ⟨_,_,rfl,cN.out⟩
end Tm
end
section
open Go.RowKit
namespace da
theorem LZ {P:Program} {a:Act} {w:World} {l:List Oper} (id k:Nat) (hd:(l.take k).all jQ=true) (hL:¬ LetsOut Q)
  (h:∀ K:Act->World->Prop,(∀ a w,wpListIn (FW none) 0 P l.toArray Q (l.drop k) a w->K a w)->wpList P l.toArray (Exit.then K Q) (l.take k) a w):(Code.region id l.toArray false).wp P Q a w:=by
 refine (wpIn_wide (n:=0)).1 (wpIn_region_lit ?_);have:=nZ (P:=P) (r:=none) (n:=0) (ops:=l.toArray) (Q:=Q) (Q1:=Exit.then (wpListIn (FW none) 0 P l.toArray Q (l.drop k)) Q) (λ_ _ _ h=>h) (NW hL) (l.drop k) (λ_ _ h=>h) (l.take k) a w hd (h _ λ_ _ h=>h);rw [List.take_append_drop] at this;exact this
def Xp (c:Code):Code:=c
theorem MG (id:Nat) (ops:Array Oper):Code.region id ops false=Xp (Code.region id ops false):=rfl
theorem MK {P:Program} {w:World} (h:c.wp P Q a w):(Xp c).wp P Q a w:=h
theorem Ct {P:Program} {w:World} {l:Nat} (ho:∃ y xs ts,o.op = .call { callee:=.value y,args:=xs,argTypes:=ts }/\a.eval y = .func (.yield l) #[] #[]/\xs.toList.map a.eval=args.toList) :
  (execOp a.eval o).run P w=(Instr.yield l args).run P w:=by
 obtain ⟨y,xs,ts,ho,hy,hz⟩:=ho;have hz':xs.map a.eval=args:=by
  apply Array.ext';rw [Array.toList_map];exact hz
 unfold execOp;simp only [ho,resolve,hy,hz'];simp [Deferred.ofValue,Sem.run_bind,invoke,Result.andThen_ok]
theorem Hl {P:Program} {r:Option Nat} {rest:List Oper} {w:World} {l:Nat} {R:Ending->World->Prop} (hY:YieldAt Fence.wide 0 P l args w R) (hw:Region.wanted o (yielded ops a.tmps)=true) (hd:jQ o=true)
  (ho:∃ y xs ts,o.op = .call { callee:=.value y,args:=xs,argTypes:=ts }/\a.eval y = .func (.yield l) #[] #[]/\xs.toList.map a.eval=args.toList)
  (h:∀ e w',R e w'->∃ v,e = .returned v/\wpListIn (FW r) 0 P ops Q rest (a.put o.dst v) w'):wpListIn (FW r) 0 P ops Q (o::rest) a w :=
 WC (n:=0) hw hd (Ct ho) hY h
end da
namespace Tm
open Tr Ni Pk Ky No Rf Rl da
open Sm (Tab)
def bk (hs:List Hdl) (m:Nat):List (Nat × Hdl):=(((List.range hs.length).drop m).map λj=>(j,hs.getD j hd0)).reverse
theorem XA (hs:List Hdl):bk hs hs.length=[]:=by simp [bk]
theorem LM (hs:List Hdl) (h:m<hs.length):bk hs m=bk hs (m+1)++[(m,hs.getD m hd0)]:=by
 unfold bk;rw [List.drop_eq_getElem_cons (by rw [List.length_range]; exact h),List.map_cons,List.reverse_cons,List.getElem_range]
theorem Rs (hs:List Hdl):∀ m k,k<=m->m<=hs.length->bk hs m<+:bk hs k:=λm k hk hm=>by
 unfold bk;rw [List.reverse_prefix];refine List.IsSuffix.map _ ?_;exact ⟨((List.range hs.length).drop k).take (m-k),by
  have h1:(List.range hs.length).drop m=((List.range hs.length).drop k).drop (m-k):=by rw [List.drop_drop]; congr 1; omega
  rw [h1,List.take_append_drop]⟩
structure Ea (M:Mp) (B gb:Nat) (v:Value) (hs:List Hdl) (w:World) (K:Nat->Prop):Prop where
 o:Rg.Own w gb #[v] 160
 r:w.ownsRow B 35 1 v hs.length (hs.map hv)
 kg:¬ K gb
 kr:∀ k,v.ownBlock=some k->¬ K k
 b:B<=gb
 u:∀ k,B<=k->M.at_ k=none/\¬ M.ft k
theorem Ea.on {M:Mp} {gb:Nat} {v:Value} {hs:List Hdl} {w:World} {K K':Nat->Prop} (h:Ea M B gb v hs w K) (f:FrK M K w wr) (hK:∀ k,K' k->K k\/w.heap.size<=k):Ea M B gb v hs wr K' :=
 ⟨⟨aJ h.o.1 f.size,(f.block gb h.o.1 (h.u gb h.b).1 h.kg).trans h.o.2⟩,eX h.r λk e=>f.block k (h.r.lt k e).2 (h.u k (h.r.lt k e).1).1 (h.kr k e),λhk=>(hK _ hk).elim h.kg (by have:=h.o.1; omega),λk e hk=>(hK _ hk).elim (h.kr k e) (by have:=(h.r.lt k e).2; omega),h.b,h.u⟩
theorem Ea.at' {M:Mp} {gb:Nat} {v:Value} {hs:List Hdl} {w:World} {K:Nat->Prop} (h:Ea M B gb v hs w K) (hm:m<hs.length):∃ g c,v = .slice (some ⟨g,0,none⟩) hs.length c/\w.cell? ⟨g,m,none⟩=some (hv (hs.getD m hd0)):=by
 have hr:=h.r;rcases hr.2 with ⟨_,hn⟩ | ⟨g,cap,cur,rfl,hg,hh,hnc,hcm,hsz,htk⟩
 .omega
 .refine ⟨g,cap,rfl,?_⟩;have:=hr.cells (g:=g) rfl m (hv (hs.getD m hd0)) (by
   rw [List.getElem?_map,List.getElem?_eq_getElem hm];simp [List.getD,hm])
  rw [Addr.add_mid,Nat.zero_add] at this;exact this
def bkA (x:Nat × Hdl) (_:World) (args:aO):Prop:=args = #[.int .i64 x.1,hv x.2]
theorem Qp (v:Value) (hv1:v.oneCell'=true) (w:World):Calls prog 93 #[v] w λe w'=>e = .returned (.func (Fn.func 131) #[] #[.pointer (some ⟨w.heap.size,0,none⟩)])/\Rg.Own w' w.heap.size #[v] 160/\Below w.heap.size w w':=by
 have dT:∀ (fn:Fn) (first cap:aO) (w:World),(Instr.makeFunc fn first cap).run prog w = .ok (.func fn first cap) w:=λ_ _ _ _=>rfl;have hO:=Rg.Own.new w #[v] 160;have hb:=al1 w (.cells #[v] 160);go_enter func93,ntmps93;go_wp2;go_ret;exact ⟨rfl,hO,hb⟩
theorem Ut (M:Mp) (B gb:Nat) (v:Value) (hs:List Hdl) (hn:hs.length<=1000):Yh M 131 #[.pointer (some ⟨gb,0,none⟩)] bkA (bk hs 0) (Ea M B gb v hs):=by
 intro l J Js K0 w hJ hJs hP hi hT h0 hY;have HP:=hid hP;have HY:=hid hY;have HJ:=hid hJ;obtain ⟨n,hnn⟩:=aA hs.length
 have HN:=hid hnn;obtain ⟨a,c,rfl⟩:=kG hP.r;rw [hnn] at HP hn;show Calls prog 131 #[.func (.yield l) #[] #[],.pointer (some ⟨gb,0,none⟩)] w _;have c0:=aV (j:=0) HP.out.o rfl;have HS:Hid (J (bk hs n) K0 w/\FrK M K0 w w/\Inv M w/\Tab w/\∀ k,K0 k->K0 k\/w.heap.size<=k):=hid ⟨by rw [<-hnn,XA]; exact h0,FrK.refl _ _ _,hi,hT,λk h=>.inl h⟩;have hw1:IntKind.i64.wrap ((n:Int)-1)=(n:Int)-1:=IntWalk.i64_in _ (by omega);clear hP hY hJ hi hT h0 hnn hJs
 go_enter func131,ntmps131;go_wp2_with fail
 go_loopw [3] (λi wr=>∃ (m:Nat) (K:Nat->Prop),m<=n/\i = .int .i64 ((m:Int)-1)/\Hid (J (bk hs m) K wr/\FrK M K0 w wr/\Inv M wr/\Tab wr/\∀ k,K k->K0 k\/w.heap.size<=k)) (λi _=>(intOf i+1).toNat)
 case atStart=>exact ⟨n,K0,aH,rfl,HS⟩
 case round =>
  obtain ⟨m,K,hm,rfl,HR⟩:=hrel;by_cases h0:m=0
  .subst h0;have hlt:¬ ((0:Nat):Int)-1>=0:=by omega
   clear HS c0;go_wp2;refine bodyPost_end (results_none rfl _ _ _) rfl ?_;exact ⟨⟨_,rfl⟩,bk hs 0,K,.inl ⟨rfl,HR.out.1⟩,HR.out.2⟩
  .obtain ⟨j,rfl⟩:∃ j,m=j+1:=⟨m-1,by omega⟩
   have hjl:j<hs.length:=by rw [HN.out]; omega
   have Mb:=HP.out.on HR.out.2.1 HR.out.2.2.2.2;obtain ⟨g,c',e1,cj⟩:=Mb.at' hjl;have cb:=aV (j:=0) Mb.o rfl;rw [e1] at cb;rw [HN.out] at cb;have hji:(j:Int)<(n:Int):=by omega
   have hge:((j+1:Nat):Int)-1=(j:Int):=by omega
   have hw2:IntKind.i64.wrap ((j:Int)-1)=(j:Int)-1:=IntWalk.i64_in _ (by omega);have Cf:=hid (HY.out (bk hs (j+1)) K (j,hs.getD j hd0) #[.int .i64 j,hv (hs.getD j hd0)] wr HR.out.1 HR.out.2.1 HR.out.2.2.1 HR.out.2.2.2.1 (by rw [<-LM hs hjl]; exact Rs hs j 0 (Nat.zero_le _) (by omega)) rfl);obtain ⟨z,hz⟩:=aA (hs.getD j hd0)
   rw [hz] at cj Cf;unfold hv at cj Cf;have HZ:Hid (bk hs (j+1)++[(j,z)]=bk hs j):=hid (by rw [LM hs hjl,hz]);rw [hge,MG 3];clear HS c0 Mb hge e1 hz;go_wp2_with (first
    | (refine MK (LZ 3 6 rfl (by rintro ⟨_,_,⟨⟨_,h⟩,_⟩⟩; cases h) ?_); intro _ _; dsimp only [List.take_succ_cons,List.take_zero,List.drop_succ_cons,List.drop_zero]))
   refine Hl Cf.out ?_ ?_ ?_ ?_
   .rfl
   .rfl
   .exact ⟨_,_,_,rfl,rfl,rfl⟩
   rintro e w2 ⟨K2,h⟩;rcases h with ⟨rfl,h2⟩ | ⟨rfl,h2⟩
   .refine ⟨_,rfl,vv rfl (by rintro ⟨_,_,⟨⟨_,h⟩,_⟩⟩; cases h) ?_⟩;have hs2:=HR.out.2.1.size;have H2:Hid (J (bk hs j) K2 w2/\FrK M K0 w w2/\Inv M w2/\Tab w2/\∀ k,K2 k->K0 k\/w.heap.size<=k):=hid ⟨by rw [<-HZ.out]; exact h2.j,HR.out.2.1.trans h2.f HR.out.2.2.2.2,h2.i,h2.t,λk hk=>(h2.sub k hk).elim (HR.out.2.2.2.2 k) (λh=>.inr (by omega))⟩;clear h2 Cf HR HZ;go_wp2;go_roundw
    case rel=>exact ⟨j,K2,by omega,by go_num,H2⟩
    case measure=>simp [intOf] <;> omega
   .refine ⟨_,rfl,vv rfl (by rintro ⟨_,_,⟨⟨_,h⟩,_⟩⟩; cases h) ?_⟩;have hs2:=HR.out.2.1.size;have H2:Hid (∃ V K,(V=bk hs 0/\J V K w2\/V<+:bk hs 0/\Js V K w2)/\FrK M K0 w w2/\Inv M w2/\Tab w2/\∀ k,K k->K0 k\/w.heap.size<=k):=hid ⟨bk hs j,K2,.inr ⟨Rs hs j 0 (Nat.zero_le _) (by omega),by rw [<-HZ.out]; exact h2.j⟩,HR.out.2.1.trans h2.f HR.out.2.2.2.2,h2.i,h2.t,λk hk=>(h2.sub k hk).elim (HR.out.2.2.2.2 k) (λh=>.inr (by omega))⟩;clear h2 Cf HR HZ;go_wp2;refine bodyPost_ret (results_none rfl _ _ _) rfl ?_;exact ⟨⟨_,rfl⟩,H2.out⟩
end Tm
end
section
open Go.RowKit
namespace Tm
open Tr Ni Pk Ky No Rf Rl da
open Sm (Tab)
theorem zo {w w':World} (h:Tab w) (hu:Rg.Upd w g w') (hg:0<g):Tab w':=λi hi=>by
 rw [World.cell?_of_block (hu.block 0 (by omega))];exact h i hi
def goA (M:Mp) (x:Pl) (w:World) (args:aO):Prop:=∃ (p:aL) (h:Hdl) (na:aL) (nn nc:Nat),args = #[.agg (plA p x.2.1 h),.agg (ndC (bg x.1) na nn nc)]/\IsT M p x.1/\bf w h.1 h.2.1 h.2.2 x.2.2/\bf w na nn nc (bg x.1).p/\xQ x
structure Yf (M:Mp) (g0 gi fi:Nat) (cp:aO) (p0:aL) (I:Pa->Bool) (w:World) (K:Nat->Prop):Prop where
 c0:w.cell? ⟨g0,0,none⟩=some (.pointer p0)
 ci:w.cell? ⟨gi,0,none⟩=some (.func (Fn.func fi) #[] cp)
 hi:M.at_ gi=none
 ki:¬ K gi
 into:∀ wr,FrK M K w wr->∀ (p:aL) (o:Nat) (h:Hdl) (a:Pa),bf wr h.1 h.2.1 h.2.2 a->a.length<=64->Calls prog fi (#[.agg (plA p o h)]++cp) wr λe w'=>e = .returned (.bool (I a))/\Below wr.heap.size wr w'
def yP (M:Mp) (bx:Nat) (w:World):Nat:=match w.cell? ⟨bx,0,none⟩ with
 | some (.slice (some a) n _)=>((List.range n).map λj=>match w.cell? (a.add (j*3)) with
  | some (.pointer p)=>jC (LD M p)
  | _=>0).sum
 | _=>0
structure Gq (M:Mp) (J:List Pl->(Nat->Prop)->World->Prop) (K0:Nat->Prop) (w0:World) (bx:Nat) (v:Value) (l:List Pc) (V:List Pl) (K:Nat->Prop) (Ds:List Nat) (w:World):Prop where
 ob:Rg.Own w bx #[v] 154
 row:jN w0.heap.size w v l
 ok:∀ y∈l,IsT M y.p y.x.1/\xQ y.x/\BsP (λb=>w0.heap.size<=b/\¬ K b/\b≠bx/\v.ownBlock≠some b) w y.h y.x.2.2
 j:J V K w
 kb:¬ K bx
 kr:∀ k,v.ownBlock=some k->¬ K k
 nb:v.ownBlock≠some bx
 bb:w0.heap.size<=bx
 f:FrK M K0 w0 w
 sub:∀ k,K k->K0 k\/w0.heap.size<=k
 i:Inv M w
 t:Tab w
 u:∀ k,w0.heap.size<=k->M.at_ k=none/\¬ M.ft k
 z:0<w0.heap.size
 dn:Ds.Nodup
 dm:∀ D∈Ds,w0.heap.size<=D/\w.heap[D]? = some (.deferred (some []))/\¬ K D
section
variable {M:Mp} {J:List Pl->(Nat->Prop)->World->Prop} {K0:Nat->Prop} {w0:World} {bx:Nat} {v:Value} {l:List Pc} {V:List Pl} {K:Nat->Prop} {Ds:List Nat} {w w':World}
theorem Gq.keep (h:Gq M J K0 w0 bx v l V K Ds w) {V':List Pl} {K':Nat->Prop} (hz:w.heap.size<=w'.heap.size) (hk:∀ k,w0.heap.size<=k->k<w.heap.size->¬ K k->w'.heap[k]? = w.heap[k]?) (j':J V' K' w') (hs:∀ k,K' k->K k\/w.heap.size<=k) (f':FrK M K0 w0 w') (i':Inv M w') (t':Tab w') :
  Gq M J K0 w0 bx v l V' K' Ds w':=by
 have hn:∀ k,k<w.heap.size->¬ K k->¬ K' k:=λk hl hk hk'=>(hs k hk').elim hk (by omega);refine ⟨⟨aJ h.ob.1 hz,(hk bx h.bb h.ob.1 h.kb).trans h.ob.2⟩,eX h.row λk e=>hk k (h.row.lt k e).1 (h.row.lt k e).2 (h.kr k e),λy hy=>⟨(h.ok y hy).1,(h.ok y hy).2.1,?_⟩,j',hn bx h.ob.1 h.kb,λk e=>hn k (h.row.lt k e).2 (h.kr k e),h.nb,h.bb,f',λk hk'=>(hs k hk').elim (h.sub k) (λg=>.inr (Nat.le_trans h.f.size g)),i',t',h.u,h.z,h.dn,λD hD=>?_⟩
 .have h2:BsP (λb=>(w0.heap.size<=b/\¬ K b/\b≠bx/\v.ownBlock≠some b)/\b<w.heap.size) w y.h y.x.2.2:=(h.ok y hy).2.2.to λb hl hp=>⟨hp,hl⟩
  exact (h2.kept hz λb hp hl=>hk b hp.1.1 hl hp.1.2.1).to λb _ hp=>⟨hp.1.1,hn b hp.2 hp.1.2.1,hp.1.2.2⟩
 .obtain ⟨h1,h2,h3⟩:=h.dm D hD;have hl:=(Array.getElem?_eq_some_iff.1 h2).1;exact ⟨h1,(hk D h1 hl h3).trans h2,hn D hl h3⟩
theorem Gq.below (h:Gq M J K0 w0 bx v l V K Ds w) (hM:Sta M J) (hb:Below w.heap.size w w'):Gq M J K0 w0 bx v l V K Ds w' :=
 h.keep hb.size (λk _ hl _=>hb.block k hl) (hM.st _ _ _ _ h.j hb.size λk hk=>hb.block k (hM.lt _ _ _ h.j k hk).1) (λk hk=>.inl hk) (h.f.below hb h.f.size) (h.i.below hb) (h.t.below hb h.t.pos)
theorem Gq.open_ (h:Gq M J K0 w0 bx v l V K Ds w) (hM:Sta M J) (f:Fr M M w w') (i':Inv M w') (t':Tab w'):Gq M J K0 w0 bx v l V K Ds w' :=
 h.keep f.size (λk hB hl _=>f.block k hl (h.u k hB).1) (hM.st _ _ _ _ h.j f.size λk hk=>f.block k (hM.lt _ _ _ h.j k hk).1 (hM.lt _ _ _ h.j k hk).2.1) (λk hk=>.inl hk) (h.f.trans (FrK.of (K:=λ_=>False) f) λ_ h=>h.elim) i' t'
theorem Gq.box (h:Gq M J K0 w0 bx v l V K Ds w) (hM:Sta M J) {l':List Pc} (hu:Rg.Upd w bx w') (ZP:Rg.Own w' bx #[v'] 154) (row':jN w0.heap.size w' v' l') (hv:v'.ownBlock=v.ownBlock) (hl:∀ y∈l',y∈l):Gq M J K0 w0 bx v' l' V K Ds w':=by
 have hkb:∀ k,K k->w'.heap[k]? = w.heap[k]? := λk hk=>hu.block k λe=>h.kb (by rw [<-e]; exact hk);refine ⟨ZP,row',λy hy=>⟨(h.ok y (hl y hy)).1,(h.ok y (hl y hy)).2.1,?_⟩,hM.st _ _ _ _ h.j (by rw [hu.size]; exact aH) hkb,h.kb,λk e=>h.kr k (by rw [<-hv]; exact e),by rw [hv]; exact h.nb,h.bb,?_,h.sub,h.i.upd hu (h.u bx h.bb).2,zo h.t hu (by have:=h.bb; have:=h.z; omega),h.u,h.z,h.dn,λD hD=>?_⟩
 .rw [hv];exact (h.ok y (hl y hy)).2.2.kept (by rw [hu.size]; exact aH) λb hp _=>hu.block b hp.2.2.1
 .have hb:=h.bb;exact ⟨hu.os.trans h.f.os,hu.tape.trans h.f.tape,hu.output.trans h.f.output,by rw [hu.size]; exact h.f.size,λk hk hm hn=>(hu.block k (by omega)).trans (h.f.block k hk hm hn)⟩
 .obtain ⟨h1,h2,h3⟩:=h.dm D hD;refine ⟨h1,(hu.block D λe=>?_).trans h2,h3⟩;rw [e,h.ob.2] at h2;cases h2
structure Ex (w0:World) (K:Nat->Prop) (w:World) (b:Nat) (cs:aO) (T:TypeId):Prop where
 o:Rg.Own w b cs T
 g:w0.heap.size<=b
 k:¬ K b
theorem Ex.keep {b:Nat} {cs:aO} {T:TypeId} (h:Ex w0 K w b cs T) {K':Nat->Prop} (hz:w.heap.size<=w'.heap.size) (hk:w0.heap.size<=b->b<w.heap.size->¬ K b->w'.heap[b]? = w.heap[b]?) (hs:∀ k,K' k->K k\/w.heap.size<=k):Ex w0 K' w' b cs T :=
 ⟨⟨aJ h.o.1 hz,(hk h.g h.o.1 h.k).trans h.o.2⟩,h.g,λhk'=>(hs b hk').elim h.k (by have:=h.o.1; omega)⟩
end
theorem Jj:∀ (l:List Pc) (j:Nat) (hj:j<l.length),(tX l)[j*3]? = some (.pointer (l[j]).p)
 | [],_,h=>absurd h (Nat.not_lt_zero _)
 | y::l,0,_=>rfl
 | y::l,j+1,h=>by
  show (y.cs++tX l)[(j+1)*3]? = _;have hx:y.cs.length=3:=rfl;rw [List.getElem?_append_right (by omega),hx,show (j+1)*3-3=j*3 by omega,Jj l j (by simpa using h)];rfl
theorem AJ {M:Mp} {bx:Nat} {w:World} {v:Value} {l:List Pc} (ob:Rg.Own w bx #[v] 154) (row:jN B w v l) (ok:∀ y∈l,IsT M y.p y.x.1):yP M bx w=nu (l.map (·.x)):=by
 have hc:=aV (j:=0) ob rfl;have hr:=row;rcases row.2 with ⟨rfl,hn⟩ | ⟨g,cap,cur,rfl,_⟩
 .have:l=[]:=List.length_eq_zero_iff.1 hn;subst this;unfold yP;rw [hc];rfl
 .unfold yP;rw [hc];show ((List.range l.length).map _).sum=((l.map (·.x)).map λx=>jC x.1).sum;congr 1;apply List.ext_getElem
  .simp
  .intro j h1 h2;have hj:j<l.length:=by simpa using h1
   simp only [List.getElem_map,List.getElem_range];have h3:=hr.cells (g:=g) rfl (j*3) (.pointer (l[j]).p) (Jj l j hj);rw [h3];dsimp only;rw [(ok l[j] (List.getElem_mem hj)).LD]
structure Mv (w0:World) (K:Nat->Prop) (w:World) (K':Nat->Prop) (w':World):Prop where
 sz:w.heap.size<=w'.heap.size
 bl:∀ b,w0.heap.size<=b->b<w.heap.size->¬ K b->w'.heap[b]? = w.heap[b]?
 sub:∀ k,K' k->K k\/w.heap.size<=k
section
variable {M:Mp} {w0 w w':World} {K K':Nat->Prop}
theorem Mv.below (hb:Below w.heap.size w w'):Mv w0 K w K w':=⟨hb.size,λb _ hl _=>hb.block b hl,λ_ hk=>.inl hk⟩
theorem Mv.fr (hu:∀ k,w0.heap.size<=k->M.at_ k=none/\¬ M.ft k) (f:Fr M M w w'):Mv w0 K w K w':=⟨f.size,λb hB hl _=>f.block b hl (hu b hB).1,λ_ hk=>.inl hk⟩
theorem Mv.not (m:Mv w0 K w K' w') {b:Nat} (hl:b<w.heap.size) (hn:¬ K b):¬ K' b:=λh=>(m.sub b h).elim hn (by omega)
theorem Ex.mv {b:Nat} {cs:aO} {T:TypeId} (h:Ex w0 K w b cs T) (m:Mv w0 K w K' w'):Ex w0 K' w' b cs T:=h.keep m.sz (λhB hl hn=>m.bl b hB hl hn) m.sub
def BsK (w0:World) (K:Nat->Prop) (w:World) (h:Hdl) (l:aN):Prop:=BsP (λb=>w0.heap.size<=b/\¬ K b) w h l
theorem BsK.mv {h:Hdl} {l:aN} (g:BsK w0 K w h l) (m:Mv w0 K w K' w'):BsK w0 K' w' h l:=by
 have h2:BsP (λb=>(w0.heap.size<=b/\¬ K b)/\b<w.heap.size) w h l:=BsP.to g λb hl hp=>⟨hp,hl⟩
 exact (h2.kept m.sz λb hp hl=>m.bl b hp.1.1 hl hp.1.2).to λb _ hp=>⟨hp.1.1,m.not hp.2 hp.1.2⟩
def EL (w0:World) (K:Nat->Prop) (w:World) (a:aL) (ps:List (aL)):Prop:=ps=[]\/∃ g cs,a=some ⟨g,0,none⟩/\Ex w0 K w g cs 46/\∀ j,j<ps.length->cs[j]? = some (.pointer (ps.getD j none))
theorem EL.mv {a:aL} {ps:List (aL)} (h:EL w0 K w a ps) (m:Mv w0 K w K' w'):EL w0 K' w' a ps:=h.imp id λ⟨g,cs,e,hx,hc⟩=>⟨g,cs,e,hx.mv m,hc⟩
theorem EL.cell {a:aL} {ps:List (aL)} (h:EL w0 K w a ps) (hj:j<ps.length):∃ g cs,a=some ⟨g,0,none⟩/\w.cell? ⟨g,j,none⟩=some (.pointer (ps.getD j none))/\w0.heap.size<=g/\Rg.Own w g cs 46:=by
 rcases h with rfl | ⟨g,cs,e,hx,hc⟩
 .exact absurd hj (Nat.not_lt_zero _)
 .exact ⟨g,cs,e,aV hx.o (hc j hj),hx.g,hx.o⟩
theorem EL.ofRow {kc:Nat} {ka:aL} {ps:List (aL)} (h:wI B w (.slice ka n kc) ps) (hB:w0.heap.size<=B) (hK:∀ k,K k->k<B):EL w0 K w ka ps:=by
 rcases h with ⟨_,rfl⟩ | ⟨g,cap,e,hg,cur,ho,_,_,_,hc⟩
 .exact .inl rfl
 .injection e with e1;exact .inr ⟨g,cur,e1,⟨ho,Nat.le_trans hB hg,λhk=>by have:=hK g hk; omega⟩,hc⟩
end
theorem XY {x:Pl} (h:xQ x):(x.2.2.length<64\/(bg x.1).kd≠3)/\x.2.2.length+(bg x.1).p.length<=64:=by
 obtain ⟨t,o,a⟩:=x;obtain ⟨L,hl,g,f,hn,ho⟩:=h;have hl':a.length+L=64:=hl;cases t with
 | nil=>exact ⟨.inr (by show ¬ (0:Int)=3; decide),by show a.length+0<=64; omega⟩
 | stub r=>exact ⟨.inr (by show ¬ (0:Int)=3; decide),by show a.length+0<=64; omega⟩
 | leaf p v=>exact ⟨.inr (by show ¬ (1:Int)=3; decide),by show a.length+p.length<=64; have:=g.1; omega⟩
 | ext q s=>exact ⟨.inr (by show ¬ (2:Int)=3; decide),by show a.length+q.length<=64; have:=g.2.2.1; omega⟩
 | br ks=>exact ⟨.inl (by show a.length<64; have:=g.1; omega),by show a.length+0<=64; omega⟩
def iY (x:Pl) (j:Nat):Pl:=(eF x).getD j (.nil,0,[])
theorem Vl {x:Pl} {hs:List Hdl} (h:hs.length=(eF x).length):(bk hs 0).map (λz=>iY x z.1)=(eF x).reverse:=by
 unfold bk;rw [List.drop_zero,<-List.map_reverse,List.map_map,List.map_reverse];congr 1;apply List.ext_getElem
 .simp [h]
 .intro j h1 h2;simp [iY,List.getD,h2]
theorem KW (x:Pl):(eF x).length<=16:=by
 have:=congrArg List.length (nT x);rw [List.length_map] at this;rw [this];exact Sc x.1
structure Bo2 (P:Nat->Prop) (w w':World):Prop where
 os:w'.os=w.os
 tape:w'.tape=w.tape
 output:w'.output=w.output
 size:w.heap.size<=w'.heap.size
 block:∀ k,k<w.heap.size->¬ P k->w'.heap[k]? = w.heap[k]?
theorem Bo2.below {w:World} (h:Bo2 P w w1) (hb:Below w1.heap.size w1 w2):Bo2 P w w2 :=
 ⟨hb.os.trans h.os,hb.tape.trans h.tape,hb.output.trans h.output,Nat.le_trans h.size hb.size,λk hk hn=>(hb.block k (aJ hk h.size)).trans (h.block k hk hn)⟩
theorem Bo2.of {w:World} (hb:Below w.heap.size w w2):Bo2 P w w2:=⟨hb.os,hb.tape,hb.output,hb.size,λk hk _=>hb.block k hk⟩
theorem Bo2.upd {w:World} (h:Bo2 P w w1) (hu:Rg.Upd w1 g w2) (hg:P g):Bo2 P w w2 :=
 ⟨hu.os.trans h.os,hu.tape.trans h.tape,hu.output.trans h.output,by rw [hu.size]; exact h.size,λk hk hn=>(hu.block k λe=>hn (by rw [e]; exact hg)).trans (h.block k hk hn)⟩
theorem Bo2.grown {w:World} {r:Option Nat} (h:Bo2 P w w1) (hg:w1.grownBy w2 r) (hr:∀ k,r=some k->P k):Bo2 P w w2 :=
 ⟨hg.os.trans h.os,hg.tape.trans h.tape,hg.output.trans h.output,Nat.le_trans h.size hg.size,λk hk hn=>(hg.block k (aJ hk h.size) λe=>hn (hr k e.symm)).trans (h.block k hk hn)⟩
theorem Bo2.cell {w w':World} (h:Bo2 P w w') {b o:Nat} {v:Value} (hc:w.cell? ⟨b,o,none⟩=some v) (hn:¬ P b):w'.cell? ⟨b,o,none⟩=some v:=by
 rw [World.cell?_of_block (h.block b (World.block_lt_of_cell? w _ hc) hn)];exact hc
theorem Bo2.frK {M:Mp} {w w':World} (h:Bo2 P w w'):FrK M P w w':=⟨h.os,h.tape,h.output,h.size,λk hk _ hn=>h.block k hk hn⟩
theorem yS {w:World} {b:Nat} {v:Value} (hc:w.cell? ⟨b,off,none⟩=some v) (ho:∃ x,o.op = .load 154 x/\ev x = .pointer (some ⟨b,off,none⟩)) :
  (execOp ev o).run prog w = .ok (.value v) w:=by
 obtain ⟨x,ho,hx⟩:=ho;unfold execOp;simp [ho,hx,go_sem,hc]
theorem vE {a:Go.Act} {w:World} {K:Go.Act->World->Prop} {Q:Exit->Go.Act->World->Prop} {v:Value} {l:List Pc} (y:Pc) (hw:Region.wanted o (yielded ops a.tmps)=true)
  (ho:∃ s y,o.op = .call { callee:=.builtin .append,args:=#[s,y],argTypes:=#[154,154] }/\a.eval s=v/\a.eval y = .slice (some ⟨b2,0,none⟩) 1 1)
  (hR:jN B w v l) (h2:Rg.Own w b2 (plA y.p y.x.2.1 y.h) 111) (hn:l.length<=1000000) (hB:B<=w.heap.size)
  (H:∀ v' w',jN B w' v' (l++[y])->w.grownBy w' v.ownBlock->(v'.ownBlock=v.ownBlock\/v'.ownBlock=some w.heap.size)->K (a.put o.dst v') w'):if Region.wanted o (yielded ops a.tmps)=true then Oper.wp prog o a w K Q else K (a.put o.dst undef) w:=by
 obtain ⟨s,y',ho,hs,hy⟩:=ho;obtain ⟨v',w',hr,h3,h4,h5⟩:=Ga (ty:=o.type) hR h2 hn hB;refine Rg.want hw ?_;unfold Oper.wp execOp;simp only [ho,resolve,invoke,builtin,Sem.run_bind,Sem.run_pure,Result.andThen_ok,List.map_toArray,List.map_cons,List.map_nil,hs,hy,hr];exact H v' w' h3 h4 h5
theorem OW {w:World} {b:Nat} {v:Value} (h:Rg.Own w b #[v] 154) (a:aL) (n c:Nat) :
  (Instr.storeAt 154 (.pointer (some ⟨b,0,none⟩)) (.slice a n c)).run prog w = .ok () (w.setCell ⟨b,0,none⟩ (.slice a n c)):=by
 have hc:w.cell? ⟨b,0,none⟩=some v:=aV (j:=0) h rfl;have hz:w.frozen? ⟨b,0,none⟩=false:=fJ (j:=0) h;simp [go_sem,hc,hz]
theorem rH {a:Go.Act} {w:World} {K:Go.Act->World->Prop} {Q:Exit->Go.Act->World->Prop} {b:Nat} {v:Value} (hw:Region.wanted o (yielded ops a.tmps)=true) (hg:Rg.Own w b #[v] 154)
  (ho:∃ x y,o.op = .store 154 x y/\a.eval x = .pointer (some ⟨b,0,none⟩)/\a.eval y=v') (hv:∃ s n c,v' = .slice s n c)
  (h:∀ w',Rg.Own w' b #[v'] 154->Rg.Upd w b w'->K (a.put o.dst undef) w'):if Region.wanted o (yielded ops a.tmps)=true then Oper.wp prog o a w K Q else K (a.put o.dst undef) w:=by
 obtain ⟨x,y,ho,hx,hy⟩:=ho;obtain ⟨s,n,c,rfl⟩:=hv;refine Rg.want hw ?_;unfold Oper.wp execOp;simp only [ho,hx,hy,Sem.run_bind,Sem.run_pure,Result.andThen_ok,OW hg s n c];exact h _ (bZ (o:=0) hg _) (bM _ _ _ _)
structure Mt (M:Mp) (B bx:Nat) (l:List Pc) (mk:Nat × Hdl->Pc) (V:List (Nat × Hdl)) (K:Nat->Prop) (w:World) (v:Value):Prop where
 o:Rg.Own w bx #[v] 154
 r:jN B w v (l++V.map mk)
 k:∀ k,K k↔k=bx\/v.ownBlock=some k
 nb:v.ownBlock≠some bx
 bb:B<=bx
 u:∀ k,B<=k->M.at_ k=none/\¬ M.ft k
def PI (M:Mp) (B bx:Nat) (l:List Pc) (mk:Nat × Hdl->Pc) (V:List (Nat × Hdl)) (K:Nat->Prop) (w:World):Prop:=∃ v,Mt M B bx l mk V K w v
theorem UY (M:Mp) (B bx:Nat) (l:List Pc) (mk:Nat × Hdl->Pc):Sta M (PI M B bx l mk):=by
 refine ⟨λV K w w' ⟨v,h⟩ hs hk=>⟨v,⟨⟨aJ h.o.1 hs,(hk bx ((h.k bx).2 (.inl rfl))).trans h.o.2⟩,eX h.r λk e=>hk k ((h.k k).2 (.inr e)),h.k,h.nb,h.bb,h.u⟩⟩,λV K w ⟨v,h⟩ k hk=>?_⟩;rcases (h.k k).1 hk with rfl | e
 .exact ⟨h.o.1,h.u k h.bb⟩
 .exact ⟨(h.r.lt k e).2,h.u k (h.r.lt k e).1⟩
theorem SF {α:Type} (M:Mp):Sta M (λ(_:List α) (_:Nat->Prop) (_:World)=>False):=⟨λ_ _ _ _ h=>h.elim,λ_ _ _ h=>h.elim⟩
theorem Iz {M:Mp} {bx:Nat} {l:List Pc} {mk:Nat × Hdl->Pc} {V:List (Nat × Hdl)} {K:Nat->Prop} {w w5:World} {v:Value} {x:Nat × Hdl} (h:Mt M B bx l mk V K w v) (hi:Inv M w) (ht:Tab w) (hz:0<B) (hn:n<=w.heap.size) (hb:Bo2 K w w5)
  (ho:Rg.Own w5 bx #[v'] 154) (hr:jN B w5 v' (l++V.map mk++[mk x])) (hl:v'.ownBlock=v.ownBlock\/∃ k,w.heap.size<=k/\v'.ownBlock=some k):∃ K',Rnd M (PI M B bx l mk) V K n x w w5 K':=by
 refine ⟨λk=>k=bx\/v'.ownBlock=some k,⟨v',⟨ho,by rw [List.map_append,<-List.append_assoc]; exact hr,λk=>Iff.rfl,λe=>?_,h.bb,h.u⟩⟩,λk hk=>?_,hb.frK,hi.keep hb.size λk hk=>hb.block k (hi.lt_ k hk) λg=>?_,λj hj=>?_⟩
 .rcases hl with e2 | ⟨k,hk,e2⟩
  .exact h.nb (by rw [<-e2]; exact e)
  .rw [e2] at e;have:=Option.some.inj e;have:=h.o.1;omega
 .rcases hk with rfl | e
  .exact .inl ((h.k _).2 (.inl rfl))
  .rcases hl with e2 | ⟨k',hk',e2⟩
   .exact .inl ((h.k k).2 (.inr (by rw [<-e2]; exact e)))
   .rw [e2] at e;have:=Option.some.inj e;exact .inr (by omega)
 .exact ((UY M B bx l mk).lt V K w ⟨v,h⟩ k g).2.2 hk
 .have hlt:0<w.heap.size:=ht.pos;have hk:¬ K 0:=λg=>by
   rcases (h.k _).1 g with e | e
   .have:=h.bb;omega
   .have:=(h.r.lt _ e).1;omega
  rw [World.cell?_of_block (hb.block 0 hlt hk)];exact ht j hj
theorem XE {hs:List Hdl} {V:List (Nat × Hdl)} {x:Nat × Hdl} (h:V++[x]<+:bk hs 0):x.1<hs.length/\x.2=hs.getD x.1 hd0:=by
 have hx:x∈bk hs 0:=h.subset (by simp);unfold bk at hx;rw [List.mem_reverse] at hx;obtain ⟨j,hj,rfl⟩:=List.mem_map.1 hx;exact ⟨by simpa using hj,rfl⟩
theorem KC {x:Pl} (h:j<(eF x).length):(iY x j).2.1=x.2.1+1:=GI x _ (by
 unfold iY;rw [List.getD_eq_getElem?_getD,List.getElem?_eq_getElem h];exact List.getElem_mem h)
theorem Uj {x:Pl} (hx:xQ x) (h:j<(eF x).length):xQ (iY x j):=(hx.kids _ (by
 unfold iY;rw [List.getD_eq_getElem?_getD,List.getElem?_eq_getElem h];exact List.getElem_mem h)).1
theorem Kl {x:Pl} (h:j<(eF x).length):(iY x j).1=(qV x.1).getD j .nil:=by
 rw [<-nT];unfold iY;simp [List.getD,h]
theorem Ol {x:Pl} (h:j<(eF x).length):(iY x j).2.2=((eF x).map (·.2.2)).getD j []:=by
 unfold iY;simp [List.getD,h]
theorem Gq.pushed {M:Mp} {J:List Pl->(Nat->Prop)->World->Prop} {K0:Nat->Prop} {w0:World} {bx cap:Nat} {l:List Pc} {V:List Pl} {K:Nat->Prop} {Ds:List Nat} {w w':World} (h:Gq M J K0 w0 bx (.slice (some ⟨g,0,none⟩) n cap) l V K Ds w) (hM:Sta M J) {x:Pl} (hx:xQ x) {qs:List (aL)} (hA:Are M qs (qV x.1)) {hs:List Hdl}
  (hW:rD B w v12 hs ((eF x).map (·.2.2))) (hB:w0.heap.size<=B) (hBb:bx<B) (hBg:g<B) (ZQ:∀ k,K k->k<B) (hBw:B<=w.heap.size) (hP:Mt M w0.heap.size bx l (λz=>⟨qs.getD z.1 none,z.2,iY x z.1⟩) (bk hs 0) Ki w' v')
  (f:FrK M (λk=>k=bx\/(Value.slice (some ⟨g,0,none⟩) n cap).ownBlock=some k) w w') (i':Inv M w') (t':Tab w') (hsub:∀ k,Ki k->(k=bx\/(Value.slice (some ⟨g,0,none⟩) n cap).ownBlock=some k)\/w.heap.size<=k) (hD:w'.heap[w.heap.size]? = some (.deferred (some []))) :
  Gq M J K0 w0 bx v' (l++(bk hs 0).map λz=>⟨qs.getD z.1 none,z.2,iY x z.1⟩) V K (w.heap.size::Ds) w':=by
 have hlen:hs.length=(eF x).length:=by rw [hW.len,List.length_map]
 have hb:∀ k,w0.heap.size<=k->k<w.heap.size->k≠bx->k≠g->w'.heap[k]? = w.heap[k]? := λk hk hl h1 h2=>f.block k hl (h.u k hk).1 λe=>e.elim h1 λe=>h2 (Option.some.inj e).symm;have hv':∀ k,v'.ownBlock=some k->k=g\/w.heap.size<=k:=λk e=>(hsub k ((hP.k k).2 (.inr e))).elim (λe2=>e2.elim (λe3=>absurd (by rw [<-e3]; exact e) hP.nb) λe3=>.inl (Option.some.inj e3).symm) .inr;have ul:∀ k,K k->k<w.heap.size:=λk hk=>(hM.lt _ _ _ h.j k hk).1
 have hKn:∀ k,K k->k≠bx/\k≠g:=λk hk=>⟨λe=>h.kb (by rw [<-e]; exact hk),λe=>h.kr g rfl (by rw [<-e]; exact hk)⟩
 refine ⟨hP.o,hP.r,λy hy=>?_,hM.st _ _ _ _ h.j f.size λk hk=>f.block k (ul k hk) (hM.lt _ _ _ h.j k hk).2.1 λe=>e.elim (hKn k hk).1 λe=>(hKn k hk).2 (Option.some.inj e).symm,h.kb,λk e hk=>?_,hP.nb,h.bb,h.f.trans f λk e=>.inr ?_,h.sub,i',t',h.u,h.z,List.nodup_cons.2 ⟨λhd=>?_,h.dn⟩,λD hd=>?_⟩
 .rcases List.mem_append.1 hy with hy | hy
  .obtain ⟨h1,h2,h3⟩:=h.ok y hy;refine ⟨h1,h2,?_⟩;have h4:BsP (λb=>(w0.heap.size<=b/\¬ K b/\b≠bx/\(Value.slice (some ⟨g,0,none⟩) n cap).ownBlock≠some b)/\b<w.heap.size) w y.h y.x.2.2:=h3.to λb hl hp=>⟨hp,hl⟩
   exact (h4.kept f.size λb hp hl=>hb b hp.1.1 hl hp.1.2.2.1 λe=>hp.1.2.2.2 (by rw [e]; rfl)).to λb _ hp=>⟨hp.1.1,hp.1.2.1,hp.1.2.2.1,λe=>(hv' b e).elim (λe2=>hp.1.2.2.2 (by rw [e2]; rfl)) (by omega)⟩
  .obtain ⟨z,hz,rfl⟩:=List.mem_map.1 hy;have hzj:z.1<hs.length/\z.2=hs.getD z.1 hd0:=by
    unfold bk at hz;rw [List.mem_reverse] at hz;obtain ⟨j,hj,rfl⟩:=List.mem_map.1 hz;exact ⟨by simpa using hj,rfl⟩
   have Mm:z.1<(eF x).length:=by omega
   have ix:qs.length=(eF x).length:=by rw [hA.1,<-nT,List.length_map]
   refine ⟨?_,Uj hx Mm,?_⟩
   .show IsT M (qs.getD z.1 none) (iY x z.1).1;rw [Kl Mm];exact hA.2 z.1 (by omega)
   .show BsP _ w' z.2 (iY x z.1).2.2;rw [Ol Mm,hzj.2];have h3:=hW.bs z.1 hzj.1;have h4:BsP (λb=>B<=b/\b<w.heap.size) w (hs.getD z.1 hd0) (((eF x).map (·.2.2)).getD z.1 []):=h3.to λb hl hp=>⟨hp.1,hl⟩
    exact (h4.kept f.size λb hp hl=>hb b (by omega) hl (by omega) (by omega)).to λb _ hp=>⟨by omega,λhk=>by have:=ZQ b hk; omega,by omega,λe=>(hv' b e).elim (by omega) (by omega)⟩
 .rcases hv' k e with e2 | e2
  .exact (hKn k hk).2 e2
  .have:=ul k hk;omega
 .rcases e with e | e
  .rw [e]; exact h.bb
  .rw [<-(Option.some.inj e:g=k)];exact (h.row.lt g rfl).1
 .have:=(Array.getElem?_eq_some_iff.1 (h.dm _ hd).2.1).1;omega
 .rcases List.mem_cons.1 hd with rfl | hd
  .exact ⟨h.f.size,hD,λhk=>by have:=ul _ hk; omega⟩
  .obtain ⟨h1,h2,h3⟩:=h.dm D hd;have hl:=(Array.getElem?_eq_some_iff.1 h2).1;refine ⟨h1,(hb D h1 hl (λe=>?_) (λe=>?_)).trans h2,h3⟩
   .rw [e,h.ob.2] at h2;cases h2
   .rcases h.row.2 with ⟨e2,_⟩ | ⟨g',_,_,e2,_,hh,_⟩
    .cases e2
    .injection e2 with e3;injection e3 with e3;injection e3 with e3;rw [e,e3,hh] at h2;cases h2
theorem OT:prog.underlying 154=some (.slice (prog.elem 154)):=by kernel_rfl
theorem VN (w:World):(sizeOf (prog.elem 154)).run prog w = .ok 3 w:=by kernel_rfl
theorem JH {w:World} {b:Nat} {v:Value} (hc:w.cell? ⟨b,off,none⟩=some v) (ho:∃ x,o.op = .load 112 x/\ev x = .pointer (some ⟨b,off,none⟩)) :
  (execOp ev o).run prog w = .ok (.value v) w:=by
 obtain ⟨x,ho,hx⟩:=ho;unfold execOp;simp [ho,hx,go_sem,hc]
def Fa {α:Type} (M:Mp) (J Js:List α->(Nat->Prop)->World->Prop) (G:List α) (K0:Nat->Prop) (w:World) (e:Ending) (w':World):Prop :=
 (∃ v,e = .returned v)/\∃ V K,(V=G/\J V K w'\/V<+:G/\Js V K w')/\FrK M K0 w w'/\Inv M w'/\Tab w'/\∀ k,K k->K0 k\/w.heap.size<=k
theorem Jv {α:Type} {M:Mp} {J Js:List α->(Nat->Prop)->World->Prop} {G:List α} {K0:Nat->Prop} {w:World} {V:List α} {K:Nat->Prop} {Ds:List Nat} (hJ:Sta M J) (hJs:Sta M Js) (hV:V=G/\J V K wr\/V<+:G/\Js V K wr) (f:FrK M K0 w wr) (i:Inv M wr) (t:Tab wr)
  (hs:∀ k,K k->K0 k\/w.heap.size<=k) (hu:∀ k,w.heap.size<=k->M.at_ k=none/\¬ M.ft k) (hz:0<w.heap.size) (hd:∀ D∈Ds,w.heap.size<=D/\wr.heap[D]? = some (.deferred (some []))/\¬ K D) (v:Value):Fa M J Js G K0 w (.returned v) (shut wr Ds):=by
 have hb:=qE Ds wr;have hsz:=sW Ds wr;have hK:∀ k,K k->(shut wr Ds).heap[k]? = wr.heap[k]? := λk hk=>hb k λh=>(hd k h).2.2 hk;obtain ⟨s1,s2,s3⟩:=DR Ds wr;refine ⟨⟨v,rfl⟩,V,K,hV.imp (λh=>⟨h.1,hJ.st _ _ _ _ h.2 (by omega) hK⟩) (λh=>⟨h.1,hJs.st _ _ _ _ h.2 (by omega) hK⟩),⟨s1.trans f.os,s2.trans f.tape,s3.trans f.output,by have:=f.size; omega,λk hk hm hn=>(hb k λh=>by have:=(hd k h).1; omega).trans (f.block k hk hm hn)⟩,i.keep (by omega) λk hk=>hb k λh=>(hu k (hd k h).1).2 hk,λj hj=>?_,hs⟩
 rw [World.cell?_of_block (hb 0 λh=>by have:=(hd _ h).1; omega)];exact t j hj
theorem YG (t:aO) (i j:Nat) (a b:Value):(#[i,j].zip #[a,b]).foldl (λt (p,v)=>t.setIfInBounds p v) t=(t.setIfInBounds i a).setIfInBounds j b:=by simp
theorem Wj {M:Mp} {w wd:World} {K:Nat->Prop} (hb:Below w.heap.size w w4) (f:FrK M K w4 wd) (i:Inv M wd) (t:Tab wd) (hi:Inv M w) (hz:0<w.heap.size) (hK:∀ k,K k->w.heap.size<=k) (hD:w.heap.size<=D):Fr M M w (shut wd [D])/\Inv M (shut wd [D])/\Tab (shut wd [D]):=by
 have hu:Rg.Upd wd D (shut wd [D]):=⟨rfl,rfl,rfl,sW _ _,λk hk=>qE [D] wd k (by simpa using hk)⟩
 have hsz:=hb.size;refine ⟨⟨hu.os.trans (f.os.trans hb.os),hu.tape.trans (f.tape.trans hb.tape),hu.output.trans (f.output.trans hb.output),by rw [hu.size]; exact Nat.le_trans hb.size f.size,λk hk hm=>?_,λ_ _ h=>h,λ_ _ h=>h,λ_ h=>h,λ_ h=>Or.inl h⟩,i.upd hu (hi.free hD),zo t hu (by omega)⟩;rw [hu.block k (by omega),f.block k (by omega) hm (λh=>by have:=hK k h; omega),hb.block k hk]
theorem JY {P:Program} {fn:Func} {R:Ending->World->Prop} {w:World} (hD:w.heap[D]? = some (.deferred (some []))) (h:LeavesIn Fence.wide 0 P fn tmps R [] .returning (shut w [D])):LeavesInM Fence.wide 0 P fn tmps R [{ target:=.collected D,args:=#[] }] .returning w :=
 nE [D] w (by simp) (λE hE=>by rw [List.mem_singleton.1 hE]; exact hD) h
theorem Me {t:T}:(bg t).kd=0↔isNode t=false:=by
 cases t with
 | nil=>exact ⟨λ_=>rfl,λ_=>rfl⟩
 | stub r=>exact ⟨λ_=>rfl,λ_=>rfl⟩
 | leaf p v=>exact ⟨λh=>absurd (show (1:Int)=0 from h) (by decide),λh=>by cases h⟩
 | ext q s=>exact ⟨λh=>absurd (show (2:Int)=0 from h) (by decide),λh=>by cases h⟩
 | br ks=>exact ⟨λh=>absurd (show (3:Int)=0 from h) (by decide),λh=>by cases h⟩
theorem SC {M:Mp} {x:Pl} (h:goA M x W args):args.size=2:=by
 obtain ⟨_,_,_,_,_,rfl,_⟩:=h;rfl
theorem La (s:aM) (hs:s.size<=1000) (w:World) :
  Calls prog 74 #[.string s] w (Ta w (gW s)):=by
 obtain ⟨m,hm⟩:=aA (2*s.size)
 have hmk:=run_make_row' (P:=prog) 35 5 (.int .u8 0) 1 underlying35 Ni.lC rfl .i64 .i64 m (by omega) (by omega);have e:((m:Nat):Int)=2*(s.size:Int):=by omega
 rw [e] at hmk;have HS:=hid (Spr.start w s);rw [hm] at HS;have HM:=hid hm;have hm2:m<=2*s.size:=by omega
 clear e hm;go_enter func74,ntmps74;go_wp2_with fail
 refine (gD _ _).mono ?_;rintro e w1 ⟨rfl,rfl⟩;go_wp2;clear hmk;go_loopw [14] (λi wr=>∃ k:Nat,k<=m/\i = .int .i64 k/\Spr w s k wr) (λi _=>m-(intOf i).toNat)
 case atStart=>exact ⟨0,Nat.zero_le _,rfl,HS.out⟩
 case round =>
  obtain ⟨k,hk,rfl,hS⟩:=hrel;by_cases hlt:k<m
  .have hc:=hS.2.1;have hz:=hS.1.lt;have hcell:wr.cell? ⟨w.heap.size+1,k,none⟩=some (.int .u8 0):=by
    rw [hS.1.cell (by rw [HM.out]; exact hlt)]; simp
   have hfr:=hS.1.frozen k;go_wp2_with fail
   refine (oJ _ s k (by unfold maxLen; omega) (by omega) _ hc).mono ?_;rintro e w2 ⟨rfl,rfl⟩;go_wp2;go_roundw
   case rel=>exact ⟨k+1,by omega,by go_num,hS.next (by rw [HM.out]; exact hlt)⟩
   case measure=>simp [intOf]; omega
  .obtain rfl:k=m:=by omega
   have HG:Hid (bf wr (some ⟨w.heap.size+1,0,none⟩) k k (gW s)):=hid (by
    refine bf.ofRow (gW s) (by unfold maxLen; omega) (by have:=hS.1; rw [HM.out] at this; exact this) (by rw [gK,HM.out]) (λj hj=>?_);rw [if_pos hj,lV s j (by rw [HM.out]; exact hj)])
   have hB:=hS.2.2;go_wp2;go_ret;exact ⟨(some ⟨w.heap.size+1,0,none⟩,k,k),rfl,⟨HG.out,λad e _=>by obtain rfl:=(Option.some.inj e).symm; exact Nat.le_succ _⟩,hB⟩
theorem II (k:aN) (hk:k.length=32) (w:World) :
  Calls prog 42 #[.agg (kc k)] w (Ta w (bG k)):=by
 have h0:bf (w.alloc (.cells (kc k) 24)) (some ⟨w.heap.size,0,none⟩) k.length k.length k:=bf.new w k (by unfold maxLen; omega) _ _ rfl;rw [hk] at h0;have hcv:=lF h0;obtain ⟨s,hs⟩:=aA (⟨k.toArray⟩:aM)
 have hsz:s.size=32:=by rw [<-hs]; show k.toArray.size=32; simp [hk]
 have HP:Hid (bG k=Ni.gW s):=hid (by unfold bG; rw [hs]);have IR:=hid (λwx=>La s (by omega) wx);rw [hs] at hcv;obtain ⟨C,hC⟩:=aA (kc k)
 rw [hC] at hcv ⊢;clear h0 hs hC hsz hk;go_enter func42,ntmps42;go_wp2_with fail
 refine (IR.out _).mono ?_;rintro e w1 ⟨r,rfl,hx,hb⟩;go_wp2;go_ret;exact ⟨r,rfl,by rw [HP.out]; exact hx.to λb _ hp=>Nat.le_trans (by simp) hp,((Below.refl w.heap.size w).alloc aH _).trans (hb.mono (by simp))⟩
theorem WM {M:Mp} {K:Nat->Prop} {w w':World} (f:FrK M K w w') {b:Nat} {cs:aO} {T:TypeId} (h:Rg.Own w b cs T) (hm:M.at_ b=none/\¬ K b):Rg.Own w' b cs T :=
 ⟨aJ h.1 f.size,(f.block b h.1 hm.1 hm.2).trans h.2⟩
theorem Pe (z:List Nz) (N:Nd) (h:Hdl):JQ (z++[(N,h)])=JQ z++ndL N h:=by simp [JQ]
def yc (B:Nat) (w:World) (v:Value) (z:List Nz):Prop:=w.ownsRow B 67 19 v z.length (JQ z)
theorem Jb {w:World} {v:Value} {z:List Nz} {N:Nd} {h:Hdl} (hR:yc B w v z) (h2:Rg.Own w b2 (ndC N h.1 h.2.1 h.2.2) 67) (hl:N.ks.length=16) (hn:z.length<=1000000) (hB:B<=w.heap.size) :
  ∃ v' w',(Builtin.append_ #[77,77] ty #[v,.slice (some ⟨b2,0,none⟩) 1 1]).run prog w = .ok v' w'/\yc B w' v' (z++[(N,h)])/\w.grownBy w' v.ownBlock/\(v'.ownBlock=v.ownBlock\/v'.ownBlock=some w.heap.size):=by
 obtain ⟨i0,z0,hi,hz,hsz,hby,hzc⟩:=CY;obtain ⟨v',w',hr,h3,h4,_,h5⟩:=run_append_own_at (P:=prog) w B 77 ty 67 i0 z0 19 304 underlying77 hi hz hsz hby hzc (by decide) v z.length _ hR ⟨b2,0,none⟩ 1 1 (ndL N h) (vV hl)
  (λj u hu=>by
   rw [Addr.add_mid,Nat.zero_add];have:(ndC N h.1 h.2.1 h.2.2)[j]? = some u:=by
    rw [<-hu];unfold ndC ndL;simp
   exact aV h2 this)
  (Vf N h) (by unfold maxLen; omega) (by omega) hB
 exact ⟨v',w',hr,by unfold yc; rw [List.length_append,Pe]; exact h3,h4,h5⟩
theorem GK {rest:List Oper} {a:Go.Act} {w:World} {Q:Exit->Go.Act->World->Prop} {v:Value} {z:List Nz} {N:Nd} {h:Hdl} (hR:yc B w v z) (h2:Rg.Own w b2 (ndC N h.1 h.2.1 h.2.2) 67) (hl:N.ks.length=16) (hn:z.length<=1000000) (hB:B<=w.heap.size) (hgd:o.guard=none)
  (ho:∃ s y,o.op = .call { callee:=.builtin .append,args:=#[s,y],argTypes:=#[77,77] }/\a.eval s=v/\a.eval y = .slice (some ⟨b2,0,none⟩) 1 1)
  (H:∀ v' w',yc B w' v' (z++[(N,h)])->w.grownBy w' v.ownBlock->(v'.ownBlock=v.ownBlock\/v'.ownBlock=some w.heap.size)->wpList prog ops Q rest (a.put o.dst v') w'):wpList prog ops Q (o::rest) a w:=by
 obtain ⟨s,y',ho,hs,hy⟩:=ho;obtain ⟨v',w',hr,h3,h4,h5⟩:=Jb (ty:=o.type) hR h2 hl hn hB;refine fV hgd v' w' ?_ (H v' w' h3 h4 h5);unfold execOp;simp only [ho,resolve,invoke,builtin,Sem.run_bind,Sem.run_pure,Result.andThen_ok,List.map_toArray,List.map_cons,List.map_nil,hs,hy,hr]
theorem Gs {w:World} {b:Nat} {v:Value} (hc:w.cell? ⟨b,off,none⟩=some v) (ho:∃ x,o.op = .load 77 x/\ev x = .pointer (some ⟨b,off,none⟩)) :
  (execOp ev o).run prog w = .ok (.value v) w:=by
 obtain ⟨x,ho,hx⟩:=ho;unfold execOp;simp [ho,hx,go_sem,hc]
def Eo (V:List Pl):List Nd:=(V.filter λx=>isNode x.1).map λx=>bg x.1
theorem Ce (V:List Pl) (x:Pl):Eo (V++[x])=Eo V++if isNode x.1 then [bg x.1] else []:=by
 unfold Eo;rw [List.filter_append,List.map_append];cases h:isNode x.1 <;> simp [h]
theorem Lr (I:Pa->Bool):∀ (t:T) (o:Nat) (a:Pa),(goL I t o a).length<=jC t
 | .nil,_,a=>by unfold goL; split <;> simp [jC]
 | .leaf _ _,_,a=>by unfold goL; split <;> simp [jC]
 | .stub _,_,a=>by unfold goL; split <;> simp [jC]
 | .ext q s,o,a=>by
  have ih:=Lr I s (o+1) (a++q);unfold goL;split
  .show (goL I s (o+1) (a++q)).length+1<=1+jC s;omega
  .exact Nat.zero_le _
 | .br ks,o,a=>by
  unfold goL;split
  .show (((dx ks).map λi=>goL I (ks i) (o+1) (a++[dG i])).flatten).length+1<=1+((dx ks).map λi=>jC (ks i)).sum;have e:((dx ks).map λi=>goL I (ks i) (o+1) (a++[dG i])).map List.length=(dx ks).map λi=>(goL I (ks i) (o+1) (a++[dG i])).length:=by
    rw [List.map_map];rfl
   rw [List.length_flatten,e];have:=Cu (f:=λi=>(goL I (ks i) (o+1) (a++[dG i])).length) (g:=λi=>jC (ks i)) (dx ks) λi _=>Lr I (ks i) (o+1) (a++[dG i]);omega
  .exact Nat.zero_le _
structure Db {α:Type} (M:Mp) (J:List α->(Nat->Prop)->World->Prop) (V:List α) (K:Nat->Prop) (N:Nat->Prop) (x : α) (w w':World) (K':Nat->Prop):Prop where
 j:J (V++[x]) K' w'
 sub:∀ k,K' k->K k\/N k
 f:FrK M K w w'
 i:Inv M w'
 t:Tab w'
def QD {α:Type} (gv : α->aO->Nat->Prop) (x : α) (args:aO) (n:Nat) (k:Nat):Prop:=n<=k\/gv x args k
def Yk {α:Type} (M:Mp) (gf:Nat) (lb:aO) (A : α->World->aO->Prop) (gv : α->aO->Nat->Prop) (G:List α) (Pre:World->(Nat->Prop)->Prop):Prop :=
 ∀ (l:Nat) (J Js:List α->(Nat->Prop)->World->Prop) (K0:Nat->Prop) (w:World),Sta M J->Sta M Js->Pre w K0->Inv M w->Tab w->J [] K0 w->
  (∀ V K x args wx,J V K wx->FrK M K0 w wx->Inv M wx->Tab wx->V++[x]<+:G->A x wx args->(∀ k,gv x args k->w.heap.size<=k/\k<wx.heap.size/\¬ K k)->YieldAt Fence.wide 0 prog l args wx λe w'=>∃ K',(e = .returned (.bool true)/\Db M J V K (QD gv x args wx.heap.size) x wx w' K')\/(e = .returned (.bool false)/\Db M Js V K (QD gv x args wx.heap.size) x wx w' K'))->
  Calls prog gf (#[.func (.yield l) #[] #[]]++lb) w λe w'=>(∃ v,e = .returned v)/\∃ V K,(V=G/\J V K w'\/V<+:G/\Js V K w')/\FrK M K0 w w'/\Inv M w'/\Tab w'/\∀ k,K k->K0 k\/w.heap.size<=k
def RL {α:Type} (M:Mp) (I:List α->(Nat->Prop)->World->Prop) (Ix:Code->List α->(Nat->Prop)->World->Prop) (V:List α) (K:Nat->Prop) (n:Nat->Prop) (x : α) (w:World):Exit->Go.Act->World->Prop
 | .normal,_,w3=>∃ K',Db M I V K n x w w3 K'
 | .ret,_,w3=>∃ K',Db M (Ix .ret) V K n x w w3 K'
 | .exit id,_,w3=>∃ K',Db M (Ix (.exit id)) V K n x w w3 K'
 | .goto t,_,w3=>∃ K',Db M (Ix (.goto t)) V K n x w w3 K'
 | .panic _,_,_=>False
 | .outgrown,_,_=>False
theorem QC {α:Type} {M:Mp} {g:Operand} {ps:Array Tmp} {assign body:Code} {Q:Exit->Go.Act->World->Prop} {a:Go.Act} {w:World} {gf:Nat} {lb:aO} (hg:a.eval g = .func (.func gf) #[] lb) (eg:∀ args w,(callFunc gf args).run prog w = .ok (.enter gf args) w)
  {A : α->World->aO->Prop} {gv : α->aO->Nat->Prop} {G:List α} {Pre:World->(Nat->Prop)->Prop} (hseq:Yk M gf lb A gv G Pre) (hps:∀ x W args,A x W args->args.size=ps.size) {K0:Nat->Prop} (hpre:∀ W1 K1,Below w.heap.size w W1->(∀ k,K1 k->K0 k\/w.heap.size<=k)->Pre W1 K1) (hi:Inv M w) (hT:Tab w)
  {I:List α->(Nat->Prop)->World->Prop} (hI:Sta M I) {Ix:Code->List α->(Nat->Prop)->World->Prop} (hIx:∀ c,Sta M (Ix c)) (h0:I [] K0 w)
  (ey:∀ (l:Nat) (V:List α) (K:Nat->Prop) (x : α) (args:aO) (W:World) (S:Go.Act->World->Prop),w.heap.size<=l->l<W.heap.size->¬ K l->I V K W->FrK M K0 w W->(∀ k,K k->K0 k\/w.heap.size<=k)->Inv M W->Tab W->V++[x]<+:G->A x W args->(∀ k,gv x args k->w.heap.size<k/\k<W.heap.size/\k≠l/\¬ K k)->
   (∀ a' W',Below W.heap.size W W'->(∀ W2,Turn l W' W2->body.wpIn (FW (some l)) 0 prog (RL M I Ix V K (QD gv x args W.heap.size) x W2) a' W2)->S a' W')->
   assign.wpIn (FW (some l)) 0 prog (Exit.then S (λ_ _ _=>False)) { tmps:=(ps.zip args).foldl (λt (p,v)=>t.setIfInBounds p v) a.tmps,defers:=[] } W)
  (hdone:∀ K W,I G K W->FrK M K0 w W->Inv M W->Tab W->(∀ k,K k->K0 k\/w.heap.size<=k)->W.heap[w.heap.size]? = some (.deferred (some []))->¬ K w.heap.size->Q .normal { a with defers:={ target:=.collected w.heap.size,args:=#[] }::a.defers } W)
  (hstop:∀ c V K W,V<+:G->Ix c V K W->FrK M K0 w W->Inv M W->Tab W->(∀ k,K k->K0 k\/w.heap.size<=k)->W.heap[w.heap.size]? = some (.deferred (some []))->¬ K w.heap.size->c.wp prog Q { a with defers:={ target:=.collected w.heap.size,args:=#[] }::a.defers } W) :
  (Code.rangeFunc g ps assign body).wp prog Q a w:=by
 refine (wpIn_wide (n:=0)).1 (wpIn_rangeFunc λfn hfn=>?_);obtain ⟨rec,hrec⟩:∃ rec:LoopState->Option Code->Loop,rec=λst pe=>{ state:=st,pending:=pe,fn,tmps:=a.tmps,params:=ps,assign,body,defers:=w.heap.size }:=⟨_,rfl⟩
 obtain ⟨W1,hW1⟩:=aA ((w.alloc (.deferred (some []))).alloc (.loop (rec .ready none)))
 have hL1:W1.heap[w.heap.size+1]? = some (.loop (rec .ready none)):=by
  rw [<-hW1]; have:=World.alloc_heap_new (w.alloc (.deferred (some []))) (.loop (rec .ready none)); rwa [World.size_alloc] at this
 have hK1:W1.heap[w.heap.size]? = some (.deferred (some [])):=by
  rw [<-hW1]; exact (Below.heap_alloc _ _ _ (by simp)).trans (World.alloc_heap_new w _)
 have hb1:Below w.heap.size w W1:=by rw [<-hW1]; exact ((Below.refl _ w).alloc aH _).alloc (by simp) _
 have hs1:W1.heap.size=w.heap.size+2:=by rw [<-hW1]; simp
 obtain ⟨D,hD⟩:=aA w.heap.size
 have hout:∀ k,D<=k->M.at_ k=none/\¬ M.ft k:=λk hk=>⟨hi.out (by omega),hi.free (by omega)⟩
 have hz:0<D:=by rw [<-hD]; exact hT.pos
 have ld:=hI.lt _ _ _ h0;refine ⟨w.heap.size+1,[{ target:=.collected w.heap.size,args:=#[] }],W1,{ target:=.fn (.func gf) lb,args:=#[.func (.yield (w.heap.size+1)) #[] #[]] },W1,gf,
  #[.func (.yield (w.heap.size+1)) #[] #[]]++lb,W1,?_,?_,λ_ _=>trivial,?_,λhh=>(by cases hh),?_⟩
 .rw [<-hW1,hrec]; exact run_enterLoop_outer _ _ _ _ _
 .simp only [resolve,hg];simp [go_sem]
 .simp [invoke,go_sem,eg]
 .rw [hD] at hL1 hK1 hb1 hs1 ⊢;simp only [hD] at ey hdone hstop hpre hrec hT;have ui:∀ (I:List α->(Nat->Prop)->World->Prop) (st:LoopState) (pe:Option Code),Sta M I->Sta M (λV K' W=>∃ K,I V K W/\(∀ k,K' k↔K k\/k=D\/k=D+1)/\¬ K D/\¬ K (D+1)/\(∀ k,K k->K0 k\/D<=k)/\W.heap[D+1]? = some (.loop (rec st pe))/\W.heap[D]? = some (.deferred (some []))):=λI st pe hI=>by
   refine ⟨λV K' W W' ⟨K,h1,h2,h3,h4,h5,h6,h7⟩ hs hk=>⟨K,hI.st _ _ _ _ h1 hs λk hk'=>hk k ((h2 k).2 (.inl hk')),h2,h3,h4,h5,(hk _ ((h2 _).2 (.inr (.inr rfl)))).trans h6,(hk _ ((h2 _).2 (.inr (.inl rfl)))).trans h7⟩,λV K' W ⟨K,h1,h2,h3,h4,h5,h6,h7⟩ k hk=>?_⟩;rcases (h2 k).1 hk with h | rfl | rfl
   .exact hI.lt _ _ _ h1 k h
   .exact ⟨(Array.getElem?_eq_some_iff.1 h7).1,hout _ aH⟩
   .exact ⟨(Array.getElem?_eq_some_iff.1 h6).1,hout _ (Nat.le_succ _)⟩
  have Ly:Sta M (λV K' W=>∃ c K,Ix c V K W/\(∀ k,K' k↔K k\/k=D\/k=D+1)/\¬ K D/\¬ K (D+1)/\(∀ k,K k->K0 k\/D<=k)/\W.heap[D+1]? = some (.loop (rec .done (some c)))/\W.heap[D]? = some (.deferred (some []))) :=
   ⟨λV K' W W' ⟨c,h⟩ hs hk=>⟨c,(ui (Ix c) .done (some c) (hIx c)).st V K' W W' h hs hk⟩,λV K' W ⟨c,h⟩=>(ui (Ix c) .done (some c) (hIx c)).lt V K' W h⟩
  have hi1:Inv M W1:=hi.keep hb1.size λk hk=>hb1.block k (by rw [<-hD]; exact hi.lt_ k hk);have hT1:Tab W1:=hT.below hb1 hz;refine callsIn_wide.2 ((hseq (D+1) _ _ (λk=>K0 k\/k=D\/k=D+1) W1 (ui I .ready none hI) Ly (hpre W1 _ hb1 λk hk=>hk.elim Or.inl λh=>.inr (by omega)) hi1 hT1
   ⟨K0,hI.st _ _ _ _ h0 hb1.size λk hk=>hb1.block k (by have:=(ld k hk).1; omega),λk=>Iff.rfl,λh=>by have:=(ld _ h).1; omega,λh=>by have:=(ld _ h).1; omega,λk hk=>.inl hk,hL1,hK1⟩ ?_).mono ?_)
  .-- one round
   rintro V K' x args W ⟨K,hj,lz,qf,i5,hKs,hl,hd⟩ lj sh qi hpf hA hgv;have un:∀ k,gv x args k->D+2<=k:=λk hk=>by have:=(hgv k hk).1; omega
   have hf0:FrK M K0 w W:=⟨lj.os.trans hb1.os,lj.tape.trans hb1.tape,lj.output.trans hb1.output,by have:=lj.size; omega,λk hk hm hn=>by
    have Lz:k<D:=by omega
    rw [lj.block k (by omega) hm (λg=>g.elim hn (by omega)),hb1.block k (by omega)]⟩
   have hlt:D+1<W.heap.size:=(Array.getElem?_eq_some_iff.1 hl).1;have hy:=run_yield (P:=prog) (args:=args) hl (by rw [hrec]; exact hps x W args hA);rw [hrec] at hy;refine ⟨fn,_,assign,body,hy,roundIn_of_wpIn trivial (ey (D+1) V K x args W _ (Nat.le_succ _) hlt i5 hj hf0 hKs sh qi hpf hA (λk hk=>⟨by have:=un k hk; omega,(hgv k hk).2.1,by have:=un k hk; omega,λhkk=>(hgv k hk).2.2 ((lz k).2 (.inl hkk))⟩) λa' W' hb' hbody=>?_)⟩;have hl':W'.heap[D+1]? = some (.loop (rec .ready none)):=(hb'.block _ hlt).trans hl
   have hd':W'.heap[D]? = some (.deferred (some [])):=(hb'.block _ (by omega)).trans hd;refine ⟨_,run_beginRound hl' (by rw [hrec]),?_⟩;have hu2:Rg.Upd W' (D+1) (W'.putObj (D+1) (.loop { rec .ready none with state:=.busy })):=⟨rfl,rfl,rfl,World.putObj_size,λk hk=>World.putObj_heap_other hk⟩
   have hl2:(W'.putObj (D+1) (.loop { rec .ready none with state:=.busy })).heap[D+1]? = some (.loop { rec .ready none with state:=.busy }):=World.putObj_heap_same (Array.getElem?_eq_some_iff.1 hl').1;have hd2:=(hu2.block D (by omega)).trans hd';refine wpIn_mono (hbody _ ⟨hu2,_,hl'⟩) ?_;generalize hW2:W'.putObj (D+1) (.loop { rec .ready none with state:=.busy })=W2 at hu2 hl2 hd2;have fin:∀ (c:Option Code) (I':List α->(Nat->Prop)->World->Prop) (W3:World) (K3:Nat->Prop),Sta M I'->Db M I' V K (QD gv x args W.heap.size) x W2 W3 K3->
     (Instr.endRound (D+1) c).run prog W3 = .ok (.bool c.isNone) (W3.putObj (D+1) (.loop (rec (if c.isNone then .ready else .done) c)))/\
     Db M (λV K' W=>∃ K,I' V K W/\(∀ k,K' k↔K k\/k=D\/k=D+1)/\¬ K D/\¬ K (D+1)/\(∀ k,K k->K0 k\/D<=k)/\W.heap[D+1]? = some (.loop (rec (if c.isNone then .ready else .done) c))/\W.heap[D]? = some (.deferred (some []))) V K' (QD gv x args W.heap.size) x W (W3.putObj (D+1) (.loop (rec (if c.isNone then .ready else .done) c))) (λk=>K3 k\/k=D\/k=D+1):=λc I' W3 K3 hI' h=>by
    have hs2:W2.heap.size=W'.heap.size:=hu2.size;have hs':=hb'.size;have hl3:W3.heap[D+1]? = some (.loop { rec .ready none with state:=.busy }):=(h.f.block _ (by omega) (hout _ (by omega)).1 i5).trans hl2;have hd3:W3.heap[D]? = some (.deferred (some [])):=(h.f.block _ (by omega) (hout _ (by omega)).1 qf).trans hd2;have hr:=run_endRound (P:=prog) c hl3;rw [hrec] at hr ⊢
    have hu3:Rg.Upd W3 (D+1) (W3.putObj (D+1) (.loop { state:=(if c.isNone then .ready else .done),pending:=c,fn,tmps:=a.tmps,params:=ps,assign,body,defers:=D })):=⟨rfl,rfl,rfl,World.putObj_size,λk hk=>World.putObj_heap_other hk⟩
    have hnD:¬ K3 D:=λhk=>(h.sub _ hk).elim qf λg=>g.elim (by omega) λg=>by have:=un _ g; omega
    have C9:¬ K3 (D+1):=λhk=>(h.sub _ hk).elim i5 λg=>g.elim (by omega) λg=>by have:=un _ g; omega
    refine ⟨hr,⟨⟨K3,hI'.st _ _ _ _ h.j (by rw [hu3.size]; exact aH) λk hk=>hu3.block k λe=>C9 (by rw [<-e]; exact hk),λk=>Iff.rfl,hnD,C9,λk hk=>(h.sub k hk).elim (hKs k) λg=>g.elim (by omega) λg=>.inr (by have:=un _ g; omega),World.putObj_heap_same (Array.getElem?_eq_some_iff.1 hl3).1,(hu3.block D (by omega)).trans hd3⟩,λk hk=>?_,?_,h.i.upd hu3 (hout _ (by omega)).2,λj hj=>?_⟩⟩
    .rcases hk with hk | hk
     .exact (h.sub k hk).elim (λg=>.inl ((lz k).2 (.inl g))) .inr
     .exact .inl ((lz k).2 (.inr hk))
    .refine ⟨hu3.os.trans (h.f.os.trans (hu2.os.trans hb'.os)),hu3.tape.trans (h.f.tape.trans (hu2.tape.trans hb'.tape)),hu3.output.trans (h.f.output.trans (hu2.output.trans hb'.output)),by rw [hu3.size]; exact Nat.le_trans (by omega) h.f.size,λk hk hm hn=>?_⟩;have hne:k≠D+1:=λe=>hn ((lz k).2 (.inr (.inr e)));rw [hu3.block k hne,h.f.block k (by omega) hm (λg=>hn ((lz k).2 (.inl g))),hu2.block k hne,hb'.block k hk]
    .rw [World.cell?_of_block (hu3.block 0 (by omega))];exact h.t j hj
   rintro e a3 W3 hp;cases e with
   | normal =>
    obtain ⟨K3,hp⟩:=hp;obtain ⟨h1,h2⟩:=fin none I W3 K3 hI hp;exact ⟨_,_,h1,_,.inl ⟨rfl,h2⟩⟩
   | ret =>
    obtain ⟨K3,hp⟩:=hp;obtain ⟨h1,h2⟩:=fin (some .ret) (Ix .ret) W3 K3 (hIx _) hp;exact ⟨_,_,h1,_,.inr ⟨rfl,⟨_,h2.j⟩,h2.sub,h2.f,h2.i,h2.t⟩⟩
   | exit id =>
    obtain ⟨K3,hp⟩:=hp;obtain ⟨h1,h2⟩:=fin (some (.exit id)) (Ix (.exit id)) W3 K3 (hIx _) hp;exact ⟨_,_,h1,_,.inr ⟨rfl,⟨_,h2.j⟩,h2.sub,h2.f,h2.i,h2.t⟩⟩
   | goto t =>
    obtain ⟨K3,hp⟩:=hp;obtain ⟨h1,h2⟩:=fin (some (.goto t)) (Ix (.goto t)) W3 K3 (hIx _) hp;exact ⟨_,_,h1,_,.inr ⟨rfl,⟨_,h2.j⟩,h2.sub,h2.f,h2.i,h2.t⟩⟩
   | panic ch=>exact hp.elim
   | outgrown=>exact hp.elim
  .-- behind the iterator
   rintro e W2 ⟨⟨v,rfl⟩,V,K',hV,f2,i2,t2,hsub⟩;have key:∀ (c:Option Code) (st:LoopState) (I':List α->(Nat->Prop)->World->Prop),Sta M I'->st ≠ .busy->(∃ K,I' V K W2/\(∀ k,K' k↔K k\/k=D\/k=D+1)/\¬ K D/\¬ K (D+1)/\(∀ k,K k->K0 k\/D<=k)/\W2.heap[D+1]? = some (.loop (rec st c))/\W2.heap[D]? = some (.deferred (some [])))->
     ∃ W4 K,(Instr.endLoop (D+1)).run prog W2 = .ok c W4/\I' V K W4/\FrK M K0 w W4/\Inv M W4/\Tab W4/\(∀ k,K k->K0 k\/D<=k)/\W4.heap[D]? = some (.deferred (some []))/\¬ K D:=λc st I' hI' hst ⟨K,hj,lz,qf,i5,hKs,hl,hd⟩=>by
    have hr:=run_endLoop (P:=prog) hl (by rw [hrec]; exact hst);rw [hrec] at hr;have hu3:Rg.Upd W2 (D+1) (W2.putObj (D+1) (.loop { state:=.exhausted,pending:=c,fn,tmps:=a.tmps,params:=ps,assign,body,defers:=D })):=⟨rfl,rfl,rfl,World.putObj_size,λk hk=>World.putObj_heap_other hk⟩
    refine ⟨_,K,hr,hI'.st _ _ _ _ hj (by rw [hu3.size]; exact aH) (λk hk=>hu3.block k λe=>i5 (by rw [<-e]; exact hk)),?_,i2.upd hu3 (hout _ (by omega)).2,λj hj=>?_,hKs,(hu3.block D (by omega)).trans hd,qf⟩
    .have hs2:=f2.size;refine ⟨hu3.os.trans (f2.os.trans hb1.os),hu3.tape.trans (f2.tape.trans hb1.tape),hu3.output.trans (f2.output.trans hb1.output),by rw [hu3.size]; omega,λk hk hm hn=>?_⟩;have Lz:k<D:=by omega
     rw [hu3.block k (by omega),f2.block k (by omega) hm (λg=>g.elim hn (by omega)),hb1.block k (by omega)]
    .rw [World.cell?_of_block (hu3.block 0 (by omega))];exact t2 j hj
   rcases hV with ⟨rfl,h⟩ | ⟨hpf,c,h⟩
   .obtain ⟨W4,K,hr,g1,g2,g3,g4,g5,g6,g7⟩:=key none .ready I hI (by simp) h;exact ⟨none,W4,hr,hdone K W4 g1 g2 g3 g4 g5 g6 g7⟩
   .obtain ⟨W4,K,hr,g1,g2,g3,g4,g5,g6,g7⟩:=key (some c) .done (Ix c) (hIx c) (by simp) h;exact ⟨some c,W4,hr,(wpIn_wide (n:=0)).2 (hstop c V K W4 hpf g1 g2 g3 g4 g5 g6 g7)⟩
end Tm
end
end Go.Proofs.YtokaiemgjngcoaaGreatDoor
