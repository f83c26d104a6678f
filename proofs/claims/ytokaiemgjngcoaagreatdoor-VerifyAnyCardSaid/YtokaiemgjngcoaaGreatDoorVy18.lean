/-
 The plain answer's Get: seventeen items, a branch; any bytes.
-/
import Derived.Test.YtokaiemgjngcoaaGreatDoorVy17
open Go.Lib (hid)
open Go.Proofs.Tryz
set_option linter.unusedSimpArgs false
set_option linter.unusedVariables false
set_option maxHeartbeats 40000000
set_option maxRecDepth 100000
namespace Go.Proofs.YtokaiemgjngcoaaGreatDoor
variable {j off u us:Nat} {ops:Array Oper} {o:Oper} {w:World} {E R v:aM} {g i r:Bool} {ev:Operand->Value} {k:aN} {t:TypeId} {P:Program}
section
open Go.RowKit
namespace No
open Rl Ni
def rE (xs:List It) (j:Nat):List aM:=(xs.take j).map (λx=>(jw x).1)++List.replicate (16-j) eB
theorem DL {xs:List It} (h:xs.length=17) (hj:j<=16):(rE xs j).length=16:=by
 unfold rE;rw [List.length_append,List.length_map,List.length_take,List.length_replicate,h];omega
theorem Pz {xs:List It} (h:xs.length=17) (hj:j<16) {x:It} (hx:xs[j]? = some x) (c:Nat) (a:aL) (n:Nat):(ndC ⟨3,[],eB,rE xs j⟩ a n c).setIfInBounds (3+j) (.string (jw x).1)=ndC ⟨3,[],eB,rE xs (j+1)⟩ a n c:=by
 have hj':j<xs.length:=by omega
 have e:xs[j]=x:=(List.getElem?_eq_some_iff.1 hx).2;have hk:(rE xs j).set j (jw x).1=rE xs (j+1):=by
  unfold rE;rw [show 16-j=(16-(j+1))+1 by omega,List.replicate_succ,List.take_succ_eq_append_getElem hj',e,List.map_append,List.map_cons,List.map_nil];simp [Nat.min_eq_left (Nat.le_of_lt hj')]
 unfold ndC;rw [<-hk,show 3+j=j+1+1+1 by omega];simp [List.map_set]
theorem Pg (xs:List It):(⟨3,[],eB,rE xs 16⟩:Nd)=brN xs:=by
 unfold rE brN;simp
theorem GY (s:aM) (hs:s.size<=1000000) (x:It) (k:Nat) (hr:bR s.data.toList 0 0 = .ok (x,s.size,k)) (hw:dJ s.data.toList = .ok x) (cY:x.xs.length=17) (hR:∀ k:aM,k.size<=1000000->(k.size<32->k.size<s.size)->ql k) (w:World):Calls prog 25 #[.string s] w (gF w (fE s.data.toList)):=by
 have hsl:s.data.toList.length<=1000000:=by rw [dZ]; omega
 have hm:=JD hsl hw cY;have HG:Hid (fE s.data.toList=if dN bJ (brN x.xs)=true/\gU (brN x.xs)=s.data.toList then some (brN x.xs) else none):=hid (Tf hsl (zM cY) (λM h=>(hm M h).2));have HF:Hid (∀ y,y∈x.xs.take 16->(jw y).2=false->fE s.data.toList=none):=hid (λy hy hf=>by
  cases hg:fE s.data.toList with
  | none=>rfl
  | some M=>exact absurd (((hm M hg).1 y hy).symm.trans hf) (by decide))
 clear hm;obtain ⟨G,mr⟩:=aA (fE s.data.toList)
 rw [mr] at HG HF ⊢;clear mr;have sf:=hid (oN hsl hw);have o7:=hid (λy (hy:y∈x.xs)=>Ll hs hw hy);have fS:Hid (∀ y∈x.xs,∀ (w':World) (A:aL) (N C:Nat),gZ w' y.xs A N C->Calls prog 50 #[.agg #[.bool y.l,.string y.s,.slice A N C]] w' λe w''=>e = .returned (.tuple #[.string (jw y).1,.bool (jw y).2])/\Below w'.heap.size w' w''):=hid (λy hy w' A N C h=>by
  have hl:=o7.out y hy;have hg:=sf.out y hy;exact FL y w' A N C h hg (λ_ hlt=>hR _ (by rw [dM]; omega) (λ_=>by rw [dM]; omega)) (λ_=>hR _ hg.2.2.2 (λ_=>by omega)))
 have hRk:∀ k∈(brN x.xs).ks,ql k:=λk hk=>by
  obtain ⟨y,hy,rfl⟩:=List.mem_map.1 (show k∈(x.xs.take 16).map (λx=>(jw x).1) from hk);have hl:=o7.out y (List.mem_of_mem_take hy);have:=DK hl.2;exact hR _ (by omega) (λ_=>by omega)
 have cl:(brN x.xs).ks.length=16:=zM cY;have fl:=λw' (h:bf w' none 0 0 (brN x.xs).p)=>Br (brN x.xs) none 0 0 cl w' h (Nat.zero_le _) hRk;have kl:=λ(hm:dN bJ (brN x.xs)=true) w' (h:bf w' none 0 0 (brN x.xs).p)=>LC (brN x.xs) none 0 0 cl w' h hm;have hT:(⟨(gU (brN x.xs)).toArray⟩:aM)=s↔gU (brN x.xs)=s.data.toList:=RX;obtain ⟨T,lg⟩:=aA (⟨(gU (brN x.xs)).toArray⟩:aM)
 rw [lg] at hT kl;have HT:=hid hT;clear lg hT;clear hRk hR;obtain ⟨w2,hw2⟩:=ay (w.alloc (.cells (ndC nd0 none 0 0) 67))
 have hs2:w2.heap.size=w.heap.size+1:=by rw [hw2]; simp
 have HO:Hid (dL w2 w.heap.size nd0 none 0 0):=hid (by rw [hw2]; exact Rg.Own.new _ _ _);have HB2:Hid (Below w.heap.size w w2):=hid (by rw [hw2]; exact al1 _ _);have HW:=hid (pQ hs hr w2);have AM:=hid cY;clear hr hw;subst hw2;go_enter func25,ntmps25;go_wp2_with (refine aB (aY _ _ _ w.heap.size rfl rfl) ?_)
 with_reducible refine HW.out.mono ?_
 rintro e w3 ⟨a3,n3,c3,lI,rfl,cL,hb3⟩;rw [hs2] at cL;obtain ⟨du,qi,hO4,hB4,hall⟩:=nL w w3 (HO.out.below hb3) (bst HB2.out hb3) x a3 n3 c3;have eq:n3=x.xs.length:=cL.len.symm;obtain rfl:n3=17:=by omega
 have hm:=cL.max;have hnc:=cL.le;unfold maxLen at hm;have fk:=hid du;have HA:=hid hall;have HI3:=hid cL;have HB3:=hid (bst HB2.out hb3);have hlt3:w.heap.size<w3.heap.size:=(HO.out.below hb3).1;have tU:=(hall _ rfl).2.1;clear hb3 HW cL du hall hO4 hB4 eq hs2 HO HB2 cY;go_wp2_with (first
  | (refine aB (aY _ _ _ (w3.heap.size+1) (by simp) rfl) ?_)
  | (refine aB (bC (vL 3) ?_) ?_; · exact ⟨_,rfl,rfl⟩)
  | (refine bA fk.out rfl ⟨3,[],eB,zks⟩ none 0 0 rfl rfl _ _ rfl rfl rfl rfl ?_))
 obtain ⟨w5,eh⟩:=ay (((w3.alloc (.cells #[.bool x.l,.string x.s,.slice a3 17 c3] 96)).alloc (.cells (ndC nd0 none 0 0) 67)).setRow (w3.heap.size+1) (ndC ⟨3,[],eB,zks⟩ none 0 0))
 obtain ⟨c8,m5,im,hb5,hs5⟩:=HA.out w5 eh;rw [<-eh];clear HA fk eh qi tU;have cf:=hid c8;have iv:=hid im;have al:=hid hb5;have lj:=hid m5;clear c8 im hb5 m5;go_loopw [14] (λi wr=>∃ j:Nat,j<=16/\i = .int .i64 j/\Hid (dL wr (w3.heap.size+1) ⟨3,[],eB,rE x.xs j⟩ none 0 0)/\Hid (Below (w3.heap.size+1) w5 wr)) (λi _=>16-(intOf i).toNat)
 case atStart=>exact ⟨0,Nat.zero_le _,rfl,hid (iv.out),hid aI⟩
 case round =>
  obtain ⟨j,hj,rfl,HN,HB⟩:=hrel;have qu:=hid (al.out.trans (HB.out.mono (Nat.le_succ _)));have e8:=hid (bst HB3.out qu.out);have HOr:Hid (dL wr w.heap.size nd0 none 0 0):=hid (by
   have:=HB.out.block w.heap.size (by omega);exact ⟨aJ cf.out.1 HB.out.size,this.trans cf.out.2⟩)
  have hcr:wr.cell? ⟨w3.heap.size,2,none⟩=some (.slice a3 17 c3):=(Below.cell (p:=⟨w3.heap.size,2,none⟩) HB.out (Nat.lt_succ_self _)).trans lj.out;have qf:=HN.out.1;by_cases hlt:j<16
  .obtain ⟨y,b,off,A,N,C,hy,rfl,hBb,hblt,hL,S3⟩:=tT HI3.out j (by omega);obtain ⟨f0,f1,f2⟩:=hL.stays qu.out hblt;have hmem:y∈x.xs:=List.mem_of_getElem? hy;have my:=fS.out y hmem wr A N C (S3.stays qu.out);have o8:=hid (Pz AM.out hlt hy 0 none 0);have hFn:(jw y).2=false->G=none:=HF.out y (by
    rw [List.mem_iff_getElem?];exact ⟨j,by rw [List.getElem?_take_of_lt hlt]; exact hy⟩)
   obtain ⟨kk,hkk⟩:=aA ((jw y).1)
   obtain ⟨is,his⟩:=aA ((jw y).2)
   rw [hkk] at my o8;rw [his] at my hFn;have HK:=hid my;clear my hkk his hL S3 hmem hy;go_wp2_with fail
   refine HK.out.mono ?_;rintro e w7 ⟨rfl,cH⟩;have mN:=hid (HN.out.below cH);have cN:=hid (HOr.out.below cH);have cI:=hid (bst e8.out cH);have KK:=hid (HB.out.trans (cH.mono (by omega)));have XN:(rE x.xs j).length=16:=DL AM.out hj;have c7:=mG mN.out XN j hlt;have f7:w7.frozen? ⟨w3.heap.size+1,3+j,none⟩=false:=fB mN.out;clear cH HK f0 f1 f2 hcr;cases is with
   | true =>
    go_wp2;go_roundw
    case rel =>
     refine ⟨j+1,by omega,by go_num,hid ?_,hid (KK.out.setCell (by show w3.heap.size+1<=w3.heap.size+1; omega) _)⟩;have h:=aV (o:=3+j) mN.out (.string kk);rw [o8.out] at h;exact h
    case measure=>simp [intOf]; omega
   | false =>
    have yh:Hid (G=none):=hid (hFn (by first | rfl | trivial));clear hFn;go_wp2_with (first
     | (refine aB (bC lY ?_) ?_; · exact ⟨_,rfl,rfl⟩)
     | (refine bA cN.out rfl nd0 none 0 0 rfl rfl _ _ rfl rfl rfl rfl ?_))
    exact bodyPost_ret (dU rfl _ rfl (dG cN.out) rfl) rfl ⟨nd0,none,0,0,false,rfl,.inr ⟨rfl,yh.out⟩,BsF.nil _ _,rfl,bX cI.out aH _⟩
  .obtain rfl:j=16:=by omega
   have yf:Hid (dL wr (w3.heap.size+1) (brN x.xs) none 0 0):=hid (by rw [<-Pg]; exact HN.out);have S4:=qf;clear fS HF HI3 lj al cf iv HB HN qu hcr sf o7;go_wp2_with fail
   obtain ⟨M,hM⟩:=aA (dN bJ (brN x.xs))
   rw [hM] at fl;have kj:=hid fl;clear fl;cases M with
   | false =>
    refine aD (S:=λw'=>SG w.heap.size (w3.heap.size+1) (brN x.xs) none 0 0 w w') (⟨Nat.lt_succ_of_lt hlt3,yf.out.drew,⟨_,rfl,HOr.out.drew⟩,BsF.nil _ _,e8.out.drew⟩) λhld=>?_;refine aj 0 ?_ (hy:=by intro wz hSw; (refine bH hSw.nd cl ?_; exact ⟨_,rfl,rfl⟩));try simp only [Act.put,au]
    refine aj 1 ?_ (hy:=by intro wz hSw; (refine bH hSw.nd cl ?_; exact ⟨_,rfl,rfl⟩));try simp only [Act.put,au]
    refine ak 2 λK hK=>?_;have hbs:=hld.bs.1;go_simp;go_at_call 49
    (with_reducible refine (kj.out _ hbs).mono ?_)
    rintro e s9 ⟨rfl,hbx⟩;refine hK.out _ _ (hld.keep hbx) λhld=>?_;clear hK K hbx;try simp only [Act.put,au]
    refine aj 3 ?_;try simp only [Act.put,au]
    refine Rg.takeL (i:=4) (v:=undef) rfl (by kernel_rfl) (by kernel_rfl) (by kernel_rfl) (λ_ _ _ h=>h) (Or.inr ⟨by rfl,rfl⟩) (by assumption) ?_;try simp only [Act.put,au]
    refine Rg.takeL (i:=5) (v:=undef) rfl (by kernel_rfl) (by kernel_rfl) (by kernel_rfl) (λ_ _ _ h=>h) (Or.inr ⟨by rfl,rfl⟩) (by assumption) ?_;try simp only [Act.put,au]
    refine Rg.takeL (i:=6) (v:=undef) rfl (by kernel_rfl) (by kernel_rfl) (by kernel_rfl) (λ_ _ _ h=>h) (Or.inr ⟨by rfl,rfl⟩) (by assumption) ?_;try simp only [Act.put,au]
    refine Rg.takeL (i:=7) (v:=undef) rfl (by kernel_rfl) (by kernel_rfl) (by kernel_rfl) (λ_ _ _ h=>h) (Or.inr ⟨by rfl,rfl⟩) (by assumption) ?_;try simp only [Act.put,au]
    refine aj 8 ?_;try simp only [Act.put,au]
    refine ak 9 λK hK=>?_;obtain ⟨cs,hcs,hOr⟩:=hld.res;refine Rg.meetStore (by rfl) hOr 67 (ndC (brN x.xs) none 0 0) ⟨_,_,rfl,rfl,rfl⟩ (gH _ _ _ _ cl) (by rw [hcs,dD _ _ _ _ cl]) (jf _ _ _ _) ?_;rintro wz hn hu;refine hK.out _ _ (hld.put (dD _ _ _ _ cl) hn hu aH) λhld=>?_;clear hK K;try simp only [Act.put]
    refine aj 10 ?_;try simp only [Act.put,au]
    refine aC ?_;go_wp2;exact bodyPost_ret (dU rfl _ rfl hn cl) rfl ⟨brN x.xs,none,0,0,false,rfl,.inr ⟨rfl,HG.out.trans (if_neg (λh=>absurd (hM.symm.trans h.1) (by decide)))⟩,hld.bs.weak (by omega),cl,hld.be⟩
   | true =>
    have i9:=hid (kl hM);clear kl;refine aD (S:=λw'=>SG w.heap.size (w3.heap.size+1) (brN x.xs) none 0 0 w w') (⟨Nat.lt_succ_of_lt hlt3,yf.out.drew,⟨_,rfl,HOr.out.drew⟩,BsF.nil _ _,e8.out.drew⟩) λhld=>?_;refine aj 0 ?_ (hy:=by intro wz hSw; (refine bH hSw.nd cl ?_; exact ⟨_,rfl,rfl⟩));try simp only [Act.put,au]
    refine aj 1 ?_ (hy:=by intro wz hSw; (refine bH hSw.nd cl ?_; exact ⟨_,rfl,rfl⟩));try simp only [Act.put,au]
    refine ak 2 λK hK=>?_;have hbs:=hld.bs.1;go_simp;go_at_call 49
    (with_reducible refine (kj.out _ hbs).mono ?_)
    rintro e s9 ⟨rfl,hbx⟩;refine hK.out _ _ (hld.keep hbx) λhld=>?_;clear hK K hbx;try simp only [Act.put,au]
    refine aj 3 ?_;try simp only [Act.put,au]
    refine aj 4 ?_ (hy:=by intro wz hSw; (refine bH hSw.nd cl ?_; exact ⟨_,rfl,rfl⟩));try simp only [Act.put,au]
    refine aj 6 ?_;try simp only [Act.put,au]
    refine ak 5 λK hK=>?_;have hbs:=hld.bs.1;go_simp;go_at_call 37
    (with_reducible refine (i9.out _ hbs).mono ?_)
    rintro e zv ⟨rfl,hbx⟩;refine hK.out _ _ (hld.keep hbx) λhld=>?_;clear hK K hbx;try simp only [Act.put,au]
    refine aj 7 ?_ (hy:=by intro wz hSw; (refine Fg T s ?_; exact ⟨_,_,rfl,rfl,rfl⟩));try simp only [Act.put,au]
    refine aj 8 ?_;try simp only [Act.put,au]
    refine ak 9 λK hK=>?_;obtain ⟨cs,hcs,hOr⟩:=hld.res;refine Rg.meetStore (by rfl) hOr 67 (ndC (brN x.xs) none 0 0) ⟨_,_,rfl,rfl,rfl⟩ (gH _ _ _ _ cl) (by rw [hcs,dD _ _ _ _ cl]) (jf _ _ _ _) ?_;rintro wz hn hu;refine hK.out _ _ (hld.put (dD _ _ _ _ cl) hn hu aH) λhld=>?_;clear hK K;try simp only [Act.put]
    refine aj 10 ?_;try simp only [Act.put,au]
    refine aC ?_;go_wp2;refine bodyPost_ret (dU rfl _ rfl hn cl) rfl ⟨brN x.xs,none,0,0,decide (T=s),rfl,?_,hld.bs.weak (by omega),cl,hld.be⟩;by_cases he:T=s
    .exact .inl ⟨aK he,HG.out.trans (if_pos ⟨hM,HT.out.1 he⟩)⟩
    .exact .inr ⟨decide_eq_false he,HG.out.trans (if_neg (λh=>he (HT.out.2 h.2)))⟩
theorem Nt (s:aM) (hs:s.size<=1000000) (ih:∀ k:aM,k.size<32->k.size<s.size->Fp k):Fp s:=by
 intro w;have hR:∀ k:aM,k.size<=1000000->(k.size<32->k.size<s.size)->ql k:=λk hk h=>Vd k (by omega) (λh32=>ih k h32 (h h32));cases hr:bR s.data.toList 0 0 with
 | error c=>exact QE s hs c hr w
 | ok q =>
  obtain ⟨x,n,k⟩:=q;obtain ⟨p1,p2,_,_⟩:=(props s.data.toList.length).1 _ _ _ _ _ _ aH hr;rw [dZ] at p2;by_cases hn:n<s.size
  .exact MU s hs x n k hr hn w
  .obtain rfl:n=s.size:=by omega
   have hw:=RY hr (by rw [dZ]; omega);by_cases h2:x.xs.length=2
   .by_cases hb:(x.xs.getD 0 it0).s.size=0\/Bad (x.xs.getD 0 it0).s
    .exact QN s hs x k hr hw h2 hb w
    .cases hlf:iC (x.xs.getD 0 it0).s with
     | true=>exact NU s hs x k hr hw h2 hb hlf (by omega) hR w
     | false=>exact Qy s hs x k hr hw h2 hb hlf (by omega) hR w
   .by_cases cY:x.xs.length=17
    .exact GY s hs x k hr hw cY hR w
    .exact QD s hs x k hr hw h2 cY w
theorem Oh (N:Nat) (hN:N<=1000000):∀ s:aM,s.size<=N->Fp s:=by
 induction N using Nat.strongRecOn with
 | ind N ih=>exact λs hs=>Nt s (by omega) (λk _ hk=>ih k.size (by omega) (by omega) k aH)
theorem PN (s:aM) (hs:s.size<=1000000):Fp s:=Oh s.size hs s aH
end No
end
section
open Go.RowKit
namespace Tm
open Tr Ni Pk Ky No Rf Rl
open Sm (Tab)
def sdC (v:aM) (i r:Bool) (u:Nat):aO:=#[.string v,.bool i,.bool r,.int .i64 u]
def sdV:pX->aO
 | (none,u)=>sdC eB false true u
 | (some none,u)=>sdC eB false false u
 | (some (some v),u)=>sdC v true false u
theorem qm (v:aM) (i r:Bool) (u:Nat):(sdC v i r u).all (·.oneCell')=true:=by simp [sdC,Value.oneCell']
theorem oJ:(prog.info? 33).map (·.size)=some 4:=by kernel_rfl
theorem dz (ev:Operand->Value) (o:Oper) (w:World) (b:Nat) (hb:b=w.heap.size) (ho:o.op = .alloc 33):(execOp ev o).run prog w = .ok (.value (.pointer (some ⟨b,0,none⟩))) (w.alloc (.cells (sdC eB false false 0) 33)):=by
 subst hb;unfold execOp;rw [ho];kernel_rfl
theorem bL {rest:List Oper} {act:Go.Act} {Q:Exit->Go.Act->World->Prop} {b:Nat} {cs:aO} (h:Rg.Own w b cs 33) (hs:cs.size=4) (v:aM) (i r:Bool) (u:Nat)
  (hgd:o.guard=none) (x y:Operand) (ho:o.op = .store 33 x y) (hx:act.eval x = .pointer (some ⟨b,0,none⟩)) (hy:act.eval y = .agg (sdC v i r u)) (hd:o.dst=none)
  (hQ:∀ w',Rg.Own w' b (sdC v i r u) 33->Rg.Upd w b w'->wpList prog ops Q rest act w'):wpList prog ops Q (o::rest) act w :=
 wpList_store_rowTo hgd 33 x y ho hd b _ hx hy 33 _ h.2 oJ hs (qm _ _ _ _) (hQ _ ⟨by simp; exact h.1,setRow_heap _ _ _ _ _ _ h.2⟩ (Rg.Upd.set _ _ _))
theorem Lm {b:Nat} (h:Rg.Own w b (sdC v i r u) 33):(loadVar 33 ⟨b,0,none⟩).run prog w = .ok (.agg (sdC v i r u)) w :=
 run_loadVar_row (P:=prog) w b 33 33 (sdC v i r u) (0,0) _ h.2 underlying33 rfl oJ
theorem iA {b:Nat} (h:Rg.Own w b (sdC v i r u) 33) (ho:∃ x,o.op = .load 33 x/\ev x = .pointer (some ⟨b,0,none⟩)):(execOp ev o).run prog w = .ok (.value (.agg (sdC v i r u))) w:=by
 obtain ⟨x,ho,hx⟩:=ho;unfold execOp;simp only [ho,hx,Instr.loadAt,Instr.sureAddr,Sem.run_bind,Sem.run_pure,Result.andThen_ok,Lm h]
theorem wG:prog.built 33 [(2,.bool true)]=some (sdC eB false true 0):=by kernel_rfl
theorem kI (u:Nat):prog.built 33 [(2,.bool true),(3,.int .i64 u)]=some (sdC eB false true u):=by kernel_rfl
theorem nP (u:Nat) (r:Bool):prog.built 33 [(3,.int .i64 u),(2,.bool r)]=some (sdC eB false r u):=by kernel_rfl
theorem jd {fn:Func} {q:Tmp} (hf:fn.results = #[.cell q 33]) (tmps:aO) {b:Nat} (hp:tmps.getD q undef = .pointer (some ⟨b,0,none⟩)) (h:Rg.Own w b (sdC v i r u) 33) :
  (results fn tmps).run prog w = .ok (.agg (sdC v i r u)) w:=by
 have hp':tmps[q]?.getD undef = .pointer (some ⟨b,0,none⟩):=by simpa using hp
 simp [results,hf,hp',asAddr,Lm h]
theorem Rj {l:aN} (hk:k.length=32) (hl:l.length=32) (w:World):(binOp .neq 23 (.agg (Sm.kc k)) (.agg (Sm.kc l))).run prog w = .ok (.bool (!decide (k=l))) w:=by
 rw [run_neq_struct,AX hk hl w];rfl
theorem rC {l:aN} (hk:k.length=32) (hl:l.length=32) (hd:(!decide (k=l))=g) (ho:∃ x y tt,o.op = .binOp .neq 23 x y tt/\ev x = .agg (Sm.kc k)/\ev y = .agg (Sm.kc l)) :
  (execOp ev o).run prog w = .ok (.value (.bool g)) w:=by
 obtain ⟨x,y,tt,ho,hx,hy⟩:=ho;subst hd;unfold execOp;have hg:=Sm.Dl;simp [ho,hx,hy,run_eqGuard_agg,hg,Rj hk hl,Result.andThen]
theorem wm {b:Nat} {cs:aO} (h:Rg.Own w b cs t) (hof:off<cs.size) (x:Bool) (ho:∃ p q,o.op = .store 4 p q/\ev p = .pointer (some ⟨b,off,none⟩)/\ev q = .bool x):(execOp ev o).run prog w = .ok .skip (w.setCell ⟨b,off,none⟩ (.bool x)):=by
 obtain ⟨p,q,ho,hp,hq⟩:=ho;have hc:w.cell? ⟨b,off,none⟩=some cs[off]:=aV h (Array.getElem?_eq_getElem hof);have hz:w.frozen? ⟨b,off,none⟩=false:=fB h;have hst:(Instr.storeAt 4 (.pointer (some ⟨b,off,none⟩)) (.bool x)).run prog w = .ok () (w.setCell ⟨b,off,none⟩ (.bool x)):=by
  simp [go_sem,hc,hz]
 unfold execOp;simp only [ho,hp,hq,Sem.run_bind,Sem.run_pure,Result.andThen_ok,hst]
theorem NI {a:Go.Act} {K:Go.Act->World->Prop} {Q:Exit->Go.Act->World->Prop} (hw:Region.wanted o (yielded ops a.tmps)=true) (w':World)
  (hr:(execOp a.eval o).run P w = .ok .skip w') (h:K (a.put o.dst undef) w'):if Region.wanted o (yielded ops a.tmps)=true then Oper.wp P o a w K Q else K (a.put o.dst undef) w:=by
 rw [if_pos hw];unfold Oper.wp;rw [hr];exact h
theorem iO (N:Nd) (a:aL) (n c:Nat):(ndC N a n c)[1]? = some (.slice a n c):=rfl
theorem DZ (N:Nd) (a:aL) (n c:Nat):(ndC N a n c)[2]? = some (.string N.v):=rfl
theorem sI (N:Nd) (a:aL) (n c:Nat) {i:Nat} (hi:i<16) (hl:N.ks.length=16):(ndC N a n c)[3+i]? = some (.string (N.ks.getD i eB)):=by
 have h:i<N.ks.length:=by omega
 unfold ndC;simp [List.getD,h,Nat.add_comm 3 i]
theorem mM {l:List aM} {s:Nat} {q:Pa} {b:Bool} {N:Nd} (hg:fE E.data.toList=some N) (hr:¬ (b=true/\N.kd≠3)) {q2:Pa} (ho:onward N q=(R,q2)) :
  jc l (s+1) E q us b=if R.size=0 then (if us≠l.length then none else some (if N.kd=1/\N.p=q2 then some N.v else none),us) else
   if R.size<32 then jc l s R q2 us (decide (N.kd=2)) else
   if us<l.length/\(l.getD us eB).size≠0/\ofP (l.getD us eB)=R then jc l s (l.getD us eB) q2 (us+1) (decide (N.kd=2)) else (none,us):=by
 conv=>lhs; unfold jc
 rw [hg];dsimp only;rw [if_neg hr,ho]
theorem Cm {b:Nat} {cs:aO} (h:Rg.Own w b cs t) (hof:off<cs.size) (x:aM) (ho:∃ p q,o.op = .store 9 p q/\ev p = .pointer (some ⟨b,off,none⟩)/\ev q = .string x):(execOp ev o).run prog w = .ok .skip (w.setCell ⟨b,off,none⟩ (.string x)):=by
 obtain ⟨p,q,ho,hp,hq⟩:=ho;have hc:w.cell? ⟨b,off,none⟩=some cs[off]:=aV h (Array.getElem?_eq_getElem hof);have hz:w.frozen? ⟨b,off,none⟩=false:=fB h;have hst:(Instr.storeAt 9 (.pointer (some ⟨b,off,none⟩)) (.string x)).run prog w = .ok () (w.setCell ⟨b,off,none⟩ (.string x)):=by
  simp [go_sem,hc,hz]
 unfold execOp;simp only [ho,hp,hq,Sem.run_bind,Sem.run_pure,Result.andThen_ok,hst]
theorem rX {rest:List Oper} {a:Go.Act} {Q:Exit->Go.Act->World->Prop} (hgd:o.guard=none) (w':World)
  (hr:(execOp a.eval o).run P w = .ok .skip w') (h:wpList P ops Q rest (a.put o.dst undef) w'):wpList P ops Q (o::rest) a w :=
 wpList_plain hgd λK hK=>by
  unfold Oper.wp;rw [hr];exact hK _ _ h
theorem SN {s:aN} (hs:s.length<=4294967296) {n:Nd} (h:fE s=some n):(n.kd=1\/n.kd=2\/n.kd=3)/\n.ks.length=16/\n.p.length<=64/\(n.kd=2->(n.ks.getD 0 eB).size≠0)/\∀ k∈n.ks,k.size<=900000:=by
 obtain ⟨h1,h2,h3⟩:=FH hs h;refine ⟨?_,h1,?_,λe=>?_,λk hk=>?_⟩
 .rcases fM h1 h2 with ⟨e,_⟩ | ⟨e,_⟩ | ⟨e,_⟩
  .exact .inl e
  .exact .inr (.inl e)
  .exact .inr (.inr e)
 .unfold dN at h2;simp only [Bool.and_eq_true,decide_eq_true_eq] at h2;exact h2.1.1
 .rcases fM h1 h2 with ⟨e1,_⟩ | ⟨_,g⟩ | ⟨e1,_⟩
  .rw [e1] at e; exact absurd e (by decide)
  .exact g.2.2.2.1
  .rw [e1] at e; exact absurd e (by decide)
 .rcases h3 k hk with hp | ⟨h4,_⟩
  .rcases Rf.jV hp with e | e <;> omega
  .omega
end Tm
end
section
open Go.RowKit
namespace Tm
open Tr Ni Pk Ky No
open Rl (CJ Ay xV)
def Py (w:World) (b o:Nat) (N:Nd) (h:Hdl):Prop:=w.rangeAt b o (ndL N h)
theorem Py.below {w':World} {b o:Nat} {N:Nd} {h:Hdl} (g:Py w b o N h) (hb:Below w.heap.size w w'):Py w' b o N h:=λj v hv=>aX hb (g j v hv)
theorem Iq {b:Nat} {N:Nd} {h:Hdl} (hl:N.ks.length=16) (g:Py w b off N h) (ho:∃ y,o.op = .load 67 y/\ev y = .pointer (some ⟨b,off,none⟩)) :
  (execOp ev o).run prog w = .ok (.value (.agg (ndC N h.1 h.2.1 h.2.2))) w:=by
 obtain ⟨y,ho,hx⟩:=ho;have hl2:=run_loadAt_mid (P:=prog) w b off 67 (ndL N h) _ g underlying67 rfl (by rw [vg hl]; exact Dx);unfold execOp;simp only [ho,hx,Sem.run_bind,Sem.run_pure,Result.andThen_ok,hl2];rfl
end Tm
end
section
open Go.RowKit
namespace Tm
open Tr Ni Pk
def lF:Option (Option aM)->Ending
 | none=>.panicked [fT 8]
 | some none=>.panicked [fT 7]
 | some (some v)=>.returned (.string v)
def Xk (t:T):Prop:=∀ (M:Mp) (w:World) (p:aL) (a:aL) (n c:Nat) (way:Pa),Inv M w->IsT M p t->bf w a n c way->Tr.Good t way.length->Nib way->way.length<=64->
 Calls prog 55 #[.agg #[.pointer p],.slice a n c] w λe w'=>e=lF (Tr.get t way)/\Below w.heap.size w w'
theorem Rp (M:Mp) (a:aL) (n c:Nat) (w:World) (hi:Inv M w):Calls prog 55 #[.agg #[.pointer none],.slice a n c] w λe w'=>e = .panicked [fT 7]/\Below w.heap.size w w':=by
 have h0:=fU w none;have HK:=hid (eZ M none .nil (w.alloc (.cells #[.pointer none] 46)) (hi.below (al1 _ _)) rfl);clear hi;go_enter func55,ntmps55;go_wp2_with (refine aB (aW h0 ⟨_,rfl,rfl⟩) ?_)
 refine HK.out.mono ?_;rintro e w3 ⟨rfl,hb3⟩;have HB:=hid (bst (al1 _ _) hb3);unfold fI;clear h0 hb3 HK;go_wp2;simp +zetaDelta [bodyPost,Exit.then,fT];exact HB.out
theorem MO (M:Mp) (b:Nat) (r:aM) (hm:M.at_ b=some (.stub r)) (a:aL) (n c:Nat) (w:World) (hi:Inv M w):Calls prog 55 #[.agg #[.pointer (some ⟨b,0,none⟩)],.slice a n c] w λe w'=>e = .panicked [fT 8]/\Below w.heap.size w w':=by
 have h0:=fU w (some ⟨b,0,none⟩);have HK:=hid (eZ M _ _ (w.alloc (.cells #[.pointer (some ⟨b,0,none⟩)] 46)) (hi.below (al1 _ _)) (jZ (w:=w) hi hm));clear hi hm;go_enter func55,ntmps55;go_wp2_with (refine aB (aW h0 ⟨_,rfl,rfl⟩) ?_)
 refine HK.out.mono ?_;rintro e w3 ⟨rfl,hb3⟩;have HB:=hid (bst (al1 _ _) hb3);unfold fI;clear h0 hb3 HK;go_wp2;simp +zetaDelta [bodyPost,Exit.then,fT];exact HB.out
theorem Ou (M:Mp) (b:Nat) (q:Pa) (u:aM) (hm:M.at_ b=some (.leaf q u)) (a:aL) (n c:Nat) (way:Pa) (w:World) (hi:Inv M w) (hB:bf w a n c way) (hl:q.length=way.length) (h64:way.length<=64) :
  Calls prog 55 #[.agg #[.pointer (some ⟨b,0,none⟩)],.slice a n c] w λe w'=>e=lF (Tr.get (.leaf q u) way)/\Below w.heap.size w w':=by
 have h0:=fU w (some ⟨b,0,none⟩);obtain ⟨w1,hw1⟩:=ay (w.alloc (.cells #[.pointer (some ⟨b,0,none⟩)] 46))
 have hb1:Below w.heap.size w w1:=by rw [hw1]; exact al1 _ _
 have hi1:=hi.below hb1;have hn:=hB.len;rw [<-hw1] at h0;have HK:=hid (eZ M _ _ w1 hi1 (jZ hi1 hm));have c2:w1.cell? ⟨b,2,none⟩=some (.string u):=hi1.val hm;have H3:Hid (∀ w3,Below w1.heap.size w1 w3->w3.cell? ⟨w.heap.size,0,none⟩=some (.pointer (some ⟨b,0,none⟩))/\Calls prog 89 #[.agg #[.pointer (some ⟨b,0,none⟩)],.slice a n c] w3 (λe w'=>e=(if q=way then .returned (.tuple #[]) else .panicked [fT 7])/\Below w3.heap.size w3 w')/\
   ∀ w4,Below w3.heap.size w3 w4->w4.cell? ⟨w.heap.size,0,none⟩=some (.pointer (some ⟨b,0,none⟩))/\w4.cell? ⟨b,2,none⟩=some (.string u)/\Below w.heap.size w w4):=hid (λw3 hb3 =>
  ⟨aX hb3 h0,Ev M b _ hm a n c way w3 (hi1.below hb3) (hB.below (bst hb1 hb3)) (by rw [<-hn]; exact hl) (by omega),λw4 hb4=>⟨aX hb4 (aX hb3 h0),aX hb4 (aX hb3 c2),bst (bst hb1 hb3) hb4⟩⟩)
 have hg:Tr.get (.leaf q u) way=some (if q=way then some u else none):=rfl;rw [hg];clear hg hi hi1 hb1 hn c2 hl hm hB;subst hw1;by_cases e:q=way
 .simp only [if_pos e] at H3 ⊢;clear e;go_enter func55,ntmps55;go_wp2_with (refine aB (aW h0 ⟨_,rfl,rfl⟩) ?_)
  refine HK.out.mono ?_;rintro e w3 ⟨rfl,hb3⟩;obtain ⟨d0,HC,H4⟩:=H3.out w3 hb3;replace HC:=hid HC;replace H4:=hid H4;unfold fI;clear h0 hb3 HK H3;go_wp2_with (refine aB (aW d0 ⟨_,rfl,rfl⟩) ?_)
  refine HC.out.mono ?_;rintro e w4 ⟨rfl,hb4⟩;obtain ⟨e0,e2,HB⟩:=H4.out w4 hb4;replace HB:=hid HB;clear hb4 H4 d0 HC;go_wp2;go_ret;exact ⟨rfl,HB.out⟩
 .simp only [if_neg e] at H3 ⊢;clear e;go_enter func55,ntmps55;go_wp2_with (refine aB (aW h0 ⟨_,rfl,rfl⟩) ?_)
  refine HK.out.mono ?_;rintro e w3 ⟨rfl,hb3⟩;obtain ⟨d0,HC,H4⟩:=H3.out w3 hb3;replace HC:=hid HC;replace H4:=hid H4;unfold fI;clear h0 hb3 HK H3;go_wp2_with (refine aB (aW d0 ⟨_,rfl,rfl⟩) ?_)
  refine HC.out.mono ?_;rintro e w4 ⟨rfl,hb4⟩;obtain ⟨e0,e2,HB⟩:=H4.out w4 hb4;replace HB:=hid HB;clear hb4 H4 d0 HC;go_wp2;simp +zetaDelta [bodyPost,Exit.then,fT,lF];exact HB.out
theorem UE (ks:Fin 16->T) (M:Mp) (b:Nat) (hm:M.at_ b=some (.br ks)) (w:World) (hi:Inv M w) (wa:aL) (wn wc:Nat) (c0:UInt8) (r:Pa) (hW:bf w wa wn wc (c0::r)) (hc0:c0.toNat<16) (hlen:(c0::r).length<=64) (g:Option (Option aM))
  (ih:∀ w' p a n c,Inv M w'->IsT M p (ks (nb c0))->bf w' a n c r->Calls prog 55 #[.agg #[.pointer p],.slice a n c] w' (λe w''=>e=lF g/\Below w'.heap.size w' w'')) :
  Calls prog 55 #[.agg #[.pointer (some ⟨b,0,none⟩)],.slice wa wn wc] w (λe w'=>e=lF g/\Below w.heap.size w w'):=by
 have h0:=fU w (some ⟨b,0,none⟩);obtain ⟨w1,hw1⟩:=ay (w.alloc (.cells #[.pointer (some ⟨b,0,none⟩)] 46))
 have hb1:Below w.heap.size w w1:=by rw [hw1]; exact al1 _ _
 have hi1:=hi.below hb1;rw [<-hw1] at h0;have hwl:(c0::r).length=wn:=hW.len;have AR:r.length+1=wn:=by rw [<-hwl]; rfl
 have HK:=hid (eZ M _ _ w1 hi1 (jZ hi1 hm));obtain ⟨ka,kn,kc,c3,hKs⟩:=hi1.kids hm;have hkn:kn=16:=by rw [<-hKs.len]; exact gD ks
 subst hkn;have hnx:((nb c0).val:Nat)=c0.toNat:=Nat.mod_eq_of_lt hc0;obtain ⟨kb,ko,p0,rfl,eW,ix,hk0,hT0⟩:=hKs.at' c0.toNat hc0;have cz:IsT M p0 (ks (nb c0)):=by
  rw [<-hnx,kM] at hT0;exact hT0
 have hkc:=hKs.1;have hkm:=hKs.2.1;unfold maxLen at hkm;have hx16:c0.toNat<16:=hc0;have hxi:((c0.toNat:Nat):Int)<16:=by omega
 have HT:Hid (∀ w3,Below w1.heap.size w1 w3->w3.cell? ⟨w.heap.size,0,none⟩=some (.pointer (some ⟨b,0,none⟩))/\Calls prog 84 #[.slice wa wn wc] w3 (λe w'=>e = .returned (.tuple #[.int .u8 c0.toNat,.slice (eX wa wc 1) (wn-1) (wc-1)])/\Below w3.heap.size w3 w')/\
   ∀ w4,Below w3.heap.size w3 w4->(w4.cell? ⟨w.heap.size,0,none⟩=some (.pointer (some ⟨b,0,none⟩))/\w4.cell? ⟨b,3,none⟩=some (.slice (some ⟨kb,ko,none⟩) 16 kc)/\w4.cell? ⟨kb,ko+c0.toNat,none⟩=some (.pointer p0))/\
   Calls prog 55 #[.agg #[.pointer p0],.slice (eX wa wc 1) (wn-1) (wc-1)] w4 (λe w''=>e=lF g/\Below w4.heap.size w4 w'')/\∀ w5,Below w4.heap.size w4 w5->Below w.heap.size w w5):=hid (λw3 hb3 =>
  ⟨aX hb3 h0,lC wa wn wc (c0::r) (by omega) w3 (hW.below (bst hb1 hb3)),λw4 hb4=>⟨⟨aX hb4 (aX hb3 h0),aX hb4 (aX hb3 c3),aX hb4 (aX hb3 hk0)⟩,(by
   have hB:=bst hb1 (bst hb3 hb4);refine ih w4 p0 _ _ _ (hi.below hB) cz ?_;exact sJ (hW.below hB) 1 (by omega)),λw5 hb5=>bst (bst (bst hb1 hb3) hb4) hb5⟩⟩)
 clear hi hi1 hb1 hm hW hwl hKs hT0 cz c3 hk0 ih;subst hw1
 match g with
 | none | some none =>
  go_enter func55,ntmps55;go_wp2_with (refine aB (aW h0 ⟨_,rfl,rfl⟩) ?_)
  refine HK.out.mono ?_;rintro e w3 ⟨rfl,hb3⟩;obtain ⟨d0',ia,H4⟩:=HT.out w3 hb3;replace ia:=hid ia;replace H4:=hid H4;unfold fI;clear hb3 HT HK h0 d0';go_wp2_with fail
  refine ia.out.mono ?_;rintro e w4 ⟨rfl,hb4⟩;obtain ⟨⟨d0,d3,dk⟩,HC,HB⟩:=H4.out w4 hb4;replace HC:=hid HC;replace HB:=hid HB;clear hb4 H4 ia;go_wp2_with (refine aB (aW dk ⟨_,rfl,rfl⟩) ?_)
  refine HC.out.mono ?_;rintro e w5 ⟨rfl,hb5⟩;have al:=hid (HB.out w5 hb5);clear hb5 HB HC;unfold lF;go_wp2;simp +zetaDelta [bodyPost,Exit.then];exact ⟨rfl,al.out⟩
 | some (some v) =>
  go_enter func55,ntmps55;go_wp2_with (refine aB (aW h0 ⟨_,rfl,rfl⟩) ?_)
  refine HK.out.mono ?_;rintro e w3 ⟨rfl,hb3⟩;obtain ⟨d0',ia,H4⟩:=HT.out w3 hb3;replace ia:=hid ia;replace H4:=hid H4;unfold fI;clear hb3 HT HK h0 d0';go_wp2_with fail
  refine ia.out.mono ?_;rintro e w4 ⟨rfl,hb4⟩;obtain ⟨⟨d0,d3,dk⟩,HC,HB⟩:=H4.out w4 hb4;replace HC:=hid HC;replace HB:=hid HB;clear hb4 H4 ia;go_wp2_with (refine aB (aW dk ⟨_,rfl,rfl⟩) ?_)
  refine HC.out.mono ?_;rintro e w5 ⟨rfl,hb5⟩;have al:=hid (HB.out w5 hb5);clear hb5 HB HC;unfold lF;go_wp2;go_ret;exact ⟨rfl,al.out⟩
theorem QT (q:Pa) (s:T) (M:Mp) (b:Nat) (hm:M.at_ b=some (.ext q s)) (w:World) (hi:Inv M w) (wa:aL) (wn wc:Nat) (way:Pa) (hW:bf w wa wn wc way) (hlen:way.length<=64) (hle:q.length<=way.length) (h:q<+:way) (g:Option (Option aM))
  (ih:∀ w' p a n c,Inv M w'->IsT M p s->bf w' a n c (way.drop q.length)->Calls prog 55 #[.agg #[.pointer p],.slice a n c] w' (λe w''=>e=lF g/\Below w'.heap.size w' w'')) :
  Calls prog 55 #[.agg #[.pointer (some ⟨b,0,none⟩)],.slice wa wn wc] w (λe w'=>e=lF g/\Below w.heap.size w w'):=by
  have h0:=fU w (some ⟨b,0,none⟩);obtain ⟨w1,hw1⟩:=ay (w.alloc (.cells #[.pointer (some ⟨b,0,none⟩)] 46))
  have hb1:Below w.heap.size w w1:=by rw [hw1]; exact al1 _ _
  have hi1:=hi.below hb1;rw [<-hw1] at h0;have hwl:way.length=wn:=hW.len;have HK:=hid (eZ M _ _ w1 hi1 (jZ hi1 hm));obtain ⟨ka,kn,kc,c3,hKs⟩:=hi1.kids hm;obtain ⟨kb,ko,p0,rfl,eW,ix,hk0,hT0⟩:=hKs.at' 0 (by rw [<-hKs.len]; exact Nat.one_pos);have hkn:kn=1:=hKs.len.symm;have hkc:=hKs.1;have hkm:=hKs.2.1;unfold maxLen at hkm;rw [Nat.add_zero] at hk0;have cz:IsT M p0 s:=hT0
  have HT:Hid (∀ w3,Below w1.heap.size w1 w3->(w3.cell? ⟨w.heap.size,0,none⟩=some (.pointer (some ⟨b,0,none⟩))/\w3.cell? ⟨b,3,none⟩=some (.slice (some ⟨kb,ko,none⟩) kn kc)/\w3.cell? ⟨kb,ko,none⟩=some (.pointer p0))/\
    (∀ wx,Below w3.heap.size w3 wx->Calls prog 88 #[.agg #[.pointer (some ⟨b,0,none⟩)],.slice wa wn wc] wx (λe w'=>e = .returned (.slice (eX wa wc q.length) (wn-q.length) (wc-q.length))/\Below wx.heap.size wx w'))/\(∀ wx,Below w3.heap.size w3 wx->Calls prog 55 #[.agg #[.pointer p0],.slice (eX wa wc q.length) (wn-q.length) (wc-q.length)] wx (λe w''=>e=lF g/\Below wx.heap.size wx w''))/\∀ wx,Below w3.heap.size w3 wx->Below w.heap.size w wx):=hid (λw3 hb3 =>
   ⟨⟨aX hb3 h0,aX hb3 c3,aX hb3 hk0⟩,λwx hbx=>(by
    have:=zD M b _ hm wa wn wc way wx (hi1.below (bst hb3 hbx)) (hW.below (bst (bst hb1 hb3) hbx)) (by rw [<-hwl]; exact hle) (by omega);rw [show (dA (.ext q s))=q from rfl,if_pos h] at this;exact this),λwx hbx=>(by
     have hB:=bst (bst hb1 hb3) hbx;exact ih wx p0 _ _ _ (hi.below hB) cz (sJ (hW.below hB) _ (by rw [<-hwl]; exact hle))),λwx hbx=>bst (bst hb1 hb3) hbx⟩)
  clear hi hi1 hb1 hm hW hwl hKs hT0 cz c3 hk0 ih;subst hw1
  match g with
  | none | some none =>
  go_enter func55,ntmps55;go_wp2_with (refine aB (aW h0 ⟨_,rfl,rfl⟩) ?_)
  refine HK.out.mono ?_;rintro e w3 ⟨rfl,hb3⟩;obtain ⟨⟨d0,d3,dk⟩,HP,km,cr⟩:=HT.out w3 hb3;replace HP:=hid HP;replace km:=hid km;replace cr:=hid cr;unfold fI;clear hb3 HT HK h0;go_wp2_with fail
  refine wp_region_held_drew (S:=λw'=>Below w3.heap.size w3 w') (by kernel_rfl) ((below_drewN aI 1)) (λhld=>?_);refine aj 0 ?_;try simp only [Act.put,au]
  refine aF 1 (λwz hSw=>aX hSw d0) ?_;try simp only [Act.put,au]
  refine aj 2 ?_;try simp only [Act.put,au]
  refine aj 3 ?_;try simp only [Act.put,au]
  refine aF 4 (λwz hSw=>aX hSw d3) ?_;try simp only [Act.put,au]
  refine aj 5 ?_;try simp only [Act.put,au]
  refine aj 6 ?_ (hy:=by intro wz hSw; (refine aW (aX hSw dk) ?_; exact ⟨_,rfl,rfl⟩));try simp only [Act.put,au]
  refine aj 7 ?_ (hy:=by intro wz hSw; (refine aW (aX hSw d0) ?_; exact ⟨_,rfl,rfl⟩));try simp only [Act.put,au]
  refine aj 8 ?_;try simp only [Act.put,au]
  refine ak 9 λK hK=>?_;go_simp;go_at_call 88
  (with_reducible refine (HP.out w3.drew (below_drewN aI 1)).mono ?_)
  rintro e w5 ⟨rfl,hb5⟩;have al:Hid (Below w3.heap.size w3 w5):=hid (bst (below_drewN aI 1) hb5);clear hb5;refine hK.out _ _ (al.out) λhld=>?_;clear hK K;try simp only [Act.put,au]
  refine ak 10 λK hK=>?_;go_simp;go_at_call 55
  (with_reducible refine (km.out w5 al.out).mono ?_)
  rintro e w6 ⟨rfl,hb6⟩;have bd:Hid (Below w3.heap.size w3 w6):=hid (bst al.out hb6);clear hb6;simp +zetaDelta [bodyPost,Exit.then,lF];exact cr.out w6 bd.out
  | some (some v) =>
  go_enter func55,ntmps55;go_wp2_with (refine aB (aW h0 ⟨_,rfl,rfl⟩) ?_)
  refine HK.out.mono ?_;rintro e w3 ⟨rfl,hb3⟩;obtain ⟨⟨d0,d3,dk⟩,HP,km,cr⟩:=HT.out w3 hb3;replace HP:=hid HP;replace km:=hid km;replace cr:=hid cr;unfold fI;clear hb3 HT HK h0;go_wp2_with fail
  refine aD (S:=λw'=>Below w3.heap.size w3 w') ((below_drewN aI 1)) λhld=>?_;refine aj 0 ?_;try simp only [Act.put,au]
  refine aF 1 (λwz hSw=>aX hSw d0) ?_;try simp only [Act.put,au]
  refine aj 2 ?_;try simp only [Act.put,au]
  refine aj 3 ?_;try simp only [Act.put,au]
  refine aF 4 (λwz hSw=>aX hSw d3) ?_;try simp only [Act.put,au]
  refine aj 5 ?_;try simp only [Act.put,au]
  refine aj 6 ?_ (hy:=by intro wz hSw; (refine aW (aX hSw dk) ?_; exact ⟨_,rfl,rfl⟩));try simp only [Act.put,au]
  refine aj 7 ?_ (hy:=by intro wz hSw; (refine aW (aX hSw d0) ?_; exact ⟨_,rfl,rfl⟩));try simp only [Act.put,au]
  refine aj 8 ?_;try simp only [Act.put,au]
  refine ak 9 λK hK=>?_;go_simp;go_at_call 88
  (with_reducible refine (HP.out w3.drew (below_drewN aI 1)).mono ?_)
  rintro e w5 ⟨rfl,hb5⟩;have al:Hid (Below w3.heap.size w3 w5):=hid (bst (below_drewN aI 1) hb5);clear hb5;refine hK.out _ _ (al.out) λhld=>?_;clear hK K;try simp only [Act.put,au]
  refine ak 10 λK hK=>?_;go_simp;go_at_call 55
  (with_reducible refine (km.out w5 al.out).mono ?_)
  rintro e w6 ⟨rfl,hb6⟩;have bd:Hid (Below w3.heap.size w3 w6):=hid (bst al.out hb6);clear hb6;refine hK.out _ _ (bd.out) λhld=>?_;clear hK K;try simp only [Act.put,au]
  refine aj 11 ?_;try simp only [Act.put,au]
  refine aC ?_;go_wp2;go_ret;exact ⟨rfl,cr.out w6 bd.out⟩
theorem Gb (q:Pa) (s:T) (M:Mp) (b:Nat) (hm:M.at_ b=some (.ext q s)) (w:World) (hi:Inv M w) (wa:aL) (wn wc:Nat) (way:Pa) (hW:bf w wa wn wc way) (hlen:way.length<=64) (hle:q.length<=way.length) (h:¬ q<+:way) :
  Calls prog 55 #[.agg #[.pointer (some ⟨b,0,none⟩)],.slice wa wn wc] w (λe w'=>e = .panicked [fT 7]/\Below w.heap.size w w'):=by
  have h0:=fU w (some ⟨b,0,none⟩);obtain ⟨w1,hw1⟩:=ay (w.alloc (.cells #[.pointer (some ⟨b,0,none⟩)] 46))
  have hb1:Below w.heap.size w w1:=by rw [hw1]; exact al1 _ _
  have hi1:=hi.below hb1;rw [<-hw1] at h0;have hwl:way.length=wn:=hW.len;have HK:=hid (eZ M _ _ w1 hi1 (jZ hi1 hm));obtain ⟨ka,kn,kc,c3,hKs⟩:=hi1.kids hm;obtain ⟨kb,ko,p0,rfl,eW,ix,hk0,hT0⟩:=hKs.at' 0 (by rw [<-hKs.len]; exact Nat.one_pos);have hkn:kn=1:=hKs.len.symm;have hkc:=hKs.1;have hkm:=hKs.2.1;unfold maxLen at hkm;rw [Nat.add_zero] at hk0;have cz:IsT M p0 s:=hT0
  have HT:Hid (∀ w3,Below w1.heap.size w1 w3->(w3.cell? ⟨w.heap.size,0,none⟩=some (.pointer (some ⟨b,0,none⟩))/\w3.cell? ⟨b,3,none⟩=some (.slice (some ⟨kb,ko,none⟩) kn kc)/\w3.cell? ⟨kb,ko,none⟩=some (.pointer p0))/\
    (∀ wx,Below w3.heap.size w3 wx->Calls prog 88 #[.agg #[.pointer (some ⟨b,0,none⟩)],.slice wa wn wc] wx (λe w'=>e = .panicked [fT 7]/\Below wx.heap.size wx w'))/\(∀ wx,Below w3.heap.size w3 wx->True)/\∀ wx,Below w3.heap.size w3 wx->Below w.heap.size w wx):=hid (λw3 hb3 =>
   ⟨⟨aX hb3 h0,aX hb3 c3,aX hb3 hk0⟩,λwx hbx=>(by
    have:=zD M b _ hm wa wn wc way wx (hi1.below (bst hb3 hbx)) (hW.below (bst (bst hb1 hb3) hbx)) (by rw [<-hwl]; exact hle) (by omega);rw [show (dA (.ext q s))=q from rfl,if_neg h] at this;exact this),λwx hbx=>trivial,λwx hbx=>bst (bst hb1 hb3) hbx⟩)
  clear hi hi1 hb1 hm hW hwl hKs hT0 cz c3 hk0 ;subst hw1;go_enter func55,ntmps55;go_wp2_with (refine aB (aW h0 ⟨_,rfl,rfl⟩) ?_)
  refine HK.out.mono ?_;rintro e w3 ⟨rfl,hb3⟩;obtain ⟨⟨d0,d3,dk⟩,HP,km,cr⟩:=HT.out w3 hb3;replace HP:=hid HP;replace km:=hid km;replace cr:=hid cr;unfold fI;clear hb3 HT HK h0;go_wp2_with fail
  refine wp_region_held_drew (S:=λw'=>Below w3.heap.size w3 w') (by kernel_rfl) ((below_drewN aI 1)) (λhld=>?_);refine aj 0 ?_;try simp only [Act.put,au]
  refine aF 1 (λwz hSw=>aX hSw d0) ?_;try simp only [Act.put,au]
  refine aj 2 ?_;try simp only [Act.put,au]
  refine aj 3 ?_;try simp only [Act.put,au]
  refine aF 4 (λwz hSw=>aX hSw d3) ?_;try simp only [Act.put,au]
  refine aj 5 ?_;try simp only [Act.put,au]
  refine aj 6 ?_ (hy:=by intro wz hSw; (refine aW (aX hSw dk) ?_; exact ⟨_,rfl,rfl⟩));try simp only [Act.put,au]
  refine aj 7 ?_ (hy:=by intro wz hSw; (refine aW (aX hSw d0) ?_; exact ⟨_,rfl,rfl⟩));try simp only [Act.put,au]
  refine aj 8 ?_;try simp only [Act.put,au]
  refine ak 9 λK hK=>?_;go_simp;go_at_call 88
  (with_reducible refine (HP.out w3.drew (below_drewN aI 1)).mono ?_)
  rintro e w5 ⟨rfl,hb5⟩;have al:Hid (Below w3.heap.size w3 w5):=hid (bst (below_drewN aI 1) hb5);clear hb5;simp +zetaDelta [bodyPost,Exit.then];exact cr.out w5 al.out
theorem TS (t:T):Xk t:=by
 induction t with
 | nil =>
  intro M w p a n c way hi ht hW hg hn hl;obtain rfl:p=none:=ht.vG.2 rfl;exact Rp M a n c w hi
 | stub r =>
  intro M w p a n c way hi ht hW hg hn hl;obtain ⟨b,rfl,hm⟩:=ht.at_ (λe=>by cases e);exact MO M b r hm a n c w hi
 | leaf q u =>
  intro M w p a n c way hi ht hW hg hn hl;obtain ⟨b,rfl,hm⟩:=ht.at_ (λe=>by cases e);exact Ou M b q u hm a n c way w hi hW hg.1 hl
 | ext q s ih =>
  intro M w p a n c way hi ht hW hg hn hl;obtain ⟨b,rfl,hm⟩:=ht.at_ (λe=>by cases e);obtain ⟨g1,g2,g3,g4,g5⟩:=hg;by_cases e:q<+:way
  .have hgs:Tr.Good s (way.drop q.length).length:=by rw [List.length_drop]; exact g5
   have hget:Tr.get (.ext q s) way=Tr.get s (way.drop q.length):=by
    show (if q<+:way then Tr.get s (way.drop q.length) else some none)=_;rw [if_pos e]
   rw [hget];exact QT q s M b hm w hi a n c way hW hl g3 e _ (λw' p' a' n' c' hi' ht' hW'=>ih M w' p' a' n' c' _ hi' ht' hW' hgs (hn.drop _) (by rw [List.length_drop]; omega))
  .have hget:Tr.get (.ext q s) way=some none:=by
    show (if q<+:way then Tr.get s (way.drop q.length) else some none)=_;rw [if_neg e]
   rw [hget];exact Gb q s M b hm w hi a n c way hW hl g3 e
 | br ks ih =>
  intro M w p a n c way hi ht hW hg hn hl;obtain ⟨b,rfl,hm⟩:=ht.at_ (λe=>by cases e);cases way with
  | nil=>exact absurd hg.1 (Nat.lt_irrefl 0)
  | cons c0 r =>
   exact UE ks M b hm w hi a n c c0 r hW hn.head hl _ (λw' p' a' n' c' hi' ht' hW'=>ih (nb c0) M w' p' a' n' c' r hi' ht' hW' (hg.2.2 (nb c0)) hn.tail (by simp at hl; omega))
end Tm
end
end Go.Proofs.YtokaiemgjngcoaaGreatDoor
