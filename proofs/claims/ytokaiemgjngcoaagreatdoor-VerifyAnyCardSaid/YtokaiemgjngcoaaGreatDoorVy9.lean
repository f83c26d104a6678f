/-
 Contracts of node.readBranch, node.read.
-/
import Derived.Test.YtokaiemgjngcoaaGreatDoorVy8
open Go.Lib (hid)
open Go.Proofs.Tryz
set_option linter.unusedSimpArgs false
set_option linter.unusedVariables false
set_option maxHeartbeats 40000000
set_option maxRecDepth 100000
namespace Go.Proofs.YtokaiemgjngcoaaGreatDoor
variable {j:Nat} {k:aM} {w:World}
section
open Go.RowKit
namespace No
open Rl Ni
theorem Dy (l:List It) (x:It):kU (l++[x])=match kU l with
  | none=>none
  | some ks=>match jL x with
   | none=>none
   | some k=>some (ks++[k]):=by
 induction l with
 | nil =>
  simp only [List.nil_append,kU];cases jL x <;> rfl
 | cons y ys ih =>
  simp only [List.cons_append,kU,ih];cases jL y <;> cases kU ys <;> cases jL x <;> rfl
theorem BG {l r:List It} (h:kU l=none):kU (l++r)=none:=by
 induction l with
 | nil=>cases h
 | cons y ys ih =>
  simp only [List.cons_append,kU] at h ⊢;cases hy:jL y with
  | none=>rfl
  | some k =>
   rw [hy] at h;dsimp only at h ⊢;cases hys:kU ys with
   | none=>rw [ih hys]
   | some ks=>rw [hys] at h; cases h
theorem ML {xs:List It} {x:It} {ks:List aM} (hx:xs[j]? = some x) (h:kU (xs.take j)=some ks) (hk:jL x=some k):kU (xs.take (j+1))=some (ks++[k]):=by
 rw [List.take_add_one,hx,Option.toList_some,Dy,h,hk]
theorem Pb {xs:List It} {m:Nat} {x:It} (hx:xs[j]? = some x) (hj:j<m) (hk:jL x=none):kU (xs.take m)=none:=by
 have:xs.take m=xs.take (j+1)++(xs.drop (j+1)).take (m-(j+1)):=by rw [<-List.take_add,show j+1+(m-(j+1))=m by omega]
 rw [this];refine BG ?_;rw [List.take_add_one,hx,Option.toList_some,Dy,hk];cases kU (xs.take j) <;> rfl
theorem SH {xs:List It} {ks:List aM} (h:kU xs=some ks):ks.length=xs.length:=(vC h).1
theorem Ae (ks:List aM) (j:Nat) (hj:j<16) (hl:ks.length=j) (k:aM):(iN (ks++List.replicate (16-j) eB)).setIfInBounds j (.string k)=iN (ks++[k]++List.replicate (16-(j+1)) eB):=by
 unfold iN;rw [show 16-j=(16-(j+1))+1 by omega,List.replicate_succ];simp [hl]
theorem Mq {b:Nat} {ks:List aM} (h:qO w b ks) (j:Nat) (hj:j<ks.length):w.cell? ⟨b,j,none⟩=some (.string (ks.getD j eB)):=by
 rw [cell_of_row w b _ _ _ _ h.2];unfold iN;simp [List.getD,hj]
theorem zn (xs:List It) (a:aL) (n cap:Nat) (w:World) (h:gZ w xs a n cap) (cY:xs.length=17) (hG:∀ x∈xs,Good x) :
  Calls prog 123 #[.slice a n cap] w (gF w (dO xs)):=by
 have hR:dO xs=dK xs:=by unfold dO; rw [if_neg (by omega),if_pos cY]
 rw [hR];have hm:=h.max;have hnc:=h.le;have hl:=h.len;unfold maxLen at hm;have QP:n=17:=by omega
 have HX:Hid (∀ j,j<17->∃ x,xs[j]? = some x/\Fits 0 x/\x.size<=4096/\x.bytes.length<=4294967296):=hid (λj hj=>by
  have hx:xs[j]? = some (xs[j]'(by omega)):=List.getElem?_eq_getElem (by omega);obtain ⟨g1,g2,g3,_⟩:=hG _ (List.mem_of_getElem? hx);exact ⟨_,hx,g1,g2,g3⟩)
 obtain ⟨w2,hw2⟩:=ay (w.alloc (.cells (ndC nd0 none 0 0) 67))
 have hO:dL w2 w.heap.size nd0 none 0 0:=by rw [hw2]; exact Rg.Own.new _ _ _
 have hB2:Below w.heap.size w w2:=by rw [hw2]; exact al1 _ _
 have hs2:w2.heap.size=w.heap.size+1:=by rw [hw2]; simp
 have HO:=hid hO;have HB2:=hid hB2;have HI:=hid h;have HR:=hid (rfl:dK xs=dK xs);obtain ⟨y,b,off,A,N,C,hy,ha,hblt,hL,hI⟩:=h.at' 16 (by omega);have rL:=hid hL;have HY:=hid hy;have AM:=hid cY;clear h hO hB2 hG hR hl hL hI hy cY;subst hw2;subst QP;subst ha;go_enter func123,ntmps123;go_wp2_with (refine aB (aY _ _ _ w.heap.size rfl rfl) ?_)
 refine (Dm _ _ _ _).mono ?_;rintro e w3 ⟨rfl,hw3⟩;have hb3:Below (w.alloc (.cells (ndC nd0 none 0 0) 67)).heap.size (w.alloc (.cells (ndC nd0 none 0 0) 67)) w3:=by rw [hw3]; exact al1 _ _
 have hs3:w3.heap.size=w.heap.size+2:=by rw [hw3]; simp
 have hc3:w3.cell? ⟨w.heap.size+1,0,none⟩=some (.slice (some ⟨b,off,none⟩) 17 cap):=by
  rw [hw3,<-hs2,World.cell?_alloc_mark]; rfl
 have hO4:=(HO.out.below hb3).below (al1 w3 (.cells (iN zks) 65));have hK4:=Rg.Own.new w3 (iN zks) 65;rw [hs3] at hK4;have hB4:=(bst HB2.out hb3).trans ((al1 w3 (.cells (iN zks) 65)).mono (by omega));have hc4:(w3.alloc (.cells (iN zks) 65)).cell? ⟨w.heap.size+1,0,none⟩=some (.slice (some ⟨b,off,none⟩) 17 cap):=by
  rw [(al1 w3 _).cell (p:=⟨w.heap.size+1,0,none⟩) (by show w.heap.size+1<_; omega)]; exact hc3
 have cS:=hid hO4;have WD:=hid hK4;have co:=hid hB4;have I9:=hid hc4;have hcv:(w.alloc (.cells (ndC nd0 none 0 0) 67)).heap.size=w.heap.size+1:=hs2;simp only [hcv];clear hb3 hO4 hK4 hB4 hc4 hc3 hw3 HO HB2 hs2 hcv;go_wp2_with (refine aB (vB _ _ _ (w.heap.size+2) hs3.symm rfl) ?_)
 have hq:Hid (kU (xs.take 0)=some []):=hid rfl;go_loopw [12] (λi wr=>∃ (j:Nat) (ks:List aM),j<=16/\i = .int .i64 j/\ks.length=j/\Hid (kU (xs.take j)=some ks)/\Hid (qO wr (w.heap.size+2) (ks++List.replicate (16-j) eB))/\Hid (dL wr w.heap.size nd0 none 0 0)/\Hid (wr.cell? ⟨w.heap.size+1,0,none⟩=some (.slice (some ⟨b,off,none⟩) 17 cap))/\Hid (Below w.heap.size w wr)) (λi _=>16-(intOf i).toNat)
 case atStart=>exact ⟨0,[],Nat.zero_le _,rfl,rfl,hq,hid WD.out,hid cS.out,hid I9.out,hid co.out⟩
 case round =>
  obtain ⟨j,ks,hj,rfl,hkj,HA,HK,HN,HC,HB⟩:=hrel;clear hq cS WD co I9 hs3;by_cases hlt:j<16
  .obtain ⟨x,hx,hf1,hf2,hf3⟩:=HX.out j (by omega);have HT:=hid (zQ (w.heap.size+1) j xs (some ⟨b,off,none⟩) 17 cap x wr HC.out (HI.out.stays HB.out) hx hf1 hf2 hf3);have Hx:=hid hx;clear hx hf1 hf2 hf3;go_wp2_with fail
   refine HT.out.mono ?_;rintro e w5 ⟨s5,b5,rfl,hk5,hb5⟩;have iv:=hid (HN.out.below hb5);have yb:=HK.out.below hb5;have al:=hid (bst HB.out hb5);have lj:=hid ((Below.cell (p:=⟨w.heap.size+1,0,none⟩) hb5 (World.block_lt_of_cell? wr _ HC.out)).trans HC.out);have hl5:(ks++List.replicate (16-j) eB).length=16:=by simp; omega
   have c5:=Mq yb j (by omega);have f5:w5.frozen? ⟨w.heap.size+2,j,none⟩=false:=xg yb;have Q9:=hid yb;have WF:=hid hk5;clear hk5 hb5 yb HT HN HK HB HC;cases b5 with
   | true =>
    have QQ:Hid (jL x=some s5):=hid (by rcases WF.out with ⟨_,h⟩ | ⟨h,_⟩; exact h; cases h);go_wp2;go_roundw
    case rel =>
     refine ⟨j+1,ks++[s5],by omega,by go_num,by simp [hkj],hid (ML Hx.out HA.out QQ.out),hid ?_,hid (jD iv.out _ (by omega)),hid ?_,hid ?_⟩
     .have h:=aV (o:=j) Q9.out (.string s5);rw [Ae ks j hlt hkj s5] at h;exact h
     .rw [World.cell?_setCell_far _ _ _ _ (by show w.heap.size+2≠w.heap.size+1; omega)]; exact lj.out
     .exact al.out.setCell (by show w.heap.size<=w.heap.size+2; omega) _
    case measure=>simp [intOf]; omega
   | false =>
    have QQ:Hid (jL x=none):=hid (by rcases WF.out with ⟨h,_⟩ | ⟨_,h⟩; cases h; exact h);go_wp2_with (first
     | (refine aB (bC lY ?_) ?_; · exact ⟨_,rfl,rfl⟩)
     | (refine bA iv.out rfl nd0 none 0 0 rfl rfl _ _ rfl rfl rfl rfl ?_))
    refine bodyPost_ret (dU rfl _ rfl (dG iv.out) rfl) rfl ⟨nd0,none,0,0,false,rfl,.inr ⟨rfl,?_⟩,BsF.nil _ _,rfl,bX al.out aH _⟩;unfold dK;rw [Pb Hx.out hlt QQ.out]
  .obtain rfl:j=16:=by omega
   have ey:Hid (dK xs=if y.l=false/\y.s.size=0 then some ⟨3,[],eB,ks⟩ else none):=hid (by
    unfold dK;rw [HA.out];have:xs.getD 16 it0=y:=Option.some.inj ((getD_at (xs:=xs) (i:=16) (by rw [AM.out]; omega)).symm.trans HY.out);rw [this])
   have ag:Hid (qO wr (w.heap.size+2) ks):=hid (by have:=HK.out; simpa using this);have hkl:ks.length=16:=hkj;have q0:wr.cell? ⟨b,off+48,none⟩=some (.bool y.l):=(Below.cell (p:=⟨b,_,none⟩) HB.out hblt).trans rL.out.1;have q1:wr.cell? ⟨b,off+48+1,none⟩=some (.string y.s):=(Below.cell (p:=⟨b,_,none⟩) HB.out hblt).trans rL.out.2.1;have q2:wr.cell? ⟨b,off+48+2,none⟩=some (.slice A N C):=(Below.cell (p:=⟨b,_,none⟩) HB.out hblt).trans rL.out.2.2;clear HA HK HC HX rL HY AM HI HR;cases hyl:y.l with
   | true =>
    have HF:Hid (dK xs=none):=hid (by rw [ey.out,hyl]; rfl);clear ey;rw [hyl] at q0;obtain ⟨wl,hwl⟩:=ay (wr.alloc (.cells #[.bool true,.string y.s,.slice A N C] 96))
    have hbl:Below wr.heap.size wr wl:=by rw [hwl]; exact al1 _ _
    have hcl:wr.heap.size<wl.heap.size:=by rw [hwl]; simp
    have e0:wl.cell? ⟨wr.heap.size,0,none⟩=some (.bool true):=by rw [hwl,World.cell?_alloc_mark]; rfl
    have e1:wl.cell? ⟨wr.heap.size,1,none⟩=some (.string y.s):=by rw [hwl,World.cell?_alloc_mark]; rfl
    have bj:=hid (ag.out.below hbl);have gh:=hid (HN.out.below hbl);have iu:=hid (bst HB.out hbl);clear hbl;go_wp2_with fail
    rw [<-hwl];clear hwl;obtain ⟨g,hg⟩:=aA wr.heap.size
    have hge:w.heap.size+2<g:=by rw [<-hg]; exact ag.out.1
    rw [hg] at e0 e1 hcl ⊢;clear hg;have tj:=gh.out.drew;have hw0:w.heap.size<wl.drew.heap.size:=gh.out.1;refine aD (S:=λw'=>Rg.Own w' (w.heap.size+2) (iN ks) 65/\w'.cell? ⟨g,0,none⟩=some (.bool true)/\w'.cell? ⟨g,1,none⟩=some (.string y.s)/\Below w.heap.size w w') (⟨bj.out.drew,e0,e1,iu.out.drew⟩) λhld=>?_;refine aj 0 ?_ (hy:=by intro wz hSw; (refine nQ hSw.1 hkl ?_; exact ⟨_,rfl,rfl⟩));try simp only [Act.put,au]
    refine aj 2 ?_;try simp only [Act.put,au]
    refine aj 3 ?_ (hy:=by intro wz hSw; (have q0:=hSw.2.1; go_simp <;> with_reducible rfl));try simp only [Act.put,au]
    refine aj 4 ?_;try simp only [Act.put,au]
    refine ak 1 λK hK=>?_;go_simp;go_at_call 112
    (with_reducible refine (kE ks hkl _).mono ?_)
    rintro e il ⟨a5,n5,c5,rfl,hx5,hl5,hbx⟩;have tk:=tj.below hbx;have hg0:g<wl.drew.heap.size:=World.block_lt_of_cell? _ _ hld.2.1;refine hK.out _ _ (⟨hld.1.below hbx,(Below.cell (p:=⟨g,0,none⟩) hbx hg0).trans hld.2.1,(Below.cell (p:=⟨g,1,none⟩) hbx hg0).trans hld.2.2.1,bst hld.2.2.2 hbx⟩) λhld=>?_;clear hK K hbx tj;try simp only [Act.put,au]
    refine aj 5 ?_;try simp only [Act.put,au]
    refine Rg.takeL (i:=6) (v:=undef) rfl (by kernel_rfl) (by kernel_rfl) (by kernel_rfl) (λ_ _ _ h=>h) (Or.inr ⟨by rfl,rfl⟩) (by assumption) ?_;try simp only [Act.put,au]
    refine Rg.takeL (i:=7) (v:=undef) rfl (by kernel_rfl) (by kernel_rfl) (by kernel_rfl) (λ_ _ _ h=>h) (Or.inr ⟨by rfl,rfl⟩) (by assumption) ?_;try simp only [Act.put,au]
    refine Rg.takeL (i:=8) (v:=undef) rfl (by kernel_rfl) (by kernel_rfl) (by kernel_rfl) (λ_ _ _ h=>h) (Or.inr ⟨by rfl,rfl⟩) (by assumption) ?_;try simp only [Act.put,au]
    refine aj 9 ?_;try simp only [Act.put,au]
    refine ak 10 λK hK=>?_;refine Rg.meetStore (by rfl) tk 67 (ndC ⟨3,[],eB,ks⟩ a5 n5 c5) ⟨_,_,rfl,rfl,rfl⟩ (gH _ _ _ _ hkl) (by rw [dD _ _ _ _ rfl,dD _ _ _ _ hkl]) (jf _ _ _ _) ?_;rintro wz hn hu;have hx6:BsF w.heap.size wz a5 n5 c5 []:=(hx5.upd hu (by omega)).weak (by omega);refine hK.out _ _ (⟨hld.1.upd hu (by omega),(World.cell?_of_block (hu.block g (by omega))).trans hld.2.1,(World.cell?_of_block (hu.block g (by omega))).trans hld.2.2.1,hu.below hld.2.2.2 aH⟩) λhld=>?_;clear hK K tk hx5;try simp only [Act.put]
    refine aj 11 ?_;try simp only [Act.put,au]
    refine aC ?_;go_wp2;exact bodyPost_ret (dU rfl _ rfl hn hkl) rfl ⟨⟨3,[],eB,ks⟩,a5,n5,c5,false,rfl,.inr ⟨rfl,HF.out⟩,hx6,hkl,hld.2.2.2⟩
   | false =>
    rw [hyl] at q0;by_cases hys:y.s.size=0
    .have hye:=cZ hys;have HF:Hid (dK xs=some ⟨3,[],eB,ks⟩):=hid (by rw [ey.out,if_pos ⟨hyl,hys⟩]);clear ey;rw [hye] at q1;obtain ⟨wl,hwl⟩:=ay (wr.alloc (.cells #[.bool false,.string ⟨#[]⟩,.slice A N C] 96))
     have hbl:Below wr.heap.size wr wl:=by rw [hwl]; exact al1 _ _
     have hcl:wr.heap.size<wl.heap.size:=by rw [hwl]; simp
     have e0:wl.cell? ⟨wr.heap.size,0,none⟩=some (.bool false):=by rw [hwl,World.cell?_alloc_mark]; rfl
     have e1:wl.cell? ⟨wr.heap.size,1,none⟩=some (.string ⟨#[]⟩):=by rw [hwl,World.cell?_alloc_mark]; rfl
     have bj:=hid (ag.out.below hbl);have gh:=hid (HN.out.below hbl);have iu:=hid (bst HB.out hbl);clear hbl;go_wp2_with fail
     rw [<-hwl];clear hwl;obtain ⟨g,hg⟩:=aA wr.heap.size
     have hge:w.heap.size+2<g:=by rw [<-hg]; exact ag.out.1
     rw [hg] at e0 e1 hcl ⊢;clear hg;have tj:=gh.out.drew;have hw0:w.heap.size<wl.drew.heap.size:=gh.out.1;refine aD (S:=λw'=>Rg.Own w' (w.heap.size+2) (iN ks) 65/\w'.cell? ⟨g,0,none⟩=some (.bool false)/\w'.cell? ⟨g,1,none⟩=some (.string ⟨#[]⟩)/\Below w.heap.size w w') (⟨bj.out.drew,e0,e1,iu.out.drew⟩) λhld=>?_;refine aj 0 ?_ (hy:=by intro wz hSw; (refine nQ hSw.1 hkl ?_; exact ⟨_,rfl,rfl⟩));try simp only [Act.put,au]
     refine aj 2 ?_;try simp only [Act.put,au]
     refine aj 3 ?_ (hy:=by intro wz hSw; (have q0:=hSw.2.1; go_simp <;> with_reducible rfl));try simp only [Act.put,au]
     refine aj 4 ?_;try simp only [Act.put,au]
     refine ak 1 λK hK=>?_;go_simp;go_at_call 112
     (with_reducible refine (kE ks hkl _).mono ?_)
     rintro e il ⟨a5,n5,c5,rfl,hx5,hl5,hbx⟩;have tk:=tj.below hbx;have hg0:g<wl.drew.heap.size:=World.block_lt_of_cell? _ _ hld.2.1;refine hK.out _ _ (⟨hld.1.below hbx,(Below.cell (p:=⟨g,0,none⟩) hbx hg0).trans hld.2.1,(Below.cell (p:=⟨g,1,none⟩) hbx hg0).trans hld.2.2.1,bst hld.2.2.2 hbx⟩) λhld=>?_;clear hK K hbx tj;try simp only [Act.put,au]
     refine aj 5 ?_;try simp only [Act.put,au]
     refine aj 6 ?_;try simp only [Act.put,au]
     refine aj 7 ?_ (hy:=by intro wz hSw; (have q0:=hSw.2.2.1; go_simp <;> with_reducible rfl));try simp only [Act.put,au]
     refine aj 8 ?_;try simp only [Act.put,au]
     refine aj 9 ?_;try simp only [Act.put,au]
     refine ak 10 λK hK=>?_;refine Rg.meetStore (by rfl) tk 67 (ndC ⟨3,[],eB,ks⟩ a5 n5 c5) ⟨_,_,rfl,rfl,rfl⟩ (gH _ _ _ _ hkl) (by rw [dD _ _ _ _ rfl,dD _ _ _ _ hkl]) (jf _ _ _ _) ?_;rintro wz hn hu;have hx6:BsF w.heap.size wz a5 n5 c5 []:=(hx5.upd hu (by omega)).weak (by omega);refine hK.out _ _ (⟨hld.1.upd hu (by omega),(World.cell?_of_block (hu.block g (by omega))).trans hld.2.1,(World.cell?_of_block (hu.block g (by omega))).trans hld.2.2.1,hu.below hld.2.2.2 aH⟩) λhld=>?_;clear hK K tk hx5;try simp only [Act.put]
     refine aj 11 ?_;try simp only [Act.put,au]
     refine aC ?_;go_wp2;exact bodyPost_ret (dU rfl _ rfl hn hkl) rfl ⟨⟨3,[],eB,ks⟩,a5,n5,c5,true,rfl,.inl ⟨rfl,HF.out⟩,hx6,hkl,hld.2.2.2⟩
    .have hne:=Ni.bZ (s:=y.s) (by omega);obtain ⟨T,hT⟩:=aA y.s
     have HF:Hid (dK xs=none):=hid (by rw [ey.out,if_neg (λe=>hys e.2)]);clear ey;rw [hT] at q1 hne hys;obtain ⟨wl,hwl⟩:=ay (wr.alloc (.cells #[.bool false,.string T,.slice A N C] 96))
     have hbl:Below wr.heap.size wr wl:=by rw [hwl]; exact al1 _ _
     have hcl:wr.heap.size<wl.heap.size:=by rw [hwl]; simp
     have e0:wl.cell? ⟨wr.heap.size,0,none⟩=some (.bool false):=by rw [hwl,World.cell?_alloc_mark]; rfl
     have e1:wl.cell? ⟨wr.heap.size,1,none⟩=some (.string T):=by rw [hwl,World.cell?_alloc_mark]; rfl
     have bj:=hid (ag.out.below hbl);have gh:=hid (HN.out.below hbl);have iu:=hid (bst HB.out hbl);clear hbl;go_wp2_with fail
     rw [<-hwl];clear hwl;obtain ⟨g,hg⟩:=aA wr.heap.size
     have hge:w.heap.size+2<g:=by rw [<-hg]; exact ag.out.1
     rw [hg] at e0 e1 hcl ⊢;clear hg;have tj:=gh.out.drew;have hw0:w.heap.size<wl.drew.heap.size:=gh.out.1;refine aD (S:=λw'=>Rg.Own w' (w.heap.size+2) (iN ks) 65/\w'.cell? ⟨g,0,none⟩=some (.bool false)/\w'.cell? ⟨g,1,none⟩=some (.string T)/\Below w.heap.size w w') (⟨bj.out.drew,e0,e1,iu.out.drew⟩) λhld=>?_;refine aj 0 ?_ (hy:=by intro wz hSw; (refine nQ hSw.1 hkl ?_; exact ⟨_,rfl,rfl⟩));try simp only [Act.put,au]
     refine aj 2 ?_;try simp only [Act.put,au]
     refine aj 3 ?_ (hy:=by intro wz hSw; (have q0:=hSw.2.1; go_simp <;> with_reducible rfl));try simp only [Act.put,au]
     refine aj 4 ?_;try simp only [Act.put,au]
     refine ak 1 λK hK=>?_;go_simp;go_at_call 112
     (with_reducible refine (kE ks hkl _).mono ?_)
     rintro e il ⟨a5,n5,c5,rfl,hx5,hl5,hbx⟩;have tk:=tj.below hbx;have hg0:g<wl.drew.heap.size:=World.block_lt_of_cell? _ _ hld.2.1;refine hK.out _ _ (⟨hld.1.below hbx,(Below.cell (p:=⟨g,0,none⟩) hbx hg0).trans hld.2.1,(Below.cell (p:=⟨g,1,none⟩) hbx hg0).trans hld.2.2.1,bst hld.2.2.2 hbx⟩) λhld=>?_;clear hK K hbx tj;try simp only [Act.put,au]
     refine aj 5 ?_;try simp only [Act.put,au]
     refine aj 6 ?_;try simp only [Act.put,au]
     refine aj 7 ?_ (hy:=by intro wz hSw; (have q0:=hSw.2.2.1; go_simp <;> with_reducible rfl));try simp only [Act.put,au]
     refine aj 8 ?_;try simp only [Act.put,au]
     refine aj 9 ?_;try simp only [Act.put,au]
     refine ak 10 λK hK=>?_;refine Rg.meetStore (by rfl) tk 67 (ndC ⟨3,[],eB,ks⟩ a5 n5 c5) ⟨_,_,rfl,rfl,rfl⟩ (gH _ _ _ _ hkl) (by rw [dD _ _ _ _ rfl,dD _ _ _ _ hkl]) (jf _ _ _ _) ?_;rintro wz hn hu;have hx6:BsF w.heap.size wz a5 n5 c5 []:=(hx5.upd hu (by omega)).weak (by omega);refine hK.out _ _ (⟨hld.1.upd hu (by omega),(World.cell?_of_block (hu.block g (by omega))).trans hld.2.1,(World.cell?_of_block (hu.block g (by omega))).trans hld.2.2.1,hu.below hld.2.2.2 aH⟩) λhld=>?_;clear hK K tk hx5;try simp only [Act.put]
     refine aj 11 ?_;try simp only [Act.put,au]
     refine aC ?_;go_wp2;exact bodyPost_ret (dU rfl _ rfl hn hkl) rfl ⟨⟨3,[],eB,ks⟩,a5,n5,c5,false,rfl,.inr ⟨rfl,HF.out⟩,hx6,hkl,hld.2.2.2⟩
theorem Oj (xs:List It) (a:aL) (n cap:Nat) (w:World) (h:gZ w xs a n cap) (h2:xs.length≠2) (cY:xs.length≠17) :
  Calls prog 76 #[.slice a n cap] w (gF w (dO xs)):=by
 have hR:dO xs=none:=by unfold dO; rw [if_neg h2,if_neg cY]
 rw [hR];have hm:=h.max;have hnc:=h.le;have hl:=h.len;unfold maxLen at hm;have d2:decide ((n:Int)=2)=false:=by simp; omega
 have d17:decide ((n:Int)=17)=false:=by simp; omega
 have ZM:((n:Int)==2)=false:=by simp; omega
 have Zf:((n:Int)==17)=false:=by simp; omega
 obtain ⟨w2,hw2⟩:=ay (w.alloc (.cells (ndC nd0 none 0 0) 67))
 have hO:dL w2 w.heap.size nd0 none 0 0:=by rw [hw2]; exact Rg.Own.new _ _ _
 have HB2:Hid (Below w.heap.size w w2):=hid (by rw [hw2]; exact al1 _ _);have HO:=hid hO;clear h hO hR h2 cY hl;subst hw2;go_enter func76,ntmps76;go_wp2_with (first
  | (refine aB (aY _ _ _ w.heap.size rfl rfl) ?_)
  | (refine aB (bC lY ?_) ?_; · exact ⟨_,rfl,rfl⟩)
  | (refine bA HO.out rfl nd0 none 0 0 rfl rfl _ _ rfl rfl rfl rfl ?_))
 exact bodyPost_ret (dU rfl _ rfl (dG HO.out) rfl) rfl ⟨nd0,none,0,0,false,rfl,.inr ⟨rfl,rfl⟩,BsF.nil _ _,rfl,bX HB2.out aH _⟩
theorem SK (xs:List It) (a:aL) (n cap:Nat) (w:World) (h:gZ w xs a n cap) (hG:∀ x∈xs,Good x) :
  Calls prog 76 #[.slice a n cap] w (gF w (dO xs)):=by
 by_cases h2:xs.length=2
 .have hP:∀ w,gZ w xs a n cap->Calls prog 122 #[.slice a n cap] w (gF w (dO xs)):=λw h=>by
   by_cases hbad:(xs.getD 0 it0).s.size=0\/Bad (xs.getD 0 it0).s
   .exact EA xs a n cap w h h2 hG hbad
   .exact Gv xs a n cap w h h2 hG hbad
  have hl:=h.len;obtain rfl:n=2:=by omega
  obtain ⟨w2,hw2⟩:=ay (w.alloc (.cells (ndC nd0 none 0 0) 67))
  have hO:dL w2 w.heap.size nd0 none 0 0:=by rw [hw2]; exact Rg.Own.new _ _ _
  have hB2:Below w.heap.size w w2:=by rw [hw2]; exact al1 _ _
  have HB2:=hid hB2;have HP:=hid (hP w2 (h.stays hB2));have HO:=hid hO;obtain ⟨R,hR⟩:=aA (dO xs)
  rw [hR] at HP ⊢;clear h hO hB2 hP hR hG hl h2;subst hw2;go_enter func76,ntmps76;go_wp2_with (refine aB (aY _ _ _ w.heap.size rfl rfl) ?_)
  refine HP.out.mono ?_;rintro e w3 ⟨N,a3,n3,c3,b3,rfl,hr3,hx3,hl3,hb3⟩;have ce:=hid (HO.out.below hb3);have HB3:=hid (bst HB2.out hb3);have pH:=hid hx3;have lR:=hid hl3;have HR3:=hid hr3;clear hb3 hx3 hl3 hr3 HP;go_wp2_with (refine bA ce.out rfl N a3 n3 c3 lR.out rfl _ _ rfl rfl rfl rfl ?_)
  exact bodyPost_ret (dU rfl _ rfl (dG ce.out) lR.out) rfl ⟨N,a3,n3,c3,b3,rfl,HR3.out,(pH.out.row (by simp) _).weak (by simp),lR.out,bX HB3.out aH _⟩
 .by_cases cY:xs.length=17
  .have hP:∀ w,gZ w xs a n cap->Calls prog 123 #[.slice a n cap] w (gF w (dO xs)):=λw h=>zn xs a n cap w h cY hG;have hl:=h.len;obtain rfl:n=17:=by omega
   obtain ⟨w2,hw2⟩:=ay (w.alloc (.cells (ndC nd0 none 0 0) 67))
   have hO:dL w2 w.heap.size nd0 none 0 0:=by rw [hw2]; exact Rg.Own.new _ _ _
   have hB2:Below w.heap.size w w2:=by rw [hw2]; exact al1 _ _
   have HB2:=hid hB2;have HP:=hid (hP w2 (h.stays hB2));have HO:=hid hO;obtain ⟨R,hR⟩:=aA (dO xs)
   rw [hR] at HP ⊢;clear h hO hB2 hP hR hG hl h2 cY;subst hw2;go_enter func76,ntmps76;go_wp2_with (refine aB (aY _ _ _ w.heap.size rfl rfl) ?_)
   refine HP.out.mono ?_;rintro e w3 ⟨N,a3,n3,c3,b3,rfl,hr3,hx3,hl3,hb3⟩;have ce:=hid (HO.out.below hb3);have HB3:=hid (bst HB2.out hb3);have pH:=hid hx3;have lR:=hid hl3;have HR3:=hid hr3;clear hb3 hx3 hl3 hr3 HP;go_wp2_with (refine bA ce.out rfl N a3 n3 c3 lR.out rfl _ _ rfl rfl rfl rfl ?_)
   exact bodyPost_ret (dU rfl _ rfl (dG ce.out) lR.out) rfl ⟨N,a3,n3,c3,b3,rfl,HR3.out,(pH.out.row (by simp) _).weak (by simp),lR.out,bX HB3.out aH _⟩
  .exact Oj xs a n cap w h h2 cY
def mW (k:aM):Prop:=∀ w:World,Calls prog 134 #[.string k] w λe w'=>e = .returned (.bool (bJ k))/\Below w.heap.size w w'
def Ea (w:World) (r:Option Nd) (e:Ending) (w':World):Prop:=∃ (N:Nd) (a:aL) (n c:Nat) (er:Int),e = .returned (.tuple #[.agg (ndC N a n c),.int .i64 er])/\(er=0/\r=some N\/er≠0/\N=nd0/\r=none)/\
 BsF w.heap.size w' a n c N.p/\N.ks.length=16/\Below w.heap.size w w'
def OW (s:aM):Prop:=∀ w:World,Calls prog 43 #[.string s] w (Ea w (fE s.data.toList))
theorem QC (s:aM) (h:OW s) (w:World):Calls prog 163 #[.string s] w λe w'=>e = .returned (.bool (fE s.data.toList).isSome)/\Below w.heap.size w w':=by
 have HG:=hid (h w);obtain ⟨r,hr⟩:=aA (fE s.data.toList)
 rw [hr] at HG ⊢;clear h hr;go_enter func163,ntmps163;go_wp2_with fail
 refine HG.out.mono ?_;rintro e w3 ⟨N,a3,n3,c3,er,rfl,hr3,hx3,hl3,hb3⟩;have HO:Hid (dL (w3.alloc (.cells (ndC nd0 none 0 0) 67)) w3.heap.size nd0 none 0 0):=hid (Rg.Own.new _ _ _);have HB:=hid (bst hb3 (al1 w3 (.cells (ndC nd0 none 0 0) 67)));have HL:=hid hl3;have hge:=hb3.size;clear hx3 hl3 hb3 HG;rcases hr3 with ⟨rfl,rfl⟩ | ⟨he,rfl,rfl⟩
 .go_wp2_with (first
   | (refine aB (aY _ _ _ w3.heap.size rfl rfl) ?_)
   | (refine bA HO.out rfl N a3 n3 c3 HL.out rfl _ _ rfl rfl rfl rfl ?_))
  go_ret;exact ⟨rfl,bX HB.out hge _⟩
 .have hd:(er==0)=false:=by simp; exact he
  go_wp2_with (first
   | (refine aB (aY _ _ _ w3.heap.size rfl rfl) ?_)
   | (refine bA HO.out rfl nd0 a3 n3 c3 HL.out rfl _ _ rfl rfl rfl rfl ?_))
  go_ret;exact ⟨rfl,bX HB.out hge _⟩
theorem Kj (k:aM) (hk:k.size<=9223372036854775807) (h:k.size<32->OW k):mW k:=by
 intro w;have HP:=hid (wM k w);cases hp:dH k with
 | true =>
  have HF:Hid (bJ k=true):=hid (by unfold bJ; rw [hp]; rfl);rw [hp] at HP;rw [HF.out];clear h hp;go_enter func134,ntmps134;go_wp2_with fail
  refine HP.out.mono ?_;rintro e w3 ⟨rfl,rfl⟩;go_wp2;go_ret;exact ⟨rfl,aI⟩
 | false =>
  rw [hp] at HP;by_cases h32:k.size<32
  .have HF:Hid (bJ k=(fE k.data.toList).isSome):=hid (by unfold bJ; rw [hp]; simp [h32]);have HG:=hid (QC k (h h32) w);rw [<-HF.out] at HG;clear h hp HF;go_enter func134,ntmps134;go_wp2_with fail
   refine HP.out.mono ?_;rintro e w3 ⟨rfl,rfl⟩;go_wp2_with fail
   refine HG.out.mono ?_;rintro e w4 ⟨rfl,hb4⟩;have HB:=hid hb4;clear hb4;go_wp2;go_ret;exact ⟨rfl,HB.out⟩
  .have HF:Hid (bJ k=false):=hid (by unfold bJ; rw [hp]; simp [h32]);rw [HF.out];clear h hp;go_enter func134,ntmps134;go_wp2_with fail
   refine HP.out.mono ?_;rintro e w3 ⟨rfl,rfl⟩;go_wp2;go_ret;exact ⟨rfl,aI⟩
theorem PX (k:aM) (h:mW k) (w:World):Calls prog 136 #[.string k] w λe w'=>e = .returned (.bool (!bJ k))/\Below w.heap.size w w':=by
 have HG:=hid (h w);obtain ⟨r,hr⟩:=aA (bJ k)
 rw [hr] at HG ⊢;clear h hr;go_enter func136,ntmps136;go_wp2_with fail
 refine HG.out.mono ?_;rintro e w3 ⟨rfl,hb3⟩;have HB:=hid hb3;clear hb3;go_wp2;go_ret;exact ⟨rfl,HB.out⟩
def KW (w:World) (xs:List aM) (e:Ending) (w':World):Prop:=∃ r:Int,e = .returned (.int .i64 r)/\-1<=r/\r<=9223372036854775807/\decide (0<=r) = !xs.all bJ/\Below w.heap.size w w'
theorem RL {xs:List aM} (hj:j<xs.length) (h:(xs.take j).all bJ=true) (hk:bJ (xs.getD j eB)=true):(xs.take (j+1)).all bJ=true:=by
 have e:xs.getD j eB=xs[j]:=by simp [List.getD,hj]
 rw [List.take_succ_eq_append_getElem hj,List.all_append,h,List.all_cons,List.all_nil,<-e,hk];rfl
theorem Ml (xs:List aM) (hR:∀ k∈xs,mW k) (a:aL) (n cap:Nat) (w:World) (h:lK w a n cap xs) :
  Calls prog 164 #[.slice a n cap,.func (Fn.func 136) #[] #[]] w (KW w xs):=by
 have hm:=h.2.1;have hnc:=h.1;have hl:=h.len;unfold maxLen at hm;have H:=hid h;have HL:=hid hl;have HR:=hid hR;clear h hl hR;go_enter func164,ntmps164;go_wp2;go_loopw [8] (λi wr=>∃ j:Nat,j<=n/\i = .int .i64 j/\Hid ((xs.take j).all bJ=true)/\Hid (Below w.heap.size w wr)) (λi _=>n-(intOf i).toNat)
 case atStart=>exact ⟨0,Nat.zero_le _,rfl,hid rfl,hid aI⟩
 case round =>
  obtain ⟨j,hj,rfl,HJ,HB⟩:=hrel;by_cases hlt:j<n
  .obtain ⟨b,off,rfl,hblt,hc⟩:=H.out.at' j hlt;have hc':=(Below.cell (p:=⟨b,off+j,none⟩) HB.out hblt).trans hc;have HM:Hid (xs.getD j eB∈xs):=hid (by
    have hj':j<xs.length:=by rw [HL.out]; exact hlt
    have e:xs.getD j eB=xs[j]:=by simp [List.getD,hj']
    rw [e]; exact List.getElem_mem hj')
   have HC:=hid (PX _ (HR.out _ HM.out) wr);have HT:Hid (bJ (xs.getD j eB)=true->(xs.take (j+1)).all bJ=true):=hid (RL (by rw [HL.out]; exact hlt) HJ.out);obtain ⟨K,hK⟩:=aA (xs.getD j eB)
   rw [hK] at HC HM HT hc';clear hK hc HJ;go_wp2_with fail
   refine HC.out.mono ?_;rintro e w5 ⟨rfl,hb5⟩;have al:=hid (bst HB.out hb5);clear hb5 HC HB hc';cases hf:bJ K with
   | true =>
    have LF:=hid (HT.out hf);clear HT hf;go_wp2;go_roundw
    case rel=>exact ⟨j+1,by omega,by go_num,LF,al⟩
    case measure=>simp [intOf]; omega
   | false =>
    have HF:Hid (xs.all bJ=false):=hid (by rw [List.all_eq_false]; exact ⟨K,HM.out,by rw [hf]; simp⟩);clear HT hf;go_wp2;go_ret;exact ⟨(j:Int),rfl,by omega,by omega,by rw [HF.out]; simp,al.out⟩
  .obtain rfl:j=n:=by omega
   have HF:Hid (xs.all bJ=true):=hid (by have:=HJ.out; rw [List.take_of_length_le (by rw [HL.out]; exact aH)] at this; exact this);go_wp2;go_ret;exact ⟨-1,rfl,by decide,by decide,by rw [HF.out]; rfl,HB.out⟩
theorem Ec (xs:List aM) (hR:∀ k∈xs,mW k) (a:aL) (n cap:Nat) (w:World) (h:lK w a n cap xs) :
  Calls prog 135 #[.slice a n cap,.func (Fn.func 136) #[] #[]] w λe w'=>e = .returned (.bool (!xs.all bJ))/\Below w.heap.size w w':=by
 have HI:=hid (Ml xs hR a n cap w h);unfold KW at HI;obtain ⟨F,hF⟩:=aA (!xs.all bJ)
 rw [hF] at HI ⊢;clear h hR hF;go_enter func135,ntmps135;go_wp2_with fail
 refine HI.out.mono ?_;rintro e w3 ⟨r,rfl,h1,h2,h3,hb3⟩;have HB:=hid hb3;have H3:=hid h3;clear hb3 HI h3;go_wp2;go_ret;exact ⟨by rw [<-H3.out]; rfl,HB.out⟩
theorem PU (N:Nd) (a:aL) (n c:Nat) (hl:N.ks.length=16) (hp:N.p.length=n) (hm:n<=maxLen) (hv:N.v.size<=maxLen) (hR:∀ k∈N.ks,mW k) (w:World) :
  Calls prog 96 #[.agg (ndC N a n c)] w λe w'=>e = .returned (.bool (kK bJ N))/\Below w.heap.size w w':=by
 have HO:Hid (dL (w.alloc (.cells (ndC N a n c) 67)) w.heap.size N a n c):=hid (Rg.Own.new _ _ _);have HK:=hid (Ru N a n c hl (w.alloc (.cells (ndC N a n c) 67)));have io:Hid (mW (N.ks.getD 0 eB)):=hid (hR _ (by rw [List.getD_eq_getElem?_getD,List.getElem?_eq_getElem (by omega)]; exact List.getElem_mem _));have Zg:Hid (∀ k∈dF N.ks,mW k):=hid (λk hk=>hR k (List.mem_filter.1 hk).1);have HL:=hid hl;have HU:=hid (rfl:kK bJ N=kK bJ N);unfold kK at HU;unfold maxLen at hm hv;rw [hp] at HU;obtain ⟨F,hF⟩:=aA (kK bJ N)
 have HF:Hid (F=if N.kd=1 then decide (N.v.size≠0)&&decide (N.v.size<=65552)&&decide ((dF N.ks).length=0) else
  if N.kd=2 then decide (0<n)&&decide (N.v.size=0)&&decide ((dF N.ks).length=1)&&decide ((N.ks.getD 0 eB).size≠0)&&bJ (N.ks.getD 0 eB) else
  if N.kd=3 then decide (n=0)&&decide (N.v.size=0)&&decide (2<=(dF N.ks).length)&&(dF N.ks).all bJ else false):=hid (by
   rw [<-hF];unfold kK;rw [hp])
 rw [hF];clear HU hF hR hl hp;by_cases hkd:N.kd=1
 .rw [if_pos hkd] at HF;go_enter func96,ntmps96;go_wp2_with (refine aB (bH HO.out HL.out ?_) ?_; · exact ⟨_,rfl,rfl⟩)
  refine HK.out.mono ?_;rintro e w3 ⟨a3,n3,rN,rfl,hs3,hb3⟩;have hO3:=HO.out.below hb3;obtain ⟨c0,c1,c2⟩:=eF hO3;have ck:w3.cell? ⟨w.heap.size,3,none⟩=some (.string (N.ks.getD 0 eB)):=mG hO3 HL.out 0 (by decide);have eq:=hs3.len;have pi:=hs3.2.1;have xF:=hs3.1;unfold maxLen at pi;have mu:=hid hs3;have HB3:=hid (nY (yt hb3));rw [eq] at HF;rw [hkd] at c0;clear hs3 hb3 hO3 HK eq;by_cases hv0:N.v.size=0
  .have n9:=cZ hv0;rw [n9] at c2;go_wp2;go_ret;exact ⟨by rw [HF.out]; simp [hv0],HB3.out⟩
  .have G6:=Ni.bZ (s:=N.v) (by omega);by_cases hv2:N.v.size<=65552
   .by_cases hk3:n3=0
    .subst hk3;go_wp2;go_ret;exact ⟨by rw [HF.out]; simp [hv0,hv2],HB3.out⟩
    .go_wp2;go_ret;exact ⟨by rw [HF.out]; simp [hv0,hv2,hk3],HB3.out⟩
   .go_wp2;go_ret;exact ⟨by rw [HF.out]; simp [hv0,hv2],HB3.out⟩
 .rw [if_neg hkd] at HF;have hk1:(N.kd==1)=false:=by simp; exact hkd
  clear hkd;by_cases hkd:N.kd=2
  .rw [if_pos hkd] at HF;go_enter func96,ntmps96;go_wp2_with (refine aB (bH HO.out HL.out ?_) ?_; · exact ⟨_,rfl,rfl⟩)
   refine HK.out.mono ?_;rintro e w3 ⟨a3,n3,rN,rfl,hs3,hb3⟩;have hO3:=HO.out.below hb3;obtain ⟨c0,c1,c2⟩:=eF hO3;have ck:w3.cell? ⟨w.heap.size,3,none⟩=some (.string (N.ks.getD 0 eB)):=mG hO3 HL.out 0 (by decide);have eq:=hs3.len;have pi:=hs3.2.1;have xF:=hs3.1;unfold maxLen at pi;have mu:=hid hs3;have HB3:=hid (nY (yt hb3));rw [eq] at HF;rw [hkd] at c0;clear hs3 hb3 hO3 HK eq;by_cases hn0:0<n
   .by_cases hv0:N.v.size=0
    .have n9:=cZ hv0;rw [n9] at c2;by_cases hk3:n3=1
     .subst hk3;obtain ⟨K,hK⟩:=aA (N.ks.getD 0 eB)
      rw [hK] at HF ck io;clear hK;by_cases hz:K.size=0
      .obtain rfl:=cZ hz;go_wp2;go_ret;exact ⟨by rw [HF.out]; rw [show decide (eB.size≠0)=false from rfl,Bool.and_false,Bool.false_and]; rfl,HB3.out⟩
      .have hkn:=Ni.bZ (s:=K) (by omega);go_wp2_with fail
       refine (io.out _).mono ?_;rintro e w4 ⟨rfl,hb4⟩;have co:=hid (bst HB3.out hb4);obtain ⟨rb,hrb⟩:=aA (bJ K)
       rw [hrb] at HF ⊢;clear hb4 hrb;go_wp2;go_ret;exact ⟨by rw [HF.out]; simp [hn0,hz,hv0],co.out⟩
     .go_wp2;go_ret;exact ⟨by rw [HF.out]; simp [hk3],HB3.out⟩
    .have G6:=Ni.bZ (s:=N.v) (by omega);go_wp2;go_ret;exact ⟨by rw [HF.out]; simp [hv0],HB3.out⟩
   .obtain rfl:n=0:=by omega
    go_wp2;go_ret;exact ⟨by rw [HF.out]; simp,HB3.out⟩
  .rw [if_neg hkd] at HF;have hk2:(N.kd==2)=false:=by simp; exact hkd
   clear hkd;by_cases hkd:N.kd=3
   .rw [if_pos hkd] at HF;go_enter func96,ntmps96;go_wp2_with (refine aB (bH HO.out HL.out ?_) ?_; · exact ⟨_,rfl,rfl⟩)
    refine HK.out.mono ?_;rintro e w3 ⟨a3,n3,rN,rfl,hs3,hb3⟩;have hO3:=HO.out.below hb3;obtain ⟨c0,c1,c2⟩:=eF hO3;have ck:w3.cell? ⟨w.heap.size,3,none⟩=some (.string (N.ks.getD 0 eB)):=mG hO3 HL.out 0 (by decide);have eq:=hs3.len;have pi:=hs3.2.1;have xF:=hs3.1;unfold maxLen at pi;have mu:=hid hs3;have HB3:=hid (nY (yt hb3));rw [eq] at HF;rw [hkd] at c0;clear hs3 hb3 hO3 HK eq;by_cases hn0:n=0
    .subst hn0;by_cases hv0:N.v.size=0
     .have n9:=cZ hv0;rw [n9] at c2;by_cases hk3:2<=n3
      .have E9:=hid (λw4 hb4=>Ec (dF N.ks) Zg.out a3 n3 rN w4 (mu.out.below hb4));obtain ⟨KL,lw⟩:=aA ((dF N.ks).all bJ)
       rw [lw] at HF E9;clear lw;go_wp2_with fail
       refine (E9.out _ aI).mono ?_;rintro e w4 ⟨rfl,hb4⟩;have co:=hid (bst HB3.out hb4);clear hb4;go_wp2;go_ret;exact ⟨by rw [HF.out]; simp [hk3,hv0],co.out⟩
      .go_wp2;go_ret;exact ⟨by rw [HF.out]; simp [hk3],HB3.out⟩
     .have G6:=Ni.bZ (s:=N.v) (by omega);go_wp2;go_ret;exact ⟨by rw [HF.out]; simp [hv0],HB3.out⟩
    .go_wp2;go_ret;exact ⟨by rw [HF.out]; simp [hn0],HB3.out⟩
   .rw [if_neg hkd] at HF;have Zh:(N.kd==3)=false:=by simp; exact hkd
    go_enter func96,ntmps96;go_wp2_with (refine aB (bH HO.out HL.out ?_) ?_; · exact ⟨_,rfl,rfl⟩)
    refine HK.out.mono ?_;rintro e w3 ⟨a3,n3,rN,rfl,hs3,hb3⟩;have hO3:=HO.out.below hb3;obtain ⟨c0,c1,c2⟩:=eF hO3;have ck:w3.cell? ⟨w.heap.size,3,none⟩=some (.string (N.ks.getD 0 eB)):=mG hO3 HL.out 0 (by decide);have eq:=hs3.len;have pi:=hs3.2.1;have xF:=hs3.1;unfold maxLen at pi;have mu:=hid hs3;have HB3:=hid (nY (yt hb3));clear hs3 hb3 hO3 HK eq;go_wp2;go_ret;exact ⟨by rw [HF.out]; rfl,HB3.out⟩
theorem sG (N:Nd) (a:aL) (n c:Nat) (hl:N.ks.length=16) (w:World) (hB:bf w a n c N.p) (hv:N.v.size<=maxLen) (hR:∀ k∈N.ks,mW k) :
  Calls prog 59 #[.agg (ndC N a n c)] w λe w'=>e = .returned (.int .i64 (if dN bJ N then 0 else 2))/\Below w.heap.size w w':=by
 have hp:=hB.len;have hm:=hB.2.1;have hnc:=hB.1;have HO:Hid (dL (w.alloc (.cells (ndC N a n c) 67)) w.heap.size N a n c):=hid (Rg.Own.new _ _ _);have iz:=hid (al1 w (.cells (ndC N a n c) 67));have QR:=hid (PU N a n c hl hp (by omega) hv hR (w.alloc (.cells (ndC N a n c) 67)));have px:=hid (fK a n c N.p (w.alloc (.cells (ndC N a n c) 67)) (hB.below (al1 _ _)));obtain ⟨c0,c1,c2⟩:=eF HO.out;have HL:=hid hl;unfold maxLen at hm;obtain ⟨F,hF⟩:=aA (if dN bJ N then (0:Int) else 2)
 have HM:Hid (F=if (decide (n<=64)&&dx N.p&&kK bJ N)=true then 0 else 2):=hid (by rw [<-hF]; unfold dN; rw [hp]);rw [hF];clear hF hR hB hp hl hv;obtain ⟨R,hR⟩:=aA (dx N.p)
 obtain ⟨T,hT⟩:=aA (kK bJ N)
 rw [hR] at HM px;rw [hT] at HM QR;clear hR hT;by_cases h64:n<=64
 .have d64:decide (64<(n:Int))=false:=by simp; omega
  cases R with
  | true =>
   go_enter func59,ntmps59;go_wp2_with fail
   refine px.out.mono ?_;rintro e w3 ⟨rfl,rfl⟩;go_wp2_with (refine Rg.runW (by rfl) _ _ (bH HO.out HL.out ?_) ?_; · exact ⟨_,rfl,rfl⟩)
   refine QR.out.mono ?_;rintro e w3 ⟨rfl,hb3⟩;have HB3:=hid (bst iz.out hb3);clear hb3 QR px;cases T;all_goals
    go_wp2;go_ret;exact ⟨by rw [HM.out]; simp [h64],HB3.out⟩
  | false =>
   go_enter func59,ntmps59;go_wp2_with fail
   refine px.out.mono ?_;rintro e w3 ⟨rfl,rfl⟩;go_wp2;go_ret;exact ⟨by rw [HM.out]; simp,iz.out⟩
 .have d64:decide (64<(n:Int))=true:=by simp; omega
  go_enter func59,ntmps59;go_wp2;go_ret;exact ⟨by rw [HM.out]; simp [h64],iz.out⟩
end No
end
end Go.Proofs.YtokaiemgjngcoaaGreatDoor
