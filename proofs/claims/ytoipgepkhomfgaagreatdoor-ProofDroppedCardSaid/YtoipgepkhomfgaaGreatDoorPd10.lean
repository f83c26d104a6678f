/-
 Contracts of node.stand, node.item, node.Put.
-/
import Derived.Test.YtoipgepkhomfgaaGreatDoorPd9
open Go.Lib (hid)
open Go.Proofs.Tryz
set_option linter.unusedSimpArgs false
set_option linter.unusedVariables false
set_option maxHeartbeats 40000000
set_option maxRecDepth 100000
namespace Go.Proofs.YtoipgepkhomfgaaGreatDoor
variable {o:Oper} {a pa:aK} {w w' w1 w2:World} {K:Act->World->Prop} {Q:Exit->Act->World->Prop} {ops:Array Oper} {v:Value} {L c cap g j kn:Nat} {r:aL} {t:TypeId} {act:Act} {cur cur':aN}
section
open Go.RowKit
namespace No
open Rl Ni
theorem jr (ev:Operand->Value) (o:Oper) (w:World) (b:Nat) (hb:b=w.heap.size) (ho:o.op = .alloc 102) :
  (execOp ev o).run prog w = .ok (.value (.pointer (some ⟨b,0,none⟩))) (w.alloc (.cells (itC it0 none 0 0) 102)):=by
 subst hb;unfold execOp;rw [ho];kernel_rfl
theorem CY (k:aL) (hk:k.size<=9223372036854775807) (w:World):Calls prog 97 #[.string k] w (AQ w (fF k)):=by
 obtain ⟨w2,hw2⟩:=au (w.alloc (.cells (itC it0 none 0 0) 102))
 have hO:Rg.Own w2 w.heap.size (itC it0 none 0 0) 102:=by rw [hw2]; exact Rg.Own.new _ _ _
 have HB2:Hid (Below w.heap.size w w2):=hid (by rw [hw2]; exact al1 _ _);have HO:=hid hO;have HP:=hid (wF k w2);cases hp:dN k with
 | true =>
  rw [pW hp];rw [hp] at HP;have HT:=hid (kR k w2);clear hO hp;subst hw2;go_enter func97,ntmps97;go_wp2_with (refine aA (jr _ _ _ w.heap.size rfl rfl) ?_)
  refine HP.out.mono ?_;rintro e w3 ⟨rfl,rfl⟩;go_wp2_with fail
  refine HT.out.mono ?_;rintro e w4 ⟨rfl,hb4⟩;have b8:=hid (HO.out.below hb4);have bc:=hid (bst HB2.out hb4);clear hb4;go_wp2_with (refine mU b8.out (.mk false k []) none 0 0 rfl _ _ rfl rfl rfl rfl ?_)
  exact bodyPost_ret (nN rfl _ rfl (cB (vI b8.out).2)) rfl ⟨none,0,0,rfl,bK.nil _ _,eG bc.out aG _⟩
 | false =>
  rw [hp] at HP;have HR:Hid (fF k=match iy k.data.toList with | .ok x=>x | .error _=>it0):=hid (by unfold fF; rw [hp]; rfl);have HW:=hid (Ej k hk w2);have hcases:Hid (∀ e w',pF w2 (iy k.data.toList) e w'->∃ (c:Int) (a:aK) (nn cap:Nat),e = .returned (.tuple #[itV (fF k) a nn cap,.int .i64 c])/\bK w2.heap.size w' (fF k).xs a nn cap/\Below w2.heap.size w2 w'):=hid (by
   intro e w' h;rw [HR.out];cases hw:iy k.data.toList with
   | error c =>
    rw [hw] at h;obtain ⟨rfl,hb⟩:=h;exact ⟨c,none,0,0,rfl,bK.nil _ _,hb⟩
   | ok x =>
    rw [hw] at h;obtain ⟨a,nn,cap,rfl,hI,hb⟩:=h;exact ⟨0,a,nn,cap,rfl,hI,hb⟩)
  obtain ⟨x,hx⟩:=ay (fF k)
  rw [hx] at hcases ⊢;clear hO hp HR hx;subst hw2;go_enter func97,ntmps97;go_wp2_with (refine aA (jr _ _ _ w.heap.size rfl rfl) ?_)
  refine HP.out.mono ?_;rintro e w3 ⟨rfl,rfl⟩;go_wp2_with fail
  refine HW.out.mono ?_;intro e w4 hpost;obtain ⟨c,a,nn,cap,rfl,hI,hb4⟩:=hcases.out e w4 hpost;have b8:=hid (HO.out.below hb4);have bc:=hid (bst HB2.out hb4);have HI4:=hid hI;have o8:Hid (Rg.Own (w4.alloc (.cells (itC it0 none 0 0) 102)) w4.heap.size (itC it0 none 0 0) 102):=hid (Rg.Own.new _ _ _);have gR:=hid (vI (cs':=itC x a nn cap) o8.out);have ei:Below w4.heap.size w4 ((w4.alloc (.cells (itC it0 none 0 0) 102)).setRow w4.heap.size (itC x a nn cap)):=eG (al1 _ _) aG _;have az:=hid (b8.out.below ei)
  have aa:=hid (bst bc.out ei);have qT:=hid (HI4.out.stays ei);clear hpost hI hb4 hcases HP HW ei;go_wp2_with (first
   | (refine aA (jr _ _ _ w4.heap.size rfl rfl) ?_)
   | (refine mU o8.out x a nn cap rfl _ _ rfl rfl rfl rfl ?_)
   | (refine aA (Lv gR.out ?_) ?_; · exact ⟨_,rfl,rfl⟩)
   | (refine mU az.out x a nn cap rfl _ _ rfl rfl rfl rfl ?_))
  exact bodyPost_ret (nN rfl _ rfl (cB (vI az.out).2)) rfl ⟨a,nn,cap,rfl,bK.weak (lI qT.out (by simp) _) (by simp),eG aa.out aG _⟩
theorem Gl (a:aK) (n c:Nat) (l:aM) (leaf:Bool) (hn:n<=64) (hr:dh l=true) (w:World) (h:bf w a n c l) :
  Calls prog 99 #[.slice a n c,.bool leaf] w λe w'=>e = .returned (.tuple #[.string ⟨(jV l leaf).toArray⟩,.int .i64 0])/\Below w.heap.size w w':=by
 by_cases h2:n%2=0
 .exact Qm a n c l leaf hn h2 hr w h
 .cases a with
  | none =>
   obtain ⟨rfl,_,_⟩:=h.Fy;exact absurd rfl h2
  | some ad =>
   obtain ⟨b,off,e,_,_⟩:=h.at' 0 (by omega);obtain rfl:=Option.some.inj e;exact Vs b off n c l leaf hn (by omega) hr w h
theorem IU {a:Act} {x y:It} {A D:aK} {An Ac Dn Dc:Nat} (hw:Region.wanted o (yielded ops a.tmps)=true)
  (ho:∃ p q,o.op = .buildSlice 100 2 #[(0,p),(1,q)]/\a.eval p = .agg #[.bool x.l,.string x.s,.slice A An Ac]/\a.eval q = .agg #[.bool y.l,.string y.s,.slice D Dn Dc])
  (h:∀ w' b,Rg.Own w' b #[.bool x.l,.string x.s,.slice A An Ac,.bool y.l,.string y.s,.slice D Dn Dc] 102->Below w.heap.size w w'->K (a.put o.dst (.slice (some ⟨b,0,none⟩) 2 2)) w'):if Region.wanted o (yielded ops a.tmps)=true then Oper.wp prog o a w K Q else K (a.put o.dst undef) w:=by
 obtain ⟨p,q,ho,hp,hq⟩:=ho;obtain ⟨i0,hi,hz,hs,hby⟩:=info_parts xQ;refine Rg.want hw (wp_buildSlice 100 102 2 _ ho #[.bool x.l,.string x.s,.slice A An Ac,.bool y.l,.string y.s,.slice D Dn Dc] i0 _ underlying100 hi hz (by rw [hs]; decide) (by rw [hs]; decide) ?_ (h _ _ (Rg.Own.new _ _ _) (al1 _ _)));simp only [List.map_toArray,List.map_cons,List.map_nil,hp,hq,hs];kernel_rfl
def SI (w:World) (o:Nat) (v:Value) (w':World):Prop:=w'.cell? ⟨w.heap.size,o,none⟩=some v/\(∃ cs:aN,cs.size=3/\Rg.Own w' (w.heap.size+1) cs 102)/\Below w.heap.size w w'
theorem SI.lt {o:Nat} (h:SI w o v w1):w.heap.size+1<w1.heap.size:=by
 obtain ⟨_,⟨_,_,h⟩,_⟩:=h;exact h.1
theorem SI.keep {o:Nat} (h:SI w o v w1) (hb:Below w1.heap.size w1 w2):SI w o v w2:=by
 have hlt:=h.lt;obtain ⟨h0,⟨cs,hcs,h1⟩,h2⟩:=h;exact ⟨(Below.cell (p:=⟨w.heap.size,o,none⟩) hb (by show w.heap.size<w1.heap.size; omega)).trans h0,⟨cs,hcs,h1.below hb⟩,bst h2 hb⟩
theorem uj (w:World) (N:Nd) (a:aK) (n c:Nat):∃ w2,w2=(w.alloc (.cells (ndC N a n c) 69)).alloc (.cells (itC it0 none 0 0) 102)/\dZ w2 w.heap.size N a n c/\Rg.Own w2 (w.heap.size+1) (itC it0 none 0 0) 102/\Below w.heap.size w w2/\w2.heap.size=w.heap.size+2:=by
 refine ⟨_,rfl,(Rg.Own.new _ _ _).below (al1 _ _),?_,al2 _ _ _,by simp⟩;have:=Rg.Own.new (w.alloc (.cells (ndC N a n c) 69)) (itC it0 none 0 0) 102;simpa using this
theorem zU (w:World) (o:Obj):(w.alloc o).heap.size=w.heap.size+1:=by simp
theorem Qt (N:Nd) (a:aK) (n c:Nat) (_hl:N.ks.length=16) (w:World) (hB:bf w a n c N.p) (hm:gB bW N=true) (hkd:N.kd=1):Calls prog 52 #[.agg (ndC N a n c)] w (AQ w (fP N)):=by
 obtain ⟨m1,m2,_⟩:=nC hm;have rS:n<=64:=by rw [<-hB.len]; exact m1
 obtain ⟨w2,hw2,hN,hO,gd,hs2⟩:=uj w N a n c;have lA:=hid (Gl a n c N.p (decide (N.kd=1)) rS m2 w2 (hB.below gd));have HI:Hid (fP N = .mk true ⟨#[]⟩ [.mk false ⟨(jV N.p (decide (N.kd=1))).toArray⟩ [],.mk false N.v []]):=hid (by unfold fP cO qO; rw [if_neg (by omega),if_pos hkd]);rw [HI.out];clear HI;obtain ⟨S,hS⟩:=ay (⟨(jV N.p (decide (N.kd=1))).toArray⟩:aL)
 rw [hS] at lA ⊢;rw [hkd] at lA;rw [show decide ((1:Int)=1)=true by decide] at lA;obtain ⟨c0,c1,c2⟩:=dD hN;rw [hkd] at c0;have wj:=hid hkd;have HO:=hid hO;have HN:=hid hN;have HB:=hid gd;clear hO hN gd hB hm m1 m2 hS hkd;subst hw2;go_enter func52,ntmps52;go_wp2_with (refine aA (jr _ _ _ (w.heap.size+1) (zU _ _).symm rfl) ?_)
 refine lA.out.mono ?_;rintro e w5 ⟨rfl,hb5⟩;have az:=hid (HO.out.below hb5);have aa:=hid (bst HB.out hb5);have uk:=HN.out.below hb5;obtain ⟨c0,c1,c2⟩:=dD uk;clear hb5 uk lA;rw [wj.out] at c0;go_wp2_with fail
 refine aC (S:=SI w 2 (.string N.v)) (⟨c2,⟨_,rfl,az.out.drew⟩,aa.out.drew⟩) λhld=>?_;refine ah 0 ?_;try simp only [Act.put,ak]
 refine ah 2 ?_;try simp only [Act.put,ak]
 refine ah 3 ?_ (hy:=by intro wz hSw; (have q0:=hSw.1; go_simp <;> with_reducible rfl));try simp only [Act.put,ak]
 refine aj 1 λK hK=>?_;go_simp;go_at_call 100
 (with_reducible refine (kR S _).mono ?_)
 rintro e Up ⟨rfl,hbx⟩;refine hK.out _ _ (SI.keep hld hbx) λhld=>?_;clear hK K hbx;try simp only [Act.put,ak]
 refine aj 4 λK hK=>?_;go_simp;go_at_call 100
 (with_reducible refine (kR N.v _).mono ?_)
 rintro e UB ⟨rfl,hbx⟩;refine hK.out _ _ (SI.keep hld hbx) λhld=>?_;clear hK K hbx;try simp only [Act.put,ak]
 refine aj 5 λK hK=>?_;refine IU (x:=.mk false S []) (y:=.mk false N.v []) (by rfl) ⟨_,_,rfl,rfl,rfl⟩ ?_;rintro UI g5 h5 hbx;refine hK.out _ _ (SI.keep hld hbx) λhld=>?_;clear hK K hbx;try simp only [Act.put,ak]
 refine aj 6 λK hK=>?_;have lE:=hid (zn [.mk false S [],.mk false N.v []] _ _ _ _ (Oc h5 (FK _ (.mk false S []) rfl) (FK _ (.mk false N.v []) rfl)));go_simp;go_at_call 98
 (with_reducible refine lE.out.mono ?_)
 rintro e UP ⟨la,ln,lc,rfl,o9,hbx⟩;replace o9:=bK.weak (B':=w.heap.size+2) o9 (by have:=hld.lt; omega);refine hK.out _ _ (SI.keep hld hbx) λhld=>?_;clear hK K hbx lE;try simp only [Act.put,ak]
 refine aj 7 λK hK=>?_;obtain ⟨cs,hcs,hOr⟩:=hld.2.1;refine Rg.meetStore (by rfl) hOr 102 (itC (.mk true ⟨#[]⟩ [.mk false S [],.mk false N.v []]) la ln lc) ⟨_,_,rfl,rfl,rfl⟩ (gG _ _ _ _) (by rw [hcs]; rfl) (iW _ _ _ _) ?_;rintro wz hn hu;have wq:Below w.heap.size w wz:=hu.below hld.2.2 (by omega);have FS:=bK.kept o9 (by rw [hu.size]; exact aG) (λb o hB _=>World.cell?_of_block (hu.block b (by omega)));have hcz:=(World.cell?_of_block (a:=⟨w.heap.size,2,none⟩) (hu.block w.heap.size (by omega))).trans hld.1
 refine hK.out _ _ (⟨hcz,⟨_,rfl,hn⟩,wq⟩) λhld=>?_;clear hK K;try simp only [Act.put]
 refine aB ?_;go_wp2;exact bodyPost_ret (nN rfl _ rfl (cB hn.2)) rfl ⟨la,ln,lc,rfl,bK.weak FS (by omega),wq⟩
theorem VH (N:Nd) (a:aK) (n c:Nat) (hl:N.ks.length=16) (w:World) (hB:bf w a n c N.p) (hm:gB bW N=true) (hkd:N.kd=2) (hks:(N.ks.getD 0 eB).size<=100):Calls prog 52 #[.agg (ndC N a n c)] w (AQ w (fP N)):=by
 obtain ⟨m1,m2,_⟩:=nC hm;have rS:n<=64:=by rw [<-hB.len]; exact m1
 obtain ⟨w2,hw2,hN,hO,gd,hs2⟩:=uj w N a n c;have lA:=hid (Gl a n c N.p (decide (N.kd=1)) rS m2 w2 (hB.below gd));have HI:Hid (fP N = .mk true ⟨#[]⟩ [.mk false ⟨(jV N.p (decide (N.kd=1))).toArray⟩ [],fF (N.ks.getD 0 eB)]):=hid (by unfold fP cO qO; rw [if_neg (by omega),if_neg (by omega)]);rw [HI.out];clear HI;obtain ⟨S,hS⟩:=ay (⟨(jV N.p (decide (N.kd=1))).toArray⟩:aL)
 rw [hS] at lA ⊢;rw [hkd] at lA;rw [show decide ((2:Int)=1)=false by decide] at lA;obtain ⟨c0,c1,c2⟩:=dD hN;rw [hkd] at c0;have wj:=hid hkd;have US:=hid hl;have cw:=hid (λw=>CY (N.ks.getD 0 eB) (by omega) w);obtain ⟨X,hX⟩:=ay (fF (N.ks.getD 0 eB))
 rw [hX] at cw ⊢;obtain ⟨k,hk⟩:=ay (N.ks.getD 0 eB)
 rw [hk] at cw;have Hk:=hid hk;clear hX hk hks;have HO:=hid hO;have HN:=hid hN;have HB:=hid gd;clear hO hN gd hB hm m1 m2 hS hkd;subst hw2;go_enter func52,ntmps52;go_wp2_with (refine aA (jr _ _ _ (w.heap.size+1) (zU _ _).symm rfl) ?_)
 refine lA.out.mono ?_;rintro e w5 ⟨rfl,hb5⟩;have az:=hid (HO.out.below hb5);have aa:=hid (bst HB.out hb5);have uk:=HN.out.below hb5;obtain ⟨c0,c1,c2⟩:=dD uk;have ck:w5.cell? ⟨w.heap.size,3,none⟩=some (.string k):=by rw [<-Hk.out]; exact wB uk US.out 0 (by decide)
 clear hb5 uk lA;rw [wj.out] at c0;go_wp2_with fail
 refine aC (S:=SI w 3 (.string k)) (⟨ck,⟨_,rfl,az.out.drew⟩,aa.out.drew⟩) λhld=>?_;refine ah 0 ?_;try simp only [Act.put,ak]
 refine ah 2 ?_;try simp only [Act.put,ak]
 refine ah 3 ?_;try simp only [Act.put,ak]
 refine ah 4 ?_ (hy:=by intro wz hSw; (have q0:=hSw.1; go_simp <;> with_reducible rfl));try simp only [Act.put,ak]
 refine aj 1 λK hK=>?_;go_simp;go_at_call 100
 (with_reducible refine (kR S _).mono ?_)
 rintro e Up ⟨rfl,hbx⟩;refine hK.out _ _ (SI.keep hld hbx) λhld=>?_;clear hK K hbx;try simp only [Act.put,ak]
 refine aj 5 λK hK=>?_;go_simp;go_at_call 97
 (with_reducible refine (cw.out _).mono ?_)
 rintro e UB ⟨kA,kN,kC,rfl,wt,hbx⟩;replace wt:=bK.weak (B':=0) wt (Nat.zero_le _);refine hK.out _ _ (SI.keep hld hbx) λhld=>?_;clear hK K hbx;try simp only [Act.put,ak]
 refine aj 6 λK hK=>?_;refine IU (x:=.mk false S []) (y:=X) (by rfl) ⟨_,_,rfl,rfl,rfl⟩ ?_;rintro UI g5 h5 hbx;replace wt:=iY.stays wt hbx;refine hK.out _ _ (SI.keep hld hbx) λhld=>?_;clear hK K hbx;try simp only [Act.put,ak]
 refine aj 7 λK hK=>?_;have lE:=hid (zn [.mk false S [],X] _ _ _ _ (Oc h5 (FK _ (.mk false S []) rfl) wt));go_simp;go_at_call 98
 (with_reducible refine lE.out.mono ?_)
 rintro e UP ⟨la,ln,lc,rfl,o9,hbx⟩;replace o9:=bK.weak (B':=w.heap.size+2) o9 (by have:=hld.lt; omega);refine hK.out _ _ (SI.keep hld hbx) λhld=>?_;clear hK K hbx lE;try simp only [Act.put,ak]
 refine aj 8 λK hK=>?_;obtain ⟨cs,hcs,hOr⟩:=hld.2.1;refine Rg.meetStore (by rfl) hOr 102 (itC (.mk true ⟨#[]⟩ [.mk false S [],X]) la ln lc) ⟨_,_,rfl,rfl,rfl⟩ (gG _ _ _ _) (by rw [hcs]; rfl) (iW _ _ _ _) ?_;rintro wz hn hu;have wq:Below w.heap.size w wz:=hu.below hld.2.2 (by omega);have FS:=bK.kept o9 (by rw [hu.size]; exact aG) (λb o hB _=>World.cell?_of_block (hu.block b (by omega)));have hcz:=(World.cell?_of_block (a:=⟨w.heap.size,3,none⟩) (hu.block w.heap.size (by omega))).trans hld.1
 refine hK.out _ _ (⟨hcz,⟨_,rfl,hn⟩,wq⟩) λhld=>?_;clear hK K;try simp only [Act.put]
 refine aB ?_;go_wp2;exact bodyPost_ret (nN rfl _ rfl (cB hn.2)) rfl ⟨la,ln,lc,rfl,bK.weak FS (by omega),wq⟩
def cellV (q:It × aK × Nat × Nat) (k:Nat):Value:=if k=0 then .bool q.1.l else if k=1 then .string q.1.s else .slice q.2.1 q.2.2.1 q.2.2.2
def OU (V:Nat->It × aK × Nat × Nat) (i:Nat):Value:=cellV (V (i/3)) (i%3)
abbrev z4:It × aK × Nat × Nat:=(it0,none,0,0)
def Ca:aN:=((List.range 51).map (OU λ_=>z4)).toArray
theorem Ci (ev:Operand->Value) (o:Oper) (w:World) (b:Nat) (hb:b=w.heap.size) (ho:o.op = .alloc 167) :
  (execOp ev o).run prog w = .ok (.value (.pointer (some ⟨b,0,none⟩))) (w.alloc (.cells Ca 167)):=by
 subst hb;unfold execOp;rw [ho];kernel_rfl
def uF (w:World) (g:Nat) (ks:List aL) (j:Nat):Prop:=∃ V:Nat->It × aK × Nat × Nat,w.rowIs g 167 51 (OU V)/\
 (∀ i,i<j->(V i).1=fF (ks.getD i eB)/\bK (g+1) w (V i).1.xs (V i).2.1 (V i).2.2.1 (V i).2.2.2)/\∀ i,j<=i->V i=z4
theorem uF.start (w:World) (ks:List aL):uF (w.alloc (.cells Ca 167)) w.heap.size ks 0:=by
 refine ⟨λ_=>z4,?_,λi hi=>absurd hi (Nat.not_lt_zero _),λ_ _=>rfl⟩;have hs:Ca.size=51:=by simp [Ca]
 rw [<-hs];refine World.rowIs_alloc w Ca _ _ (λi hi=>?_);rw [hs] at hi;simp [Ca,hi]
theorem uF.lt {w:World} {g j:Nat} {ks:List aL} (h:uF w g ks j):g<w.heap.size:=by
 obtain ⟨V,hr,_⟩:=h;exact hr.lt
theorem uF.keep {ks:List aL} (h:uF w g ks j) (hb:Below w.heap.size w w'):uF w' g ks j:=by
 obtain ⟨V,hr,h1,h2⟩:=h;exact ⟨V,hr.of_block (hb.block g hr.lt),λi hi=>⟨(h1 i hi).1,bK.kept (h1 i hi).2 hb.size (λb o _ hlt=>hb.cell (p:=⟨b,o,none⟩) hlt)⟩,h2⟩
theorem BD (w:World) (b o:Nat) (v:Value):Rg.Upd w b (w.setCell ⟨b,o,none⟩ v):=⟨rfl,rfl,rfl,by simp [World.setCell],λk hk=>Below.heap_setCell _ _ _ _ hk⟩
theorem rW {b:Nat} (h:Rg.Upd w b w1) (h2:Rg.Upd w1 b w2):Rg.Upd w b w2 :=
 ⟨h2.os.trans h.os,h2.tape.trans h.tape,h2.output.trans h.output,h2.size.trans h.size,λk hk=>(h2.block k hk).trans (h.block k hk)⟩
theorem uF.step {ks:List aL} (h:uF w g ks j) (hj:j<16) {A:aK} {N C:Nat} (hI:bK (g+1) w (fF (ks.getD j eB)).xs A N C) :
  uF (w.setCells g (j*3) (itC (fF (ks.getD j eB)) A N C).toList) g ks (j+1)/\Rg.Upd w g (w.setCells g (j*3) (itC (fF (ks.getD j eB)) A N C).toList)/\w.there g (j*3) (itC (fF (ks.getD j eB)) A N C).size:=by
 obtain ⟨V,hr,h1,h2⟩:=h;have hu:Rg.Upd w g (w.setCells g (j*3) (itC (fF (ks.getD j eB)) A N C).toList):=rW (rW (BD w g (j*3) _) (BD _ g (j*3+1) _)) (BD _ g (j*3+1+1) _);refine ⟨⟨λi=>if i=j then (fF (ks.getD j eB),A,N,C) else V i,?_,λi hi=>?_,λi hi=>?_⟩,hu,λi hi=>?_⟩
 .have h3:(w.setCells g (j*3) (itC (fF (ks.getD j eB)) A N C).toList).rowIs g 167 51 _:=((hr.set (j*3) (.bool (fF (ks.getD j eB)).l)).set (j*3+1) (.string (fF (ks.getD j eB)).s)).set (j*3+1+1) (.slice A N C);refine h3.congr (λi hi=>?_);unfold OU;dsimp only;by_cases hij:i/3=j
  .rw [if_pos hij];unfold cellV;by_cases e2:i=j*3+1+1
   .rw [if_pos e2,if_neg (by omega),if_neg (by omega)]
   .rw [if_neg e2];by_cases e1:i=j*3+1
    .rw [if_pos e1,if_neg (by omega),if_pos (by omega)]
    .rw [if_neg e1,if_pos (by omega),if_pos (by omega)]
  .rw [if_neg hij,if_neg (by omega),if_neg (by omega),if_neg (by omega)]
 .dsimp only;by_cases hij:i=j
  .subst hij;rw [if_pos rfl];exact ⟨rfl,bK.kept hI (by rw [hu.size]; exact aG) (λb o hB _=>World.cell?_of_block (hu.block b (by omega)))⟩
  .rw [if_neg hij];obtain ⟨e1,e2⟩:=h1 i (by omega);exact ⟨e1,bK.kept e2 (by rw [hu.size]; exact aG) (λb o hB _=>World.cell?_of_block (hu.block b (by omega)))⟩
 .dsimp only;rw [if_neg (by omega)];exact h2 i (by omega)
 .have h3:(itC (fF (ks.getD j eB)) A N C).size=3:=rfl;rw [h3] at hi;exact ⟨by rw [hr.cell (by omega)]; rfl,hr.frozen _⟩
theorem uF.done {ks:List aL} (h:uF w g ks 16) (hl:ks.length=16):iR w (ks.map fF++[it0]) (some ⟨g,0,none⟩) 17 17:=by
 obtain ⟨V,hr,h1,h2⟩:=h;have hV:∀ (j:Nat) (x:It),(ks.map fF++[it0])[j]? = some x->j<17/\(V j).1=x/\iR w x.xs (V j).2.1 (V j).2.2.1 (V j).2.2.2:=by
  intro j x hx;by_cases hj:j<16
  .rw [List.getElem?_append_left (by simp [hl]; omega),List.getElem?_map,List.getElem?_eq_getElem (by omega),Option.map_some] at hx;obtain ⟨e1,e2⟩:=h1 j hj;have e:ks.getD j eB=ks[j]:=by simp [List.getD,hl,hj]
   have hxe:(V j).1=x:=by rw [e1,e]; exact Option.some.inj hx
   rw [hxe] at e2;exact ⟨by omega,hxe,bK.weak e2 (Nat.zero_le _)⟩
  .rw [List.getElem?_append_right (by simp [hl]; omega)] at hx;have G0:j=16:=by
    have:=(List.getElem?_eq_some_iff.1 hx).1;simp [hl] at this;omega
   subst G0;simp [hl] at hx;subst hx;rw [h2 16 aG];exact ⟨by omega,rfl,bK.nil _ _⟩
 refine iY.mk (λj=>(V j).2.1) (λj=>(V j).2.2.1) (λj=>(V j).2.2.2) (by simp [hl]) aG (by unfold maxLen; omega) (by omega) (λe=>by cases e) (λj x hx=>?_) (λj x hx=>(hV j x hx).2.2);obtain ⟨hj,hxe,_⟩:=hV j x hx;refine ⟨g,0,rfl,Nat.zero_le _,hr.lt,?_⟩;rw [Nat.zero_add];refine ⟨?_,?_,?_⟩
 .rw [hr.cell (by omega)];unfold OU cellV;rw [show j*3/3=j by omega,if_pos (by omega),hxe]
 .rw [hr.cell (by omega)];unfold OU cellV;rw [show (j*3+1)/3=j by omega,if_neg (by omega),if_pos (by omega),hxe]
 .rw [hr.cell (by omega)];unfold OU cellV;rw [show (j*3+2)/3=j by omega,if_neg (by omega),if_neg (by omega)]
theorem Il (N:Nd) (a:aK) (n c:Nat) (hl:N.ks.length=16) (w:World) (hkd:N.kd=3) (hks:∀ k∈N.ks,k.size<=100):Calls prog 52 #[.agg (ndC N a n c)] w (AQ w (fP N)):=by
 obtain ⟨w2,hw2,hN,hO,gd,hs2⟩:=uj w N a n c;have HI:Hid (fP N = .mk true ⟨#[]⟩ (N.ks.map fF++[it0])):=hid (by unfold fP cO; rw [if_pos hkd]);rw [HI.out];clear HI;have il:Hid (uF (w2.alloc (.cells Ca 167)) (w.heap.size+2) N.ks 0):=hid (by rw [<-hs2]; exact uF.start w2 N.ks);have Nm:Hid (dZ (w2.alloc (.cells Ca 167)) w.heap.size N a n c):=hid (hN.below (al1 _ _));have ww:Hid (Rg.Own (w2.alloc (.cells Ca 167)) (w.heap.size+1) (itC it0 none 0 0) 102):=hid (hO.below (al1 _ _))
 have HB0:Hid (Below w.heap.size w (w2.alloc (.cells Ca 167))):=hid (bst gd (al1 _ _));obtain ⟨c0,c1,c2⟩:=dD hN;rw [hkd] at c0;have HL:=hid hl;have UT:=hid hks;have UV:=hid hs2;clear hN hO gd hks hkd hs2 hl;subst hw2;go_enter func52,ntmps52;go_wp2_with (first
  | (refine aA (jr _ _ _ (w.heap.size+1) (zU _ _).symm rfl) ?_)
  | (refine aA (Ci _ _ _ (w.heap.size+2) UV.out.symm rfl) ?_)
  | (refine aA (jO Nm.out HL.out ⟨_,rfl,rfl⟩) ?_))
 go_loopw [13] (λi wr=>∃ j:Nat,j<=16/\i = .int .i64 j/\Hid (uF wr (w.heap.size+2) N.ks j)/\Hid (Rg.Own wr (w.heap.size+1) (itC it0 none 0 0) 102)/\Hid (Below w.heap.size w wr)) (λi _=>16-(intOf i).toNat)
 case atStart=>exact ⟨0,Nat.zero_le _,rfl,il,ww,HB0⟩
 case round =>
  obtain ⟨j,hj,rfl,HR,HO,HB⟩:=hrel;clear il ww HB0 Nm;by_cases hlt:j<16
  .have cw:=hid (CY (N.ks.getD j eB) (by
    have:=UT.out (N.ks.getD j eB) (by rw [List.getD_eq_getElem?_getD,List.getElem?_eq_getElem (by rw [HL.out]; exact hlt)]; exact List.getElem_mem _);omega) wr)
   go_wp2_with (refine Rg.run rfl (.string (N.ks.getD j eB)) _ (dF HL.out hlt ⟨_,_,rfl,rfl,rfl⟩) ?_)
   refine cw.out.mono ?_;rintro e w5 ⟨A,M,C,rfl,hI,hb5⟩;have s6:=HR.out.lt;have hst:=(HR.out.keep hb5).step hlt (bK.weak (B':=w.heap.size+2+1) hI (by omega));have HS:=hid hst;have az:=hid (HO.out.below hb5);have aa:=hid (bst HB.out hb5);obtain ⟨x,hx⟩:=ay (fF (N.ks.getD j eB))
   rw [hx] at HS ⊢;clear hI hb5 hst cw HO HB HR hx;go_wp2_with (refine wpList_store_mid rfl 102 _ _ rfl (w.heap.size+2) (j*3) (itC x A M C) rfl rfl HS.out.2.2 (gG _ _ _ _) (iW _ _ _ _) ?_)
   go_roundw
   case rel=>exact ⟨j+1,by omega,by go_num,hid HS.out.1,hid (az.out.upd HS.out.2.1 (by omega)),hid (HS.out.2.1.below aa.out (by omega))⟩
   case measure=>simp [intOf]; omega
  .obtain rfl:j=16:=by omega
   have lE:=hid (zn _ _ _ _ _ (HR.out.done HL.out));obtain ⟨xs,hxs⟩:=ay (N.ks.map fF++[it0])
   rw [hxs] at lE;have HX:=hid hxs;clear hxs;go_wp2_with fail
   refine lE.out.mono ?_;rintro e w6 ⟨la,ln,lc,rfl,o9,hb6⟩;have cA:=hid (HO.out.below hb6);have bi:=hid (bst HB.out hb6);have hs6:=HO.out.1;have G4:=hid o9;clear o9 hb6 lE;go_wp2_with (refine mU cA.out (.mk true ⟨#[]⟩ xs) la ln lc rfl _ _ rfl rfl rfl rfl ?_)
   exact bodyPost_ret (nN rfl _ rfl (cB (vI cA.out).2)) rfl ⟨la,ln,lc,by rw [HX.out],by rw [HX.out]; exact bK.weak (lI G4.out (by omega) _) (by omega),eG bi.out (by omega) _⟩
theorem Wi (N:Nd) (a:aK) (n c:Nat) (hl:N.ks.length=16) (w:World) (hB:bf w a n c N.p) (hm:gB bW N=true) (hks:∀ k∈N.ks,k.size<=100):Calls prog 52 #[.agg (ndC N a n c)] w (AQ w (fP N)):=by
 rcases oM hl hm with ⟨k1,_⟩ | ⟨k1,_⟩ | ⟨k1,_⟩
 .exact Qt N a n c hl w hB hm k1
 .exact VH N a n c hl w hB hm k1 (hks _ (by rw [List.getD_eq_getElem?_getD,List.getElem?_eq_getElem (by omega)]; exact List.getElem_mem _))
 .exact Il N a n c hl w k1 hks
def Wo (N:Nd):Value:=.tuple #[.string (if gB bW N then ⟨(jB N).toArray⟩ else eB),.int .i64 (if gB bW N then 0 else 2)]
theorem Gv (N:Nd) (a:aK) (n c:Nat) (hl:N.ks.length=16) (w:World) (hB:bf w a n c N.p) (hv:N.v.size<=maxLen) (hks:∀ k∈N.ks,k.size<=100) :
  Calls prog 28 #[.agg (ndC N a n c)] w λe w'=>e = .returned (Wo N)/\Below w.heap.size w w':=by
 obtain ⟨w2,hw2⟩:=au (w.alloc (.cells (ndC N a n c) 69))
 have hO:dZ w2 w.heap.size N a n c:=by rw [hw2]; exact Rg.Own.new _ _ _
 have gd:Below w.heap.size w w2:=by rw [hw2]; exact al1 _ _
 have HC:=hid (oV N a n c hl w2 (hB.below gd) hv (λk hk=>kG k (by have:=hks k hk; omega)));have D9:Hid (gB bW N=true->∀ w',Below w.heap.size w w'->Calls prog 52 #[.agg (ndC N a n c)] w' (AQ w' (fP N))):=hid (λhm w' hb=>Wi N a n c hl w' (hB.below hb) hm hks);have HF:Hid (gB bW N=true->Fits 0 (fP N)/\(fP N).size<=4096/\(fP N).bytes.length<=1099511627776):=hid (λhm=>by
  obtain ⟨f1,f2,f3,_⟩:=Cw hl hm;exact ⟨f1,f3,by omega⟩)
 have HO:=hid hO;have cH:=hid gd;have HL:=hid hl;unfold Wo;obtain ⟨M,hM⟩:=ay (gB bW N)
 rw [hM] at HC D9 HF ⊢;clear hO gd hB hks hv hl hM;unfold jB;obtain ⟨X,hX⟩:=ay (fP N)
 rw [hX] at D9 HF ⊢;clear hX;subst hw2;cases M with
 | false =>
  go_enter func28,ntmps28;go_wp2_with (refine aA (bR HO.out HL.out ?_) ?_; · exact ⟨_,rfl,rfl⟩)
  refine HC.out.mono ?_;rintro e w3 ⟨rfl,hb3⟩;have HB3:=hid (bst cH.out hb3);clear hb3;go_wp2;go_ret2
  exact ⟨rfl,HB3.out⟩
 | true =>
  go_enter func28,ntmps28;go_wp2_with (refine aA (bR HO.out HL.out ?_) ?_; · exact ⟨_,rfl,rfl⟩)
  refine HC.out.mono ?_;rintro e w3 ⟨rfl,hb3⟩;have ag:=hid (HO.out.below hb3);have HB3:=hid (bst cH.out hb3);have HI3:=hid (D9.out (by first | rfl | trivial) w3 HB3.out);clear hb3 HC D9;go_wp2_with (refine aA (bR ag.out HL.out ?_) ?_; · exact ⟨_,rfl,rfl⟩)
  refine HI3.out.mono ?_;rintro e w4 ⟨la,ln,lc,rfl,hI,hb4⟩;have bc:=hid (bst HB3.out hb4);have lL:=hid (yL X w4 (itV X la ln lc) ⟨la,ln,lc,rfl,bK.weak hI (Nat.zero_le _)⟩ (HF.out (by first | rfl | trivial)).1 (HF.out (by first | rfl | trivial)).2.1 (HF.out (by first | rfl | trivial)).2.2);clear hI hb4 HI3;go_wp2_with fail
  refine lL.out.mono ?_;rintro e w5 ⟨rfl,hb5⟩;have aa:=hid (bst bc.out hb5);clear hb5;go_wp2;go_ret2
  exact ⟨rfl,aa.out⟩
end No
end
section
open Go.RowKit
namespace Tm
open Tr Rf Rl Ni No Pk Sm
theorem Xu {N:Nd} (hl:N.ks.length=16) (h:gB bW N=true):(jB N).length<=900000:=by
 have key:∀ m,(∀ y∈cO N,y.bytes.length<=m)->(cO N).length*m<=200000->(jB N).length<=900000:=by
  intro m h1 h2;have h3:=MK (cO N) m h1;unfold jB fP;rw [lK _ (by omega),List.length_append];have:=zI ((cO N).map It.bytes).flatten.length true (by omega);omega
 have hg:=BG hl h;rcases oM hl h with ⟨k1,_⟩ | ⟨k1,_⟩ | ⟨k1,_,_,_,hr⟩
 .exact key 65561 (λy hy=>(hg y hy).2) (by unfold cO; rw [if_neg (by omega),if_pos k1]; simp)
 .exact key 65561 (λy hy=>(hg y hy).2) (by unfold cO; rw [if_neg (by omega),if_neg (by omega)]; simp)
 .refine key 41 (λy hy=>?_) (by have:=Dz hl; omega);unfold cO at hy;rw [if_pos k1] at hy;rcases List.mem_append.1 hy with hy | hy
  .obtain ⟨k,hk,rfl⟩:=List.mem_map.1 hy;exact (nG (hr k hk)).2
  .obtain rfl:=List.mem_singleton.1 hy;have h:=(nG (k:=eB) (by unfold bW; rw [vR]; rfl)).2;rw [pW vR] at h;exact h
theorem MV {k:aL} (h:bW k=true):k.size<=32:=by
 unfold bW at h;rw [Bool.or_eq_true,Bool.and_eq_true] at h;rcases h with h | h
 .have:k.size=0\/k.size=32:=of_decide_eq_true h;omega
 .have:=of_decide_eq_true h.1;omega
theorem WO:gB bW nd0=false:=by
 unfold gB kV;rfl
theorem Gn (p:aK) (N:Nd) (hl:N.ks.length=16) (hv:N.v.size<=maxLen) (hks:∀ k∈N.ks,k.size<=100) (w:World) (Q:World->Prop)
  (htop:∀ wx,Below w.heap.size w wx->Calls prog 39 #[.agg #[.pointer p]] wx λe w'=>∃ a n c,e = .returned (.agg (ndC N a n c))/\bf w' a n c N.p/\Q w') :
  Calls prog 20 #[.agg #[.pointer p]] w λe w'=>e = .returned (.string (if gB bW N then ⟨(jB N).toArray⟩ else eB))/\∃ w1,Q w1/\Below w1.heap.size w1 w':=by
 have h0:=fB w p;have HT:=hid (htop _ (al1 w (.cells #[.pointer p] 35)));have HL:=hid hl;have HV:=hid hv;have HK:=hid hks;obtain ⟨s,hs⟩:=ay (if gB bW N then (⟨(jB N).toArray⟩:aL) else eB)
 obtain ⟨x,hx⟩:∃ x:Int,(if gB bW N then (0:Int) else 2)=x:=⟨_,rfl⟩
 rw [hs];have HS:=hid hs;have HX:=hid hx;clear htop hl hv hks hs hx;go_enter func20,ntmps20;go_wp2_with (refine aA (aU h0 ⟨_,rfl,rfl⟩) ?_)
 refine HT.out.mono ?_;rintro e w1 ⟨a,n,c,rfl,hB,hQ⟩;have HP:=hid (Gv N a n c HL.out w1 hB HV.out HK.out);have HQ:=hid hQ;unfold Wo at HP;rw [HS.out,HX.out] at HP;clear hB hQ HT h0;go_wp2_with fail
 refine HP.out.mono ?_;rintro e w2 ⟨rfl,hb2⟩;have HB:=hid hb2;clear hb2 HP;go_wp2;go_ret;exact ⟨rfl,w1,HQ.out,HB.out⟩
theorem SK (p:aK) (k:Int) (h1:k≠1) (h2:k≠2) (h3:k≠3) (w:World)
  (hK:∀ wx,Below w.heap.size w wx->Calls prog 67 #[.agg #[.pointer p]] wx λe w'=>e = .returned (.int .i64 k)/\Below wx.heap.size wx w') :
  Calls prog 20 #[.agg #[.pointer p]] w λe w'=>e = .returned (.string eB)/\Below w.heap.size w w':=by
 refine (Gn p nd0 fZ (by show (0:Nat)<=_; omega) (λk hk=>by
  have:k=eB:=List.eq_of_mem_replicate (show k∈List.replicate 16 eB from hk);rw [this]; show (0:Nat)<=100; omega) w (λw'=>Below w.heap.size w w') (λwx hbx=>?_)).mono ?_
 .refine (Jy p k h1 h2 h3 wx (λwy hby=>hK wy (bst hbx hby))).mono ?_;rintro e w' ⟨rfl,hb⟩;exact ⟨none,0,0,rfl,bf.nil _,bst hbx hb⟩
 .rintro e w' ⟨rfl,w1,hQ,hb⟩;exact ⟨by rw [WO]; rfl,bst hQ hb⟩
theorem jl {t:T} {L:Nat} (g:Tr.Good t L) (hL:L<=64) (f:Fine t) (hn:t ≠ .nil) (hs:¬ dQ t):gB bW (bg t)=true/\bE t=⟨(jB (bg t)).toArray⟩/\(bE t).size<=900000/\(bg t).v.size<=maxLen/\(bg t).p.length<=64/\∀ k∈(bg t).ks,k.size<=100:=by
 have hm:=(eT t L g hL f hn).1 hs;have he:bE t=⟨(jB (bg t)).toArray⟩:=by
  cases t with
  | nil=>exact absurd rfl hn
  | stub r=>exact absurd trivial hs
  | leaf p v=>rfl
  | ext q s=>rfl
  | br ks=>rfl
 refine ⟨hm,he,?_,?_,?_,?_⟩
 .rw [he];have:=Xu (cK t) hm;show (jB (bg t)).toArray.size<=_;simpa using this
 .cases t with
  | leaf p v=>exact Nat.le_trans f.2 (by unfold maxLen; omega)
  | _=>exact Nat.zero_le _
 .unfold gB at hm;rw [Bool.and_eq_true,Bool.and_eq_true] at hm;exact of_decide_eq_true hm.1.1
 .intro k hk;have hz:∀ x,x=eB->x.size<=100:=λx e=>by rw [e]; exact Nat.zero_le _
  cases t with
  | nil=>exact hz k (List.eq_of_mem_replicate (show k∈List.replicate 16 eB from hk))
  | stub r=>exact absurd trivial hs
  | leaf p v=>exact hz k (List.eq_of_mem_replicate (show k∈List.replicate 16 eB from hk))
  | ext q s =>
   rcases List.mem_cons.1 (show k∈ref s::List.replicate 15 eB from hk) with rfl | h
   .obtain ⟨_,_,g3,g4,g5⟩:=g;have:=MV (eT s _ g5 (by omega) f (kM g4)).2.1;omega
   .exact hz k (List.eq_of_mem_replicate h)
  | br ks =>
   obtain ⟨i,_,rfl⟩:=List.mem_map.1 (show k∈(List.finRange 16).map λi=>ref (ks i) from hk);by_cases e:ks i = .nil
   .rw [e]; exact Nat.zero_le _
   .have:=MV (eT (ks i) _ (g.2.2 i) (by omega) (f i) e).2.1;show (ref (ks i)).size<=100;omega
theorem UG {t:T} {L:Nat} (g:Tr.Good t L):(bU t).length<=L:=by
 cases t with
 | leaf p v=>exact Nat.le_of_eq g.1
 | ext q s=>exact g.2.2.1
 | nil=>exact Nat.zero_le _
 | br ks=>exact Nat.zero_le _
 | stub r=>exact Nat.zero_le _
theorem Nc (M:Mp) (b:Nat) (t:T) (hm:M.at_ b=some t) (hs:¬ dQ t) (hn:t ≠ .nil) {L:Nat} (g:Tr.Good t L) (hL:L<=64) (w:World) (hi:dS M (sz t) w) {pa:aK} {pn pc:Nat} {ka:aK} {kn kc:Nat} (hB:Body M w b t pa pn pc ka kn kc) (hT:Tab w)
  (ja:∀ q s,t = .ext q s->mK s) (hR2:∀ ks,t = .br ks->∀ i,mK (ks i)) :
  Calls prog 39 #[.agg #[.pointer (some ⟨b,0,none⟩)]] w (mQ M t w):=by
 have hp:=UG g;cases t with
 | nil=>exact absurd rfl hn
 | stub r=>exact absurd trivial hs
 | leaf q v=>exact Sr M b q v hm w hi pa pn pc ka kn kc hB (by have:q.length<=L:=hp; omega)
 | ext q s=>exact Yf M b q s hm w hi pa pn pc ka kn kc hB (by have:q.length<=L:=hp; omega) hT (ja q s rfl)
 | br ks=>exact YW M b ks hm w hi pa pn pc ka kn kc hB hT (hR2 ks rfl)
theorem Ns (M:Mp) (b:Nat) (t:T) (hm:M.at_ b=some t) (hs:¬ dQ t) (hn:t ≠ .nil) (g:Tr.Good t L) (hL:L<=64) (f:Fine t) (w:World) (hi:dS M (sz t) w) {pn pc:Nat} {ka:aK} {kc:Nat} (hB:Body M w b t pa pn pc ka kn kc) (hT:Tab w)
  (ja:∀ q s,t = .ext q s->mK s) (hR2:∀ ks,t = .br ks->∀ i,mK (ks i)) :
  Calls prog 20 #[.agg #[.pointer (some ⟨b,0,none⟩)]] w λe w'=>e = .returned (.string (bE t))/\FrN M (sz t) w w'/\dS M (sz t) w':=by
 obtain ⟨h1,h2,h3,h4,h5,h6⟩:=jl g hL f hn hs;refine (Gn (some ⟨b,0,none⟩) (bg t) (cK t) h4 h6 w (λw'=>FrN M (sz t) w w'/\dS M (sz t) w') (λwx hbx=>?_)).mono ?_
 .refine (Nc M b t hm hs hn g hL wx (hi.below hbx) (hB.below hbx) (hT.below hbx hT.pos) ja hR2).mono ?_;rintro e w' ⟨a,n,c,rfl,hx,hf,hi'⟩;exact ⟨a,n,c,rfl,hx.1,(FrN.below M _ hbx).trans hf,hi'⟩
 .rintro e w' ⟨rfl,w1,⟨hf,hi1⟩,hb⟩;exact ⟨by rw [if_pos h1,h2],hf.trans (FrN.below M _ hb),hi1.below hb⟩
def qD (t:T) (a:aK) (n c:Nat) (ka:aK) (kn kc:Nat) (r:aL):aN :=
 #[.int .i64 (dB t),.slice a n c,.string (Fu t),.slice ka kn kc,.int .u32 0,.int .i32 1,.int .u32 0,.string r]
theorem Xf {t:T} {a:aK} {n c:Nat} {ka:aK} {kn kc:Nat} {r:aL} {j:Nat} {v:Value} (h:(qD t a n c ka kn kc r)[j]? = some v):(∀ x,v ≠ .int .u8 x)/\∀ p,v ≠ .pointer p:=by
 unfold qD at h
 match j,h with
 | 0,h | 1,h | 2,h | 3,h | 4,h | 5,h | 6,h | 7,h =>
  simp at h;subst h;exact ⟨λx e=>(by cases e),λp e=>(by cases e)⟩
 | j+8,h=>simp at h
theorem QT {b:Nat} {t:T} {n:Nat} {ka:aK} {kc:Nat} (h:Rg.Own w b (qD t a n c ka kn kc r) 135):El w b:=by
 refine ⟨λj v hc=>Xf (pO h.2 hc),?_⟩;rw [World.cell?,h.2];rfl
theorem Cm {a:Act} (hw:Region.wanted o (yielded ops a.tmps)=true) {b off:Nat} {cs:aN} (hg:Rg.Own w b cs t) (hof:off<cs.size) (s:aL)
  (ho:∃ x y,o.op = .store 9 x y/\a.eval x = .pointer (some ⟨b,off,none⟩)/\a.eval y = .string s)
  (h:∀ w',Rg.Own w' b (cs.setIfInBounds off (.string s)) t->Rg.Upd w b w'->K (a.put o.dst undef) w'):if Region.wanted o (yielded ops a.tmps)=true then Oper.wp prog o a w K Q else K (a.put o.dst undef) w:=by
 obtain ⟨x,y,ho,hx,hy⟩:=ho;refine Rg.want hw ?_;unfold Oper.wp execOp;simp only [ho,hx,hy,Sem.run_bind,Sem.run_pure,Result.andThen_ok,pU hg hof s];exact h _ (dw hg _) (bN _ _ _ _)
theorem dS.lock {M:Mp} {n:Nat} {b:Nat} {t:T} (h:dS M n w) (hu:Rg.Upd w b w') (hm:M.at_ b=some t) (hnt:n<=sz t) (hN:El w' b):dS M n w':=by
 refine ⟨λk hk=>by rw [hu.size]; exact h.lt_ k hk,λb' t' hm'=>?_⟩;obtain ⟨h1,h2,h3,h4⟩:=h.part_ b' t' hm';have hNb:=(h.part_ b t hm).2.2.1;by_cases e:b'=b
 .subst e;obtain rfl:t=t':=by rw [hm] at hm'; exact Option.some.inj hm'
  exact ⟨h1,h2,hN,λhl=>absurd hl (by omega)⟩
 .refine ⟨h1,h2,h3.keep (hu.block b' e),λhl=>(h4 hl).keep (by rw [hu.size]; exact aG) (hu.block b' e) (λk j v hk hc hv=>hu.block k (λek=>?_))⟩;subst ek;rcases hv with ⟨x,rfl⟩ | ⟨p,rfl⟩
  .exact (hNb.1 _ _ hc).1 x rfl
  .exact (hNb.1 _ _ hc).2 p rfl
theorem Body.upd {M:Mp} {b:Nat} {t:T} {n:Nat} {ka:aK} {kc:Nat} (h:Body M w b t a n c ka kn kc) (hN:El w b) (hu:Rg.Upd w b w') (hc:∀ j,j<4->w'.cell? ⟨b,j,none⟩=w.cell? ⟨b,j,none⟩):Body M w' b t a n c ka kn kc:=by
 refine ⟨(hc 0 (by omega)).trans h.c0,(hc 1 (by omega)).trans h.c1,(hc 2 (by omega)).trans h.c2,(hc 3 (by omega)).trans h.c3,⟨h.hb.1,h.hb.2.1,h.hb.2.2.1,h.hb.2.2.2.1,λj hj=>?_⟩,h.hk.1,h.hk.2.1,h.hk.2.2.1,h.hk.2.2.2.1,λj hj=>?_⟩
 .obtain ⟨b',off,e,hlt,hcb⟩:=h.hb.2.2.2.2 j hj;refine ⟨b',off,e,by rw [hu.size]; exact hlt,?_⟩;rw [World.cell?_of_block (hu.block b' (λek=>by subst ek; exact (hN.1 _ _ hcb).1 _ rfl))];exact hcb
 .obtain ⟨b',off,p,e,hlt,hf,hcb,ht⟩:=h.hk.at' j hj;refine ⟨b',off,p,e,by rw [hu.size]; exact hlt,hf,?_,ht⟩;rw [World.cell?_of_block (hu.block b' (λek=>by subst ek; exact (hN.1 _ _ hcb).2 _ rfl))];exact hcb
theorem YN (M:Mp) (b:Nat) (t:T) (hm:M.at_ b=some t) (hsz:(bE t).size<=900000) (bx:Nat) (w:World) (hbx:w.cell? ⟨bx,0,none⟩=some (.pointer (some ⟨b,0,none⟩))) (hne:bx≠b) (hi:dS M (sz t) w) (hT:Tab w)
 {n:Nat} {ka:aK} {kc:Nat} (hO:Rg.Own w b (qD t a n c ka kn kc eB) 135)
  (hE:Calls prog 20 #[.agg #[.pointer (some ⟨b,0,none⟩)]] w.drew λe w'=>e = .returned (.string (bE t))/\FrN M (sz t) w.drew w'/\dS M (sz t) w') :
  Calls prog 117 #[.pointer (some ⟨bx,0,none⟩)] w λe w'=>e = .returned (.tuple #[])/\∃ w1,FrN M (sz t) w w1/\dS M (sz t) w1/\Rg.Upd w1 b w'/\Rg.Own w' b (qD t a n c ka kn kc (ofP (bE t))) 135:=by
 have G5:=hid hE;have eJ:=hid hsz;have hnb:M.at_ b=none\/∃ t',M.at_ b=some t'/\sz t<=sz t':=Or.inr ⟨t,hm,aG⟩;have HF:Hid (∀ w5,FrN M (sz t) w.drew w5->dS M (sz t) w5->w5.cell? ⟨bx,0,none⟩=some (.pointer (some ⟨b,0,none⟩))/\Tab w5/\Rg.Own w5 b (qD t a n c ka kn kc eB) 135/\
   ∀ w6,Below w5.heap.size w5 w6->w6.cell? ⟨bx,0,none⟩=some (.pointer (some ⟨b,0,none⟩))/\Rg.Own w6 b (qD t a n c ka kn kc eB) 135/\
   ∀ af,Rg.Own af b ((qD t a n c ka kn kc eB).setIfInBounds 7 (.string (ofP (bE t)))) 135->Rg.Upd w6 b af->af.cell? ⟨bx,0,none⟩=some (.pointer (some ⟨b,0,none⟩))/\∃ w1,FrN M (sz t) w w1/\dS M (sz t) w1/\Rg.Upd w1 b af/\Rg.Own af b (qD t a n c ka kn kc (ofP (bE t))) 135):=hid (λw5 cq hi5=>by
  have Nx:dS M (sz t) w.drew:=hi.below (below_drewN aH 1);have UX:Tab w.drew:=hT;have h5:=cq.cell (b:=bx) (o:=0) hbx (Or.inl (Nx.nU (j:=0) hbx));have ap:Rg.Own w5 b (qD t a n c ka kn kc eB) 135:=⟨aI hO.1 cq.size,(cq.block b hO.1 hnb).trans hO.2⟩
  refine ⟨h5,uS Nx cq UX,ap,λw6 hb6=>⟨aW hb6 h5,ap.below hb6,λaf ai hu=>⟨?_,w6,(((FrN.below M _ (below_drewN aH 1)).trans cq).trans (FrN.below M _ hb6)),hi5.below hb6,hu,ai⟩⟩⟩;rw [<-aW hb6 h5];exact World.cell?_of_block (w:=w6) (hu.block bx hne))
 clear hE hsz hi hT hO hm hnb hne;go_enter func117,ntmps117;go_wp2_with fail
 refine aC (S:=λw'=>w'.cell? ⟨bx,0,none⟩=some (.pointer (some ⟨b,0,none⟩))) (hbx) λhld=>?_;refine ah 0 ?_;try simp only [Act.put,ak]
 refine aD 1 (λwz hSw=>hSw) ?_;try simp only [Act.put,ak]
 refine ah 2 ?_ (hy:=by intro wz hSw; (refine aU hSw ?_; exact ⟨_,rfl,rfl⟩));try simp only [Act.put,ak]
 refine aj 3 λK hK=>?_;go_simp;go_at_call 20
 (with_reducible refine G5.out.mono ?_)
 rintro e w5 ⟨rfl,cq,hi5⟩;obtain ⟨hS5,eK,ap,NB⟩:=HF.out w5 cq hi5;have H5:=hid NB;have az:=hid ap;have wA:=hid eK;clear cq hi5 NB ap eK;refine hK.out _ _ (hS5) λhld=>?_;clear hK K;try simp only [Act.put,ak]
 refine aj 4 λK hK=>?_;go_simp;go_at_call 64
 (with_reducible refine (Em _ eJ.out w5 wA.out).mono ?_)
 rintro e w6 ⟨rfl,hb6⟩;obtain ⟨im,cz,xb⟩:=H5.out w6 hb6;have H6:=hid xb;have cA:=hid cz;clear hb6 xb cz;refine hK.out _ _ (im) λhld=>?_;clear hK K;try simp only [Act.put,ak]
 refine ah 5 ?_;try simp only [Act.put,ak]
 refine ah 6 ?_;try simp only [Act.put,ak]
 refine aj 7 λK hK=>?_;refine Cm (by rfl) cA.out (off:=7) (show 7<8 by omega) (ofP (bE t)) ⟨_,_,rfl,rfl,rfl⟩ ?_;intro af ai al;obtain ⟨cP,lO⟩:=H6.out af ai al;have ge:=hid lO;clear ai lO;refine hK.out _ _ (cP) λhld=>?_;clear hK K;try simp only [Act.put,ak]
 refine aB ?_;go_wp2;go_end0;exact ⟨rfl,ge.out⟩
end Tm
end
section
open Go.RowKit
namespace Rf
open Rl Ni No Sh Sm
end Rf
end
section
open Go.RowKit
namespace No
open Rl Ni
end No
end
section
open Go.RowKit
namespace Tm
open Tr Ni Pk Ky No Rf Rl
theorem Nu {n:Nat} {l:aM} (h:bf w a n c l) (j:Nat) (hj:j<=n):bf w a j c (l.take j):=by
 have h1:=h.1;refine ⟨by omega,h.2.1,by rw [List.length_take,h.len]; omega,h.2.2.2.1,λi hi=>?_⟩;obtain ⟨b,off,e,hlt,hc⟩:=h.at' i (by omega);refine ⟨b,off,e,hlt,?_⟩;rw [hc];simp [List.getD,hi]
def SN (l:List Tr.In):Prop:=∀ x∈l,x.2.size≠0/\x.2.size<=65552
theorem SN.rest {l:List Tr.In} (h:SN l) (n:Nat):SN (gV l n):=λx hx=>by
 obtain ⟨y,hy,rfl⟩:=List.mem_map.1 hx;exact h y hy
theorem jC {rest:List Oper} {b:Nat} {N:Nd} {n:Nat} (h:dZ w b N a n c) (hl:N.ks.length=16) (M:Nd) (a':aK) (n' c':Nat) (hm:M.ks.length=16)
  (hgd:o.guard=none) (x y:Operand) (ho:o.op = .store 69 x y) (hx:act.eval x = .pointer (some ⟨b,0,none⟩)) (hy:act.eval y = .agg (ndC M a' n' c')) (hd:o.dst=none)
  (hQ:∀ w',dZ w' b M a' n' c'->Rg.Upd w b w'->wpList prog ops Q rest act w'):wpList prog ops Q (o::rest) act w :=
 bH h hl M a' n' c' hm hgd x y ho hx hy hd (hQ _ (dM h) (Rg.Upd.set _ _ _))
end Tm
end
section
open Go.RowKit
namespace Tm
open Tr Rf Rl Ni No Pk Sm
theorem Og {t:T} (hs:¬ dQ t):FZ t=eB:=by
 cases t with
 | stub r=>exact absurd trivial hs
 | _=>rfl
theorem Oz {t:T} (hs:¬ dQ t) (hn:t ≠ .nil):dB t=1\/dB t=2\/dB t=3:=by
 cases t with
 | stub r=>exact absurd trivial hs
 | nil=>exact absurd rfl hn
 | leaf q v=>exact Or.inl rfl
 | ext q s=>exact Or.inr (Or.inl rfl)
 | br ks=>exact Or.inr (Or.inr rfl)
theorem TI (b:Nat) (k:Int) (hk:k=1\/k=2\/k=3) (r:aL) (w:World) (hc:∀ wx,Below w.heap.size w wx->wx.cell? ⟨b,0,none⟩=some (.int .i64 k)) (P:World->Prop)
  (Dd:∀ w3,Below w.heap.size w w3->w3.cell? ⟨w.heap.size,0,none⟩=some (.pointer (some ⟨b,0,none⟩))->Calls prog 116 #[.pointer (some ⟨b,4,none⟩),.func (.func 117) #[] #[.pointer (some ⟨w.heap.size,0,none⟩)]] w3 λe w'=>e = .returned (.tuple #[])/\w'.cell? ⟨w.heap.size,0,none⟩=some (.pointer (some ⟨b,0,none⟩))/\w'.cell? ⟨b,7,none⟩=some (.string r)/\P w') :
  Calls prog 74 #[.agg #[.pointer (some ⟨b,0,none⟩)]] w λe w'=>e = .returned (.string r)/\P w':=by
 have da:∀ (fn:Fn) (first cap:aN) (w:World),(Instr.makeFunc fn first cap).run prog w = .ok (.func fn first cap) w:=λ_ _ _ _=>rfl;have h0:=fB w (some ⟨b,0,none⟩);have hA:=al1 w (.cells #[.pointer (some ⟨b,0,none⟩)] 35);have HK:=hid (nE b k _ (hc _ hA))
 have H3:Hid (∀ w3,Below (w.alloc (.cells #[.pointer (some ⟨b,0,none⟩)] 35)).heap.size (w.alloc (.cells #[.pointer (some ⟨b,0,none⟩)] 35)) w3->w3.cell? ⟨w.heap.size,0,none⟩=some (.pointer (some ⟨b,0,none⟩))/\Calls prog 116 #[.pointer (some ⟨b,4,none⟩),.func (.func 117) #[] #[.pointer (some ⟨w.heap.size,0,none⟩)]] w3 λe w'=>e = .returned (.tuple #[])/\w'.cell? ⟨w.heap.size,0,none⟩=some (.pointer (some ⟨b,0,none⟩))/\w'.cell? ⟨b,7,none⟩=some (.string r)/\P w'):=hid (λw3 hb3 =>
  ⟨aW hb3 h0,Dd w3 (bst hA hb3) (aW hb3 h0)⟩)
 clear hc Dd hA;rcases hk with rfl | rfl | rfl;all_goals
  go_enter func74,ntmps74;go_wp2_with (refine aA (aU h0 ⟨_,rfl,rfl⟩) ?_)
  refine HK.out.mono ?_;rintro e w3 ⟨rfl,hb3⟩;obtain ⟨d0,HD⟩:=H3.out w3 hb3;replace HD:=hid HD;clear hb3 H3 HK h0;go_wp2_with fail
  refine HD.out.mono ?_;rintro e w4 ⟨rfl,e0,e7,hP⟩;have HP:=hid hP;clear hP HD d0;go_wp2;go_ret;exact ⟨rfl,HP.out⟩
theorem XF:mK .nil:=λM w p hi ht hT=>by
 obtain rfl:p=none:=ht.oC.2 rfl;have h0:=fB w none;have HE:=hid (lH none ((w.alloc (.cells #[.pointer none] 35)).alloc (.cells #[.pointer none] 35)));have hA:=al1 w (.cells #[.pointer none] 35);have HK:Hid (Calls prog 67 #[.agg #[.pointer none]] (w.alloc (.cells #[.pointer none] 35)) λe w'=>e = .returned (.int .i64 0)/\Below (w.alloc (.cells #[.pointer none] 35)).heap.size (w.alloc (.cells #[.pointer none] 35)) w'):=hid (dA M0 none .nil _ (Inv.zero _) rfl)
 have HF:Hid (∀ w3,Below (w.alloc (.cells #[.pointer none] 35)).heap.size (w.alloc (.cells #[.pointer none] 35)) w3->FrN M (sz .nil+1) w w3/\dS M (sz .nil+1) w3):=hid (λw3 hb3=>⟨FrN.below M _ (bst hA hb3),hi.below (bst hA hb3)⟩);clear hi hT hA HE;show Calls _ _ _ _ (λe w'=>e = .returned (.string eB)/\_);go_enter func74,ntmps74;go_wp2_with (refine aA (aU h0 ⟨_,rfl,rfl⟩) ?_)
 refine HK.out.mono ?_;rintro e w3 ⟨rfl,hb3⟩;have eL:=hid (HF.out w3 hb3);clear hb3 HF HK h0;go_wp2;go_ret;exact ⟨rfl,eL.out⟩
theorem OD {M:Mp} {b:Nat} (h:qc M w b (.stub r)):w.cell? ⟨b,0,none⟩=some (.int .i64 (-1))/\w.cell? ⟨b,7,none⟩=some (.string r):=by
 obtain ⟨a,n,c,ka,kn,kc,d,r',hb,_,_,hd⟩:=h;obtain ⟨⟨c0,_⟩,_,_,_,c7⟩:=jL hb;rcases hd with ⟨_,hr⟩ | ⟨_,hs,_⟩
 .rw [hr] at c7;exact ⟨c0,c7⟩
 .exact absurd trivial hs
theorem SF (r:aL):mK (.stub r):=λM w p hi ht hT=>by
 obtain ⟨b,rfl,hm⟩:=ht.at_ (λe=>by cases e);have hpart:=(hi.part_ b _ hm).2.2.2 (by omega);obtain ⟨k0,k7⟩:=OD hpart;have h0:=fB w (some ⟨b,0,none⟩);have hA:=al1 w (.cells #[.pointer (some ⟨b,0,none⟩)] 35);have HK:=hid (nE b (-1) _ (aW hA k0))
 have HF:Hid (∀ w3,Below (w.alloc (.cells #[.pointer (some ⟨b,0,none⟩)] 35)).heap.size (w.alloc (.cells #[.pointer (some ⟨b,0,none⟩)] 35)) w3->w3.cell? ⟨w.heap.size,0,none⟩=some (.pointer (some ⟨b,0,none⟩))/\w3.cell? ⟨b,7,none⟩=some (.string r)/\FrN M (sz (.stub r)+1) w w3/\dS M (sz (.stub r)+1) w3):=hid (λw3 hb3=>⟨aW hb3 h0,aW hb3 (aW hA k7),FrN.below M _ (bst hA hb3),hi.below (bst hA hb3)⟩);clear hi hT hA hpart k0 k7 hm;show Calls _ _ _ _ (λe w'=>e = .returned (.string r)/\_)
 go_enter func74,ntmps74;go_wp2_with (refine aA (aU h0 ⟨_,rfl,rfl⟩) ?_)
 refine HK.out.mono ?_;rintro e w3 ⟨rfl,hb3⟩;obtain ⟨d0,d7,r4⟩:=HF.out w3 hb3;have eL:=hid r4;clear hb3 HF HK h0 r4;go_wp2;go_ret;exact ⟨rfl,eL.out⟩
theorem BF (t:T) (hs:¬ dQ t) (hn:t ≠ .nil) (g:Tr.Good t L) (hL:L<=64) (f:Fine t) (ja:∀ q s,t = .ext q s->mK s) (hR2:∀ ks,t = .br ks->∀ i,mK (ks i)):mK t:=λM w p hi ht hT=>by
 obtain ⟨b,rfl,hm⟩:=ht.at_ hn;have hpw:=(hi.part_ b _ hm).2.2.2 (by omega);have hlb:=hi.lt_ b (hi.part_ b _ hm).2.1;obtain ⟨a,n,c,ka,kn,kc,d,r,hb,km,hKs,hd⟩:=hpw;have V0:Rg.Own w b (gY t a n c ka kn kc d r) 135:=⟨hlb,hb⟩
 have hbody:Body M w b t a n c ka kn kc:=by
  obtain ⟨⟨c0,c1,c2,c3⟩,_⟩:=jL hb;exact ⟨c0,c1,c2,c3,km.1,hKs⟩
 refine TI b (dB t) (Oz hs hn) (ref t) w (λwx hbx=>(hbody.below hbx).c0) (λw'=>FrN M (sz t+1) w w'/\dS M (sz t+1) w') (λw3 hb3 oY=>?_);have hO3:=V0.below hb3;have hi3:=hi.below hb3;rcases hd with ⟨rfl,hr⟩ | ⟨rfl,_,hr⟩
 .-- not yet done
  rw [Og hs] at hr;subst hr;have io:=hT.below hb3 hT.pos;have aq:=bN w3 b 5 (.int .i32 1);have NE:Rg.Own (w3.setCell ⟨b,5,none⟩ (.int .i32 1)) b (qD t a n c ka kn kc eB) 135:=dw (o:=5) hO3 (.int .i32 1);have V2:=QT NE;have G6:dS M (sz t) w3:=hi3.mono (Nat.le_succ _);have hil:dS M (sz t) (w3.setCell ⟨b,5,none⟩ (.int .i32 1)):=G6.lock aq hm aG V2;have V3:(0:Nat)≠b:=λe=>by
   have:=Gp hi3 io;rw [e,hm] at this;cases this
  have NF:Tab (w3.setCell ⟨b,5,none⟩ (.int .i32 1)):=λi hi'=>by
   rw [<-io i hi'];exact World.cell?_of_block (w:=w3) (aq.block 0 V3)
  have s7:w.heap.size≠b:=by omega
  have xe:(w3.setCell ⟨b,5,none⟩ (.int .i32 1)).cell? ⟨w.heap.size,0,none⟩=some (.pointer (some ⟨b,0,none⟩)):=by
   rw [<-oY];exact World.cell?_of_block (w:=w3) (aq.block w.heap.size s7)
  have s8:Body M (w3.setCell ⟨b,5,none⟩ (.int .i32 1)) b t a n c ka kn kc:=(hbody.below hb3).upd (hi3.part_ b t hm).2.2.1 aq (λj hj=>World.cell?_setCell_other _ ⟨b,5,none⟩ ⟨b,j,none⟩ _ (λe=>by injection e with e1 e2 e3; omega));obtain ⟨h1,h2,h3,h4,h5,h6⟩:=jl g hL f hn hs;have hE:=Ns M b t hm hs hn g hL f (w3.setCell ⟨b,5,none⟩ (.int .i32 1)).drew (hil.below (below_drewN aH 1)) (s8.below (below_drewN aH 1)) NF ja hR2;have Dd:=YN M b t hm h3 w.heap.size _ xe s7 hil NF NE hE
  have hD:∀ wx,(callFunc 117 #[.pointer (some ⟨w.heap.size,0,none⟩)]).run prog wx = .ok (.enter 117 #[.pointer (some ⟨w.heap.size,0,none⟩)]) wx:=by intro wx; kernel_rfl
  refine (On.UK 117 _ hD b 4 w3 (λw'=>∃ w1,FrN M (sz t) (w3.setCell ⟨b,5,none⟩ (.int .i32 1)) w1/\dS M (sz t) w1/\Rg.Upd w1 b w'/\Rg.Own w' b (qD t a n c ka kn kc (ofP (bE t))) 135) (aV (j:=4) hO3 rfl) (aV (j:=5) hO3 rfl) (gJ hO3) (Dd.mono ?_)).mono ?_
  .rintro e w' ⟨rfl,w1,g1,g2,g3,g4⟩;exact ⟨rfl,⟨⟨aV (j:=4) g4 rfl,gJ g4⟩,aV (j:=5) g4 rfl,gJ g4⟩,w1,g1,g2,g3,g4⟩
  .rintro e w' ⟨rfl,w2,⟨w1,g1,g2,g3,g4⟩,rfl⟩;rw [<-iV hs] at g4;have db:=bN w2.drew b 4 (.int .u32 1);have cQ:=bN (w2.drew.setCell ⟨b,4,none⟩ (.int .u32 1)) b 5 (.int .i32 0);have cY:Rg.Own ((w2.drew.setCell ⟨b,4,none⟩ (.int .u32 1)).setCell ⟨b,4+1,none⟩ (.int .i32 0)) b (gY t a n c ka kn kc 1 (ref t)) 135:=dw (o:=5) (dw (o:=4) g4.drew (.int .u32 1)) (.int .i32 0);obtain ⟨w7,hw7⟩:=ay ((w2.drew.setCell ⟨b,4,none⟩ (.int .u32 1)).setCell ⟨b,4+1,none⟩ (.int .i32 0))
   rw [hw7] at cY ⊢;have kq:Rg.Upd w1 b w7:=by
    rw [<-hw7];exact ⟨g3.os,g3.tape,g3.output,by rw [cQ.size,db.size]; exact g3.size,λk hk=>((cQ.block k hk).trans (db.block k hk)).trans (g3.block k hk)⟩
   have p7:∀ k,k<w3.heap.size->k≠b->(M.at_ k=none\/∃ t',M.at_ k=some t'/\sz t<=sz t')->w7.heap[k]? = w3.heap[k]? := λk hk hkb hc=>(kq.block k hkb).trans ((g1.block k (by rw [aq.size]; exact hk) hc).trans (aq.block k hkb));have lP:w3.heap.size<=w7.heap.size:=by rw [kq.size]; exact Nat.le_trans (by rw [aq.size]; exact aG) g1.size
   have hnb:M.at_ w.heap.size=none:=hi.yK aG;have dv:w7.cell? ⟨w.heap.size,0,none⟩=some (.pointer (some ⟨b,0,none⟩)):=by
    rw [<-oY];exact World.cell?_of_block (w:=w3) (p7 _ (World.block_lt_of_cell? w3 _ oY) s7 (Or.inl hnb))
   have hfr:FrN M (sz t+1) w3 w7:=⟨kq.os.trans (g1.os.trans aq.os),kq.tape.trans (g1.tape.trans aq.tape),kq.output.trans (g1.output.trans aq.output),lP,λk hk hc=>by
    refine p7 k hk (λe=>?_) (hc.imp id (λ⟨t',e,hl⟩=>⟨t',e,by omega⟩));subst e;rcases hc with h | ⟨t',h,hl⟩
    .rw [hm] at h; cases h
    .rw [hm] at h;obtain rfl:=Option.some.inj h;omega⟩
   have V4:El w7 b:=Db cY.2;have G7:dS M (sz t) w7:=g2.lock kq hm aG V4;have hbyte:∀ k j v,k<w3.heap.size->w3.cell? ⟨k,j,none⟩=some v->((∃ x,v = .int .u8 x)\/∃ p,v = .pointer p)->w7.heap[k]? = w3.heap[k]? := λk j v hk hc hv=>by
    have hat:M.at_ k=none:=by
     rcases hv with ⟨x,rfl⟩ | ⟨p,rfl⟩
     .exact hi3.cZ hc
     .exact hi3.nU hc
    exact p7 k hk (λe=>by rw [e,hm] at hat; cases hat) (Or.inl hat)
   refine ⟨rfl,dv,aV (j:=7) cY rfl,(FrN.below M _ hb3).trans hfr,⟨λk hk=>aI (hi3.lt_ k hk) lP,λb' t' hm'=>?_⟩⟩;obtain ⟨q1,q2,q3,q4⟩:=G7.part_ b' t' hm';refine ⟨q1,q2,q3,λhl=>?_⟩;by_cases hlt:sz t'<sz t
   .exact q4 hlt
   .have hp3:=(hi3.part_ b' t' hm').2.2.2 hl;by_cases e:b'=b
    .subst e;obtain rfl:t=t':=by rw [hm] at hm'; exact Option.some.inj hm'
     refine ⟨a,n,c,ka,kn,kc,1,ref t,cY.2,?_,?_,Or.inr ⟨rfl,hs,rfl⟩⟩
     .have ej:=km;refine ⟨⟨km.1.1,km.1.2.1,km.1.2.2.1,km.1.2.2.2.1,λj hj=>?_⟩,km.2⟩;obtain ⟨b2,off,e2,hlt2,hc2⟩:=(km.1.below hb3).2.2.2.2 j hj;exact ⟨b2,off,e2,aI hlt2 lP,by rw [World.cell?_of_block (hbyte b2 _ _ hlt2 hc2 (Or.inl ⟨_,rfl⟩))]; exact hc2⟩
     .refine ⟨hKs.1,hKs.2.1,hKs.2.2.1,hKs.2.2.2.1,λj hj=>?_⟩;obtain ⟨b2,off,p2,e2,hlt2,hf2,hc2,ht2⟩:=(hbody.below hb3).hk.at' j hj;exact ⟨b2,off,p2,e2,aI hlt2 lP,hf2,by rw [World.cell?_of_block (hbyte b2 _ _ hlt2 hc2 (Or.inr ⟨_,rfl⟩))]; exact hc2,ht2⟩
    .exact hp3.keep lP (p7 b' (hi3.lt_ b' q2) e (Or.inr ⟨t',hm',by omega⟩)) hbyte
 .-- done already
  subst hr;refine (On.WS ⟨b,4,none⟩ _ w3 (aV (j:=4) hO3 rfl)).mono ?_;rintro e w' ⟨rfl,rfl⟩;exact ⟨rfl,oY,aV (j:=7) hO3 rfl,FrN.below M _ hb3,hi3⟩
theorem kG:∀ (t:T) (L:Nat),Tr.Good t L->L<=64->Fine t->mK t
 | .nil,_,_,_,_=>XF
 | .stub r,_,_,_,_=>SF r
 | .leaf q v,L,g,hL,f=>BF _ (λh=>h) (λe=>by cases e) g hL f (λ_ _ e=>by cases e) (λ_ e=>by cases e)
 | .ext q s,L,g,hL,f=>BF _ (λh=>h) (λe=>by cases e) g hL f (λq' s' e=>by
   injection e with _ e;subst e;exact kG s _ g.2.2.2.2 (by have:=g.2.2.1; omega) f) (λ_ e=>by cases e)
 | .br ks,L,g,hL,f=>BF _ (λh=>h) (λe=>by cases e) g hL f (λ_ _ e=>by cases e) (λks' e i=>by
   injection e with e;subst e;exact kG (ks i) _ (g.2.2 i) (by omega) (f i))
open Ky
theorem Inv.after {M:Mp} {n:Nat} {w w':World} (h:Inv M w) (f:FrN M n w w') (g:dS M n w'):Inv M w' :=
 ⟨λk hk=>aI (h.lt_ k hk) f.size,λb t hm=>by
  have:=((h.toN (sz t+1)).after f g).part_ b t hm;exact ⟨this.1,this.2.1,this.2.2.2 (Nat.lt_succ_self _)⟩⟩
def YA (M:Mp) (w:World) (s:aL) (e:Ending) (w':World):Prop:=e = .returned (.string s)/\Fr M M w w'/\Inv M w'/\Tab w'
theorem Im (M:Mp) (p:aK) (t:T) (L:Nat) (g:Tr.Good t L) (hL:L<=64) (f:Fine t) (w:World) (hi:Inv M w) (ht:IsT M p t) (hT:Tab w) :
  Calls prog 20 #[tv p] w (YA M w (bE t)):=by
 by_cases hn:dB t=0\/dB t = -1
 .have he:bE t=eB:=by
   cases t with
   | nil=>rfl
   | stub r=>rfl
   | leaf q v=>rcases hn with h | h <;> exact absurd h (by show ¬ ((_:Int)=_); simp [dB])
   | ext q s=>rcases hn with h | h <;> exact absurd h (by show ¬ ((_:Int)=_); simp [dB])
   | br ks=>rcases hn with h | h <;> exact absurd h (by show ¬ ((_:Int)=_); simp [dB])
  rw [he];refine (SK p (dB t) (by omega) (by omega) (by omega) w (λwx hbx=>dA M p t wx (hi.below hbx) ht)).mono ?_;rintro e w' ⟨rfl,hb⟩;exact ⟨rfl,Fr.below M hb,hi.below hb,hT.below hb hT.pos⟩
 .have hs:¬ dQ t:=λh=>by
   cases t with
   | stub r=>exact hn (Or.inr rfl)
   | _=>exact h.elim
  have hne:t ≠ .nil:=λe=>hn (Or.inl (by rw [e]; rfl));obtain ⟨b,rfl,hm⟩:=ht.at_ hne;obtain ⟨pa,pn,pc,ka,kn,kc,hB⟩:=(hi.part hm).body;refine (Ns M b t hm hs hne g hL f w (hi.toN _) hB hT (λq s e=>by
   subst e;exact kG s _ g.2.2.2.2 (by have:=g.2.2.1; omega) f) (λks e i=>by
   subst e;exact kG (ks i) _ (g.2.2 i) (by omega) (f i))).mono ?_
  rintro e w' ⟨rfl,hf,hi'⟩;exact ⟨rfl,hf.fr,hi.after hf hi',uS (hi.toN _) hf hT⟩
theorem Je (M:Mp) (p:aK) (t:T) (L:Nat) (g:Tr.Good t L) (hL:L<=64) (f:Fine t) (w:World) (hi:Inv M w) (ht:IsT M p t) (hT:Tab w) :
  Calls prog 74 #[tv p] w (YA M w (ref t)):=by
 refine (kG t L g hL f M w p (hi.toN _) ht hT).mono ?_;rintro e w' ⟨rfl,hf,hi'⟩;exact ⟨rfl,hf.fr,hi.after hf hi',uS (hi.toN _) hf hT⟩
theorem Ah (ps:List (aK)) (a:aK) (n cap:Nat) (w:World) (h:iQ w a n cap ps) (hn:n<=1000000) :
  Calls prog 164 #[.slice a n cap,.func (Fn.func 112) #[] #[]] w λe w'=>∃ r:Int,e = .returned (.int .i64 r)/\Below w.heap.size w w'/\
   ((r = -1/\∀ p∈ps,p.isNone=false)\/∃ i:Nat,r=i/\i<n/\ps.getD i none=none/\∀ p∈ps.take i,p.isNone=false):=by
 have hm:=h.2.1;have hnc:=h.1;have hl:=h.2.2.1;unfold maxLen at hm;have H:=hid h;have HL:=hid hl;clear h hl;go_enter func164,ntmps164;go_wp2;go_loopw [8] (λi wr=>∃ j:Nat,j<=n/\i = .int .i64 j/\Hid (∀ p∈ps.take j,p.isNone=false)/\Hid (Below w.heap.size w wr)) (λi _=>n-(intOf i).toNat)
 case atStart=>exact ⟨0,Nat.zero_le _,rfl,hid (λp hp=>by simp at hp),hid aH⟩
 case round =>
  obtain ⟨j,hj,rfl,HJ,HB⟩:=hrel;by_cases hlt:j<n
  .obtain ⟨b,off,rfl,hblt,hc⟩:=H.out.2.2.2.2 j hlt;have hji:(j:Int)<n:=by omega
   have hc':=(Below.cell (p:=⟨b,off+j,none⟩) HB.out hblt).trans hc;have HS:Hid (ps.take (j+1)=ps.take j++[ps.getD j none]):=hid (by
    have hj':j<ps.length:=by rw [HL.out]; exact hlt
    have e:ps.getD j none=ps[j]:=by simp [List.getD,hj']
    rw [e,List.take_succ_eq_append_getElem hj'])
   obtain ⟨p,hp⟩:=ay (ps.getD j none)
   rw [hp] at hc' HS;have HE:=hid (lH p wr);have HP:=hid hp;clear hp hc;go_wp2_with (refine aA (aU hc' ⟨_,rfl,rfl⟩) ?_)
   refine HE.out.mono ?_;rintro e w5 ⟨rfl,hb5⟩;have aa:=hid (bst HB.out hb5);clear hb5 HE HB hc';cases hf:p.isNone with
   | false =>
    have s9:Hid (∀ q∈ps.take (j+1),q.isNone=false):=hid (λq hq=>by
     rw [HS.out,List.mem_append,List.mem_singleton] at hq;rcases hq with hq | rfl
     .exact HJ.out q hq
     .exact hf)
    clear hf;go_wp2;go_roundw
    case rel=>exact ⟨j+1,by omega,by go_num,s9,aa⟩
    case measure=>simp [intOf]; omega
   | true =>
    have hpn:p=none:=by simpa using hf
    clear hf;go_wp2;go_ret;exact ⟨(j:Int),rfl,aa.out,Or.inr ⟨j,rfl,hlt,by rw [HP.out]; exact hpn,HJ.out⟩⟩
  .obtain rfl:j=n:=by omega
   have HF:Hid (∀ p∈ps,p.isNone=false):=hid (by have:=HJ.out; rwa [List.take_of_length_le (by rw [HL.out]; exact aG)] at this);go_wp2;go_ret;exact ⟨-1,rfl,HB.out,Or.inl ⟨rfl,HF.out⟩⟩
def kY (ps:List (aK)):List (aK):=ps.filter λp=>!p.isNone
theorem wN (l:List (aK)) (p:aK):kY (l++[p])=kY l++if p.isNone then [] else [p]:=by
 unfold kY;rw [List.filter_append];cases p <;> rfl
theorem IX {l:List (aK)} (h:∀ p∈l,p.isNone=false):kY l=l:=List.filter_eq_self.2 λp hp=>by rw [h p hp]; rfl
theorem rW {b:Nat} (h:Rg.Upd w b w1) (g:Rg.Upd w1 b w2):Rg.Upd w b w2:=⟨g.os.trans h.os,g.tape.trans h.tape,g.output.trans h.output,g.size.trans h.size,λk hk=>(g.block k hk).trans (h.block k hk)⟩
theorem JQ (w:World) (b:Nat):Rg.Upd w b w:=⟨rfl,rfl,rfl,rfl,λ_ _=>rfl⟩
theorem pR {b:Nat} {t:TypeId}:∀ (vs:List Value) (o:Nat) (w:World) (cs:aN),Rg.Own w b cs t->∃ cs',Rg.Own (w.setCells b o vs) b cs' t/\cs'.size=cs.size/\∀ j,j<o->cs'[j]? = cs[j]?
 | [],_,_,cs,h=>⟨cs,h,rfl,λ_ _=>rfl⟩
 | v::r,o,w,cs,h=>by
  obtain ⟨cs',h1,h2,h3⟩:=pR r (o+1) _ _ (dw (o:=o) h v);refine ⟨cs',h1,by simpa using h2,λj hj=>?_⟩;rw [h3 j (by omega),Array.getElem?_setIfInBounds_ne (by omega)]
theorem ql (b:Nat):∀ (vs:List Value) (o:Nat) (w:World),Rg.Upd w b (w.setCells b o vs)
 | [],_,w=>JQ w b
 | v::r,o,w=>rW (bN w b o v) (ql b r (o+1) _)
theorem OZ (w:World):(zeroValue (prog.elem 122)).run prog w = .ok (.agg #[.pointer none]) w:=by kernel_rfl
theorem KD (n:Nat):(Builtin.zeroCells #[Value.pointer none] n).toList=List.replicate n (Value.pointer none):=by
 simp [Builtin.zeroCells];apply List.ext_getElem
 .simp
 .intro i h1 h2;simp [Nat.mod_one]
theorem BH (ty:TypeId) {n i:Nat} (hO:Rg.Own w g cur 35) (hs:cur.size=cap) (hi:i<=n) (hn:n<=cap) :
  ∃ w',(Builtin.clear_ #[122] ty #[.slice (dL (some ⟨g,0,none⟩) cap i) (n-i) (cap-i)]).run prog w = .ok (.tuple #[]) w'/\Rg.Upd w g w'/\∃ cur',Rg.Own w' g cur' 35/\cur'.size=cap/\∀ j,j<i->cur'[j]? = cur[j]? := by
 by_cases hz:n-i=0
 .refine ⟨w,?_,JQ w g,cur,hO,hs,λ_ _=>rfl⟩;rw [hz];cases dL (some ⟨g,0,none⟩) cap i <;> simp [Builtin.clear_,run_underlying lZ]
 .have hf:dL (some ⟨g,0,none⟩) cap i=some ⟨g,i,none⟩:=by
   unfold dL;rw [if_neg (by omega)];simp [Addr.add_mid]
  obtain ⟨cs',h1,h2,h3⟩:=pR (List.replicate (n-i) (Value.pointer none)) i w cur hO;refine ⟨_,?_,ql g (List.replicate (n-i) (Value.pointer none)) i w,cs',h1,by rw [h2,hs],h3⟩;rw [hf];have hst:=run_storeCells_cells (P:=prog) g i (List.replicate (n-i) (Value.pointer none)) 0 w (λj hj=>by
   have hj':j<n-i:=by simpa using hj
   rw [Nat.add_zero,cell_of_row w g _ _ _ _ hO.2,Array.getElem?_eq_getElem (by omega)];rfl) (λj hj=>gJ hO) (by intro v hv'; rw [List.eq_of_mem_replicate hv']; rfl)
  simp only [Nat.add_zero] at hst;obtain ⟨m,hm⟩:∃ m,n-i=m+1:=⟨n-i-1,by omega⟩
  rw [hm] at hst ⊢;simp [Builtin.clear_,run_underlying lZ,OZ,KD,Value.cells,hst]
theorem Qo {rest:List Oper} {a:Act} {n i:Nat} (hgd:o.guard=none)
  (ho:∃ s,o.op = .call { callee:=.builtin .clear,args:=#[s],argTypes:=#[122] }/\a.eval s = .slice (dL (some ⟨g,0,none⟩) cap i) (n-i) (cap-i)) (hd:o.dst=none)
  (hO:Rg.Own w g cur 35) (hs:cur.size=cap) (hi:i<=n) (hn:n<=cap)
  (H:∀ w' cur',Rg.Own w' g cur' 35->cur'.size=cap->(∀ j,j<i->cur'[j]? = cur[j]?)->Rg.Upd w g w'->wpList prog ops Q rest a w'):wpList prog ops Q (o::rest) a w:=by
 obtain ⟨s,ho,hx⟩:=ho;refine wpList_plain hgd λK hK=>?_;obtain ⟨w',hr,hu,cur',h1,h2,h3⟩:=BH o.type hO hs hi hn;unfold Oper.wp execOp;simp only [ho,resolve,invoke,builtin,Sem.run_bind,Sem.run_pure,Result.andThen_ok,List.map_toArray,List.map_cons,List.map_nil,hx,hr];refine hK _ _ ?_;rw [show a.put o.dst (.tuple #[])=a by rw [hd]; rfl];exact H w' cur' h1 h2 h3 hu
theorem RowK.cell {qs:List (aK)} (h:RowK w g cap qs) (hj:j<qs.length):w.cell? ⟨g,j,none⟩=some (.pointer (qs.getD j none)):=by
 obtain ⟨cur,hO,hs,hl,hm,hc⟩:=h;rw [cell_of_row w g _ _ _ _ hO.2];exact hc j hj
theorem RowK.cut {k:Nat} {qs:List (aK)} (h:RowK w g cap qs) (hO:Rg.Own w g cur 35) (hk:k<=qs.length) (oa:Rg.Own w' g cur' 35) (hs:cur'.size=cap) (he:∀ j,j<k->cur'[j]? = cur[j]?):RowK w' g cap (qs.take k):=by
 obtain ⟨gg,am,hs0,hl,hm,hc⟩:=h;have e:gg=cur:=by
  have:=am.2.symm.trans hO.2;injection this with this;injection this
 subst e;refine ⟨cur',oa,hs,by rw [List.length_take]; omega,hm,λj hj=>?_⟩;have hjk:j<k:=by rw [List.length_take] at hj; omega
 have hjq:j<qs.length:=by omega
 rw [he j hjk,hc j hjq];simp [List.getD,hjk]
theorem RowK.own {qs:List (aK)} (h:RowK w g cap qs):∃ cur,Rg.Own w g cur 35/\cur.size=cap/\qs.length<=cap/\cap<=maxLen:=by
 obtain ⟨gg,am,hs0,hl,hm,hc⟩:=h;exact ⟨gg,am,hs0,hl,hm⟩
theorem Qq {qs ps:List (aK)} (h:qs.drop j=ps.drop j):qs.getD j none=ps.getD j none/\qs.drop (j+1)=ps.drop (j+1):=by
 constructor
 .have:=congrArg (λl=>l[0]?) h;simp only [List.getElem?_drop,Nat.add_zero] at this;rw [List.getD_eq_getElem?_getD,List.getD_eq_getElem?_getD,this]
 .have:=congrArg (λl=>l.drop 1) h;simpa [List.drop_drop] using this
theorem Ck {qs:List (aK)} {k:Nat} (hk:k<qs.length) (p:aK):(qs.set k p).take (k+1)=qs.take k++[p]:=by
 rw [List.take_succ_eq_append_getElem (by simpa using hk),List.getElem_set_self,List.take_set_of_le (Nat.le_refl k)]
theorem CU {ps:List (aK)} (h:j<ps.length):ps.take (j+1)=ps.take j++[ps.getD j none]:=by
 have e:ps.getD j none=ps[j]:=by simp [List.getD,h]
 rw [e,List.take_succ_eq_append_getElem h]
def aas (w:World) (g cap:Nat) (ps:List (aK)) (e:Ending) (w':World):Prop:=e = .returned (.slice (some ⟨g,0,none⟩) (kY ps).length cap)/\RowK w' g cap (kY ps)/\Bo g w w'
theorem JK (ps:List (aK)) (g cap:Nat) (w:World) (h:RowK w g cap ps) (hn:ps.length<=1000000) :
  Calls prog 129 #[.slice (some ⟨g,0,none⟩) ps.length cap,.func (Fn.func 112) #[] #[]] w (aas w g cap ps):=by
 obtain ⟨gg,am,hs0,hlc,hm⟩:=h.own;unfold maxLen at hm;obtain ⟨n,hnl⟩:=ay ps.length
 rw [hnl] at hn hlc;have HL:=hid hnl;have HX:=hid (Ah ps (some ⟨g,0,none⟩) ps.length cap w h.ptrs (by omega));rw [hnl] at HX ⊢;have HR:=hid h;have hgl:=h.lt;clear h am hs0 hnl;go_enter func129,ntmps129;go_wp2_with fail
 refine HX.out.mono ?_;rintro e w1 ⟨r,rfl,hb1,hr⟩;have HB1:Hid (Bo g w w1):=hid (Bo.of hb1);have HR1:=hid (HR.out.below hb1);clear hb1 HX HR;rcases hr with ⟨rfl,hall⟩ | ⟨i,rfl,hi,hnone,hall⟩
 .have HK:=hid (IX hall);clear hall;go_wp2;go_ret;exact ⟨by rw [HK.out,HL.out]; rfl,(by rw [HK.out]; exact HR1.out),HB1.out⟩
 .have hne:decide ((i:Int) = -1)=false:=decide_eq_false (by omega);have hne2:((i:Int) == -1)=false:=by simp
  have HK:Hid (ps.take i=kY (ps.take (i+1))):=hid (by
   rw [CU (by rw [HL.out]; exact hi),hnone,wN,IX hall];exact (List.append_nil _).symm)
  clear hall hnone;go_wp2_with fail
  go_loopw [5,6] (λvi vj wr=>∃ (k j:Nat) (qs:List (aK)),vi = .int .i64 k/\vj = .int .i64 j/\k<=j/\j<=n/\qs.length=n/\Hid (RowK wr g cap qs)/\Hid (qs.take k=kY (ps.take j))/\Hid (qs.drop j=ps.drop j)/\Hid (Bo g w wr)) (λ_ vj _=>n-(intOf vj).toNat)
  case atStart=>exact ⟨i,i+1,ps,rfl,by go_num,by omega,by omega,HL.out,HR1,HK,hid rfl,HB1⟩
  case round =>
   obtain ⟨k,j,qs,rfl,rfl,hkj,hj,lR,fY,fw,jb,HB⟩:=hrel;clear HK HR1 HB1;have hgr:g<wr.heap.size:=fY.out.lt;by_cases hlt:j<n
   .have hji:(j:Int)<n:=by omega
    have hki:(k:Int)<n:=by omega
    have hdd:=Qq jb.out;have hc:=fY.out.cell (j:=j) (by omega);rw [hdd.1] at hc;have rN:=hid hdd.2;have HS:=hid (CU (ps:=ps) (j:=j) (by rw [HL.out]; exact hlt));obtain ⟨p,hp⟩:=ay (ps.getD j none)
    rw [hp] at hc HS;have hNew:=Rg.Own.new wr #[.pointer none] 35;have HN:=hid hNew;clear hdd hp hNew;go_wp2_with (first
     | (refine aA (aU hc ⟨_,rfl,rfl⟩) ?_)
     | (refine aA (aX _ _ _ wr.heap.size rfl rfl) ?_)
     | (refine aZ HN.out (by decide) p rfl _ _ rfl rfl rfl ?_; intro w5 ap aq; have az:=hid ap; have aa:Hid (Below wr.heap.size wr w5):=hid (aq.below (al1 _ _) aG); clear ap aq)
     | (refine aA (aU (aV (j:=0) az.out rfl) ⟨_,rfl,rfl⟩) ?_))
    refine (lH p w5).mono ?_;rintro e w6 ⟨rfl,hb6⟩;have bi:Hid (Below wr.heap.size wr w6):=hid (bst aa.out hb6);have cA:=hid (az.out.below hb6);have eM:=hid (fY.out.below bi.out);have xf:Hid (Bo g w w6):=hid (HB.out.then bi.out);clear hb6 aa az hc HN;cases hf:p.isNone with
    | true =>
     have pd:Hid (qs.take k=kY (ps.take (j+1))):=hid (by rw [HS.out,wN,hf,fw.out]; simp);clear hf;go_wp2_with fail
     go_roundw
     case rel=>exact ⟨k,j+1,qs,rfl,by go_num,by omega,by omega,lR,eM,pd,rN,xf⟩
     case measure=>simp [intOf]; omega
    | false =>
     have pd:Hid ((qs.set k p).take (k+1)=kY (ps.take (j+1))):=hid (by rw [HS.out,wN,hf,Ck (by omega),fw.out]; simp);have HD2:Hid ((qs.set k p).drop (j+1)=ps.drop (j+1)):=hid (by rw [List.drop_set_of_lt (by omega)]; exact rN.out);clear hf;go_wp2_with (first
      | (refine aA (aU (aV (j:=0) cA.out rfl) ⟨_,rfl,rfl⟩) ?_)
      | (refine tu eM.out (i:=k) (by omega) p rfl _ _ rfl rfl rfl ?_; intro w7 m3 cQ; have ip:=hid m3; have sa:Hid (Bo g w w7):=hid (xf.out.upd cQ); clear m3 cQ))
     go_roundw
     case rel=>exact ⟨k+1,j+1,qs.set k p,by go_num,by go_num,by omega,by omega,by simpa using lR,ip,pd,HD2,sa⟩
     case measure=>simp [intOf]; omega
   .obtain rfl:j=n:=by omega
    have hT:=fw.out;rw [List.take_of_length_le (l:=ps) (by rw [HL.out]; exact aG)] at hT;have hkl:(kY ps).length=k:=by rw [<-hT,List.length_take]; omega
    have HE:=hid hT;have cl:=hid hkl;obtain ⟨cur,hO,hs,_,_⟩:=fY.out.own;have HO:=hid hO;have G8:=hid (λ(w':World) (cur':aN) (h1:Rg.Own w' g cur' 35) (h2:cur'.size=cap) (h3:∀ j,j<k->cur'[j]? = cur[j]?)=>fY.out.cut hO (by omega) h1 h2 h3);clear hT hkl hO fw jb fY;go_wp2_with (first
     | (refine aA (kP (a:=some ⟨g,0,none⟩) (n:=j) (c:=cap) (i:=k) lZ xk hkj ⟨_,_,rfl,rfl,rfl⟩) ?_)
     | (refine aA (pX (a:=some ⟨g,0,none⟩) (n:=j) (c:=cap) (j:=k) lZ xk (by omega) ⟨_,_,rfl,rfl,rfl⟩) ?_)
     | (refine Qo (i:=k) (n:=j) rfl ⟨_,rfl,rfl⟩ rfl HO.out hs hkj hlc ?_; intro w8 sb ff m5 xh jj; have sc:=hid (G8.out w8 sb ff m5 xh); have sd:Hid (Bo g w w8):=hid (HB.out.upd jj); clear ff m5 xh jj))
    go_ret;exact ⟨by rw [cl.out]; rfl,(by rw [<-HE.out]; exact sc.out),sd.out⟩
end Tm
end
end Go.Proofs.YtoipgepkhomfgaaGreatDoor
