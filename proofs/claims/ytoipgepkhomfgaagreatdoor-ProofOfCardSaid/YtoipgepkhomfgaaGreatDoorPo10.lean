/-
 Contracts of node.stand, node.item, node.Put.
-/
import Derived.Test.YtoipgepkhomfgaaGreatDoorPo9
open Go.Lib (hid)
open Go.Proofs.Tryz
set_option linter.unusedSimpArgs false
set_option linter.unusedVariables false
set_option maxHeartbeats 40000000
set_option maxRecDepth 100000
namespace Go.Proofs.YtoipgepkhomfgaaGreatDoor
variable {o:Oper} {a pa:aK} {w w' w1 w2:World} {K:Act->World->Prop} {Q:Exit->Act->World->Prop} {ops:Array Oper} {v:Value} {L c cap g i j kn n:Nat} {k r:aL} {t:TypeId} {act:Act} {cur cur':aN}
section
open Go.RowKit
namespace No
open Rl Ni
theorem jR (ev:Operand->Value) (o:Oper) (w:World) (b:Nat) (hb:b=w.heap.size) (ho:o.op = .alloc 102) :
  (execOp ev o).run prog w = .ok (.value (.pointer (some ⟨b,0,none⟩))) (w.alloc (.cells (itC it0 none 0 0) 102)):=by
 subst hb;unfold execOp;rw [ho];kernel_rfl
theorem Ew (k:aL) (hk:k.size<=9223372036854775807) (w:World):Calls prog 97 #[.string k] w (Aj w (dP k)):=by
 obtain ⟨w2,hw2⟩:=au (w.alloc (.cells (itC it0 none 0 0) 102))
 have hO:Rg.Own w2 w.heap.size (itC it0 none 0 0) 102:=by rw [hw2]; exact Rg.Own.new _ _ _
 have HB2:Hid (Below w.heap.size w w2):=hid (by rw [hw2]; exact al1 _ _);have HO:=hid hO;have HP:=hid (yw k w2);cases hp:dK k with
 | true =>
  rw [om hp];rw [hp] at HP;have HT:=hid (lu k w2);clear hO hp;subst hw2;go_enter func97,ntmps97;go_wp2_with (refine aA (jR _ _ _ w.heap.size rfl rfl) ?_)
  refine HP.out.mono ?_;rintro e w3 ⟨rfl,rfl⟩;go_wp2_with fail
  refine HT.out.mono ?_;rintro e w4 ⟨rfl,hb4⟩;have b8:=hid (HO.out.below hb4);have aw:=hid (bst HB2.out hb4);clear hb4;go_wp2_with (refine nO b8.out (.mk false k []) none 0 0 rfl _ _ rfl rfl rfl rfl ?_)
  exact bodyPost_ret (oM rfl _ rfl (cK (wR b8.out).2)) rfl ⟨none,0,0,rfl,bM.nil _ _,eO aw.out aG _⟩
 | false =>
  rw [hp] at HP;have HR:Hid (dP k=match iE k.data.toList with | .ok x=>x | .error _=>it0):=hid (by unfold dP; rw [hp]; rfl);have HW:=hid (DX k hk w2);have hcases:Hid (∀ e w',qg w2 (iE k.data.toList) e w'->∃ (c:Int) (a:aK) (nn cap:Nat),e = .returned (.tuple #[itV (dP k) a nn cap,.int .i64 c])/\bM w2.heap.size w' (dP k).xs a nn cap/\Below w2.heap.size w2 w'):=hid (by
   intro e w' h;rw [HR.out];cases hw:iE k.data.toList with
   | error c =>
    rw [hw] at h;obtain ⟨rfl,hb⟩:=h;exact ⟨c,none,0,0,rfl,bM.nil _ _,hb⟩
   | ok x =>
    rw [hw] at h;obtain ⟨a,nn,cap,rfl,hI,hb⟩:=h;exact ⟨0,a,nn,cap,rfl,hI,hb⟩)
  obtain ⟨x,hx⟩:=ay (dP k)
  rw [hx] at hcases ⊢;clear hO hp HR hx;subst hw2;go_enter func97,ntmps97;go_wp2_with (refine aA (jR _ _ _ w.heap.size rfl rfl) ?_)
  refine HP.out.mono ?_;rintro e w3 ⟨rfl,rfl⟩;go_wp2_with fail
  refine HW.out.mono ?_;intro e w4 hpost;obtain ⟨c,a,nn,cap,rfl,hI,hb4⟩:=hcases.out e w4 hpost;have b8:=hid (HO.out.below hb4);have aw:=hid (bst HB2.out hb4);have HI4:=hid hI;have ue:Hid (Rg.Own (w4.alloc (.cells (itC it0 none 0 0) 102)) w4.heap.size (itC it0 none 0 0) 102):=hid (Rg.Own.new _ _ _);have gO:=hid (wR (cs':=itC x a nn cap) ue.out);have ed:Below w4.heap.size w4 ((w4.alloc (.cells (itC it0 none 0 0) 102)).setRow w4.heap.size (itC x a nn cap)):=eO (al1 _ _) aG _;have bh:=hid (b8.out.below ed)
  have ae:=hid (bst aw.out ed);have ky:=hid (HI4.out.stays ed);clear hpost hI hb4 hcases HP HW ed;go_wp2_with (first
   | (refine aA (jR _ _ _ w4.heap.size rfl rfl) ?_)
   | (refine nO ue.out x a nn cap rfl _ _ rfl rfl rfl rfl ?_)
   | (refine aA (Kz gO.out ?_) ?_; · exact ⟨_,rfl,rfl⟩)
   | (refine nO bh.out x a nn cap rfl _ _ rfl rfl rfl rfl ?_))
  exact bodyPost_ret (oM rfl _ rfl (cK (wR bh.out).2)) rfl ⟨a,nn,cap,rfl,bM.weak (lZ ky.out (by simp) _) (by simp),eO ae.out aG _⟩
theorem Ho (a:aK) (n c:Nat) (l:aM) (leaf:Bool) (hn:n<=64) (hr:dh l=true) (w:World) (h:aZ w a n c l) :
  Calls prog 99 #[.slice a n c,.bool leaf] w λe w'=>e = .returned (.tuple #[.string ⟨(iG l leaf).toArray⟩,.int .i64 0])/\Below w.heap.size w w':=by
 by_cases h2:n%2=0
 .exact Rm a n c l leaf hn h2 hr w h
 .cases a with
  | none =>
   obtain ⟨rfl,_,_⟩:=h.Fh;exact absurd rfl h2
  | some ad =>
   obtain ⟨b,off,e,_,_⟩:=h.at' 0 (by omega);obtain rfl:=Option.some.inj e;exact Uf b off n c l leaf hn (by omega) hr w h
theorem Gu {a:Act} {x y:It} {A D:aK} {An Ac Dn Dc:Nat} (hw:Region.wanted o (yielded ops a.tmps)=true)
  (ho:∃ p q,o.op = .buildSlice 100 2 #[(0,p),(1,q)]/\a.eval p = .agg #[.bool x.l,.string x.s,.slice A An Ac]/\a.eval q = .agg #[.bool y.l,.string y.s,.slice D Dn Dc])
  (h:∀ w' b,Rg.Own w' b #[.bool x.l,.string x.s,.slice A An Ac,.bool y.l,.string y.s,.slice D Dn Dc] 102->Below w.heap.size w w'->K (a.put o.dst (.slice (some ⟨b,0,none⟩) 2 2)) w'):if Region.wanted o (yielded ops a.tmps)=true then Oper.wp prog o a w K Q else K (a.put o.dst undef) w:=by
 obtain ⟨p,q,ho,hp,hq⟩:=ho;obtain ⟨i0,hi,hz,hs,hby⟩:=info_parts yV;refine Rg.want hw (wp_buildSlice 100 102 2 _ ho #[.bool x.l,.string x.s,.slice A An Ac,.bool y.l,.string y.s,.slice D Dn Dc] i0 _ underlying100 hi hz (by rw [hs]; decide) (by rw [hs]; decide) ?_ (h _ _ (Rg.Own.new _ _ _) (al1 _ _)));simp only [List.map_toArray,List.map_cons,List.map_nil,hp,hq,hs];kernel_rfl
def SI (w:World) (o:Nat) (v:Value) (w':World):Prop:=w'.cell? ⟨w.heap.size,o,none⟩=some v/\(∃ cs:aN,cs.size=3/\Rg.Own w' (w.heap.size+1) cs 102)/\Below w.heap.size w w'
theorem SI.lt {o:Nat} (h:SI w o v w1):w.heap.size+1<w1.heap.size:=by
 obtain ⟨_,⟨_,_,h⟩,_⟩:=h;exact h.1
theorem SI.keep {o:Nat} (h:SI w o v w1) (hb:Below w1.heap.size w1 w2):SI w o v w2:=by
 have hlt:=h.lt;obtain ⟨h0,⟨cs,hcs,h1⟩,h2⟩:=h;exact ⟨(Below.cell (p:=⟨w.heap.size,o,none⟩) hb (by show w.heap.size<w1.heap.size; omega)).trans h0,⟨cs,hcs,h1.below hb⟩,bst h2 hb⟩
theorem uT (w:World) (N:Nd) (a:aK) (n c:Nat):∃ w2,w2=(w.alloc (.cells (ndC N a n c) 69)).alloc (.cells (itC it0 none 0 0) 102)/\dI w2 w.heap.size N a n c/\Rg.Own w2 (w.heap.size+1) (itC it0 none 0 0) 102/\Below w.heap.size w w2/\w2.heap.size=w.heap.size+2:=by
 refine ⟨_,rfl,(Rg.Own.new _ _ _).below (al1 _ _),?_,al2 _ _ _,by simp⟩;have:=Rg.Own.new (w.alloc (.cells (ndC N a n c) 69)) (itC it0 none 0 0) 102;simpa using this
theorem Bh (w:World) (o:Obj):(w.alloc o).heap.size=w.heap.size+1:=by simp
theorem Oc (N:Nd) (a:aK) (n c:Nat) (_hl:N.ks.length=16) (w:World) (hB:aZ w a n c N.p) (hm:fq bP N=true) (hkd:N.kd=1):Calls prog 52 #[.agg (ndC N a n c)] w (Aj w (gM N)):=by
 obtain ⟨m1,m2,_⟩:=jM hm;have ee:n<=64:=by rw [<-hB.len]; exact m1
 obtain ⟨w2,hw2,hN,hO,dj,hs2⟩:=uT w N a n c;have eW:=hid (Ho a n c N.p (decide (N.kd=1)) ee m2 w2 (hB.below dj));have HI:Hid (gM N = .mk true ⟨#[]⟩ [.mk false ⟨(iG N.p (decide (N.kd=1))).toArray⟩ [],.mk false N.v []]):=hid (by unfold gM bX pY; rw [if_neg (by omega),if_pos hkd]);rw [HI.out];clear HI;obtain ⟨S,hS⟩:=ay (⟨(iG N.p (decide (N.kd=1))).toArray⟩:aL)
 rw [hS] at eW ⊢;rw [hkd] at eW;rw [show decide ((1:Int)=1)=true by decide] at eW;obtain ⟨c0,c1,c2⟩:=dz hN;rw [hkd] at c0;have xf:=hid hkd;have HO:=hid hO;have HN:=hid hN;have HB:=hid dj;clear hO hN dj hB hm m1 m2 hS hkd;subst hw2;go_enter func52,ntmps52;go_wp2_with (refine aA (jR _ _ _ (w.heap.size+1) (Bh _ _).symm rfl) ?_)
 refine eW.out.mono ?_;rintro e w5 ⟨rfl,hb5⟩;have bh:=hid (HO.out.below hb5);have ae:=hid (bst HB.out hb5);have ui:=HN.out.below hb5;obtain ⟨c0,c1,c2⟩:=dz ui;clear hb5 ui eW;rw [xf.out] at c0;go_wp2_with fail
 refine aC (S:=SI w 2 (.string N.v)) (⟨c2,⟨_,rfl,bh.out.drew⟩,ae.out.drew⟩) λhld=>?_;refine ah 0 ?_;try simp only [Act.put,ak]
 refine ah 2 ?_;try simp only [Act.put,ak]
 refine ah 3 ?_ (hy:=by intro wz hSw; (have q0:=hSw.1; go_simp <;> with_reducible rfl));try simp only [Act.put,ak]
 refine aj 1 λK hK=>?_;go_simp;go_at_call 100
 (with_reducible refine (lu S _).mono ?_)
 rintro e FG ⟨rfl,hbx⟩;refine hK.out _ _ (SI.keep hld hbx) λhld=>?_;clear hK K hbx;try simp only [Act.put,ak]
 refine aj 4 λK hK=>?_;go_simp;go_at_call 100
 (with_reducible refine (lu N.v _).mono ?_)
 rintro e FO ⟨rfl,hbx⟩;refine hK.out _ _ (SI.keep hld hbx) λhld=>?_;clear hK K hbx;try simp only [Act.put,ak]
 refine aj 5 λK hK=>?_;refine Gu (x:=.mk false S []) (y:=.mk false N.v []) (by rfl) ⟨_,_,rfl,rfl,rfl⟩ ?_;rintro FS g5 h5 hbx;refine hK.out _ _ (SI.keep hld hbx) λhld=>?_;clear hK K hbx;try simp only [Act.put,ak]
 refine aj 6 λK hK=>?_;have ld:=hid (Ao [.mk false S [],.mk false N.v []] _ _ _ _ (NC h5 (FK _ (.mk false S []) rfl) (FK _ (.mk false N.v []) rfl)));go_simp;go_at_call 98
 (with_reducible refine ld.out.mono ?_)
 rintro e V5 ⟨la,ln,lc,rfl,nd,hbx⟩;replace nd:=bM.weak (B':=w.heap.size+2) nd (by have:=hld.lt; omega);refine hK.out _ _ (SI.keep hld hbx) λhld=>?_;clear hK K hbx ld;try simp only [Act.put,ak]
 refine aj 7 λK hK=>?_;obtain ⟨cs,hcs,hOr⟩:=hld.2.1;refine Rg.meetStore (by rfl) hOr 102 (itC (.mk true ⟨#[]⟩ [.mk false S [],.mk false N.v []]) la ln lc) ⟨_,_,rfl,rfl,rfl⟩ (gJ _ _ _ _) (by rw [hcs]; rfl) (jo _ _ _ _) ?_;rintro wz hn hu;have lg:Below w.heap.size w wz:=hu.below hld.2.2 (by omega);have G0:=bM.kept nd (by rw [hu.size]; exact aG) (λb o hB _=>World.cell?_of_block (hu.block b (by omega)));have hcz:=(World.cell?_of_block (a:=⟨w.heap.size,2,none⟩) (hu.block w.heap.size (by omega))).trans hld.1
 refine hK.out _ _ (⟨hcz,⟨_,rfl,hn⟩,lg⟩) λhld=>?_;clear hK K;try simp only [Act.put]
 refine aB ?_;go_wp2;exact bodyPost_ret (oM rfl _ rfl (cK hn.2)) rfl ⟨la,ln,lc,rfl,bM.weak G0 (by omega),lg⟩
theorem RA (N:Nd) (a:aK) (n c:Nat) (hl:N.ks.length=16) (w:World) (hB:aZ w a n c N.p) (hm:fq bP N=true) (hkd:N.kd=2) (hks:(N.ks.getD 0 eB).size<=100):Calls prog 52 #[.agg (ndC N a n c)] w (Aj w (gM N)):=by
 obtain ⟨m1,m2,_⟩:=jM hm;have ee:n<=64:=by rw [<-hB.len]; exact m1
 obtain ⟨w2,hw2,hN,hO,dj,hs2⟩:=uT w N a n c;have eW:=hid (Ho a n c N.p (decide (N.kd=1)) ee m2 w2 (hB.below dj));have HI:Hid (gM N = .mk true ⟨#[]⟩ [.mk false ⟨(iG N.p (decide (N.kd=1))).toArray⟩ [],dP (N.ks.getD 0 eB)]):=hid (by unfold gM bX pY; rw [if_neg (by omega),if_neg (by omega)]);rw [HI.out];clear HI;obtain ⟨S,hS⟩:=ay (⟨(iG N.p (decide (N.kd=1))).toArray⟩:aL)
 rw [hS] at eW ⊢;rw [hkd] at eW;rw [show decide ((2:Int)=1)=false by decide] at eW;obtain ⟨c0,c1,c2⟩:=dz hN;rw [hkd] at c0;have xf:=hid hkd;have V6:=hid hl;have dr:=hid (λw=>Ew (N.ks.getD 0 eB) (by omega) w);obtain ⟨X,hX⟩:=ay (dP (N.ks.getD 0 eB))
 rw [hX] at dr ⊢;obtain ⟨k,hk⟩:=ay (N.ks.getD 0 eB)
 rw [hk] at dr;have Hk:=hid hk;clear hX hk hks;have HO:=hid hO;have HN:=hid hN;have HB:=hid dj;clear hO hN dj hB hm m1 m2 hS hkd;subst hw2;go_enter func52,ntmps52;go_wp2_with (refine aA (jR _ _ _ (w.heap.size+1) (Bh _ _).symm rfl) ?_)
 refine eW.out.mono ?_;rintro e w5 ⟨rfl,hb5⟩;have bh:=hid (HO.out.below hb5);have ae:=hid (bst HB.out hb5);have ui:=HN.out.below hb5;obtain ⟨c0,c1,c2⟩:=dz ui;have ck:w5.cell? ⟨w.heap.size,3,none⟩=some (.string k):=by rw [<-Hk.out]; exact rQ ui V6.out 0 (by decide)
 clear hb5 ui eW;rw [xf.out] at c0;go_wp2_with fail
 refine aC (S:=SI w 3 (.string k)) (⟨ck,⟨_,rfl,bh.out.drew⟩,ae.out.drew⟩) λhld=>?_;refine ah 0 ?_;try simp only [Act.put,ak]
 refine ah 2 ?_;try simp only [Act.put,ak]
 refine ah 3 ?_;try simp only [Act.put,ak]
 refine ah 4 ?_ (hy:=by intro wz hSw; (have q0:=hSw.1; go_simp <;> with_reducible rfl));try simp only [Act.put,ak]
 refine aj 1 λK hK=>?_;go_simp;go_at_call 100
 (with_reducible refine (lu S _).mono ?_)
 rintro e FG ⟨rfl,hbx⟩;refine hK.out _ _ (SI.keep hld hbx) λhld=>?_;clear hK K hbx;try simp only [Act.put,ak]
 refine aj 5 λK hK=>?_;go_simp;go_at_call 97
 (with_reducible refine (dr.out _).mono ?_)
 rintro e FO ⟨kA,kN,kC,rfl,xh,hbx⟩;replace xh:=bM.weak (B':=0) xh (Nat.zero_le _);refine hK.out _ _ (SI.keep hld hbx) λhld=>?_;clear hK K hbx;try simp only [Act.put,ak]
 refine aj 6 λK hK=>?_;refine Gu (x:=.mk false S []) (y:=X) (by rfl) ⟨_,_,rfl,rfl,rfl⟩ ?_;rintro FS g5 h5 hbx;replace xh:=jw.stays xh hbx;refine hK.out _ _ (SI.keep hld hbx) λhld=>?_;clear hK K hbx;try simp only [Act.put,ak]
 refine aj 7 λK hK=>?_;have ld:=hid (Ao [.mk false S [],X] _ _ _ _ (NC h5 (FK _ (.mk false S []) rfl) xh));go_simp;go_at_call 98
 (with_reducible refine ld.out.mono ?_)
 rintro e V5 ⟨la,ln,lc,rfl,nd,hbx⟩;replace nd:=bM.weak (B':=w.heap.size+2) nd (by have:=hld.lt; omega);refine hK.out _ _ (SI.keep hld hbx) λhld=>?_;clear hK K hbx ld;try simp only [Act.put,ak]
 refine aj 8 λK hK=>?_;obtain ⟨cs,hcs,hOr⟩:=hld.2.1;refine Rg.meetStore (by rfl) hOr 102 (itC (.mk true ⟨#[]⟩ [.mk false S [],X]) la ln lc) ⟨_,_,rfl,rfl,rfl⟩ (gJ _ _ _ _) (by rw [hcs]; rfl) (jo _ _ _ _) ?_;rintro wz hn hu;have lg:Below w.heap.size w wz:=hu.below hld.2.2 (by omega);have G0:=bM.kept nd (by rw [hu.size]; exact aG) (λb o hB _=>World.cell?_of_block (hu.block b (by omega)));have hcz:=(World.cell?_of_block (a:=⟨w.heap.size,3,none⟩) (hu.block w.heap.size (by omega))).trans hld.1
 refine hK.out _ _ (⟨hcz,⟨_,rfl,hn⟩,lg⟩) λhld=>?_;clear hK K;try simp only [Act.put]
 refine aB ?_;go_wp2;exact bodyPost_ret (oM rfl _ rfl (cK hn.2)) rfl ⟨la,ln,lc,rfl,bM.weak G0 (by omega),lg⟩
def cellV (q:It × aK × Nat × Nat) (k:Nat):Value:=if k=0 then .bool q.1.l else if k=1 then .string q.1.s else .slice q.2.1 q.2.2.1 q.2.2.2
def Py (V:Nat->It × aK × Nat × Nat) (i:Nat):Value:=cellV (V (i/3)) (i%3)
abbrev z4:It × aK × Nat × Nat:=(it0,none,0,0)
def CK:aN:=((List.range 51).map (Py λ_=>z4)).toArray
theorem CS (ev:Operand->Value) (o:Oper) (w:World) (b:Nat) (hb:b=w.heap.size) (ho:o.op = .alloc 167) :
  (execOp ev o).run prog w = .ok (.value (.pointer (some ⟨b,0,none⟩))) (w.alloc (.cells CK 167)):=by
 subst hb;unfold execOp;rw [ho];kernel_rfl
def uW (w:World) (g:Nat) (ks:List aL) (j:Nat):Prop:=∃ V:Nat->It × aK × Nat × Nat,w.rowIs g 167 51 (Py V)/\
 (∀ i,i<j->(V i).1=dP (ks.getD i eB)/\bM (g+1) w (V i).1.xs (V i).2.1 (V i).2.2.1 (V i).2.2.2)/\∀ i,j<=i->V i=z4
theorem uW.start (w:World) (ks:List aL):uW (w.alloc (.cells CK 167)) w.heap.size ks 0:=by
 refine ⟨λ_=>z4,?_,λi hi=>absurd hi (Nat.not_lt_zero _),λ_ _=>rfl⟩;have hs:CK.size=51:=by simp [CK]
 rw [<-hs];refine World.rowIs_alloc w CK _ _ (λi hi=>?_);rw [hs] at hi;simp [CK,hi]
theorem uW.lt {w:World} {g j:Nat} {ks:List aL} (h:uW w g ks j):g<w.heap.size:=by
 obtain ⟨V,hr,_⟩:=h;exact hr.lt
theorem uW.keep {ks:List aL} (h:uW w g ks j) (hb:Below w.heap.size w w'):uW w' g ks j:=by
 obtain ⟨V,hr,h1,h2⟩:=h;exact ⟨V,hr.of_block (hb.block g hr.lt),λi hi=>⟨(h1 i hi).1,bM.kept (h1 i hi).2 hb.size (λb o _ hlt=>hb.cell (p:=⟨b,o,none⟩) hlt)⟩,h2⟩
theorem Bz (w:World) (b o:Nat) (v:Value):Rg.Upd w b (w.setCell ⟨b,o,none⟩ v):=⟨rfl,rfl,rfl,by simp [World.setCell],λk hk=>Below.heap_setCell _ _ _ _ hk⟩
theorem tX {b:Nat} (h:Rg.Upd w b w1) (h2:Rg.Upd w1 b w2):Rg.Upd w b w2 :=
 ⟨h2.os.trans h.os,h2.tape.trans h.tape,h2.output.trans h.output,h2.size.trans h.size,λk hk=>(h2.block k hk).trans (h.block k hk)⟩
theorem uW.step {ks:List aL} (h:uW w g ks j) (hj:j<16) {A:aK} {N C:Nat} (hI:bM (g+1) w (dP (ks.getD j eB)).xs A N C) :
  uW (w.setCells g (j*3) (itC (dP (ks.getD j eB)) A N C).toList) g ks (j+1)/\Rg.Upd w g (w.setCells g (j*3) (itC (dP (ks.getD j eB)) A N C).toList)/\w.there g (j*3) (itC (dP (ks.getD j eB)) A N C).size:=by
 obtain ⟨V,hr,h1,h2⟩:=h;have hu:Rg.Upd w g (w.setCells g (j*3) (itC (dP (ks.getD j eB)) A N C).toList):=tX (tX (Bz w g (j*3) _) (Bz _ g (j*3+1) _)) (Bz _ g (j*3+1+1) _);refine ⟨⟨λi=>if i=j then (dP (ks.getD j eB),A,N,C) else V i,?_,λi hi=>?_,λi hi=>?_⟩,hu,λi hi=>?_⟩
 .have h3:(w.setCells g (j*3) (itC (dP (ks.getD j eB)) A N C).toList).rowIs g 167 51 _:=((hr.set (j*3) (.bool (dP (ks.getD j eB)).l)).set (j*3+1) (.string (dP (ks.getD j eB)).s)).set (j*3+1+1) (.slice A N C);refine h3.congr (λi hi=>?_);unfold Py;dsimp only;by_cases hij:i/3=j
  .rw [if_pos hij];unfold cellV;by_cases e2:i=j*3+1+1
   .rw [if_pos e2,if_neg (by omega),if_neg (by omega)]
   .rw [if_neg e2];by_cases e1:i=j*3+1
    .rw [if_pos e1,if_neg (by omega),if_pos (by omega)]
    .rw [if_neg e1,if_pos (by omega),if_pos (by omega)]
  .rw [if_neg hij,if_neg (by omega),if_neg (by omega),if_neg (by omega)]
 .dsimp only;by_cases hij:i=j
  .subst hij;rw [if_pos rfl];exact ⟨rfl,bM.kept hI (by rw [hu.size]; exact aG) (λb o hB _=>World.cell?_of_block (hu.block b (by omega)))⟩
  .rw [if_neg hij];obtain ⟨e1,e2⟩:=h1 i (by omega);exact ⟨e1,bM.kept e2 (by rw [hu.size]; exact aG) (λb o hB _=>World.cell?_of_block (hu.block b (by omega)))⟩
 .dsimp only;rw [if_neg (by omega)];exact h2 i (by omega)
 .have h3:(itC (dP (ks.getD j eB)) A N C).size=3:=rfl;rw [h3] at hi;exact ⟨by rw [hr.cell (by omega)]; rfl,hr.frozen _⟩
theorem uW.done {ks:List aL} (h:uW w g ks 16) (hl:ks.length=16):jm w (ks.map dP++[it0]) (some ⟨g,0,none⟩) 17 17:=by
 obtain ⟨V,hr,h1,h2⟩:=h;have hV:∀ (j:Nat) (x:It),(ks.map dP++[it0])[j]? = some x->j<17/\(V j).1=x/\jm w x.xs (V j).2.1 (V j).2.2.1 (V j).2.2.2:=by
  intro j x hx;by_cases hj:j<16
  .rw [List.getElem?_append_left (by simp [hl]; omega),List.getElem?_map,List.getElem?_eq_getElem (by omega),Option.map_some] at hx;obtain ⟨e1,e2⟩:=h1 j hj;have e:ks.getD j eB=ks[j]:=by simp [List.getD,hl,hj]
   have hxe:(V j).1=x:=by rw [e1,e]; exact Option.some.inj hx
   rw [hxe] at e2;exact ⟨by omega,hxe,bM.weak e2 (Nat.zero_le _)⟩
  .rw [List.getElem?_append_right (by simp [hl]; omega)] at hx;have G4:j=16:=by
    have:=(List.getElem?_eq_some_iff.1 hx).1;simp [hl] at this;omega
   subst G4;simp [hl] at hx;subst hx;rw [h2 16 aG];exact ⟨by omega,rfl,bM.nil _ _⟩
 refine jw.mk (λj=>(V j).2.1) (λj=>(V j).2.2.1) (λj=>(V j).2.2.2) (by simp [hl]) aG (by unfold maxLen; omega) (by omega) (λe=>by cases e) (λj x hx=>?_) (λj x hx=>(hV j x hx).2.2);obtain ⟨hj,hxe,_⟩:=hV j x hx;refine ⟨g,0,rfl,Nat.zero_le _,hr.lt,?_⟩;rw [Nat.zero_add];refine ⟨?_,?_,?_⟩
 .rw [hr.cell (by omega)];unfold Py cellV;rw [show j*3/3=j by omega,if_pos (by omega),hxe]
 .rw [hr.cell (by omega)];unfold Py cellV;rw [show (j*3+1)/3=j by omega,if_neg (by omega),if_pos (by omega),hxe]
 .rw [hr.cell (by omega)];unfold Py cellV;rw [show (j*3+2)/3=j by omega,if_neg (by omega),if_neg (by omega)]
theorem JN (N:Nd) (a:aK) (n c:Nat) (hl:N.ks.length=16) (w:World) (hkd:N.kd=3) (hks:∀ k∈N.ks,k.size<=100):Calls prog 52 #[.agg (ndC N a n c)] w (Aj w (gM N)):=by
 obtain ⟨w2,hw2,hN,hO,dj,hs2⟩:=uT w N a n c;have HI:Hid (gM N = .mk true ⟨#[]⟩ (N.ks.map dP++[it0])):=hid (by unfold gM bX; rw [if_pos hkd]);rw [HI.out];clear HI;have ie:Hid (uW (w2.alloc (.cells CK 167)) (w.heap.size+2) N.ks 0):=hid (by rw [<-hs2]; exact uW.start w2 N.ks);have NB:Hid (dI (w2.alloc (.cells CK 167)) w.heap.size N a n c):=hid (hN.below (al1 _ _));have xi:Hid (Rg.Own (w2.alloc (.cells CK 167)) (w.heap.size+1) (itC it0 none 0 0) 102):=hid (hO.below (al1 _ _))
 have HB0:Hid (Below w.heap.size w (w2.alloc (.cells CK 167))):=hid (bst dj (al1 _ _));obtain ⟨c0,c1,c2⟩:=dz hN;rw [hkd] at c0;have HL:=hid hl;have V7:=hid hks;have V8:=hid hs2;clear hN hO dj hks hkd hs2 hl;subst hw2;go_enter func52,ntmps52;go_wp2_with (first
  | (refine aA (jR _ _ _ (w.heap.size+1) (Bh _ _).symm rfl) ?_)
  | (refine aA (CS _ _ _ (w.heap.size+2) V8.out.symm rfl) ?_)
  | (refine aA (mg NB.out HL.out ⟨_,rfl,rfl⟩) ?_))
 go_loopw [13] (λi wr=>∃ j:Nat,j<=16/\i = .int .i64 j/\Hid (uW wr (w.heap.size+2) N.ks j)/\Hid (Rg.Own wr (w.heap.size+1) (itC it0 none 0 0) 102)/\Hid (Below w.heap.size w wr)) (λi _=>16-(intOf i).toNat)
 case atStart=>exact ⟨0,Nat.zero_le _,rfl,ie,xi,HB0⟩
 case round =>
  obtain ⟨j,hj,rfl,HR,HO,HB⟩:=hrel;clear ie xi HB0 NB;by_cases hlt:j<16
  .have dr:=hid (Ew (N.ks.getD j eB) (by
    have:=V7.out (N.ks.getD j eB) (by rw [List.getD_eq_getElem?_getD,List.getElem?_eq_getElem (by rw [HL.out]; exact hlt)]; exact List.getElem_mem _);omega) wr)
   go_wp2_with (refine Rg.run rfl (.string (N.ks.getD j eB)) _ (eG HL.out hlt ⟨_,_,rfl,rfl,rfl⟩) ?_)
   refine dr.out.mono ?_;rintro e w5 ⟨A,M,C,rfl,hI,hb5⟩;have s9:=HR.out.lt;have hst:=(HR.out.keep hb5).step hlt (bM.weak (B':=w.heap.size+2+1) hI (by omega));have HS:=hid hst;have bh:=hid (HO.out.below hb5);have ae:=hid (bst HB.out hb5);obtain ⟨x,hx⟩:=ay (dP (N.ks.getD j eB))
   rw [hx] at HS ⊢;clear hI hb5 hst dr HO HB HR hx;go_wp2_with (refine wpList_store_mid rfl 102 _ _ rfl (w.heap.size+2) (j*3) (itC x A M C) rfl rfl HS.out.2.2 (gJ _ _ _ _) (jo _ _ _ _) ?_)
   go_roundw
   case rel=>exact ⟨j+1,by omega,by go_num,hid HS.out.1,hid (bh.out.upd HS.out.2.1 (by omega)),hid (HS.out.2.1.below ae.out (by omega))⟩
   case measure=>simp [intOf]; omega
  .obtain rfl:j=16:=by omega
   have ld:=hid (Ao _ _ _ _ _ (HR.out.done HL.out));obtain ⟨xs,hxs⟩:=ay (N.ks.map dP++[it0])
   rw [hxs] at ld;have HX:=hid hxs;clear hxs;go_wp2_with fail
   refine ld.out.mono ?_;rintro e w6 ⟨la,ln,lc,rfl,nd,hb6⟩;have cf:=hid (HO.out.below hb6);have ap:=hid (bst HB.out hb6);have hs6:=HO.out.1;have oa:=hid nd;clear nd hb6 ld;go_wp2_with (refine nO cf.out (.mk true ⟨#[]⟩ xs) la ln lc rfl _ _ rfl rfl rfl rfl ?_)
   exact bodyPost_ret (oM rfl _ rfl (cK (wR cf.out).2)) rfl ⟨la,ln,lc,by rw [HX.out],by rw [HX.out]; exact bM.weak (lZ oa.out (by omega) _) (by omega),eO ap.out (by omega) _⟩
theorem Tt (N:Nd) (a:aK) (n c:Nat) (hl:N.ks.length=16) (w:World) (hB:aZ w a n c N.p) (hm:fq bP N=true) (hks:∀ k∈N.ks,k.size<=100):Calls prog 52 #[.agg (ndC N a n c)] w (Aj w (gM N)):=by
 rcases jK hl hm with ⟨k1,_⟩ | ⟨k1,_⟩ | ⟨k1,_⟩
 .exact Oc N a n c hl w hB hm k1
 .exact RA N a n c hl w hB hm k1 (hks _ (by rw [List.getD_eq_getElem?_getD,List.getElem?_eq_getElem (by omega)]; exact List.getElem_mem _))
 .exact JN N a n c hl w k1 hks
def Wp (N:Nd):Value:=.tuple #[.string (if fq bP N then ⟨(jC N).toArray⟩ else eB),.int .i64 (if fq bP N then 0 else 2)]
theorem GL (N:Nd) (a:aK) (n c:Nat) (hl:N.ks.length=16) (w:World) (hB:aZ w a n c N.p) (hv:N.v.size<=maxLen) (hks:∀ k∈N.ks,k.size<=100) :
  Calls prog 28 #[.agg (ndC N a n c)] w λe w'=>e = .returned (Wp N)/\Below w.heap.size w w':=by
 obtain ⟨w2,hw2⟩:=au (w.alloc (.cells (ndC N a n c) 69))
 have hO:dI w2 w.heap.size N a n c:=by rw [hw2]; exact Rg.Own.new _ _ _
 have dj:Below w.heap.size w w2:=by rw [hw2]; exact al1 _ _
 have HC:=hid (qb N a n c hl w2 (hB.below dj) hv (λk hk=>lD k (by have:=hks k hk; omega)));have D8:Hid (fq bP N=true->∀ w',Below w.heap.size w w'->Calls prog 52 #[.agg (ndC N a n c)] w' (Aj w' (gM N))):=hid (λhm w' hb=>Tt N a n c hl w' (hB.below hb) hm hks);have HF:Hid (fq bP N=true->Fits 0 (gM N)/\(gM N).size<=4096/\(gM N).bytes.length<=1099511627776):=hid (λhm=>by
  obtain ⟨f1,f2,f3,_⟩:=DU hl hm;exact ⟨f1,f3,by omega⟩)
 have HO:=hid hO;have ef:=hid dj;have HL:=hid hl;unfold Wp;obtain ⟨M,hM⟩:=ay (fq bP N)
 rw [hM] at HC D8 HF ⊢;clear hO dj hB hks hv hl hM;unfold jC;obtain ⟨X,hX⟩:=ay (gM N)
 rw [hX] at D8 HF ⊢;clear hX;subst hw2;cases M with
 | false =>
  go_enter func28,ntmps28;go_wp2_with (refine aA (bU HO.out HL.out ?_) ?_; · exact ⟨_,rfl,rfl⟩)
  refine HC.out.mono ?_;rintro e w3 ⟨rfl,hb3⟩;have HB3:=hid (bst ef.out hb3);clear hb3;go_wp2;go_ret2
  exact ⟨rfl,HB3.out⟩
 | true =>
  go_enter func28,ntmps28;go_wp2_with (refine aA (bU HO.out HL.out ?_) ?_; · exact ⟨_,rfl,rfl⟩)
  refine HC.out.mono ?_;rintro e w3 ⟨rfl,hb3⟩;have aq:=hid (HO.out.below hb3);have HB3:=hid (bst ef.out hb3);have HI3:=hid (D8.out (by first | rfl | trivial) w3 HB3.out);clear hb3 HC D8;go_wp2_with (refine aA (bU aq.out HL.out ?_) ?_; · exact ⟨_,rfl,rfl⟩)
  refine HI3.out.mono ?_;rintro e w4 ⟨la,ln,lc,rfl,hI,hb4⟩;have aw:=hid (bst HB3.out hb4);have uk:=hid (zx X w4 (itV X la ln lc) ⟨la,ln,lc,rfl,bM.weak hI (Nat.zero_le _)⟩ (HF.out (by first | rfl | trivial)).1 (HF.out (by first | rfl | trivial)).2.1 (HF.out (by first | rfl | trivial)).2.2);clear hI hb4 HI3;go_wp2_with fail
  refine uk.out.mono ?_;rintro e w5 ⟨rfl,hb5⟩;have ae:=hid (bst aw.out hb5);clear hb5;go_wp2;go_ret2
  exact ⟨rfl,ae.out⟩
theorem tJ (k:aL) (hk:k.size<=4294967286) (w:World):Calls prog 56 #[.string k] w λe w'=>e = .returned (.string ⟨(It.mk false k []).bytes.toArray⟩)/\Below w.heap.size w w':=by
 have hT:=λw=>Ry (.mk false k []) 0 w (itV (.mk false k []) none 0 0) ⟨none,0,0,rfl,bM.nil _ _⟩ (ql 0 (by omega) k) (by have:=sG k (by omega); omega);unfold itV at hT;dsimp only [It.l,It.s] at hT;have HT:=hid hT;clear hT;obtain ⟨B,hB⟩:=ay (⟨(It.mk false k []).bytes.toArray⟩:aL)
 rw [hB] at HT ⊢;clear hB;go_enter func56,ntmps56;go_wp2_with fail
 refine (HT.out _).mono ?_;rintro e w3 ⟨rfl,hb3⟩;have HB:=hid hb3;clear hb3;go_wp2;go_ret;exact ⟨rfl,HB.out⟩
theorem JO (h:bP k=true) (hp:dK k=false):(⟨(dP k).bytes.toArray⟩:aL)=k:=by
 obtain ⟨x,n,hw,e,hl,hr,h32,hb,hf,_⟩:=rZ hp h;rw [e,hb]
theorem JJ (k:aL) (hk:k.size<=100) (h:bP k=true) (w:World):Calls prog 58 #[.string k] w λe w'=>e = .returned (.string ⟨(dP k).bytes.toArray⟩)/\Below w.heap.size w w':=by
 have HT:=hid (λw=>tJ k (by omega) w);cases hp:dK k with
 | true =>
  rw [om hp];obtain ⟨B,hB⟩:=ay (⟨(It.mk false k []).bytes.toArray⟩:aL)
  rw [hB] at HT ⊢;clear hB;rcases lM hp with h0 | h32
  .obtain rfl:=dQ h0;clear h hp h0 hk;go_enter func58,ntmps58;go_wp2_with fail
   refine (HT.out _).mono ?_;rintro e w3 ⟨rfl,hb3⟩;have HB:=hid hb3;clear hb3;go_wp2;go_ret;exact ⟨rfl,HB.out⟩
  .have hne:=Ni.dJ (s:=k) (by omega);have hd:((k.size:Int)==32)=true:=by simp; omega
   clear h hp hk;go_enter func58,ntmps58;go_wp2_with fail
   refine (HT.out _).mono ?_;rintro e w3 ⟨rfl,hb3⟩;have HB:=hid hb3;clear hb3;go_wp2;go_ret;exact ⟨rfl,HB.out⟩
 | false =>
  have hns:¬ (k.size=0\/k.size=32):=of_decide_eq_false hp;have hne:=Ni.dJ (s:=k) (by omega);have hd:((k.size:Int)==32)=false:=by simp; omega
  rw [JO h hp];clear h hp hns hk;go_enter func58,ntmps58;go_wp2;go_ret;exact ⟨rfl,aH⟩
def jD (xs:List It):aL:=⟨((xs.map It.bytes).flatten).toArray⟩
theorem uo (xs ys:List It):jD (xs++ys)=jD xs++jD ys:=by
 unfold jD;rw [Bp,List.map_append,List.flatten_append]
theorem nW (x:It):jD [x]=⟨x.bytes.toArray⟩:=by
 unfold jD;rw [List.map_cons,List.map_nil,List.flatten_cons,List.flatten_nil,List.append_nil]
theorem vw (xs:List It):(jD xs).size=((xs.map It.bytes).flatten).length:=eU _
theorem xR {N:Nd} (hl:N.ks.length=16) (h:fq bP N=true):(⟨(jC N).toArray⟩:aL)=eT (jD (bX N)).size true++jD (bX N)/\(jD (bX N)).size<=1200000:=by
 have h2:=zP (bX N) 65561 (λy hy=>(uU hl h y hy).2);have cV:=wW hl;have hm:(bX N).length*65561<=17*65561:=Nat.mul_le_mul_right _ cV;refine ⟨?_,by rw [vw]; omega⟩;unfold jC gM;rw [jH _ (by omega),vw];unfold eT jD;rw [Bp]
theorem Ov (N:Nd) (a:aK) (n c:Nat) (hl:N.ks.length=16) (w:World) (hB:aZ w a n c N.p) (hm:fq bP N=true) (hkd:N.kd=1) :
  Calls prog 31 #[.agg (ndC N a n c)] w λe w'=>e = .returned (.string ⟨(jC N).toArray⟩)/\Below w.heap.size w w':=by
 obtain ⟨m1,m2,_⟩:=jM hm;obtain ⟨f1,f2⟩:=xR hl hm;have ee:n<=64:=by rw [<-hB.len]; exact m1
 obtain ⟨w2,hw2⟩:=au (w.alloc (.cells (ndC N a n c) 69))
 have hO:dI w2 w.heap.size N a n c:=by rw [hw2]; exact Rg.Own.new _ _ _
 have dj:Below w.heap.size w w2:=by rw [hw2]; exact al1 _ _
 have eW:=hid (λw' hb=>xJ a n c N.p true m2 ee w' (hB.below hb));have HI:Hid (jD (bX N)=⟨(It.mk false ⟨(iG N.p true).toArray⟩ []).bytes.toArray⟩++⟨(It.mk false N.v []).bytes.toArray⟩):=hid (by
  unfold bX pY;rw [if_neg (by omega),if_pos hkd];rw [show ∀ x y:It,[x,y]=[x]++[y] from λ_ _=>rfl,uo,nW,nW,hkd];rfl)
 obtain ⟨P,hP⟩:=ay (⟨(iG N.p true).toArray⟩:aL)
 have hps:P.size<=100:=by rw [<-hP,oJ,hB.len]; omega
 rw [hP] at eW HI;have HT1:=hid (λw=>tJ P (by omega) w);have hv2:N.v.size<=65552:=by
  rcases jK hl hm with ⟨_,_,v,_⟩ | ⟨k2,_⟩ | ⟨k3,_⟩
  .exact v
  .omega
  .omega
 have HT2:=hid (λw=>tJ N.v (by omega) w);rw [HI.out] at f1 f2;obtain ⟨T1,hT1⟩:=ay (⟨(It.mk false P []).bytes.toArray⟩:aL)
 obtain ⟨T2,db⟩:=ay (⟨(It.mk false N.v []).bytes.toArray⟩:aL)
 rw [hT1] at f1 f2 HT1;rw [db] at f1 f2 HT2;have hts:T1.size+T2.size<=1200000:=by rw [ByteArray.size_append] at f2; exact f2
 have pT:Hid (¬ 9223372036854775807<T1.size+T2.size):=hid (by omega);obtain ⟨X,hX⟩:=ay (T1++T2)
 have HX:=hid hX;rw [hX] at f1 f2;have HF:=hid f1;clear hT1 db hP hX HI f1 ee;have HL:=hid hl;have HK:=hid hkd;have dt:=hid dj;have HO:=hid hO;obtain ⟨c0,c1,c2⟩:=dz hO;rw [hkd] at c0;clear hm hl m1 m2 hB hO dj hkd;subst hw2;go_enter func31,ntmps31;go_wp2_with fail
 refine aC (S:=λw'=>dI w' w.heap.size N a n c/\Below w.heap.size w w') (⟨HO.out.drew,dt.out.drew⟩) λhld=>?_;refine ah 0 ?_;try simp only [Act.put,ak]
 refine ah 1 ?_ (hy:=by intro wz hSw; (have q0:=(dz hSw.1).2.1; go_simp <;> with_reducible rfl));try simp only [Act.put,ak]
 refine ah 4 ?_;try simp only [Act.put,ak]
 refine ah 5 ?_ (hy:=by intro wz hSw; (have q0:=(dz hSw.1).2.2; go_simp <;> with_reducible rfl));try simp only [Act.put,ak]
 refine aj 2 λK hK=>?_;go_simp;go_at_call 57
 (with_reducible refine (eW.out _ hld.2).mono ?_)
 rintro e FG ⟨rfl,hbx⟩;refine hK.out _ _ (⟨hld.1.below hbx,bst hld.2 hbx⟩) λhld=>?_;clear hK K hbx;try simp only [Act.put,ak]
 refine aj 3 λK hK=>?_;go_simp;go_at_call 56
 (with_reducible refine (HT1.out _).mono ?_)
 rintro e FO ⟨rfl,hbx⟩;refine hK.out _ _ (⟨hld.1.below hbx,bst hld.2 hbx⟩) λhld=>?_;clear hK K hbx;try simp only [Act.put,ak]
 refine aj 6 λK hK=>?_;go_simp;go_at_call 56
 (with_reducible refine (HT2.out _).mono ?_)
 rintro e FS ⟨rfl,hbx⟩;refine hK.out _ _ (⟨hld.1.below hbx,bst hld.2 hbx⟩) λhld=>?_;clear hK K hbx;try simp only [Act.put,ak]
 refine ah 7 ?_ (hy:=by intro wz hSw; (have q0:=pT.out; go_simp <;> with_reducible rfl));try simp only [Act.put,ak]
 refine ah 8 ?_;try simp only [Act.put,ak]
 refine aB ?_;rw [HX.out];obtain ⟨c0,c1,c2⟩:=dz hld.1;rw [HK.out] at c0;have js:=hid hld.2;clear hld;have xj:(eT X.size true).size<=9:=by unfold eT; rw [eU]; exact mV _ _ (by omega)
 have xl:=hid (qy X.size (by omega) true);go_wp2_with fail
 refine (xl.out _).mono ?_;rintro e w9 ⟨rfl,cF⟩;have gR:=hid (bst js.out cF);clear cF;go_wp2;go_ret;exact ⟨by rw [HF.out]; rfl,gR.out⟩
theorem VD (N:Nd) (a:aK) (n c:Nat) (hl:N.ks.length=16) (w:World) (hB:aZ w a n c N.p) (hm:fq bP N=true) (hkd:N.kd=2) :
  Calls prog 31 #[.agg (ndC N a n c)] w λe w'=>e = .returned (.string ⟨(jC N).toArray⟩)/\Below w.heap.size w w':=by
 obtain ⟨m1,m2,_⟩:=jM hm;obtain ⟨f1,f2⟩:=xR hl hm;have ee:n<=64:=by rw [<-hB.len]; exact m1
 obtain ⟨w2,hw2⟩:=au (w.alloc (.cells (ndC N a n c) 69))
 have hO:dI w2 w.heap.size N a n c:=by rw [hw2]; exact Rg.Own.new _ _ _
 have dj:Below w.heap.size w w2:=by rw [hw2]; exact al1 _ _
 have eW:=hid (λw' hb=>xJ a n c N.p false m2 ee w' (hB.below hb));have HI:Hid (jD (bX N)=⟨(It.mk false ⟨(iG N.p false).toArray⟩ []).bytes.toArray⟩++⟨(dP (N.ks.getD 0 eB)).bytes.toArray⟩):=hid (by
  unfold bX pY;rw [if_neg (by omega),if_neg (by omega)];rw [show ∀ x y:It,[x,y]=[x]++[y] from λ_ _=>rfl,uo,nW,nW,hkd];rfl)
 obtain ⟨P,hP⟩:=ay (⟨(iG N.p false).toArray⟩:aL)
 have hps:P.size<=100:=by rw [<-hP,oJ,hB.len]; omega
 rw [hP] at eW HI;have HT1:=hid (λw=>tJ P (by omega) w);have hr:bP (N.ks.getD 0 eB)=true:=by
  rcases jK hl hm with ⟨k1,_⟩ | ⟨_,_,_,_,_,r⟩ | ⟨k3,_⟩
  .omega
  .exact r
  .omega
 obtain ⟨k,hk⟩:=ay (N.ks.getD 0 eB)
 rw [hk] at hr HI;have D9:Hid (∀ wz,dI wz w.heap.size N a n c->wz.cell? ⟨w.heap.size,3,none⟩=some (.string k)):=hid (λwz h=>by rw [<-hk]; exact rQ h hl 0 (by decide));have hks:k.size<=100:=by
  cases hp:dK k with
  | true=>have:=lM hp; omega
  | false=>obtain ⟨_,_,_,_,_,_,h,_⟩:=rZ hp hr; omega
 have HT2:=hid (λw=>JJ k hks hr w);clear hk hr hks;rw [HI.out] at f1 f2;obtain ⟨T1,hT1⟩:=ay (⟨(It.mk false P []).bytes.toArray⟩:aL)
 obtain ⟨T2,db⟩:=ay (⟨(dP k).bytes.toArray⟩:aL)
 rw [hT1] at f1 f2 HT1;rw [db] at f1 f2 HT2;have hts:T1.size+T2.size<=1200000:=by rw [ByteArray.size_append] at f2; exact f2
 have pT:Hid (¬ 9223372036854775807<T1.size+T2.size):=hid (by omega);obtain ⟨X,hX⟩:=ay (T1++T2)
 have HX:=hid hX;rw [hX] at f1 f2;have HF:=hid f1;clear hT1 db hP hX HI f1 ee;have HL:=hid hl;have HK:=hid hkd;have dt:=hid dj;have HO:=hid hO;obtain ⟨c0,c1,c2⟩:=dz hO;rw [hkd] at c0;clear hm hl m1 m2 hB hO dj hkd;subst hw2;go_enter func31,ntmps31;go_wp2_with fail
 refine aC (S:=λw'=>dI w' w.heap.size N a n c/\Below w.heap.size w w') (⟨HO.out.drew,dt.out.drew⟩) λhld=>?_;refine ah 0 ?_;try simp only [Act.put,ak]
 refine ah 1 ?_ (hy:=by intro wz hSw; (have q0:=(dz hSw.1).2.1; go_simp <;> with_reducible rfl));try simp only [Act.put,ak]
 refine ah 4 ?_;try simp only [Act.put,ak]
 refine ah 5 ?_;try simp only [Act.put,ak]
 refine ah 6 ?_ (hy:=by intro wz hSw; (have q0:=D9.out wz hSw.1; go_simp <;> with_reducible rfl));try simp only [Act.put,ak]
 refine aj 2 λK hK=>?_;go_simp;go_at_call 57
 (with_reducible refine (eW.out _ hld.2).mono ?_)
 rintro e FG ⟨rfl,hbx⟩;refine hK.out _ _ (⟨hld.1.below hbx,bst hld.2 hbx⟩) λhld=>?_;clear hK K hbx;try simp only [Act.put,ak]
 refine aj 3 λK hK=>?_;go_simp;go_at_call 56
 (with_reducible refine (HT1.out _).mono ?_)
 rintro e FO ⟨rfl,hbx⟩;refine hK.out _ _ (⟨hld.1.below hbx,bst hld.2 hbx⟩) λhld=>?_;clear hK K hbx;try simp only [Act.put,ak]
 refine aj 7 λK hK=>?_;go_simp;go_at_call 58
 (with_reducible refine (HT2.out _).mono ?_)
 rintro e FS ⟨rfl,hbx⟩;refine hK.out _ _ (⟨hld.1.below hbx,bst hld.2 hbx⟩) λhld=>?_;clear hK K hbx;try simp only [Act.put,ak]
 refine ah 8 ?_ (hy:=by intro wz hSw; (have q0:=pT.out; go_simp <;> with_reducible rfl));try simp only [Act.put,ak]
 refine ah 9 ?_;try simp only [Act.put,ak]
 refine aB ?_;rw [HX.out];obtain ⟨c0,c1,c2⟩:=dz hld.1;rw [HK.out] at c0;have js:=hid hld.2;clear hld;have xj:(eT X.size true).size<=9:=by unfold eT; rw [eU]; exact mV _ _ (by omega)
 have xl:=hid (qy X.size (by omega) true);go_wp2_with fail
 refine (xl.out _).mono ?_;rintro e w9 ⟨rfl,cF⟩;have gR:=hid (bst js.out cF);clear cF;go_wp2;go_ret;exact ⟨by rw [HF.out]; rfl,gR.out⟩
end No
end
section
open Go.RowKit
namespace Tm
open Tr Rf Rl Ni No Pk Sm
theorem Ny {N:Nd} (hl:N.ks.length=16) (h:fq bP N=true):(jC N).length<=900000:=by
 have key:∀ m,(∀ y∈bX N,y.bytes.length<=m)->(bX N).length*m<=200000->(jC N).length<=900000:=by
  intro m h1 h2;have h3:=zP (bX N) m h1;unfold jC gM;rw [jH _ (by omega),List.length_append];have:=mV ((bX N).map It.bytes).flatten.length true (by omega);omega
 have hg:=uU hl h;rcases jK hl h with ⟨k1,_⟩ | ⟨k1,_⟩ | ⟨k1,_,_,_,hr⟩
 .exact key 65561 (λy hy=>(hg y hy).2) (by unfold bX; rw [if_neg (by omega),if_pos k1]; simp)
 .exact key 65561 (λy hy=>(hg y hy).2) (by unfold bX; rw [if_neg (by omega),if_neg (by omega)]; simp)
 .refine key 41 (λy hy=>?_) (by have:=wW hl; omega);unfold bX at hy;rw [if_pos k1] at hy;rcases List.mem_append.1 hy with hy | hy
  .obtain ⟨k,hk,rfl⟩:=List.mem_map.1 hy;exact (mG (hr k hk)).2
  .obtain rfl:=List.mem_singleton.1 hy;have h:=(mG (k:=eB) (by unfold bP; rw [wM]; rfl)).2;rw [om wM] at h;exact h
theorem NU (h:bP k=true):k.size<=32:=by
 unfold bP at h;rw [Bool.or_eq_true,Bool.and_eq_true] at h;rcases h with h | h
 .have:k.size=0\/k.size=32:=of_decide_eq_true h;omega
 .have:=of_decide_eq_true h.1;omega
theorem Xg:fq bP nd0=false:=by
 unfold fq lK;rfl
theorem Hu (p:aK) (N:Nd) (hl:N.ks.length=16) (hv:N.v.size<=maxLen) (hks:∀ k∈N.ks,k.size<=100) (w:World) (Q:World->Prop)
  (htop:∀ wx,Below w.heap.size w wx->Calls prog 39 #[.agg #[.pointer p]] wx λe w'=>∃ a n c,e = .returned (.agg (ndC N a n c))/\aZ w' a n c N.p/\Q w') :
  Calls prog 20 #[.agg #[.pointer p]] w λe w'=>e = .returned (.string (if fq bP N then ⟨(jC N).toArray⟩ else eB))/\∃ w1,Q w1/\Below w1.heap.size w1 w':=by
 have h0:=fG w p;have HT:=hid (htop _ (al1 w (.cells #[.pointer p] 35)));have HL:=hid hl;have HV:=hid hv;have HK:=hid hks;obtain ⟨s,hs⟩:=ay (if fq bP N then (⟨(jC N).toArray⟩:aL) else eB)
 obtain ⟨x,hx⟩:∃ x:Int,(if fq bP N then (0:Int) else 2)=x:=⟨_,rfl⟩
 rw [hs];have HS:=hid hs;have HX:=hid hx;clear htop hl hv hks hs hx;go_enter func20,ntmps20;go_wp2_with (refine aA (aU h0 ⟨_,rfl,rfl⟩) ?_)
 refine HT.out.mono ?_;rintro e w1 ⟨a,n,c,rfl,hB,hQ⟩;have HP:=hid (GL N a n c HL.out w1 hB HV.out HK.out);have HQ:=hid hQ;unfold Wp at HP;rw [HS.out,HX.out] at HP;clear hB hQ HT h0;go_wp2_with fail
 refine HP.out.mono ?_;rintro e w2 ⟨rfl,hb2⟩;have HB:=hid hb2;clear hb2 HP;go_wp2;go_ret;exact ⟨rfl,w1,HQ.out,HB.out⟩
theorem Vx (p:aK) (k:Int) (h1:k≠1) (h2:k≠2) (h3:k≠3) (w:World)
  (hK:∀ wx,Below w.heap.size w wx->Calls prog 67 #[.agg #[.pointer p]] wx λe w'=>e = .returned (.int .i64 k)/\Below wx.heap.size wx w') :
  Calls prog 20 #[.agg #[.pointer p]] w λe w'=>e = .returned (.string eB)/\Below w.heap.size w w':=by
 refine (Hu p nd0 gq (by show (0:Nat)<=_; omega) (λk hk=>by
  have:k=eB:=List.eq_of_mem_replicate (show k∈List.replicate 16 eB from hk);rw [this]; show (0:Nat)<=100; omega) w (λw'=>Below w.heap.size w w') (λwx hbx=>?_)).mono ?_
 .refine (Jj p k h1 h2 h3 wx (λwy hby=>hK wy (bst hbx hby))).mono ?_;rintro e w' ⟨rfl,hb⟩;exact ⟨none,0,0,rfl,aZ.nil _,bst hbx hb⟩
 .rintro e w' ⟨rfl,w1,hQ,hb⟩;exact ⟨by rw [Xg]; rfl,bst hQ hb⟩
theorem iF {t:T} {L:Nat} (g:Tr.Good t L) (hL:L<=64) (f:Fine t) (hn:t ≠ .nil) (hs:¬ eP t):fq bP (bC t)=true/\bF t=⟨(jC (bC t)).toArray⟩/\(bF t).size<=900000/\(bC t).v.size<=maxLen/\(bC t).p.length<=64/\∀ k∈(bC t).ks,k.size<=100:=by
 have hm:=(gH t L g hL f hn).1 hs;have he:bF t=⟨(jC (bC t)).toArray⟩:=by
  cases t with
  | nil=>exact absurd rfl hn
  | stub r=>exact absurd trivial hs
  | leaf p v=>rfl
  | ext q s=>rfl
  | br ks=>rfl
 refine ⟨hm,he,?_,?_,?_,?_⟩
 .rw [he];have:=Ny (cu t) hm;show (jC (bC t)).toArray.size<=_;simpa using this
 .cases t with
  | leaf p v=>exact Nat.le_trans f.2 (by unfold maxLen; omega)
  | _=>exact Nat.zero_le _
 .unfold fq at hm;rw [Bool.and_eq_true,Bool.and_eq_true] at hm;exact of_decide_eq_true hm.1.1
 .intro k hk;have hz:∀ x,x=eB->x.size<=100:=λx e=>by rw [e]; exact Nat.zero_le _
  cases t with
  | nil=>exact hz k (List.eq_of_mem_replicate (show k∈List.replicate 16 eB from hk))
  | stub r=>exact absurd trivial hs
  | leaf p v=>exact hz k (List.eq_of_mem_replicate (show k∈List.replicate 16 eB from hk))
  | ext q s =>
   rcases List.mem_cons.1 (show k∈ref s::List.replicate 15 eB from hk) with rfl | h
   .obtain ⟨_,_,g3,g4,g5⟩:=g;have:=NU (gH s _ g5 (by omega) f (jZ g4)).2.1;omega
   .exact hz k (List.eq_of_mem_replicate h)
  | br ks =>
   obtain ⟨i,_,rfl⟩:=List.mem_map.1 (show k∈(List.finRange 16).map λi=>ref (ks i) from hk);by_cases e:ks i = .nil
   .rw [e]; exact Nat.zero_le _
   .have:=NU (gH (ks i) _ (g.2.2 i) (by omega) (f i) e).2.1;show (ref (ks i)).size<=100;omega
theorem Vt {t:T} {L:Nat} (g:Tr.Good t L):(bW t).length<=L:=by
 cases t with
 | leaf p v=>exact Nat.le_of_eq g.1
 | ext q s=>exact g.2.2.1
 | nil=>exact Nat.zero_le _
 | br ks=>exact Nat.zero_le _
 | stub r=>exact Nat.zero_le _
theorem MW (M:Mp) (b:Nat) (t:T) (hm:M.at_ b=some t) (hs:¬ eP t) (hn:t ≠ .nil) {L:Nat} (g:Tr.Good t L) (hL:L<=64) (w:World) (hi:dS M (sz t) w) {pa:aK} {pn pc:Nat} {ka:aK} {kn kc:Nat} (hB:Body M w b t pa pn pc ka kn kc) (hT:Tab w)
  (g8:∀ q s,t = .ext q s->nD s) (hR2:∀ ks,t = .br ks->∀ i,nD (ks i)) :
  Calls prog 39 #[.agg #[.pointer (some ⟨b,0,none⟩)]] w (nQ M t w):=by
 have hp:=Vt g;cases t with
 | nil=>exact absurd rfl hn
 | stub r=>exact absurd trivial hs
 | leaf q v=>exact Sn M b q v hm w hi pa pn pc ka kn kc hB (by have:q.length<=L:=hp; omega)
 | ext q s=>exact Wn M b q s hm w hi pa pn pc ka kn kc hB (by have:q.length<=L:=hp; omega) hT (g8 q s rfl)
 | br ks=>exact YN M b ks hm w hi pa pn pc ka kn kc hB hT (hR2 ks rfl)
theorem MQ (M:Mp) (b:Nat) (t:T) (hm:M.at_ b=some t) (hs:¬ eP t) (hn:t ≠ .nil) (g:Tr.Good t L) (hL:L<=64) (f:Fine t) (w:World) (hi:dS M (sz t) w) {pn pc:Nat} {ka:aK} {kc:Nat} (hB:Body M w b t pa pn pc ka kn kc) (hT:Tab w)
  (g8:∀ q s,t = .ext q s->nD s) (hR2:∀ ks,t = .br ks->∀ i,nD (ks i)) :
  Calls prog 20 #[.agg #[.pointer (some ⟨b,0,none⟩)]] w λe w'=>e = .returned (.string (bF t))/\FrN M (sz t) w w'/\dS M (sz t) w':=by
 obtain ⟨h1,h2,h3,h4,h5,h6⟩:=iF g hL f hn hs;refine (Hu (some ⟨b,0,none⟩) (bC t) (cu t) h4 h6 w (λw'=>FrN M (sz t) w w'/\dS M (sz t) w') (λwx hbx=>?_)).mono ?_
 .refine (MW M b t hm hs hn g hL wx (hi.below hbx) (hB.below hbx) (hT.below hbx hT.pos) g8 hR2).mono ?_;rintro e w' ⟨a,n,c,rfl,hx,hf,hi'⟩;exact ⟨a,n,c,rfl,hx.1,(FrN.below M _ hbx).trans hf,hi'⟩
 .rintro e w' ⟨rfl,w1,⟨hf,hi1⟩,hb⟩;exact ⟨by rw [if_pos h1,h2],hf.trans (FrN.below M _ hb),hi1.below hb⟩
def rH (t:T) (a:aK) (n c:Nat) (ka:aK) (kn kc:Nat) (r:aL):aN :=
 #[.int .i64 (dO t),.slice a n c,.string (ER t),.slice ka kn kc,.int .u32 0,.int .i32 1,.int .u32 0,.string r]
theorem Wy {t:T} {a:aK} {n c:Nat} {ka:aK} {kn kc:Nat} {r:aL} {j:Nat} {v:Value} (h:(rH t a n c ka kn kc r)[j]? = some v):(∀ x,v ≠ .int .u8 x)/\∀ p,v ≠ .pointer p:=by
 unfold rH at h
 match j,h with
 | 0,h | 1,h | 2,h | 3,h | 4,h | 5,h | 6,h | 7,h =>
  simp at h;subst h;exact ⟨λx e=>(by cases e),λp e=>(by cases e)⟩
 | j+8,h=>simp at h
theorem Pw {b:Nat} {t:T} {ka:aK} {kc:Nat} (h:Rg.Own w b (rH t a n c ka kn kc r) 135):FT w b:=by
 refine ⟨λj v hc=>Wy (qw h.2 hc),?_⟩;rw [World.cell?,h.2];rfl
theorem Db {a:Act} (hw:Region.wanted o (yielded ops a.tmps)=true) {b off:Nat} {cs:aN} (hg:Rg.Own w b cs t) (hof:off<cs.size) (s:aL)
  (ho:∃ x y,o.op = .store 9 x y/\a.eval x = .pointer (some ⟨b,off,none⟩)/\a.eval y = .string s)
  (h:∀ w',Rg.Own w' b (cs.setIfInBounds off (.string s)) t->Rg.Upd w b w'->K (a.put o.dst undef) w'):if Region.wanted o (yielded ops a.tmps)=true then Oper.wp prog o a w K Q else K (a.put o.dst undef) w:=by
 obtain ⟨x,y,ho,hx,hy⟩:=ho;refine Rg.want hw ?_;unfold Oper.wp execOp;simp only [ho,hx,hy,Sem.run_bind,Sem.run_pure,Result.andThen_ok,nS hg hof s];exact h _ (dx hg _) (bO _ _ _ _)
theorem dS.lock {M:Mp} {b:Nat} {t:T} (h:dS M n w) (hu:Rg.Upd w b w') (hm:M.at_ b=some t) (hnt:n<=sz t) (hN:FT w' b):dS M n w':=by
 refine ⟨λk hk=>by rw [hu.size]; exact h.lt_ k hk,λb' t' hm'=>?_⟩;obtain ⟨h1,h2,h3,h4⟩:=h.part_ b' t' hm';have hNb:=(h.part_ b t hm).2.2.1;by_cases e:b'=b
 .subst e;obtain rfl:t=t':=by rw [hm] at hm'; exact Option.some.inj hm'
  exact ⟨h1,h2,hN,λhl=>absurd hl (by omega)⟩
 .refine ⟨h1,h2,h3.keep (hu.block b' e),λhl=>(h4 hl).keep (by rw [hu.size]; exact aG) (hu.block b' e) (λk j v hk hc hv=>hu.block k (λek=>?_))⟩;subst ek;rcases hv with ⟨x,rfl⟩ | ⟨p,rfl⟩
  .exact (hNb.1 _ _ hc).1 x rfl
  .exact (hNb.1 _ _ hc).2 p rfl
theorem Body.upd {M:Mp} {b:Nat} {t:T} {ka:aK} {kc:Nat} (h:Body M w b t a n c ka kn kc) (hN:FT w b) (hu:Rg.Upd w b w') (hc:∀ j,j<4->w'.cell? ⟨b,j,none⟩=w.cell? ⟨b,j,none⟩):Body M w' b t a n c ka kn kc:=by
 refine ⟨(hc 0 (by omega)).trans h.c0,(hc 1 (by omega)).trans h.c1,(hc 2 (by omega)).trans h.c2,(hc 3 (by omega)).trans h.c3,⟨h.hb.1,h.hb.2.1,h.hb.2.2.1,h.hb.2.2.2.1,λj hj=>?_⟩,h.hk.1,h.hk.2.1,h.hk.2.2.1,h.hk.2.2.2.1,λj hj=>?_⟩
 .obtain ⟨b',off,e,hlt,hcb⟩:=h.hb.2.2.2.2 j hj;refine ⟨b',off,e,by rw [hu.size]; exact hlt,?_⟩;rw [World.cell?_of_block (hu.block b' (λek=>by subst ek; exact (hN.1 _ _ hcb).1 _ rfl))];exact hcb
 .obtain ⟨b',off,p,e,hlt,hf,hcb,ht⟩:=h.hk.at' j hj;refine ⟨b',off,p,e,by rw [hu.size]; exact hlt,hf,?_,ht⟩;rw [World.cell?_of_block (hu.block b' (λek=>by subst ek; exact (hN.1 _ _ hcb).2 _ rfl))];exact hcb
theorem YM (M:Mp) (b:Nat) (t:T) (hm:M.at_ b=some t) (hsz:(bF t).size<=900000) (bx:Nat) (w:World) (hbx:w.cell? ⟨bx,0,none⟩=some (.pointer (some ⟨b,0,none⟩))) (hne:bx≠b) (hi:dS M (sz t) w) (hT:Tab w)
 {ka:aK} {kc:Nat} (hO:Rg.Own w b (rH t a n c ka kn kc eB) 135)
  (hE:Calls prog 20 #[.agg #[.pointer (some ⟨b,0,none⟩)]] w.drew λe w'=>e = .returned (.string (bF t))/\FrN M (sz t) w.drew w'/\dS M (sz t) w') :
  Calls prog 117 #[.pointer (some ⟨bx,0,none⟩)] w λe w'=>e = .returned (.tuple #[])/\∃ w1,FrN M (sz t) w w1/\dS M (sz t) w1/\Rg.Upd w1 b w'/\Rg.Own w' b (rH t a n c ka kn kc (ofP (bF t))) 135:=by
 have pZ:=hid hE;have fa:=hid hsz;have hnb:M.at_ b=none\/∃ t',M.at_ b=some t'/\sz t<=sz t':=Or.inr ⟨t,hm,aG⟩;have HF:Hid (∀ w5,FrN M (sz t) w.drew w5->dS M (sz t) w5->w5.cell? ⟨bx,0,none⟩=some (.pointer (some ⟨b,0,none⟩))/\Tab w5/\Rg.Own w5 b (rH t a n c ka kn kc eB) 135/\
   ∀ w6,Below w5.heap.size w5 w6->w6.cell? ⟨bx,0,none⟩=some (.pointer (some ⟨b,0,none⟩))/\Rg.Own w6 b (rH t a n c ka kn kc eB) 135/\
   ∀ ag,Rg.Own ag b ((rH t a n c ka kn kc eB).setIfInBounds 7 (.string (ofP (bF t)))) 135->Rg.Upd w6 b ag->ag.cell? ⟨bx,0,none⟩=some (.pointer (some ⟨b,0,none⟩))/\∃ w1,FrN M (sz t) w w1/\dS M (sz t) w1/\Rg.Upd w1 b ag/\Rg.Own ag b (rH t a n c ka kn kc (ofP (bF t))) 135):=hid (λw5 cG hi5=>by
  have NE:dS M (sz t) w.drew:=hi.below (below_drewN aH 1);have V9:Tab w.drew:=hT;have h5:=cG.cell (b:=bx) (o:=0) hbx (Or.inl (NE.pW (j:=0) hbx));have aE:Rg.Own w5 b (rH t a n c ka kn kc eB) 135:=⟨aI hO.1 cG.size,(cG.block b hO.1 hnb).trans hO.2⟩
  refine ⟨h5,wJ NE cG V9,aE,λw6 hb6=>⟨aW hb6 h5,aE.below hb6,λag ai hu=>⟨?_,w6,(((FrN.below M _ (below_drewN aH 1)).trans cG).trans (FrN.below M _ hb6)),hi5.below hb6,hu,ai⟩⟩⟩;rw [<-aW hb6 h5];exact World.cell?_of_block (w:=w6) (hu.block bx hne))
 clear hE hsz hi hT hO hm hnb hne;go_enter func117,ntmps117;go_wp2_with fail
 refine aC (S:=λw'=>w'.cell? ⟨bx,0,none⟩=some (.pointer (some ⟨b,0,none⟩))) (hbx) λhld=>?_;refine ah 0 ?_;try simp only [Act.put,ak]
 refine aD 1 (λwz hSw=>hSw) ?_;try simp only [Act.put,ak]
 refine ah 2 ?_ (hy:=by intro wz hSw; (refine aU hSw ?_; exact ⟨_,rfl,rfl⟩));try simp only [Act.put,ak]
 refine aj 3 λK hK=>?_;go_simp;go_at_call 20
 (with_reducible refine pZ.out.mono ?_)
 rintro e w5 ⟨rfl,cG,hi5⟩;obtain ⟨hS5,fl,aE,NF⟩:=HF.out w5 cG hi5;have H5:=hid NF;have bh:=hid aE;have q8:=hid fl;clear cG hi5 NF aE fl;refine hK.out _ _ (hS5) λhld=>?_;clear hK K;try simp only [Act.put,ak]
 refine aj 4 λK hK=>?_;go_simp;go_at_call 64
 (with_reducible refine (FB _ fa.out w5 q8.out).mono ?_)
 rintro e w6 ⟨rfl,hb6⟩;obtain ⟨ii,cr,xm⟩:=H5.out w6 hb6;have H6:=hid xm;have cf:=hid cr;clear hb6 xm cr;refine hK.out _ _ (ii) λhld=>?_;clear hK K;try simp only [Act.put,ak]
 refine ah 5 ?_;try simp only [Act.put,ak]
 refine ah 6 ?_;try simp only [Act.put,ak]
 refine aj 7 λK hK=>?_;refine Db (by rfl) cf.out (off:=7) (show 7<8 by omega) (ofP (bF t)) ⟨_,_,rfl,rfl,rfl⟩ ?_;intro ag ai al;obtain ⟨cH,lh⟩:=H6.out ag ai al;have g9:=hid lh;clear ai lh;refine hK.out _ _ (cH) λhld=>?_;clear hK K;try simp only [Act.put,ak]
 refine aB ?_;go_wp2;go_end0;exact ⟨rfl,g9.out⟩
end Tm
end
section
open Go.RowKit
namespace Rf
open Rl Ni No Sh Sm
def YK (s:aL):aL:=⟨(qm s).toArray⟩
theorem Xn (s:aL) (hs:s.size<=900000) (w:World) :
  Calls prog 40 #[.string s] w λe w'=>e = .returned (.string (YK s))/\Below w.heap.size w w':=by
 have h:=Gl s.data.toList (by simpa using hs) w;have e:(⟨s.data.toList.toArray⟩:aL)=s:=by apply ByteArray.ext; simp
 rw [e] at h;exact h
theorem Jf (s:aL) (hs:s.size<=900000) (w:World) :
  Calls prog 79 #[.string s] w λe w'=>e = .returned (.string (ofP s))/\Below w.heap.size w w':=by
 by_cases h:s.size<32
 .have HF:Hid (ofP s=s):=hid (by unfold ofP; rw [if_pos h]);have hd:decide ((32:Int)<=(s.size:Int))=false:=by simp; omega
  rw [HF.out];clear HF;go_enter func79,ntmps79;go_wp2;go_ret;exact ⟨rfl,aH⟩
 .have HF:Hid (ofP s=YK s):=hid (by unfold ofP; rw [if_neg h]; rfl);have hd:decide ((32:Int)<=(s.size:Int))=true:=by simp; omega
  have cl:=hid (Xn s hs w);rw [HF.out];obtain ⟨K,hK⟩:=ay (YK s)
  rw [hK] at cl;rw [hK];clear HF hK;go_enter func79,ntmps79;go_wp2_with fail
  refine cl.out.mono ?_;rintro e w1 ⟨rfl,hb1⟩;go_wp2;go_ret;exact ⟨rfl,hb1⟩
end Rf
end
section
open Go.RowKit
namespace No
open Rl Ni
theorem Lu (ks:List aL) (j:Nat) (hj:j<ks.length):jD ((ks.take (j+1)).map dP)=jD ((ks.take j).map dP)++⟨(dP (ks.getD j eB)).bytes.toArray⟩:=by
 have e:ks.getD j eB=ks[j]:=by simp [List.getD,hj]
 rw [List.take_succ_eq_append_getElem hj,List.map_append,uo,List.map_cons,List.map_nil,nW,e]
theorem OJ (ks:List aL) (hr:∀ k∈ks,bP k=true) (j:Nat) (hj:j<=16):(jD ((ks.take j).map dP)).size<=656:=by
 rw [vw];have:=zP ((ks.take j).map dP) 41 (λy hy=>by
  obtain ⟨k,hk,rfl⟩:=List.mem_map.1 hy;exact (mG (hr k (List.mem_of_mem_take hk))).2)
 have h2:((ks.take j).map dP).length*41<=16*41:=Nat.mul_le_mul_right _ (by rw [List.length_map,List.length_take]; omega);omega
theorem PY:(⟨(It.mk false ⟨#[]⟩ []).bytes.toArray⟩:aL)=⟨#[128]⟩:=by
 rw [gX ⟨#[]⟩ (by decide)];rfl
theorem IB (N:Nd) (a:aK) (n c:Nat) (hl:N.ks.length=16) (w:World) (hB:aZ w a n c N.p) (hm:fq bP N=true) (hkd:N.kd=3) :
  Calls prog 31 #[.agg (ndC N a n c)] w λe w'=>e = .returned (.string ⟨(jC N).toArray⟩)/\Below w.heap.size w w':=by
 obtain ⟨m1,m2,_⟩:=jM hm;obtain ⟨f1,f2⟩:=xR hl hm;have ee:n<=64:=by rw [<-hB.len]; exact m1
 obtain ⟨w2,hw2⟩:=au (w.alloc (.cells (ndC N a n c) 69))
 have hO:dI w2 w.heap.size N a n c:=by rw [hw2]; exact Rg.Own.new _ _ _
 have dj:Below w.heap.size w w2:=by rw [hw2]; exact al1 _ _
 have eW:=hid (λw' hb=>xJ a n c N.p true m2 ee w' (hB.below hb));have hr:∀ k∈N.ks,bP k=true:=by
  rcases jK hl hm with ⟨k1,_⟩ | ⟨k2,_⟩ | ⟨_,_,_,_,r⟩
  .omega
  .omega
  .exact r
 have HI:Hid (jD (bX N)=jD ((N.ks.take 16).map dP)++⟨#[128]⟩):=hid (by
  unfold bX;rw [if_pos hkd,uo,nW,List.take_of_length_le (by omega)];show _++(⟨(It.mk false ⟨#[]⟩ []).bytes.toArray⟩:aL)=_;rw [PY])
 have G5:Hid (∀ j,j<16->∀ w,Calls prog 58 #[.string (N.ks.getD j eB)] w λe w'=>e = .returned (.string ⟨(dP (N.ks.getD j eB)).bytes.toArray⟩)/\Below w.heap.size w w'):=hid (λj hj w=>by
  have hmem:N.ks.getD j eB∈N.ks:=by rw [List.getD_eq_getElem?_getD,List.getElem?_eq_getElem (by omega)]; exact List.getElem_mem _
  refine JJ _ ?_ (hr _ hmem) w;cases hp:dK (N.ks.getD j eB) with
  | true=>have:=lM hp; omega
  | false=>obtain ⟨_,_,_,_,_,_,h,_⟩:=rZ hp (hr _ hmem); omega)
 have ul:Hid (∀ j,j<16->jD ((N.ks.take (j+1)).map dP)=jD ((N.ks.take j).map dP)++⟨(dP (N.ks.getD j eB)).bytes.toArray⟩):=hid (λj hj=>Lu N.ks j (by omega));have G6:Hid (∀ j,j<=16->(jD ((N.ks.take j).map dP)).size<=656):=hid (λj hj=>OJ N.ks hr j hj);have NN:Hid (_/\_):=hid ⟨f1,f2⟩;clear hr f1 f2;have HL:=hid hl;have HK:=hid hkd;have dt:=hid dj;have HO:=hid hO;obtain ⟨c0,c1,c2⟩:=dz hO;rw [hkd] at c0;clear hm hl m1 m2 hB hO dj hkd;subst hw2;go_enter func31,ntmps31;go_wp2_with fail
 go_loopw [3,4] (λs i wr=>∃ (j:Nat) (T:aL),j<=16/\i = .int .i64 j/\s = .string T/\T.size<=656/\Hid (jD ((N.ks.take j).map dP)=T)/\Hid (dI wr w.heap.size N a n c)/\Hid (Below w.heap.size w wr)) (λ_ i _=>16-(intOf i).toNat)
 case atStart=>exact ⟨0,⟨#[]⟩,Nat.zero_le _,rfl,rfl,by decide,hid rfl,HO,dt⟩
 case round =>
  obtain ⟨j,T,hj,rfl,rfl,hT,HT,HN,HB⟩:=hrel;clear HO dt c0 c1 c2;by_cases hlt:j<16
  .have HR:=hid (λw=>G5.out j hlt w);have HS:=hid (ul.out j hlt);have HW:=G6.out (j+1) (by omega);have hc:=rQ HN.out HL.out j hlt;have HS2:Hid (jD ((N.ks.take (j+1)).map dP)=T++⟨(dP (N.ks.getD j eB)).bytes.toArray⟩):=hid (by rw [HS.out,HT.out]);rw [HS2.out] at HW;obtain ⟨k,hk⟩:=ay (N.ks.getD j eB)
   rw [hk] at hc HR HW HS2;obtain ⟨U,hU⟩:=ay (⟨(dP k).bytes.toArray⟩:aL)
   rw [hU] at HR HW HS2;have hsz:T.size+U.size<=656:=by rw [ByteArray.size_append] at HW; exact HW
   clear hk hU HS HT G5 ul G6;go_wp2_with fail
   refine (HR.out _).mono ?_;rintro e w5 ⟨rfl,hb5⟩;have gO:=hid (HN.out.below hb5);have ae:=hid (bst HB.out hb5);clear hb5 HN HB hc;go_wp2;go_roundw
   case rel=>exact ⟨j+1,T++U,by omega,by go_num,rfl,HW,HS2,gO,ae⟩
   case measure=>simp [intOf]; omega
  .obtain rfl:j=16:=by omega
   obtain ⟨f1,f2⟩:=NN.out;rw [HI.out,HT.out] at f1 f2;obtain ⟨X,hX⟩:=ay (T++⟨#[128]⟩)
   rw [hX] at f1 f2;have HF:=hid f1;have hsz:T.size+(⟨#[128]⟩:aL).size<=1200000:=by rw [<-ByteArray.size_append,hX]; exact f2
   have hone:(⟨#[128]⟩:aL).size=1:=rfl;rw [hone] at hsz;have Vc:=hid hX;have xj:(eT X.size true).size<=9:=by unfold eT; rw [eU]; exact mV _ _ (by omega)
   have NO:(X.size:Int)=(T.size:Int)+1:=by rw [<-hX,ByteArray.size_append,hone]; rfl
   have hHd:=qy X.size (by omega) true;rw [NO] at hHd;have xl:=hid hHd;clear hHd NO;have h12:=f2;rw [<-hX] at h12;obtain ⟨c0,c1,c2⟩:=dz HN.out;rw [HK.out] at c0;clear f1 hX NN HI G5 ul G6;go_wp2_with fail
   rw [Vc.out]
   with_reducible refine (xl.out _).mono ?_
   rintro e w9 ⟨rfl,cF⟩;have gR:=hid (bst HB.out cF);clear cF;go_wp2;go_ret;exact ⟨by rw [HF.out]; rfl,gR.out⟩
theorem Mq (N:Nd) (a:aK) (n c:Nat) (hl:N.ks.length=16) (w:World) (hB:aZ w a n c N.p) (hm:fq bP N=true) :
  Calls prog 31 #[.agg (ndC N a n c)] w λe w'=>e = .returned (.string ⟨(jC N).toArray⟩)/\Below w.heap.size w w':=by
 rcases jK hl hm with ⟨k1,_⟩ | ⟨k1,_⟩ | ⟨k1,_⟩
 .exact Ov N a n c hl w hB hm k1
 .exact VD N a n c hl w hB hm k1
 .exact IB N a n c hl w hB hm k1
end No
end
section
open Go.RowKit
namespace Tm
open Tr Ni Pk Ky No Rf Rl
theorem Nv {l:aM} (h:aZ w a n c l) (j:Nat) (hj:j<=n):aZ w a j c (l.take j):=by
 have h1:=h.1;refine ⟨by omega,h.2.1,by rw [List.length_take,h.len]; omega,h.2.2.2.1,λi hi=>?_⟩;obtain ⟨b,off,e,hlt,hc⟩:=h.at' i (by omega);refine ⟨b,off,e,hlt,?_⟩;rw [hc];simp [List.getD,hi]
theorem WA (N:Nd) (a:aK) (n c i:Nat) (s:aL):(ndC N a n c).setIfInBounds (3+i) (.string s)=ndC ⟨N.kd,N.p,N.v,N.ks.set i s⟩ a n c:=by
 unfold ndC;rw [List.map_set,show 3+i=i+1+1+1 by omega];simp
theorem sQ {rest:List Oper} {b:Nat} {N:Nd} (h:dI w b N a n c) (hl:N.ks.length=16) (hi:i<16) (s:aL)
  (hgd:o.guard=none) (x y:Operand) (ho:o.op = .store 9 x y) (hx:act.eval x = .pointer (some ⟨b,3+i,none⟩)) (hy:act.eval y = .string s)
  (hQ:∀ w',dI w' b ⟨N.kd,N.p,N.v,N.ks.set i s⟩ a n c->Rg.Upd w b w'->wpList prog ops Q rest (act.put o.dst undef) w'):wpList prog ops Q (o::rest) act w :=
 wpList_plain hgd λK hK=>by
  unfold Oper.wp execOp;simp only [ho,hx,hy,Sem.run_bind,Sem.run_pure,Result.andThen_ok,nS h (o:=3+i) (by rw [eF _ _ _ _ hl]; omega) s];refine hK _ _ (hQ _ ?_ (bO _ _ _ _));have:=dx (o:=3+i) h (.string s);rwa [WA] at this
def qx (l:List Tr.In):Prop:=∀ x∈l,x.2.size≠0/\x.2.size<=65552
theorem qx.rest {l:List Tr.In} (h:qx l) (n:Nat):qx (bN l n):=λx hx=>by
 obtain ⟨y,hy,rfl⟩:=List.mem_map.1 hx;exact h y hy
theorem qx.begin {l:List Tr.In} (h:qx l) (c:Fin 16):qx (bJ l c):=λx hx=>h x (mD.1 hx).1
theorem NM {L:Nat} {l:List Tr.In} (hL:L<=64) (ok:Ok L l) (f:qx l):(bF (build L l)).size<=900000:=by
 by_cases hn:build L l = .nil
 .rw [hn]; exact Nat.zero_le _
 .have hs:=tH (lT L l);have hm:=(gH _ L (jc L l ok) hL (rA L l f) hn).1 hs;have e:bF (build L l)=gP (bC (build L l)):=by
   cases hb:build L l with
   | nil=>exact absurd hb hn
   | stub r=>rw [hb] at hs; exact absurd trivial hs
   | leaf p v=>rfl
   | ext q t=>rfl
   | br ks=>rfl
  rw [e,xO];exact Ny (cu _) hm
theorem Nq {l:List Tr.In}:ofP (bF (build L l))=ref (build L l):=(iX (tH (lT L l))).symm
def Qf (L:Nat):Prop:=∀ (l:List Tr.In),Ok L l->qx l->∀ (a:aK) (n c:Nat) (w:World),iq w a n c l->n<=1000000->
 Calls prog 80 #[.slice a n c] w λe w'=>e = .returned (.string (bF (build L l)))/\Below w.heap.size w w'
def Np (w:World) (N:Nd) (e:Ending) (w':World):Prop:=∃ a n c,e = .returned (.tuple #[.agg (ndC N a n c),.bool true])/\aZ w' a n c N.p/\Below w.heap.size w w'
theorem WQ (w:World):∃ w1,w1=w.alloc (.cells (ndC nd0 none 0 0) 69)/\dI w1 w.heap.size nd0 none 0 0/\Below w.heap.size w w1/\w1.heap.size=w.heap.size+1:=⟨_,rfl,Rg.Own.new _ _ _,al1 _ _,by simp⟩
theorem Et (a:aK) (c:Nat) (w:World):Calls prog 41 #[.slice a 0 c] w λe w'=>e = .returned (.tuple #[.agg (ndC nd0 none 0 0),.bool false])/\Below w.heap.size w w':=by
 obtain ⟨w1,hw1,af,hb1,hs1⟩:=WQ w;have HO:=hid af;have HB:=hid hb1;clear af hb1;subst hw1;go_enter func41,ntmps41;go_wp2_with (first
  | (refine aA (aY _ _ _ w.heap.size rfl rfl) ?_)
  | (refine aA (bV qW ?_) ?_; · exact ⟨_,rfl,rfl⟩)
  | (refine bK HO.out rfl nd0 none 0 0 rfl rfl _ _ rfl rfl rfl rfl ?_))
 exact bodyPost_ret (fu (p:=2) (u:=3) rfl _ rfl (dV HO.out) rfl) rfl ⟨rfl,cO HB.out aG _⟩
theorem Uc (x:Tr.In) (a:aK) (c:Nat) (w:World) (h:iq w a 1 c [x]):Calls prog 41 #[.slice a 1 c] w (Np w ⟨1,x.1,x.2,zks⟩):=by
 obtain ⟨w1,hw1,af,hb1,hs1⟩:=WQ w;obtain ⟨b,off,hd,rfl,hblt,hin,hbs⟩:=h.at' 0 (by omega);have hcap:=h.1;have hmx:=h.2.1;unfold maxLen at hmx;obtain ⟨p,v⟩:=x;obtain ⟨hp0,hp1,hp2⟩:=hd;simp only [Nat.zero_mul,Nat.add_zero] at hin;have hc0:=hin.1;have hc1:=hin.2;have Dd:Hid (aZ w hp0 hp1 hp2 p):=hid hbs;dsimp only at hc0 hc1;replace hc1:w.cell? ⟨b,off+1,none⟩=some (.string v):=hc1;have hn0:(0:Int)<(1:Nat):=by omega
 have li:0<1:=by omega
 have HO:=hid af;have HB:=hid hb1;have HW:Hid (_=_):=hid hw1;clear af hb1 hw1 h hin hbs;go_enter func41,ntmps41;go_wp2_with (refine aA (aY _ _ _ w.heap.size rfl rfl) ?_)
 rw [<-HW.out];clear HW;go_wp2_with fail
 refine aC (S:=λw'=>Below w.heap.size w w') (below_drewN HB.out 1) λhld=>?_;refine ah 0 ?_;try simp only [Act.put,ak]
 refine ah 1 ?_ (hy:=by intro wz hSw; have q0:=hn0; have q1:=li; (try dsimp only at hSw); go_simp <;> with_reducible rfl);try simp only [Act.put,ak]
 refine ah 2 ?_;try simp only [Act.put,ak]
 refine aD 3 (λwz hSw=>aW hSw hc0) ?_;try simp only [Act.put,ak]
 refine ah 4 ?_;try simp only [Act.put,ak]
 refine ah 5 ?_ (hy:=by intro wz hSw; have q0:=hn0; have q1:=li; (try dsimp only at hSw); go_simp <;> with_reducible rfl);try simp only [Act.put,ak]
 refine ah 6 ?_;try simp only [Act.put,ak]
 refine aD 7 (λwz hSw=>aW hSw hc1) ?_;try simp only [Act.put,ak]
 refine ah 8 ?_ (hy:=by intro wz hSw; (refine bV (_root_.Go.Proofs.YtoipgepkhomfgaaGreatDoor.qX hp0 hp1 hp2 p v) ?_; exact ⟨_,rfl,rfl⟩));try simp only [Act.put,ak]
 refine aj 9 λK hK=>?_;refine Rg.meetStore (by rfl) HO.out.drew 69 (ndC ⟨1,p,v,zks⟩ hp0 hp1 hp2) ⟨_,_,rfl,rfl,rfl⟩ (kU _ _ _ _ rfl) (by rw [eF _ _ _ _ rfl,eF _ _ _ _ rfl]) (oV _ _ _ _) ?_;intro ag ai al;have bu:=hid ai;have cn:Hid (Below w.heap.size w ag):=hid (al.below hld aG);clear ai al;refine hK.out _ _ (cn.out) λhld=>?_;clear hK K;try simp only [Act.put,ak]
 refine ah 10 ?_;try simp only [Act.put,ak]
 refine aB ?_;go_wp2;exact bodyPost_ret (fu (p:=2) (u:=3) rfl _ rfl bu.out rfl) rfl ⟨hp0,hp1,hp2,rfl,Dd.out.below cn.out,cn.out⟩
theorem dB {rest:List Oper} {b:Nat} {N:Nd} (h:dI w b N a n c) (hl:N.ks.length=16) (M:Nd) (a':aK) (n' c':Nat) (hm:M.ks.length=16)
  (hgd:o.guard=none) (x y:Operand) (ho:o.op = .store 69 x y) (hx:act.eval x = .pointer (some ⟨b,0,none⟩)) (hy:act.eval y = .agg (ndC M a' n' c')) (hd:o.dst=none)
  (hQ:∀ w',dI w' b M a' n' c'->Rg.Upd w b w'->wpList prog ops Q rest act w'):wpList prog ops Q (o::rest) act w :=
 bK h hl M a' n' c' hm hgd x y ho hx hy hd (hQ _ (dV h) (Rg.Upd.set _ _ _))
theorem Uh {L:Nat} (hL:L<=64) (x y:Tr.In) (r:List Tr.In) (ok:Ok L (x::y::r)) (f:qx (x::y::r)) (h0:0<bE (x::y::r)) (hE:Qf (L-bE (x::y::r))) (a:aK) (n c:Nat) (w:World) (h:iq w a n c (x::y::r)) (hn:n<=1000000) :
  Calls prog 41 #[.slice a n c] w (Np w (bC (build L (x::y::r)))):=by
 obtain ⟨w1,hw1,af,hb1,hs1⟩:=WQ w;have hlen:=h.len;have hn2:2<=n:=by rw [<-hlen]; simp
 obtain ⟨b,off,hd,rfl,hblt,hin,hbs⟩:=h.at' 0 (by omega);have hcl:=jJ ok;have hall:∀ z∈x::y::r,z.1.length=L:=λz hz=>(ok.1 z hz).1;have hNe:bC (build L (x::y::r))=⟨2,x.1.take (bE (x::y::r)),eB,iO (ref (build (L-bE (x::y::r)) (bN (x::y::r) (bE (x::y::r)))))⟩:=by
  rw [build,dif_pos ⟨h0,by omega⟩]; rfl
 have hok':=tZ ok (Nat.le_of_lt hcl) (λz hz z' hz'=>by rw [iD hz,iD hz']);have hx1:((x::y::r).getD 0 ([],eB)).1=x.1:=rfl;have hxl:=hall x List.mem_cons_self;rw [hx1] at hbs;generalize x::y::r=l at *
 generalize x.1=p at *
 obtain ⟨p0,p1,p2⟩:=hd;simp only [Nat.zero_mul,Nat.add_zero] at hin;have hc0:=hin.1;dsimp only at hc0 hbs;have hpl:=hbs.len;have hcp:=hbs.1;obtain ⟨K,hK⟩:=ay (bE l)
 have HC:=hid (λwz (hb:Below w.heap.size w wz)=>rE l (some ⟨b,off,none⟩) n c (λz hz=>by rw [hall z hz]; omega) (by omega) wz (h.below hb) hn);have ik:=hid (λwz (hb:Below w.heap.size w wz)=>wK l (some ⟨b,off,none⟩) n c K (λz hz=>by rw [hall z hz]; omega) wz (h.below hb) hn);rw [hK] at HC hok' hE h0 hcl hNe;have pZ:=hid (hE (bN l K) hok' (f.rest K));have cl:=hid (λwz=>Jf (bF (build (L-K) (bN l K))) (NM (by omega) hok' (f.rest K)) wz);rw [Nq] at cl;have hrl:(bN l K).length=n:=by unfold bN; rw [List.length_map,hlen]
 have il:=hid hrl;obtain ⟨E,hE1⟩:=ay (bF (build (L-K) (bN l K)))
 obtain ⟨R,g8⟩:=ay (ref (build (L-K) (bN l K)))
 rw [hE1] at pZ cl;rw [g8] at cl hNe;have VC:=hid (Nv hbs K (by omega));have q9:=hid hNe;have hKc:K<=p2:=by omega
 have nh:(0:Int)<K:=by omega
 have hcap:=h.1;have hmx:=h.2.1;unfold maxLen at hmx;have hn0:(0:Int)<n:=by omega
 have hnn:0<n:=by omega
 have e0:((n:Int)==0)=false:=by simp; omega
 have e1:((n:Int)==1)=false:=by simp; omega
 have d0:decide ((n:Int)=0)=false:=by simp; omega
 have d1:decide ((n:Int)=1)=false:=by simp; omega
 have HO:=hid af;have HB:=hid hb1;have HW:Hid (_=_):=hid hw1;clear af hb1 hw1 h hin hbs hE1 g8 hrl hlen hok' hE hall ok f hx1 hNe hK hpl;go_enter func41,ntmps41;go_wp2_with (refine aA (aY _ _ _ w.heap.size rfl rfl) ?_)
 rw [<-HW.out];clear HW;refine (HC.out w1 HB.out).mono ?_;rintro e w3 ⟨rfl,hb3⟩;have HB3:=hid (bst HB.out hb3);have aq:=hid (HO.out.below hb3);have k0:=aW (bst HB.out hb3) hc0;have hNew:=Rg.Own.new w3 (ndC nd0 none 0 0) 69;have HN:=hid hNew;have hs3:=hb3.size;clear hb3 HC HO hNew hc0;go_wp2_with (first
  | (refine aA (qR (a:=p0) (n:=p1) (c:=p2) (j:=K) gI jv hKc ⟨_,_,rfl,rfl,rfl⟩) ?_)
  | (refine aA (bV (Ma 2 p0 K p2 (p.take K)) ?_) ?_; · exact ⟨_,rfl,rfl⟩)
  | (refine aA (aY _ _ _ w3.heap.size rfl rfl) ?_)
  | (refine dB HN.out rfl ⟨2,p.take K,eB,zks⟩ p0 K p2 rfl rfl _ _ rfl rfl rfl rfl ?_; intro w4 hO4 cz; have b8:=hid hO4; have aw:Hid (Below w3.heap.size w3 w4):=hid (cz.below (al1 _ _) aG); clear hO4 cz))
 refine (ik.out w4 (bst HB3.out aw.out)).mono ?_;rintro e w5 ⟨a5,n5,c5,rfl,qe,hb5⟩;have De:n5=n:=by rw [<-qe.len]; exact il.out
 subst De;have ky:=hid qe;have ae:=hid hb5;clear qe hb5 ik;go_wp2_with fail
 refine (pZ.out a5 n5 c5 w5 ky.out hn).mono ?_;rintro e w6 ⟨rfl,hb6⟩;have ap:=hid (bst ae.out hb6);clear hb6 ae ky;go_wp2_with fail
 refine (cl.out w6).mono ?_;rintro e w7 ⟨rfl,cL⟩;have bc:=hid (bst ap.out cL);have dl:=hid (b8.out.below bc.out);clear cL ap;go_wp2_with (first
  | (refine sQ dl.out rfl (i:=0) (by decide) R rfl _ _ rfl rfl rfl ?_; intro w8 eh gd; have kz:Hid (dI w8 w3.heap.size ⟨2,p.take K,eB,iO R⟩ p0 K p2):=hid eh; have oc:=hid gd; clear eh gd)
  | (refine aA (bU kz.out (fM R) ⟨_,rfl,rfl⟩) ?_)
  | (refine dB (Rg.Own.upd (Rg.Own.below (Rg.Own.below aq.out aw.out) bc.out) oc.out (by omega)) rfl ⟨2,p.take K,eB,iO R⟩ p0 K p2 (fM R) rfl _ _ rfl rfl rfl rfl ?_; intro w9 ce cg; have cW:=hid ce; have qf:=hid cg; clear ce cg))
 have ef:Hid (Below w.heap.size w w9):=hid (qf.out.below (oc.out.below (bst (bst HB3.out aw.out) bc.out) (by have:=HB3.out.size; omega)) aG);exact bodyPost_ret (fu (p:=2) (u:=3) rfl _ rfl cW.out (fM R)) rfl ⟨p0,K,p2,by rw [q9.out]; rfl,by rw [q9.out]; exact VC.out.below ef.out,ef.out⟩
theorem WX {L:Nat} (hL:L<=64) (x y:Tr.In) (r:List Tr.In) (ok:Ok L (x::y::r)) (f:qx (x::y::r)) (h0:bE (x::y::r)=0) (hE:Qf (L-1)) (a:aK) (n c:Nat) (w:World) (h:iq w a n c (x::y::r)) (hn:n<=1000000) :
  Calls prog 41 #[.slice a n c] w (Np w (bC (build L (x::y::r)))):=by
 obtain ⟨w1,hw1,af,hb1,hs1⟩:=WQ w;have hlen:=h.len;have hn2:2<=n:=by rw [<-hlen]; simp
 have hL0:0<L:=by have:=jJ ok; omega
 have hall:∀ z∈x::y::r,z.1.length=L:=λz hz=>(ok.1 z hz).1;have hNe:bC (build L (x::y::r))=⟨3,[],eB,eD λd=>ref (build (L-1) (bN (bJ (x::y::r) d) 1))⟩:=by
  rw [build,dif_neg (by omega),dif_pos hL0]; rfl
 generalize x::y::r=l at *
 have HC:=hid (λwz (hb:Below w.heap.size w wz)=>rE l a n c (λz hz=>by rw [hall z hz]; omega) (by omega) wz (h.below hb) hn);rw [h0] at HC;have G7:=hid (λ(d:Fin 16) wz (hb:Below w.heap.size w wz)=>Ec l a n c d (λz hz=>by rw [hall z hz]; omega) wz (h.below hb) hn);have ik:=hid (λ(d:Fin 16) a' n' c' wz (hi:iq wz a' n' c' (bJ l d)) (h':n'<=1000000)=>wK (bJ l d) a' n' c' 1 (λz hz=>by rw [hall z (mD.1 hz).1]; omega) wz hi h');have pZ:=hid (λ(d:Fin 16)=>hE (bN (bJ l d) 1) (oD ok hL0 d) ((f.begin d).rest 1))
 have cl:=hid (λ(d:Fin 16) wz=>by have:=Jf (bF (build (L-1) (bN (bJ l d) 1))) (NM (by omega) (oD ok hL0 d) ((f.begin d).rest 1)) wz; rw [Nq] at this; exact this);have fb:Hid (∀ d:Fin 16,(bJ l d).length<=n):=hid (λd=>by
  have:=DZ l d n;rwa [List.take_of_length_le (by omega)] at this)
 have il:Hid (∀ d:Fin 16,(bN (bJ l d) 1).length=(bJ l d).length):=hid (λd=>by unfold bN; rw [List.length_map]);obtain ⟨ks,hks⟩:∃ ks,(eD λd=>ref (build (L-1) (bN (bJ l d) 1)))=ks:=⟨_,rfl⟩
 have hkl:ks.length=16:=by rw [<-hks]; exact mM _
 have hki:∀ j (hj:j<16),ref (build (L-1) (bN (bJ l ⟨j,hj⟩) 1))=ks.getD j eB:=λj hj=>by
  rw [<-hks]; exact (pQ (λd=>ref (build (L-1) (bN (bJ l d) 1))) ⟨j,hj⟩).symm
 rw [hks] at hNe;have cm:=hid hkl;have VM:=hid hki;have q9:=hid hNe;have hcap:=h.1;have hmx:=h.2.1;unfold maxLen at hmx;have hn0:(0:Int)<n:=by omega
 have hnn:0<n:=by omega
 have e0:((n:Int)==0)=false:=by simp; omega
 have e1:((n:Int)==1)=false:=by simp; omega
 have d0:decide ((n:Int)=0)=false:=by simp; omega
 have d1:decide ((n:Int)=1)=false:=by simp; omega
 have HO:=hid af;have HB:=hid hb1;have HW:Hid (_=_):=hid hw1;clear af hb1 hw1 h hlen hE hall ok f hNe hkl hki hks h0;go_enter func41,ntmps41;go_wp2_with (refine aA (aY _ _ _ w.heap.size rfl rfl) ?_)
 rw [<-HW.out];clear HW;refine (HC.out w1 HB.out).mono ?_;rintro e w3 ⟨rfl,hb3⟩;have HB3:=hid hb3;have hNew:=Rg.Own.new w3 (ndC nd0 none 0 0) 69;have HN:=hid hNew;have hs3:=hb3.size;clear hb3 HC hNew;go_wp2_with (first
  | (refine aA (bV (Sz 3) ?_) ?_; · exact ⟨_,rfl,rfl⟩)
  | (refine aA (aY _ _ _ w3.heap.size rfl rfl) ?_)
  | (refine dB HN.out rfl ⟨3,[],eB,zks⟩ none 0 0 rfl rfl _ _ rfl rfl rfl rfl ?_; intro w4 hO4 cz; have b8:=hid hO4; have aw:Hid (Below w3.heap.size w3 w4):=hid (cz.below (al1 _ _) aG); clear hO4 cz))
 have xp:Hid (Below w1.heap.size w1 w4):=hid (bst HB3.out aw.out);have fL:Hid (dI w4 w3.heap.size ⟨3,[],eB,iV ks 0⟩ none 0 0):=hid (by rw [yE]; exact b8.out);clear HB3 aw b8 HN;obtain ⟨g,hg⟩:=ay w3.heap.size
 rw [hg] at fL hs3 ⊢;clear hg;go_loopw [7] (λi wr=>∃ j:Nat,j<=16/\i = .int .i64 j/\Hid (dI wr g ⟨3,[],eB,iV ks j⟩ none 0 0)/\Hid (Below w1.heap.size w1 wr)) (λi _=>16-(intOf i).toNat)
 case atStart=>exact ⟨0,Nat.zero_le _,rfl,fL,xp⟩
 case round =>
  obtain ⟨j,hj,rfl,nj,qi⟩:=hrel;clear fL xp;by_cases hlt:j<16
  .have hji:(j:Int)<16:=by omega
   have dt:Hid (Below w.heap.size w wr):=hid (bst HB.out qi.out);have HS:=hid (Co cm.out hlt);have qk:=hid (uJ cm.out hj);go_wp2_with fail
   refine (G7.out ⟨j,hlt⟩ wr dt.out).mono ?_;rintro e w5 ⟨a5,n5,c5,rfl,qe,hb5⟩;have De:n5<=1000000:=by rw [<-qe.len]; exact Nat.le_trans (fb.out ⟨j,hlt⟩) hn
   have hl5:=qe.len;have ky:=hid qe;have ae:=hid hb5;clear qe hb5;go_wp2_with fail
   refine (ik.out ⟨j,hlt⟩ a5 n5 c5 w5 ky.out De).mono ?_;rintro e w6 ⟨a6,n6,c6,rfl,nl,hb6⟩;have VS:n6<=1000000:=by rw [<-nl.len,il.out,hl5]; exact De
   have oa:=hid nl;have ap:=hid (bst ae.out hb6);clear nl hb6 ky ae;go_wp2_with fail
   refine (pZ.out ⟨j,hlt⟩ a6 n6 c6 w6 oa.out VS).mono ?_;rintro e w7 ⟨rfl,cL⟩;have bc:=hid (bst ap.out cL);have od:=hid (cl.out ⟨j,hlt⟩ w7);obtain ⟨E,hE⟩:=ay (bF (build (L-1) (bN (bJ l ⟨j,hlt⟩) 1)))
   rw [VM.out j hlt,hE] at od;rw [hE];obtain ⟨R,hR⟩:=ay (ks.getD j eB)
   rw [hR] at od HS;clear cL ap oa hE hR;go_wp2_with fail
   refine od.out.mono ?_;rintro e w8 ⟨rfl,eQ⟩;have js:=hid (bst bc.out eQ);have VV:=hid (nj.out.below js.out);clear eQ bc od;go_wp2_with (refine sQ VV.out qk.out (i:=j) hlt R rfl _ _ rfl rfl rfl ?_; intro w9 ce cg; have cW:=hid ce; have qf:=hid cg; clear ce cg)
   have hge:w1.heap.size<=g:=hs3;go_roundw
   case rel=>exact ⟨j+1,by omega,by go_num,hid (by rw [<-HS.out]; exact cW.out),hid (qf.out.below (qi.out.trans (js.out.mono qi.out.size)) hge)⟩
   case measure=>simp [intOf]; omega
  .obtain rfl:j=16:=by omega
   have G8:Hid (dI wr g ⟨3,[],eB,ks⟩ none 0 0):=hid (by have:=nj.out; rwa [Ag cm.out] at this);clear nj;go_wp2_with (first
    | (refine aA (bU G8.out cm.out ⟨_,rfl,rfl⟩) ?_)
    | (refine dB (Rg.Own.below HO.out qi.out) rfl ⟨3,[],eB,ks⟩ none 0 0 cm.out rfl _ _ rfl rfl rfl rfl ?_; intro w9 ce cg; have cW:=hid ce; have qf:=hid cg; clear ce cg))
   have ef:Hid (Below w.heap.size w w9):=hid (qf.out.below (bst HB.out qi.out) aG);exact bodyPost_ret (fu (p:=2) (u:=3) rfl _ rfl cW.out cm.out) rfl ⟨none,0,0,by rw [q9.out]; rfl,by rw [q9.out]; exact aZ.nil _,ef.out⟩
theorem Hq {L:Nat} (hL:L<=64) (ih:∀ m,m<L->Qf m) {l:List Tr.In} (ok:Ok L l) (f:qx l) (hne:l≠[]) (a:aK) (n c:Nat) (w:World) (h:iq w a n c l) (hn:n<=1000000) :
  Calls prog 41 #[.slice a n c] w (Np w (bC (build L l))):=by
 match l,hne with
 | [x],_ =>
  obtain rfl:n=1:=h.len.symm;have:=Uc x a c w h;rw [build];exact this
 | x::y::r,_ =>
  have hlt:=jJ ok;by_cases h0:0<bE (x::y::r)
  .exact Uh hL x y r ok f h0 (ih _ (by omega)) a n c w h hn
  .exact WX hL x y r ok f (by omega) (ih _ (by omega)) a n c w h hn
theorem Yi {L:Nat} (hL:L<=64) (ih:∀ m,m<L->Qf m):Qf L:=λl ok f a n c w h hn=>by
 by_cases hne:l=[]
 .subst hne;obtain rfl:n=0:=h.len.symm;rw [build];have HC:=hid (Et a c w);clear h;go_enter func80,ntmps80;go_wp2_with fail
  refine HC.out.mono ?_;rintro e w1 ⟨rfl,hb1⟩;have HB1:=hid hb1;have hNew:=Rg.Own.new w1 (ndC nd0 none 0 0) 69;have HN:=hid hNew;clear hb1 hNew;go_wp2_with (first
   | (refine aA (aY _ _ _ w1.heap.size rfl rfl) ?_)
   | (refine dB HN.out rfl nd0 none 0 0 rfl rfl _ _ rfl rfl rfl rfl ?_; intro w4 hO4 cz; have aw:Hid (Below w1.heap.size w1 w4):=hid (cz.below (al1 _ _) aG); clear hO4 cz))
  go_ret;exact ⟨rfl,bst HB1.out aw.out⟩
 .have hb:=BG ok hne;have hs:=tH (lT L l);have hm:=(gH _ L (jc L l ok) hL (rA L l f) hb).1 hs;have e:bF (build L l)=gP (bC (build L l)):=by
   cases hb':build L l with
   | nil=>exact absurd hb' hb
   | stub r=>rw [hb'] at hs; exact absurd trivial hs
   | leaf p v=>rfl
   | ext q t=>rfl
   | br ks=>rfl
  have HC:=hid (Hq hL ih ok f hne a n c w h hn);have hl:=cu (build L l);rw [e];generalize bC (build L l)=N at *
  have HM:=hid hm;have HL:=hid hl;clear h hm hl e hs hb;go_enter func80,ntmps80;go_wp2_with fail
  refine HC.out.mono ?_;rintro e w1 ⟨a1,n1,c1,rfl,hp1,hb1⟩;have HB1:=hid hb1;have hNew:=Rg.Own.new w1 (ndC nd0 none 0 0) 69;have HN:=hid hNew;have HP:=hid hp1;clear hb1 hNew hp1 HC;go_wp2_with (first
   | (refine aA (aY _ _ _ w1.heap.size rfl rfl) ?_)
   | (refine dB HN.out rfl N a1 n1 c1 HL.out rfl _ _ rfl rfl rfl rfl ?_; intro w4 hO4 cz; have b8:=hid hO4; have aw:Hid (Below w1.heap.size w1 w4):=hid (cz.below (al1 _ _) aG); clear hO4 cz)
   | (refine aA (bU b8.out HL.out ⟨_,rfl,rfl⟩) ?_))
  refine (Mq N a1 n1 c1 HL.out w4 (HP.out.below aw.out) HM.out).mono ?_;rintro e w5 ⟨rfl,hb5⟩;have ae:=hid (bst (bst HB1.out aw.out) hb5);clear hb5;go_wp2;go_ret;exact ⟨rfl,ae.out⟩
theorem UG (L:Nat):L<=64->Qf L:=by
 induction L using Nat.strongRecOn with
 | ind L ih=>exact λhL=>Yi hL λm hm=>ih m hm (by omega)
end Tm
end
section
open Go.RowKit
namespace Tm
open Tr Rf Rl Ni No Pk Sm
theorem NS {t:T} (hs:¬ eP t):MF t=eB:=by
 cases t with
 | stub r=>exact absurd trivial hs
 | _=>rfl
theorem QK {t:T} (hs:¬ eP t) (hn:t ≠ .nil):dO t=1\/dO t=2\/dO t=3:=by
 cases t with
 | stub r=>exact absurd trivial hs
 | nil=>exact absurd rfl hn
 | leaf q v=>exact Or.inl rfl
 | ext q s=>exact Or.inr (Or.inl rfl)
 | br ks=>exact Or.inr (Or.inr rfl)
theorem UD (b:Nat) (k:Int) (hk:k=1\/k=2\/k=3) (r:aL) (w:World) (hc:∀ wx,Below w.heap.size w wx->wx.cell? ⟨b,0,none⟩=some (.int .i64 k)) (P:World->Prop)
  (Dg:∀ w3,Below w.heap.size w w3->w3.cell? ⟨w.heap.size,0,none⟩=some (.pointer (some ⟨b,0,none⟩))->Calls prog 116 #[.pointer (some ⟨b,4,none⟩),.func (.func 117) #[] #[.pointer (some ⟨w.heap.size,0,none⟩)]] w3 λe w'=>e = .returned (.tuple #[])/\w'.cell? ⟨w.heap.size,0,none⟩=some (.pointer (some ⟨b,0,none⟩))/\w'.cell? ⟨b,7,none⟩=some (.string r)/\P w') :
  Calls prog 74 #[.agg #[.pointer (some ⟨b,0,none⟩)]] w λe w'=>e = .returned (.string r)/\P w':=by
 have di:∀ (fn:Fn) (first cap:aN) (w:World),(Instr.makeFunc fn first cap).run prog w = .ok (.func fn first cap) w:=λ_ _ _ _=>rfl;have h0:=fG w (some ⟨b,0,none⟩);have hA:=al1 w (.cells #[.pointer (some ⟨b,0,none⟩)] 35);have HK:=hid (nZ b k _ (hc _ hA))
 have H3:Hid (∀ w3,Below (w.alloc (.cells #[.pointer (some ⟨b,0,none⟩)] 35)).heap.size (w.alloc (.cells #[.pointer (some ⟨b,0,none⟩)] 35)) w3->w3.cell? ⟨w.heap.size,0,none⟩=some (.pointer (some ⟨b,0,none⟩))/\Calls prog 116 #[.pointer (some ⟨b,4,none⟩),.func (.func 117) #[] #[.pointer (some ⟨w.heap.size,0,none⟩)]] w3 λe w'=>e = .returned (.tuple #[])/\w'.cell? ⟨w.heap.size,0,none⟩=some (.pointer (some ⟨b,0,none⟩))/\w'.cell? ⟨b,7,none⟩=some (.string r)/\P w'):=hid (λw3 hb3 =>
  ⟨aW hb3 h0,Dg w3 (bst hA hb3) (aW hb3 h0)⟩)
 clear hc Dg hA;rcases hk with rfl | rfl | rfl;all_goals
  go_enter func74,ntmps74;go_wp2_with (refine aA (aU h0 ⟨_,rfl,rfl⟩) ?_)
  refine HK.out.mono ?_;rintro e w3 ⟨rfl,hb3⟩;obtain ⟨d0,HD⟩:=H3.out w3 hb3;replace HD:=hid HD;clear hb3 H3 HK h0;go_wp2_with fail
  refine HD.out.mono ?_;rintro e w4 ⟨rfl,e0,e7,hP⟩;have HP:=hid hP;clear hP HD d0;go_wp2;go_ret;exact ⟨rfl,HP.out⟩
theorem XO:nD .nil:=λM w p hi ht hT=>by
 obtain rfl:p=none:=ht.pO.2 rfl;have h0:=fG w none;have HE:=hid (lQ none ((w.alloc (.cells #[.pointer none] 35)).alloc (.cells #[.pointer none] 35)));have hA:=al1 w (.cells #[.pointer none] 35);have HK:Hid (Calls prog 67 #[.agg #[.pointer none]] (w.alloc (.cells #[.pointer none] 35)) λe w'=>e = .returned (.int .i64 0)/\Below (w.alloc (.cells #[.pointer none] 35)).heap.size (w.alloc (.cells #[.pointer none] 35)) w'):=hid (dN M0 none .nil _ (Inv.zero _) rfl)
 have HF:Hid (∀ w3,Below (w.alloc (.cells #[.pointer none] 35)).heap.size (w.alloc (.cells #[.pointer none] 35)) w3->FrN M (sz .nil+1) w w3/\dS M (sz .nil+1) w3):=hid (λw3 hb3=>⟨FrN.below M _ (bst hA hb3),hi.below (bst hA hb3)⟩);clear hi hT hA HE;show Calls _ _ _ _ (λe w'=>e = .returned (.string eB)/\_);go_enter func74,ntmps74;go_wp2_with (refine aA (aU h0 ⟨_,rfl,rfl⟩) ?_)
 refine HK.out.mono ?_;rintro e w3 ⟨rfl,hb3⟩;have ge:=hid (HF.out w3 hb3);clear hb3 HF HK h0;go_wp2;go_ret;exact ⟨rfl,ge.out⟩
theorem Pb {M:Mp} {b:Nat} (h:ru M w b (.stub r)):w.cell? ⟨b,0,none⟩=some (.int .i64 (-1))/\w.cell? ⟨b,7,none⟩=some (.string r):=by
 obtain ⟨a,n,c,ka,kn,kc,d,r',hb,_,_,hd⟩:=h;obtain ⟨⟨c0,_⟩,_,_,_,c7⟩:=kH hb;rcases hd with ⟨_,hr⟩ | ⟨_,hs,_⟩
 .rw [hr] at c7;exact ⟨c0,c7⟩
 .exact absurd trivial hs
theorem Sw (r:aL):nD (.stub r):=λM w p hi ht hT=>by
 obtain ⟨b,rfl,hm⟩:=ht.at_ (λe=>by cases e);have hpart:=(hi.part_ b _ hm).2.2.2 (by omega);obtain ⟨k0,k7⟩:=Pb hpart;have h0:=fG w (some ⟨b,0,none⟩);have hA:=al1 w (.cells #[.pointer (some ⟨b,0,none⟩)] 35);have HK:=hid (nZ b (-1) _ (aW hA k0))
 have HF:Hid (∀ w3,Below (w.alloc (.cells #[.pointer (some ⟨b,0,none⟩)] 35)).heap.size (w.alloc (.cells #[.pointer (some ⟨b,0,none⟩)] 35)) w3->w3.cell? ⟨w.heap.size,0,none⟩=some (.pointer (some ⟨b,0,none⟩))/\w3.cell? ⟨b,7,none⟩=some (.string r)/\FrN M (sz (.stub r)+1) w w3/\dS M (sz (.stub r)+1) w3):=hid (λw3 hb3=>⟨aW hb3 h0,aW hb3 (aW hA k7),FrN.below M _ (bst hA hb3),hi.below (bst hA hb3)⟩);clear hi hT hA hpart k0 k7 hm;show Calls _ _ _ _ (λe w'=>e = .returned (.string r)/\_)
 go_enter func74,ntmps74;go_wp2_with (refine aA (aU h0 ⟨_,rfl,rfl⟩) ?_)
 refine HK.out.mono ?_;rintro e w3 ⟨rfl,hb3⟩;obtain ⟨d0,d7,qq⟩:=HF.out w3 hb3;have ge:=hid qq;clear hb3 HF HK h0 qq;go_wp2;go_ret;exact ⟨rfl,ge.out⟩
theorem Ch (t:T) (hs:¬ eP t) (hn:t ≠ .nil) (g:Tr.Good t L) (hL:L<=64) (f:Fine t) (g8:∀ q s,t = .ext q s->nD s) (hR2:∀ ks,t = .br ks->∀ i,nD (ks i)):nD t:=λM w p hi ht hT=>by
 obtain ⟨b,rfl,hm⟩:=ht.at_ hn;have hpw:=(hi.part_ b _ hm).2.2.2 (by omega);have hlb:=hi.lt_ b (hi.part_ b _ hm).2.1;obtain ⟨a,n,c,ka,kn,kc,d,r,hb,jt,hKs,hd⟩:=hpw;have W6:Rg.Own w b (iL t a n c ka kn kc d r) 135:=⟨hlb,hb⟩
 have hbody:Body M w b t a n c ka kn kc:=by
  obtain ⟨⟨c0,c1,c2,c3⟩,_⟩:=kH hb;exact ⟨c0,c1,c2,c3,jt.1,hKs⟩
 refine UD b (dO t) (QK hs hn) (ref t) w (λwx hbx=>(hbody.below hbx).c0) (λw'=>FrN M (sz t+1) w w'/\dS M (sz t+1) w') (λw3 hb3 oe=>?_);have hO3:=W6.below hb3;have hi3:=hi.below hb3;rcases hd with ⟨rfl,hr⟩ | ⟨rfl,_,hr⟩
 .-- not yet done
  rw [NS hs] at hr;subst hr;have lj:=hT.below hb3 hT.pos;have bd:=bO w3 b 5 (.int .i32 1);have NX:Rg.Own (w3.setCell ⟨b,5,none⟩ (.int .i32 1)) b (rH t a n c ka kn kc eB) 135:=dx (o:=5) hO3 (.int .i32 1);have W7:=Pw NX;have G9:dS M (sz t) w3:=hi3.mono (Nat.le_succ _);have hil:dS M (sz t) (w3.setCell ⟨b,5,none⟩ (.int .i32 1)):=G9.lock bd hm aG W7;have W9:(0:Nat)≠b:=λe=>by
   have:=Ih hi3 lj;rw [e,hm] at this;cases this
  have O0:Tab (w3.setCell ⟨b,5,none⟩ (.int .i32 1)):=λi hi'=>by
   rw [<-lj i hi'];exact World.cell?_of_block (w:=w3) (bd.block 0 W9)
  have sa:w.heap.size≠b:=by omega
  have xr:(w3.setCell ⟨b,5,none⟩ (.int .i32 1)).cell? ⟨w.heap.size,0,none⟩=some (.pointer (some ⟨b,0,none⟩)):=by
   rw [<-oe];exact World.cell?_of_block (w:=w3) (bd.block w.heap.size sa)
  have sb:Body M (w3.setCell ⟨b,5,none⟩ (.int .i32 1)) b t a n c ka kn kc:=(hbody.below hb3).upd (hi3.part_ b t hm).2.2.1 bd (λj hj=>World.cell?_setCell_other _ ⟨b,5,none⟩ ⟨b,j,none⟩ _ (λe=>by injection e with e1 e2 e3; omega));obtain ⟨h1,h2,h3,h4,h5,h6⟩:=iF g hL f hn hs;have hE:=MQ M b t hm hs hn g hL f (w3.setCell ⟨b,5,none⟩ (.int .i32 1)).drew (hil.below (below_drewN aH 1)) (sb.below (below_drewN aH 1)) O0 g8 hR2;have Dg:=YM M b t hm h3 w.heap.size _ xr sa hil O0 NX hE
  have hD:∀ wx,(callFunc 117 #[.pointer (some ⟨w.heap.size,0,none⟩)]).run prog wx = .ok (.enter 117 #[.pointer (some ⟨w.heap.size,0,none⟩)]) wx:=by intro wx; kernel_rfl
  refine (On.RF 117 _ hD b 4 w3 (λw'=>∃ w1,FrN M (sz t) (w3.setCell ⟨b,5,none⟩ (.int .i32 1)) w1/\dS M (sz t) w1/\Rg.Upd w1 b w'/\Rg.Own w' b (rH t a n c ka kn kc (ofP (bF t))) 135) (aV (j:=4) hO3 rfl) (aV (j:=5) hO3 rfl) (gV hO3) (Dg.mono ?_)).mono ?_
  .rintro e w' ⟨rfl,w1,g1,g2,g3,g4⟩;exact ⟨rfl,⟨⟨aV (j:=4) g4 rfl,gV g4⟩,aV (j:=5) g4 rfl,gV g4⟩,w1,g1,g2,g3,g4⟩
  .rintro e w' ⟨rfl,w2,⟨w1,g1,g2,g3,g4⟩,rfl⟩;rw [<-iX hs] at g4;have d9:=bO w2.drew b 4 (.int .u32 1);have dc:=bO (w2.drew.setCell ⟨b,4,none⟩ (.int .u32 1)) b 5 (.int .i32 0);have ei:Rg.Own ((w2.drew.setCell ⟨b,4,none⟩ (.int .u32 1)).setCell ⟨b,4+1,none⟩ (.int .i32 0)) b (iL t a n c ka kn kc 1 (ref t)) 135:=dx (o:=5) (dx (o:=4) g4.drew (.int .u32 1)) (.int .i32 0);obtain ⟨w7,hw7⟩:=ay ((w2.drew.setCell ⟨b,4,none⟩ (.int .u32 1)).setCell ⟨b,4+1,none⟩ (.int .i32 0))
   rw [hw7] at ei ⊢;have ju:Rg.Upd w1 b w7:=by
    rw [<-hw7];exact ⟨g3.os,g3.tape,g3.output,by rw [dc.size,d9.size]; exact g3.size,λk hk=>((dc.block k hk).trans (d9.block k hk)).trans (g3.block k hk)⟩
   have oj:∀ k,k<w3.heap.size->k≠b->(M.at_ k=none\/∃ t',M.at_ k=some t'/\sz t<=sz t')->w7.heap[k]? = w3.heap[k]? := λk hk hkb hc=>(ju.block k hkb).trans ((g1.block k (by rw [bd.size]; exact hk) hc).trans (bd.block k hkb));have lk:w3.heap.size<=w7.heap.size:=by rw [ju.size]; exact Nat.le_trans (by rw [bd.size]; exact aG) g1.size
   have hnb:M.at_ w.heap.size=none:=hi.zV aG;have cL:w7.cell? ⟨w.heap.size,0,none⟩=some (.pointer (some ⟨b,0,none⟩)):=by
    rw [<-oe];exact World.cell?_of_block (w:=w3) (oj _ (World.block_lt_of_cell? w3 _ oe) sa (Or.inl hnb))
   have hfr:FrN M (sz t+1) w3 w7:=⟨ju.os.trans (g1.os.trans bd.os),ju.tape.trans (g1.tape.trans bd.tape),ju.output.trans (g1.output.trans bd.output),lk,λk hk hc=>by
    refine oj k hk (λe=>?_) (hc.imp id (λ⟨t',e,hl⟩=>⟨t',e,by omega⟩));subst e;rcases hc with h | ⟨t',h,hl⟩
    .rw [hm] at h; cases h
    .rw [hm] at h;obtain rfl:=Option.some.inj h;omega⟩
   have Wa:FT w7 b:=Ed ei.2;have Ge:dS M (sz t) w7:=g2.lock ju hm aG Wa;have hbyte:∀ k j v,k<w3.heap.size->w3.cell? ⟨k,j,none⟩=some v->((∃ x,v = .int .u8 x)\/∃ p,v = .pointer p)->w7.heap[k]? = w3.heap[k]? := λk j v hk hc hv=>by
    have hat:M.at_ k=none:=by
     rcases hv with ⟨x,rfl⟩ | ⟨p,rfl⟩
     .exact hi3.dH hc
     .exact hi3.pW hc
    exact oj k hk (λe=>by rw [e,hm] at hat; cases hat) (Or.inl hat)
   refine ⟨rfl,cL,aV (j:=7) ei rfl,(FrN.below M _ hb3).trans hfr,⟨λk hk=>aI (hi3.lt_ k hk) lk,λb' t' hm'=>?_⟩⟩;obtain ⟨q1,q2,q3,q4⟩:=Ge.part_ b' t' hm';refine ⟨q1,q2,q3,λhl=>?_⟩;by_cases hlt:sz t'<sz t
   .exact q4 hlt
   .have hp3:=(hi3.part_ b' t' hm').2.2.2 hl;by_cases e:b'=b
    .subst e;obtain rfl:t=t':=by rw [hm] at hm'; exact Option.some.inj hm'
     refine ⟨a,n,c,ka,kn,kc,1,ref t,ei.2,?_,?_,Or.inr ⟨rfl,hs,rfl⟩⟩
     .have ej:=jt;refine ⟨⟨jt.1.1,jt.1.2.1,jt.1.2.2.1,jt.1.2.2.2.1,λj hj=>?_⟩,jt.2⟩;obtain ⟨b2,off,e2,hlt2,hc2⟩:=(jt.1.below hb3).2.2.2.2 j hj;exact ⟨b2,off,e2,aI hlt2 lk,by rw [World.cell?_of_block (hbyte b2 _ _ hlt2 hc2 (Or.inl ⟨_,rfl⟩))]; exact hc2⟩
     .refine ⟨hKs.1,hKs.2.1,hKs.2.2.1,hKs.2.2.2.1,λj hj=>?_⟩;obtain ⟨b2,off,p2,e2,hlt2,hf2,hc2,ht2⟩:=(hbody.below hb3).hk.at' j hj;exact ⟨b2,off,p2,e2,aI hlt2 lk,hf2,by rw [World.cell?_of_block (hbyte b2 _ _ hlt2 hc2 (Or.inr ⟨_,rfl⟩))]; exact hc2,ht2⟩
    .exact hp3.keep lk (oj b' (hi3.lt_ b' q2) e (Or.inr ⟨t',hm',by omega⟩)) hbyte
 .-- done already
  subst hr;refine (On.WH ⟨b,4,none⟩ _ w3 (aV (j:=4) hO3 rfl)).mono ?_;rintro e w' ⟨rfl,rfl⟩;exact ⟨rfl,oe,aV (j:=7) hO3 rfl,FrN.below M _ hb3,hi3⟩
theorem lD:∀ (t:T) (L:Nat),Tr.Good t L->L<=64->Fine t->nD t
 | .nil,_,_,_,_=>XO
 | .stub r,_,_,_,_=>Sw r
 | .leaf q v,L,g,hL,f=>Ch _ (λh=>h) (λe=>by cases e) g hL f (λ_ _ e=>by cases e) (λ_ e=>by cases e)
 | .ext q s,L,g,hL,f=>Ch _ (λh=>h) (λe=>by cases e) g hL f (λq' s' e=>by
   injection e with _ e;subst e;exact lD s _ g.2.2.2.2 (by have:=g.2.2.1; omega) f) (λ_ e=>by cases e)
 | .br ks,L,g,hL,f=>Ch _ (λh=>h) (λe=>by cases e) g hL f (λ_ _ e=>by cases e) (λks' e i=>by
   injection e with e;subst e;exact lD (ks i) _ (g.2.2 i) (by omega) (f i))
open Ky
theorem Inv.after {M:Mp} {n:Nat} {w w':World} (h:Inv M w) (f:FrN M n w w') (g:dS M n w'):Inv M w' :=
 ⟨λk hk=>aI (h.lt_ k hk) f.size,λb t hm=>by
  have:=((h.toN (sz t+1)).after f g).part_ b t hm;exact ⟨this.1,this.2.1,this.2.2.2 (Nat.lt_succ_self _)⟩⟩
def Yb (M:Mp) (w:World) (s:aL) (e:Ending) (w':World):Prop:=e = .returned (.string s)/\Fr M M w w'/\Inv M w'/\Tab w'
theorem Gr (M:Mp) (p:aK) (t:T) (L:Nat) (g:Tr.Good t L) (hL:L<=64) (f:Fine t) (w:World) (hi:Inv M w) (ht:IsT M p t) (hT:Tab w) :
  Calls prog 20 #[tv p] w (Yb M w (bF t)):=by
 by_cases hn:dO t=0\/dO t = -1
 .have he:bF t=eB:=by
   cases t with
   | nil=>rfl
   | stub r=>rfl
   | leaf q v=>rcases hn with h | h <;> exact absurd h (by show ¬ ((_:Int)=_); simp [dO])
   | ext q s=>rcases hn with h | h <;> exact absurd h (by show ¬ ((_:Int)=_); simp [dO])
   | br ks=>rcases hn with h | h <;> exact absurd h (by show ¬ ((_:Int)=_); simp [dO])
  rw [he];refine (Vx p (dO t) (by omega) (by omega) (by omega) w (λwx hbx=>dN M p t wx (hi.below hbx) ht)).mono ?_;rintro e w' ⟨rfl,hb⟩;exact ⟨rfl,Fr.below M hb,hi.below hb,hT.below hb hT.pos⟩
 .have hs:¬ eP t:=λh=>by
   cases t with
   | stub r=>exact hn (Or.inr rfl)
   | _=>exact h.elim
  have hne:t ≠ .nil:=λe=>hn (Or.inl (by rw [e]; rfl));obtain ⟨b,rfl,hm⟩:=ht.at_ hne;obtain ⟨pa,pn,pc,ka,kn,kc,hB⟩:=(hi.part hm).body;refine (MQ M b t hm hs hne g hL f w (hi.toN _) hB hT (λq s e=>by
   subst e;exact lD s _ g.2.2.2.2 (by have:=g.2.2.1; omega) f) (λks e i=>by
   subst e;exact lD (ks i) _ (g.2.2 i) (by omega) (f i))).mono ?_
  rintro e w' ⟨rfl,hf,hi'⟩;exact ⟨rfl,hf.fr,hi.after hf hi',wJ (hi.toN _) hf hT⟩
theorem Uu (M:Mp) (p:aK) (t:T) (L:Nat) (g:Tr.Good t L) (hL:L<=64) (f:Fine t) (w:World) (hi:Inv M w) (ht:IsT M p t) (hT:Tab w) :
  Calls prog 74 #[tv p] w (Yb M w (ref t)):=by
 refine (lD t L g hL f M w p (hi.toN _) ht hT).mono ?_;rintro e w' ⟨rfl,hf,hi'⟩;exact ⟨rfl,hf.fr,hi.after hf hi',wJ (hi.toN _) hf hT⟩
theorem BL (ps:List (aK)) (a:aK) (n cap:Nat) (w:World) (h:jX w a n cap ps) (hn:n<=1000000) :
  Calls prog 164 #[.slice a n cap,.func (Fn.func 112) #[] #[]] w λe w'=>∃ r:Int,e = .returned (.int .i64 r)/\Below w.heap.size w w'/\
   ((r = -1/\∀ p∈ps,p.isNone=false)\/∃ i:Nat,r=i/\i<n/\ps.getD i none=none/\∀ p∈ps.take i,p.isNone=false):=by
 have hm:=h.2.1;have hnc:=h.1;have hl:=h.2.2.1;unfold maxLen at hm;have H:=hid h;have HL:=hid hl;clear h hl;go_enter func164,ntmps164;go_wp2;go_loopw [8] (λi wr=>∃ j:Nat,j<=n/\i = .int .i64 j/\Hid (∀ p∈ps.take j,p.isNone=false)/\Hid (Below w.heap.size w wr)) (λi _=>n-(intOf i).toNat)
 case atStart=>exact ⟨0,Nat.zero_le _,rfl,hid (λp hp=>by simp at hp),hid aH⟩
 case round =>
  obtain ⟨j,hj,rfl,HJ,HB⟩:=hrel;by_cases hlt:j<n
  .obtain ⟨b,off,rfl,hblt,hc⟩:=H.out.2.2.2.2 j hlt;have hji:(j:Int)<n:=by omega
   have hc':=(Below.cell (p:=⟨b,off+j,none⟩) HB.out hblt).trans hc;have HS:Hid (ps.take (j+1)=ps.take j++[ps.getD j none]):=hid (by
    have hj':j<ps.length:=by rw [HL.out]; exact hlt
    have e:ps.getD j none=ps[j]:=by simp [List.getD,hj']
    rw [e,List.take_succ_eq_append_getElem hj'])
   obtain ⟨p,hp⟩:=ay (ps.getD j none)
   rw [hp] at hc' HS;have HE:=hid (lQ p wr);have HP:=hid hp;clear hp hc;go_wp2_with (refine aA (aU hc' ⟨_,rfl,rfl⟩) ?_)
   refine HE.out.mono ?_;rintro e w5 ⟨rfl,hb5⟩;have ae:=hid (bst HB.out hb5);clear hb5 HE HB hc';cases hf:p.isNone with
   | false =>
    have sc:Hid (∀ q∈ps.take (j+1),q.isNone=false):=hid (λq hq=>by
     rw [HS.out,List.mem_append,List.mem_singleton] at hq;rcases hq with hq | rfl
     .exact HJ.out q hq
     .exact hf)
    clear hf;go_wp2;go_roundw
    case rel=>exact ⟨j+1,by omega,by go_num,sc,ae⟩
    case measure=>simp [intOf]; omega
   | true =>
    have hpn:p=none:=by simpa using hf
    clear hf;go_wp2;go_ret;exact ⟨(j:Int),rfl,ae.out,Or.inr ⟨j,rfl,hlt,by rw [HP.out]; exact hpn,HJ.out⟩⟩
  .obtain rfl:j=n:=by omega
   have HF:Hid (∀ p∈ps,p.isNone=false):=hid (by have:=HJ.out; rwa [List.take_of_length_le (by rw [HL.out]; exact aG)] at this);go_wp2;go_ret;exact ⟨-1,rfl,HB.out,Or.inl ⟨rfl,HF.out⟩⟩
def lJ (ps:List (aK)):List (aK):=ps.filter λp=>!p.isNone
theorem xK (l:List (aK)) (p:aK):lJ (l++[p])=lJ l++if p.isNone then [] else [p]:=by
 unfold lJ;rw [List.filter_append];cases p <;> rfl
theorem Gp {l:List (aK)} (h:∀ p∈l,p.isNone=false):lJ l=l:=List.filter_eq_self.2 λp hp=>by rw [h p hp]; rfl
theorem tX {b:Nat} (h:Rg.Upd w b w1) (g:Rg.Upd w1 b w2):Rg.Upd w b w2:=⟨g.os.trans h.os,g.tape.trans h.tape,g.output.trans h.output,g.size.trans h.size,λk hk=>(g.block k hk).trans (h.block k hk)⟩
theorem IL (w:World) (b:Nat):Rg.Upd w b w:=⟨rfl,rfl,rfl,rfl,λ_ _=>rfl⟩
theorem qH {b:Nat} {t:TypeId}:∀ (vs:List Value) (o:Nat) (w:World) (cs:aN),Rg.Own w b cs t->∃ cs',Rg.Own (w.setCells b o vs) b cs' t/\cs'.size=cs.size/\∀ j,j<o->cs'[j]? = cs[j]?
 | [],_,_,cs,h=>⟨cs,h,rfl,λ_ _=>rfl⟩
 | v::r,o,w,cs,h=>by
  obtain ⟨cs',h1,h2,h3⟩:=qH r (o+1) _ _ (dx (o:=o) h v);refine ⟨cs',h1,by simpa using h2,λj hj=>?_⟩;rw [h3 j (by omega),Array.getElem?_setIfInBounds_ne (by omega)]
theorem qP (b:Nat):∀ (vs:List Value) (o:Nat) (w:World),Rg.Upd w b (w.setCells b o vs)
 | [],_,w=>IL w b
 | v::r,o,w=>tX (bO w b o v) (qP b r (o+1) _)
theorem Rs (w:World):(zeroValue (prog.elem 122)).run prog w = .ok (.agg #[.pointer none]) w:=by kernel_rfl
theorem KE (n:Nat):(Builtin.zeroCells #[Value.pointer none] n).toList=List.replicate n (Value.pointer none):=by
 simp [Builtin.zeroCells];apply List.ext_getElem
 .simp
 .intro i h1 h2;simp [Nat.mod_one]
theorem Cb (ty:TypeId) (hO:Rg.Own w g cur 35) (hs:cur.size=cap) (hi:i<=n) (hn:n<=cap) :
  ∃ w',(Builtin.clear_ #[122] ty #[.slice (dY (some ⟨g,0,none⟩) cap i) (n-i) (cap-i)]).run prog w = .ok (.tuple #[]) w'/\Rg.Upd w g w'/\∃ cur',Rg.Own w' g cur' 35/\cur'.size=cap/\∀ j,j<i->cur'[j]? = cur[j]? := by
 by_cases hz:n-i=0
 .refine ⟨w,?_,IL w g,cur,hO,hs,λ_ _=>rfl⟩;rw [hz];cases dY (some ⟨g,0,none⟩) cap i <;> simp [Builtin.clear_,run_underlying nA]
 .have hf:dY (some ⟨g,0,none⟩) cap i=some ⟨g,i,none⟩:=by
   unfold dY;rw [if_neg (by omega)];simp [Addr.add_mid]
  obtain ⟨cs',h1,h2,h3⟩:=qH (List.replicate (n-i) (Value.pointer none)) i w cur hO;refine ⟨_,?_,qP g (List.replicate (n-i) (Value.pointer none)) i w,cs',h1,by rw [h2,hs],h3⟩;rw [hf];have hst:=run_storeCells_cells (P:=prog) g i (List.replicate (n-i) (Value.pointer none)) 0 w (λj hj=>by
   have hj':j<n-i:=by simpa using hj
   rw [Nat.add_zero,cell_of_row w g _ _ _ _ hO.2,Array.getElem?_eq_getElem (by omega)];rfl) (λj hj=>gV hO) (by intro v hv'; rw [List.eq_of_mem_replicate hv']; rfl)
  simp only [Nat.add_zero] at hst;obtain ⟨m,hm⟩:∃ m,n-i=m+1:=⟨n-i-1,by omega⟩
  rw [hm] at hst ⊢;simp [Builtin.clear_,run_underlying nA,Rs,KE,Value.cells,hst]
theorem Od {rest:List Oper} {a:Act} (hgd:o.guard=none)
  (ho:∃ s,o.op = .call { callee:=.builtin .clear,args:=#[s],argTypes:=#[122] }/\a.eval s = .slice (dY (some ⟨g,0,none⟩) cap i) (n-i) (cap-i)) (hd:o.dst=none)
  (hO:Rg.Own w g cur 35) (hs:cur.size=cap) (hi:i<=n) (hn:n<=cap)
  (H:∀ w' cur',Rg.Own w' g cur' 35->cur'.size=cap->(∀ j,j<i->cur'[j]? = cur[j]?)->Rg.Upd w g w'->wpList prog ops Q rest a w'):wpList prog ops Q (o::rest) a w:=by
 obtain ⟨s,ho,hx⟩:=ho;refine wpList_plain hgd λK hK=>?_;obtain ⟨w',hr,hu,cur',h1,h2,h3⟩:=Cb o.type hO hs hi hn;unfold Oper.wp execOp;simp only [ho,resolve,invoke,builtin,Sem.run_bind,Sem.run_pure,Result.andThen_ok,List.map_toArray,List.map_cons,List.map_nil,hx,hr];refine hK _ _ ?_;rw [show a.put o.dst (.tuple #[])=a by rw [hd]; rfl];exact H w' cur' h1 h2 h3 hu
theorem RowK.cell {qs:List (aK)} (h:RowK w g cap qs) (hj:j<qs.length):w.cell? ⟨g,j,none⟩=some (.pointer (qs.getD j none)):=by
 obtain ⟨cur,hO,hs,hl,hm,hc⟩:=h;rw [cell_of_row w g _ _ _ _ hO.2];exact hc j hj
theorem RowK.cut {k:Nat} {qs:List (aK)} (h:RowK w g cap qs) (hO:Rg.Own w g cur 35) (hk:k<=qs.length) (nm:Rg.Own w' g cur' 35) (hs:cur'.size=cap) (he:∀ j,j<k->cur'[j]? = cur[j]?):RowK w' g cap (qs.take k):=by
 obtain ⟨gh,am,hs0,hl,hm,hc⟩:=h;have e:gh=cur:=by
  have:=am.2.symm.trans hO.2;injection this with this;injection this
 subst e;refine ⟨cur',nm,hs,by rw [List.length_take]; omega,hm,λj hj=>?_⟩;have hjk:j<k:=by rw [List.length_take] at hj; omega
 have hjq:j<qs.length:=by omega
 rw [he j hjk,hc j hjq];simp [List.getD,hjk]
theorem RowK.own {qs:List (aK)} (h:RowK w g cap qs):∃ cur,Rg.Own w g cur 35/\cur.size=cap/\qs.length<=cap/\cap<=maxLen:=by
 obtain ⟨gh,am,hs0,hl,hm,hc⟩:=h;exact ⟨gh,am,hs0,hl,hm⟩
theorem Pe {qs ps:List (aK)} (h:qs.drop j=ps.drop j):qs.getD j none=ps.getD j none/\qs.drop (j+1)=ps.drop (j+1):=by
 constructor
 .have:=congrArg (λl=>l[0]?) h;simp only [List.getElem?_drop,Nat.add_zero] at this;rw [List.getD_eq_getElem?_getD,List.getD_eq_getElem?_getD,this]
 .have:=congrArg (λl=>l.drop 1) h;simpa [List.drop_drop] using this
theorem CX {qs:List (aK)} {k:Nat} (hk:k<qs.length) (p:aK):(qs.set k p).take (k+1)=qs.take k++[p]:=by
 rw [List.take_succ_eq_append_getElem (by simpa using hk),List.getElem_set_self,List.take_set_of_le (Nat.le_refl k)]
theorem El {ps:List (aK)} (h:j<ps.length):ps.take (j+1)=ps.take j++[ps.getD j none]:=by
 have e:ps.getD j none=ps[j]:=by simp [List.getD,h]
 rw [e,List.take_succ_eq_append_getElem h]
def ZI (w:World) (g cap:Nat) (ps:List (aK)) (e:Ending) (w':World):Prop:=e = .returned (.slice (some ⟨g,0,none⟩) (lJ ps).length cap)/\RowK w' g cap (lJ ps)/\Bo g w w'
theorem Ic (ps:List (aK)) (g cap:Nat) (w:World) (h:RowK w g cap ps) (hn:ps.length<=1000000) :
  Calls prog 129 #[.slice (some ⟨g,0,none⟩) ps.length cap,.func (Fn.func 112) #[] #[]] w (ZI w g cap ps):=by
 obtain ⟨gh,am,hs0,hlc,hm⟩:=h.own;unfold maxLen at hm;obtain ⟨n,hnl⟩:=ay ps.length
 rw [hnl] at hn hlc;have HL:=hid hnl;have HX:=hid (BL ps (some ⟨g,0,none⟩) ps.length cap w h.ptrs (by omega));rw [hnl] at HX ⊢;have HR:=hid h;have hgl:=h.lt;clear h am hs0 hnl;go_enter func129,ntmps129;go_wp2_with fail
 refine HX.out.mono ?_;rintro e w1 ⟨r,rfl,hb1,hr⟩;have HB1:Hid (Bo g w w1):=hid (Bo.of hb1);have HR1:=hid (HR.out.below hb1);clear hb1 HX HR;rcases hr with ⟨rfl,hall⟩ | ⟨i,rfl,hi,hnone,hall⟩
 .have HK:=hid (Gp hall);clear hall;go_wp2;go_ret;exact ⟨by rw [HK.out,HL.out]; rfl,(by rw [HK.out]; exact HR1.out),HB1.out⟩
 .have hne:decide ((i:Int) = -1)=false:=decide_eq_false (by omega);have hne2:((i:Int) == -1)=false:=by simp
  have HK:Hid (ps.take i=lJ (ps.take (i+1))):=hid (by
   rw [El (by rw [HL.out]; exact hi),hnone,xK,Gp hall];exact (List.append_nil _).symm)
  clear hall hnone;go_wp2_with fail
  go_loopw [5,6] (λvi vj wr=>∃ (k j:Nat) (qs:List (aK)),vi = .int .i64 k/\vj = .int .i64 j/\k<=j/\j<=n/\qs.length=n/\Hid (RowK wr g cap qs)/\Hid (qs.take k=lJ (ps.take j))/\Hid (qs.drop j=ps.drop j)/\Hid (Bo g w wr)) (λ_ vj _=>n-(intOf vj).toNat)
  case atStart=>exact ⟨i,i+1,ps,rfl,by go_num,by omega,by omega,HL.out,HR1,HK,hid rfl,HB1⟩
  case round =>
   obtain ⟨k,j,qs,rfl,rfl,hkj,hj,fN,fR,j2,xt,HB⟩:=hrel;clear HK HR1 HB1;have hgr:g<wr.heap.size:=fR.out.lt;by_cases hlt:j<n
   .have hji:(j:Int)<n:=by omega
    have hki:(k:Int)<n:=by omega
    have hdd:=Pe xt.out;have hc:=fR.out.cell (j:=j) (by omega);rw [hdd.1] at hc;have s7:=hid hdd.2;have HS:=hid (El (ps:=ps) (j:=j) (by rw [HL.out]; exact hlt));obtain ⟨p,hp⟩:=ay (ps.getD j none)
    rw [hp] at hc HS;have hNew:=Rg.Own.new wr #[.pointer none] 35;have HN:=hid hNew;clear hdd hp hNew;go_wp2_with (first
     | (refine aA (aU hc ⟨_,rfl,rfl⟩) ?_)
     | (refine aA (aX _ _ _ wr.heap.size rfl rfl) ?_)
     | (refine bg HN.out (by decide) p rfl _ _ rfl rfl rfl ?_; intro w5 aE bd; have bh:=hid aE; have ae:Hid (Below wr.heap.size wr w5):=hid (bd.below (al1 _ _) aG); clear aE bd)
     | (refine aA (aU (aV (j:=0) bh.out rfl) ⟨_,rfl,rfl⟩) ?_))
    refine (lQ p w5).mono ?_;rintro e w6 ⟨rfl,hb6⟩;have ap:Hid (Below wr.heap.size wr w6):=hid (bst ae.out hb6);have cf:=hid (bh.out.below hb6);have el:=hid (fR.out.below ap.out);have xv:Hid (Bo g w w6):=hid (HB.out.then ap.out);clear hb6 ae bh hc HN;cases hf:p.isNone with
    | true =>
     have ol:Hid (qs.take k=lJ (ps.take (j+1))):=hid (by rw [HS.out,xK,hf,j2.out]; simp);clear hf;go_wp2_with fail
     go_roundw
     case rel=>exact ⟨k,j+1,qs,rfl,by go_num,by omega,by omega,fN,el,ol,s7,xv⟩
     case measure=>simp [intOf]; omega
    | false =>
     have ol:Hid ((qs.set k p).take (k+1)=lJ (ps.take (j+1))):=hid (by rw [HS.out,xK,hf,CX (by omega),j2.out]; simp);have HD2:Hid ((qs.set k p).drop (j+1)=ps.drop (j+1)):=hid (by rw [List.drop_set_of_lt (by omega)]; exact s7.out);clear hf;go_wp2_with (first
      | (refine aA (aU (aV (j:=0) cf.out rfl) ⟨_,rfl,rfl⟩) ?_)
      | (refine uF el.out (i:=k) (by omega) p rfl _ _ rfl rfl rfl ?_; intro w7 fc dc; have cM:=hid fc; have sd:Hid (Bo g w w7):=hid (xv.out.upd dc); clear fc dc))
     go_roundw
     case rel=>exact ⟨k+1,j+1,qs.set k p,by go_num,by go_num,by omega,by omega,by simpa using fN,cM,ol,HD2,sd⟩
     case measure=>simp [intOf]; omega
   .obtain rfl:j=n:=by omega
    have hT:=j2.out;rw [List.take_of_length_le (l:=ps) (by rw [HL.out]; exact aG)] at hT;have hkl:(lJ ps).length=k:=by rw [<-hT,List.length_take]; omega
    have HE:=hid hT;have cm:=hid hkl;obtain ⟨cur,hO,hs,_,_⟩:=fR.out.own;have HO:=hid hO;have Gk:=hid (λ(w':World) (cur':aN) (h1:Rg.Own w' g cur' 35) (h2:cur'.size=cap) (h3:∀ j,j<k->cur'[j]? = cur[j]?)=>fR.out.cut hO (by omega) h1 h2 h3);clear hT hkl hO j2 xt fR;go_wp2_with (first
     | (refine aA (jL (a:=some ⟨g,0,none⟩) (n:=j) (c:=cap) (i:=k) nA xu hkj ⟨_,_,rfl,rfl,rfl⟩) ?_)
     | (refine aA (qR (a:=some ⟨g,0,none⟩) (n:=j) (c:=cap) (j:=k) nA xu (by omega) ⟨_,_,rfl,rfl,rfl⟩) ?_)
     | (refine Od (i:=k) (n:=j) rfl ⟨_,rfl,rfl⟩ rfl HO.out hs hkj hlc ?_; intro w8 se eh qr xw gd; have np:=hid (Gk.out w8 se eh qr xw); have sf:Hid (Bo g w w8):=hid (HB.out.upd gd); clear eh qr xw gd))
    go_ret;exact ⟨by rw [cm.out]; rfl,(by rw [<-HE.out]; exact np.out),sf.out⟩
end Tm
end
end Go.Proofs.YtoipgepkhomfgaaGreatDoor
