/-
 Contracts of node.stand, node.item, node.Put.
-/
import Derived.Test.YtokaiemgjngcoaaGreatDoorVy10
import Derived.Test.YtokaiemgjngcoaaGreatDoorVy12
open Go.Lib (hid)
open Go.Proofs.Tryz
set_option linter.unusedSimpArgs false
set_option linter.unusedVariables false
set_option maxHeartbeats 40000000
set_option maxRecDepth 100000
namespace Go.Proofs.YtokaiemgjngcoaaGreatDoor
variable {g j o:Nat} {a:Act} {w w1 w2:World} {K:Act->World->Prop} {Q:Exit->Act->World->Prop} {ops:Array Oper} {v:Value}
section
open Go.RowKit
namespace No
open Rl Ni
theorem jF (ev:Operand->Value) (o:Oper) (w:World) (b:Nat) (hb:b=w.heap.size) (ho:o.op = .alloc 96) :
  (execOp ev o).run prog w = .ok (.value (.pointer (some ⟨b,0,none⟩))) (w.alloc (.cells (itC it0 none 0 0) 96)):=by
 subst hb;unfold execOp;rw [ho];kernel_rfl
theorem CW (k:aM) (hk:k.size<=9223372036854775807) (w:World):Calls prog 102 #[.string k] w (Ab w (eD k)):=by
 obtain ⟨w2,hw2⟩:=ay (w.alloc (.cells (itC it0 none 0 0) 96))
 have hO:Rg.Own w2 w.heap.size (itC it0 none 0 0) 96:=by rw [hw2]; exact Rg.Own.new _ _ _
 have HB2:Hid (Below w.heap.size w w2):=hid (by rw [hw2]; exact al1 _ _);have HO:=hid hO;have HP:=hid (wM k w2);cases hp:dH k with
 | true =>
  rw [lZ hp];rw [hp] at HP;have HT:=hid (kW k w2);clear hO hp;subst hw2;go_enter func102,ntmps102;go_wp2_with (refine aB (jF _ _ _ w.heap.size rfl rfl) ?_)
  refine HP.out.mono ?_;rintro e w3 ⟨rfl,rfl⟩;go_wp2_with fail
  refine HT.out.mono ?_;rintro e w4 ⟨rfl,hb4⟩;have cS:=hid (HO.out.below hb4);have co:=hid (bst HB2.out hb4);clear hb4;go_wp2_with (refine aZ cS.out (.mk false k []) none 0 0 rfl _ _ rfl rfl rfl rfl ?_)
  exact bodyPost_ret (oh rfl _ rfl (dB (dX cS.out).2)) rfl ⟨none,0,0,rfl,bP.nil _ _,bI co.out aH _⟩
 | false =>
  rw [hp] at HP;have HR:Hid (eD k=match dJ k.data.toList with | .ok x=>x | .error _=>it0):=hid (by unfold eD; rw [hp]; rfl);have HW:=hid (Cb k hk w2);have hcases:Hid (∀ e w',pV w2 (dJ k.data.toList) e w'->∃ (c:Int) (a:aL) (nn cap:Nat),e = .returned (.tuple #[itV (eD k) a nn cap,.int .i64 c])/\bP w2.heap.size w' (eD k).xs a nn cap/\Below w2.heap.size w2 w'):=hid (by
   intro e w' h;rw [HR.out];cases hw:dJ k.data.toList with
   | error c =>
    rw [hw] at h;obtain ⟨rfl,hb⟩:=h;exact ⟨c,none,0,0,rfl,bP.nil _ _,hb⟩
   | ok x =>
    rw [hw] at h;obtain ⟨a,nn,cap,rfl,hI,hb⟩:=h;exact ⟨0,a,nn,cap,rfl,hI,hb⟩)
  obtain ⟨x,hx⟩:=aA (eD k)
  rw [hx] at hcases ⊢;clear hO hp HR hx;subst hw2;go_enter func102,ntmps102;go_wp2_with (refine aB (jF _ _ _ w.heap.size rfl rfl) ?_)
  refine HP.out.mono ?_;rintro e w3 ⟨rfl,rfl⟩;go_wp2_with fail
  refine HW.out.mono ?_;intro e w4 hpost;obtain ⟨c,a,nn,cap,rfl,hI,hb4⟩:=hcases.out e w4 hpost;have cS:=hid (HO.out.below hb4);have co:=hid (bst HB2.out hb4);have HI4:=hid hI;have s8:Hid (Rg.Own (w4.alloc (.cells (itC it0 none 0 0) 96)) w4.heap.size (itC it0 none 0 0) 96):=hid (Rg.Own.new _ _ _);have iv:=hid (dX (cs':=itC x a nn cap) s8.out);have eV:Below w4.heap.size w4 ((w4.alloc (.cells (itC it0 none 0 0) 96)).setRow w4.heap.size (itC x a nn cap)):=bI (al1 _ _) aH _;have cf:=hid (cS.out.below eV)
  have al:=hid (bst co.out eV);have G4:=hid (HI4.out.stays eV);clear hpost hI hb4 hcases HP HW eV;go_wp2_with (first
   | (refine aB (jF _ _ _ w4.heap.size rfl rfl) ?_)
   | (refine aZ s8.out x a nn cap rfl _ _ rfl rfl rfl rfl ?_)
   | (refine aB (bY iv.out ?_) ?_; · exact ⟨_,rfl,rfl⟩)
   | (refine aZ cf.out x a nn cap rfl _ _ rfl rfl rfl rfl ?_))
  exact bodyPost_ret (oh rfl _ rfl (dB (dX cf.out).2)) rfl ⟨a,nn,cap,rfl,bP.weak (jG G4.out (by simp) _) (by simp),bI al.out aH _⟩
theorem FN (a:aL) (n c:Nat) (l:aN) (leaf:Bool) (hn:n<=64) (hr:dx l=true) (w:World) (h:bf w a n c l) :
  Calls prog 104 #[.slice a n c,.bool leaf] w λe w'=>e = .returned (.tuple #[.string ⟨(fG l leaf).toArray⟩,.int .i64 0])/\Below w.heap.size w w':=by
 by_cases h2:n%2=0
 .exact MZ a n c l leaf hn h2 hr w h
 .cases a with
  | none =>
   obtain ⟨rfl,_,_⟩:=h.Ej;exact absurd rfl h2
  | some ad =>
   obtain ⟨b,off,e,_,_⟩:=h.at' 0 (by omega);obtain rfl:=Option.some.inj e;exact Qg b off n c l leaf hn (by omega) hr w h
theorem ET {o:Oper} {x y:It} {A D:aL} {An Ac Dn Dc:Nat} (hw:Region.wanted o (yielded ops a.tmps)=true)
  (ho:∃ p q,o.op = .buildSlice 94 2 #[(0,p),(1,q)]/\a.eval p = .agg #[.bool x.l,.string x.s,.slice A An Ac]/\a.eval q = .agg #[.bool y.l,.string y.s,.slice D Dn Dc])
  (h:∀ w' b,Rg.Own w' b #[.bool x.l,.string x.s,.slice A An Ac,.bool y.l,.string y.s,.slice D Dn Dc] 96->Below w.heap.size w w'->K (a.put o.dst (.slice (some ⟨b,0,none⟩) 2 2)) w'):if Region.wanted o (yielded ops a.tmps)=true then Oper.wp prog o a w K Q else K (a.put o.dst undef) w:=by
 obtain ⟨p,q,ho,hp,hq⟩:=ho;obtain ⟨i0,hi,hz,hs,hby⟩:=info_parts xQ;refine Rg.want hw (wp_buildSlice 94 96 2 _ ho #[.bool x.l,.string x.s,.slice A An Ac,.bool y.l,.string y.s,.slice D Dn Dc] i0 _ underlying94 hi hz (by rw [hs]; decide) (by rw [hs]; decide) ?_ (h _ _ (Rg.Own.new _ _ _) (al1 _ _)));simp only [List.map_toArray,List.map_cons,List.map_nil,hp,hq,hs];kernel_rfl
def SI (w:World) (o:Nat) (v:Value) (w':World):Prop:=w'.cell? ⟨w.heap.size,o,none⟩=some v/\(∃ cs:aO,cs.size=3/\Rg.Own w' (w.heap.size+1) cs 96)/\Below w.heap.size w w'
theorem SI.lt (h:SI w o v w1):w.heap.size+1<w1.heap.size:=by
 obtain ⟨_,⟨_,_,h⟩,_⟩:=h;exact h.1
theorem SI.keep (h:SI w o v w1) (hb:Below w1.heap.size w1 w2):SI w o v w2:=by
 have hlt:=h.lt;obtain ⟨h0,⟨cs,hcs,h1⟩,h2⟩:=h;exact ⟨(Below.cell (p:=⟨w.heap.size,o,none⟩) hb (by show w.heap.size<w1.heap.size; omega)).trans h0,⟨cs,hcs,h1.below hb⟩,bst h2 hb⟩
theorem tQ (w:World) (N:Nd) (a:aL) (n c:Nat):∃ w2,w2=(w.alloc (.cells (ndC N a n c) 67)).alloc (.cells (itC it0 none 0 0) 96)/\dL w2 w.heap.size N a n c/\Rg.Own w2 (w.heap.size+1) (itC it0 none 0 0) 96/\Below w.heap.size w w2/\w2.heap.size=w.heap.size+2:=by
 refine ⟨_,rfl,(Rg.Own.new _ _ _).below (al1 _ _),?_,al2 _ _ _,by simp⟩;have:=Rg.Own.new (w.alloc (.cells (ndC N a n c) 67)) (itC it0 none 0 0) 96;simpa using this
theorem Ar (w:World) (o:Obj):(w.alloc o).heap.size=w.heap.size+1:=by simp
theorem NJ (N:Nd) (a:aL) (n c:Nat) (_hl:N.ks.length=16) (w:World) (hB:bf w a n c N.p) (hm:dN bJ N=true) (hkd:N.kd=1):Calls prog 61 #[.agg (ndC N a n c)] w (Ab w (gN N)):=by
 obtain ⟨m1,m2,_⟩:=jH hm;have fb:n<=64:=by rw [<-hB.len]; exact m1
 obtain ⟨w2,hw2,hN,hO,fd,hs2⟩:=tQ w N a n c;have cW:=hid (FN a n c N.p (decide (N.kd=1)) fb m2 w2 (hB.below fd));have HI:Hid (gN N = .mk true ⟨#[]⟩ [.mk false ⟨(fG N.p (decide (N.kd=1))).toArray⟩ [],.mk false N.v []]):=hid (by unfold gN cB nX; rw [if_neg (by omega),if_pos hkd]);rw [HI.out];clear HI;obtain ⟨S,hS⟩:=aA (⟨(fG N.p (decide (N.kd=1))).toArray⟩:aM)
 rw [hS] at cW ⊢;rw [hkd] at cW;rw [show decide ((1:Int)=1)=true by decide] at cW;obtain ⟨c0,c1,c2⟩:=eF hN;rw [hkd] at c0;have yd:=hid hkd;have HO:=hid hO;have HN:=hid hN;have HB:=hid fd;clear hO hN fd hB hm m1 m2 hS hkd;subst hw2;go_enter func61,ntmps61;go_wp2_with (refine aB (jF _ _ _ (w.heap.size+1) (Ar _ _).symm rfl) ?_)
 refine cW.out.mono ?_;rintro e w5 ⟨rfl,hb5⟩;have cf:=hid (HO.out.below hb5);have al:=hid (bst HB.out hb5);have im:=HN.out.below hb5;obtain ⟨c0,c1,c2⟩:=eF im;clear hb5 im cW;rw [yd.out] at c0;go_wp2_with fail
 refine aD (S:=SI w 2 (.string N.v)) (⟨c2,⟨_,rfl,cf.out.drew⟩,al.out.drew⟩) λhld=>?_;refine aj 0 ?_;try simp only [Act.put,au]
 refine aj 2 ?_;try simp only [Act.put,au]
 refine aj 3 ?_ (hy:=by intro wz hSw; (have q0:=hSw.1; go_simp <;> with_reducible rfl));try simp only [Act.put,au]
 refine ak 1 λK hK=>?_;go_simp;go_at_call 105
 (with_reducible refine (kW S _).mono ?_)
 rintro e s9 ⟨rfl,hbx⟩;refine hK.out _ _ (SI.keep hld hbx) λhld=>?_;clear hK K hbx;try simp only [Act.put,au]
 refine ak 4 λK hK=>?_;go_simp;go_at_call 105
 (with_reducible refine (kW N.v _).mono ?_)
 rintro e zv ⟨rfl,hbx⟩;refine hK.out _ _ (SI.keep hld hbx) λhld=>?_;clear hK K hbx;try simp only [Act.put,au]
 refine ak 5 λK hK=>?_;refine ET (x:=.mk false S []) (y:=.mk false N.v []) (by rfl) ⟨_,_,rfl,rfl,rfl⟩ ?_;rintro J5 g5 h5 hbx;refine hK.out _ _ (SI.keep hld hbx) λhld=>?_;clear hK K hbx;try simp only [Act.put,au]
 refine ak 6 λK hK=>?_;have eo:=hid (zu [.mk false S [],.mk false N.v []] _ _ _ _ (LW h5 (Ey _ (.mk false S []) rfl) (Ey _ (.mk false N.v []) rfl)));go_simp;go_at_call 103
 (with_reducible refine eo.out.mono ?_)
 rintro e X9 ⟨la,ln,lc,rfl,pw,hbx⟩;replace pw:=bP.weak (B':=w.heap.size+2) pw (by have:=hld.lt; omega);refine hK.out _ _ (SI.keep hld hbx) λhld=>?_;clear hK K hbx eo;try simp only [Act.put,au]
 refine ak 7 λK hK=>?_;obtain ⟨cs,hcs,hOr⟩:=hld.2.1;refine Rg.meetStore (by rfl) hOr 96 (itC (.mk true ⟨#[]⟩ [.mk false S [],.mk false N.v []]) la ln lc) ⟨_,_,rfl,rfl,rfl⟩ (gV _ _ _ _) (by rw [hcs]; rfl) (jl _ _ _ _) ?_;rintro wz hn hu;have nl:Below w.heap.size w wz:=hu.below hld.2.2 (by omega);have mt:=bP.kept pw (by rw [hu.size]; exact aH) (λb o hB _=>World.cell?_of_block (hu.block b (by omega)));have hcz:=(World.cell?_of_block (a:=⟨w.heap.size,2,none⟩) (hu.block w.heap.size (by omega))).trans hld.1
 refine hK.out _ _ (⟨hcz,⟨_,rfl,hn⟩,nl⟩) λhld=>?_;clear hK K;try simp only [Act.put]
 refine aC ?_;go_wp2;exact bodyPost_ret (oh rfl _ rfl (dB hn.2)) rfl ⟨la,ln,lc,rfl,bP.weak mt (by omega),nl⟩
theorem Sv (N:Nd) (a:aL) (n c:Nat) (hl:N.ks.length=16) (w:World) (hB:bf w a n c N.p) (hm:dN bJ N=true) (hkd:N.kd=2) (hks:(N.ks.getD 0 eB).size<=100):Calls prog 61 #[.agg (ndC N a n c)] w (Ab w (gN N)):=by
 obtain ⟨m1,m2,_⟩:=jH hm;have fb:n<=64:=by rw [<-hB.len]; exact m1
 obtain ⟨w2,hw2,hN,hO,fd,hs2⟩:=tQ w N a n c;have cW:=hid (FN a n c N.p (decide (N.kd=1)) fb m2 w2 (hB.below fd));have HI:Hid (gN N = .mk true ⟨#[]⟩ [.mk false ⟨(fG N.p (decide (N.kd=1))).toArray⟩ [],eD (N.ks.getD 0 eB)]):=hid (by unfold gN cB nX; rw [if_neg (by omega),if_neg (by omega)]);rw [HI.out];clear HI;obtain ⟨S,hS⟩:=aA (⟨(fG N.p (decide (N.kd=1))).toArray⟩:aM)
 rw [hS] at cW ⊢;rw [hkd] at cW;rw [show decide ((2:Int)=1)=false by decide] at cW;obtain ⟨c0,c1,c2⟩:=eF hN;rw [hkd] at c0;have yd:=hid hkd;have J6:=hid hl;have e9:=hid (λw=>CW (N.ks.getD 0 eB) (by omega) w);obtain ⟨X,hX⟩:=aA (eD (N.ks.getD 0 eB))
 rw [hX] at e9 ⊢;obtain ⟨k,hk⟩:=aA (N.ks.getD 0 eB)
 rw [hk] at e9;have Hk:=hid hk;clear hX hk hks;have HO:=hid hO;have HN:=hid hN;have HB:=hid fd;clear hO hN fd hB hm m1 m2 hS hkd;subst hw2;go_enter func61,ntmps61;go_wp2_with (refine aB (jF _ _ _ (w.heap.size+1) (Ar _ _).symm rfl) ?_)
 refine cW.out.mono ?_;rintro e w5 ⟨rfl,hb5⟩;have cf:=hid (HO.out.below hb5);have al:=hid (bst HB.out hb5);have im:=HN.out.below hb5;obtain ⟨c0,c1,c2⟩:=eF im;have ck:w5.cell? ⟨w.heap.size,3,none⟩=some (.string k):=by rw [<-Hk.out]; exact mG im J6.out 0 (by decide)
 clear hb5 im cW;rw [yd.out] at c0;go_wp2_with fail
 refine aD (S:=SI w 3 (.string k)) (⟨ck,⟨_,rfl,cf.out.drew⟩,al.out.drew⟩) λhld=>?_;refine aj 0 ?_;try simp only [Act.put,au]
 refine aj 2 ?_;try simp only [Act.put,au]
 refine aj 3 ?_;try simp only [Act.put,au]
 refine aj 4 ?_ (hy:=by intro wz hSw; (have q0:=hSw.1; go_simp <;> with_reducible rfl));try simp only [Act.put,au]
 refine ak 1 λK hK=>?_;go_simp;go_at_call 105
 (with_reducible refine (kW S _).mono ?_)
 rintro e s9 ⟨rfl,hbx⟩;refine hK.out _ _ (SI.keep hld hbx) λhld=>?_;clear hK K hbx;try simp only [Act.put,au]
 refine ak 5 λK hK=>?_;go_simp;go_at_call 102
 (with_reducible refine (e9.out _).mono ?_)
 rintro e zv ⟨kA,kN,kC,rfl,zz,hbx⟩;replace zz:=bP.weak (B':=0) zz (Nat.zero_le _);refine hK.out _ _ (SI.keep hld hbx) λhld=>?_;clear hK K hbx;try simp only [Act.put,au]
 refine ak 6 λK hK=>?_;refine ET (x:=.mk false S []) (y:=X) (by rfl) ⟨_,_,rfl,rfl,rfl⟩ ?_;rintro J5 g5 h5 hbx;replace zz:=iE.stays zz hbx;refine hK.out _ _ (SI.keep hld hbx) λhld=>?_;clear hK K hbx;try simp only [Act.put,au]
 refine ak 7 λK hK=>?_;have eo:=hid (zu [.mk false S [],X] _ _ _ _ (LW h5 (Ey _ (.mk false S []) rfl) zz));go_simp;go_at_call 103
 (with_reducible refine eo.out.mono ?_)
 rintro e X9 ⟨la,ln,lc,rfl,pw,hbx⟩;replace pw:=bP.weak (B':=w.heap.size+2) pw (by have:=hld.lt; omega);refine hK.out _ _ (SI.keep hld hbx) λhld=>?_;clear hK K hbx eo;try simp only [Act.put,au]
 refine ak 8 λK hK=>?_;obtain ⟨cs,hcs,hOr⟩:=hld.2.1;refine Rg.meetStore (by rfl) hOr 96 (itC (.mk true ⟨#[]⟩ [.mk false S [],X]) la ln lc) ⟨_,_,rfl,rfl,rfl⟩ (gV _ _ _ _) (by rw [hcs]; rfl) (jl _ _ _ _) ?_;rintro wz hn hu;have nl:Below w.heap.size w wz:=hu.below hld.2.2 (by omega);have mt:=bP.kept pw (by rw [hu.size]; exact aH) (λb o hB _=>World.cell?_of_block (hu.block b (by omega)));have hcz:=(World.cell?_of_block (a:=⟨w.heap.size,3,none⟩) (hu.block w.heap.size (by omega))).trans hld.1
 refine hK.out _ _ (⟨hcz,⟨_,rfl,hn⟩,nl⟩) λhld=>?_;clear hK K;try simp only [Act.put]
 refine aC ?_;go_wp2;exact bodyPost_ret (oh rfl _ rfl (dB hn.2)) rfl ⟨la,ln,lc,rfl,bP.weak mt (by omega),nl⟩
def cellV (q:It × aL × Nat × Nat) (k:Nat):Value:=if k=0 then .bool q.1.l else if k=1 then .string q.1.s else .slice q.2.1 q.2.2.1 q.2.2.2
def Nc (V:Nat->It × aL × Nat × Nat) (i:Nat):Value:=cellV (V (i/3)) (i%3)
abbrev z4:It × aL × Nat × Nat:=(it0,none,0,0)
def BP:aO:=((List.range 51).map (Nc λ_=>z4)).toArray
theorem BJ (ev:Operand->Value) (o:Oper) (w:World) (b:Nat) (hb:b=w.heap.size) (ho:o.op = .alloc 169) :
  (execOp ev o).run prog w = .ok (.value (.pointer (some ⟨b,0,none⟩))) (w.alloc (.cells BP 169)):=by
 subst hb;unfold execOp;rw [ho];kernel_rfl
def uy (w:World) (g:Nat) (ks:List aM) (j:Nat):Prop:=∃ V:Nat->It × aL × Nat × Nat,w.rowIs g 169 51 (Nc V)/\
 (∀ i,i<j->(V i).1=eD (ks.getD i eB)/\bP (g+1) w (V i).1.xs (V i).2.1 (V i).2.2.1 (V i).2.2.2)/\∀ i,j<=i->V i=z4
theorem uy.start (w:World) (ks:List aM):uy (w.alloc (.cells BP 169)) w.heap.size ks 0:=by
 refine ⟨λ_=>z4,?_,λi hi=>absurd hi (Nat.not_lt_zero _),λ_ _=>rfl⟩;have hs:BP.size=51:=by simp [BP]
 rw [<-hs];refine World.rowIs_alloc w BP _ _ (λi hi=>?_);rw [hs] at hi;simp [BP,hi]
theorem uy.lt {w:World} {g j:Nat} {ks:List aM} (h:uy w g ks j):g<w.heap.size:=by
 obtain ⟨V,hr,_⟩:=h;exact hr.lt
theorem uy.keep {w':World} {ks:List aM} (h:uy w g ks j) (hb:Below w.heap.size w w'):uy w' g ks j:=by
 obtain ⟨V,hr,h1,h2⟩:=h;exact ⟨V,hr.of_block (hb.block g hr.lt),λi hi=>⟨(h1 i hi).1,bP.kept (h1 i hi).2 hb.size (λb o _ hlt=>hb.cell (p:=⟨b,o,none⟩) hlt)⟩,h2⟩
theorem vN (w:World) (b o:Nat) (v:Value):Rg.Upd w b (w.setCell ⟨b,o,none⟩ v):=⟨rfl,rfl,rfl,by simp [World.setCell],λk hk=>Below.heap_setCell _ _ _ _ hk⟩
theorem nJ {b:Nat} (h:Rg.Upd w b w1) (h2:Rg.Upd w1 b w2):Rg.Upd w b w2 :=
 ⟨h2.os.trans h.os,h2.tape.trans h.tape,h2.output.trans h.output,h2.size.trans h.size,λk hk=>(h2.block k hk).trans (h.block k hk)⟩
theorem uy.step {ks:List aM} (h:uy w g ks j) (hj:j<16) {A:aL} {N C:Nat} (hI:bP (g+1) w (eD (ks.getD j eB)).xs A N C) :
  uy (w.setCells g (j*3) (itC (eD (ks.getD j eB)) A N C).toList) g ks (j+1)/\Rg.Upd w g (w.setCells g (j*3) (itC (eD (ks.getD j eB)) A N C).toList)/\w.there g (j*3) (itC (eD (ks.getD j eB)) A N C).size:=by
 obtain ⟨V,hr,h1,h2⟩:=h;have hu:Rg.Upd w g (w.setCells g (j*3) (itC (eD (ks.getD j eB)) A N C).toList):=nJ (nJ (vN w g (j*3) _) (vN _ g (j*3+1) _)) (vN _ g (j*3+1+1) _);refine ⟨⟨λi=>if i=j then (eD (ks.getD j eB),A,N,C) else V i,?_,λi hi=>?_,λi hi=>?_⟩,hu,λi hi=>?_⟩
 .have h3:(w.setCells g (j*3) (itC (eD (ks.getD j eB)) A N C).toList).rowIs g 169 51 _:=((hr.set (j*3) (.bool (eD (ks.getD j eB)).l)).set (j*3+1) (.string (eD (ks.getD j eB)).s)).set (j*3+1+1) (.slice A N C);refine h3.congr (λi hi=>?_);unfold Nc;dsimp only;by_cases hij:i/3=j
  .rw [if_pos hij];unfold cellV;by_cases e2:i=j*3+1+1
   .rw [if_pos e2,if_neg (by omega),if_neg (by omega)]
   .rw [if_neg e2];by_cases e1:i=j*3+1
    .rw [if_pos e1,if_neg (by omega),if_pos (by omega)]
    .rw [if_neg e1,if_pos (by omega),if_pos (by omega)]
  .rw [if_neg hij,if_neg (by omega),if_neg (by omega),if_neg (by omega)]
 .dsimp only;by_cases hij:i=j
  .subst hij;rw [if_pos rfl];exact ⟨rfl,bP.kept hI (by rw [hu.size]; exact aH) (λb o hB _=>World.cell?_of_block (hu.block b (by omega)))⟩
  .rw [if_neg hij];obtain ⟨e1,e2⟩:=h1 i (by omega);exact ⟨e1,bP.kept e2 (by rw [hu.size]; exact aH) (λb o hB _=>World.cell?_of_block (hu.block b (by omega)))⟩
 .dsimp only;rw [if_neg (by omega)];exact h2 i (by omega)
 .have h3:(itC (eD (ks.getD j eB)) A N C).size=3:=rfl;rw [h3] at hi;exact ⟨by rw [hr.cell (by omega)]; rfl,hr.frozen _⟩
theorem uy.done {ks:List aM} (h:uy w g ks 16) (hl:ks.length=16):gZ w (ks.map eD++[it0]) (some ⟨g,0,none⟩) 17 17:=by
 obtain ⟨V,hr,h1,h2⟩:=h;have hV:∀ (j:Nat) (x:It),(ks.map eD++[it0])[j]? = some x->j<17/\(V j).1=x/\gZ w x.xs (V j).2.1 (V j).2.2.1 (V j).2.2.2:=by
  intro j x hx;by_cases hj:j<16
  .rw [List.getElem?_append_left (by simp [hl]; omega),List.getElem?_map,List.getElem?_eq_getElem (by omega),Option.map_some] at hx;obtain ⟨e1,e2⟩:=h1 j hj;have e:ks.getD j eB=ks[j]:=by simp [List.getD,hl,hj]
   have hxe:(V j).1=x:=by rw [e1,e]; exact Option.some.inj hx
   rw [hxe] at e2;exact ⟨by omega,hxe,bP.weak e2 (Nat.zero_le _)⟩
  .rw [List.getElem?_append_right (by simp [hl]; omega)] at hx;have J7:j=16:=by
    have:=(List.getElem?_eq_some_iff.1 hx).1;simp [hl] at this;omega
   subst J7;simp [hl] at hx;subst hx;rw [h2 16 aH];exact ⟨by omega,rfl,bP.nil _ _⟩
 refine iE.mk (λj=>(V j).2.1) (λj=>(V j).2.2.1) (λj=>(V j).2.2.2) (by simp [hl]) aH (by unfold maxLen; omega) (by omega) (λe=>by cases e) (λj x hx=>?_) (λj x hx=>(hV j x hx).2.2);obtain ⟨hj,hxe,_⟩:=hV j x hx;refine ⟨g,0,rfl,Nat.zero_le _,hr.lt,?_⟩;rw [Nat.zero_add];refine ⟨?_,?_,?_⟩
 .rw [hr.cell (by omega)];unfold Nc cellV;rw [show j*3/3=j by omega,if_pos (by omega),hxe]
 .rw [hr.cell (by omega)];unfold Nc cellV;rw [show (j*3+1)/3=j by omega,if_neg (by omega),if_pos (by omega),hxe]
 .rw [hr.cell (by omega)];unfold Nc cellV;rw [show (j*3+2)/3=j by omega,if_neg (by omega),if_neg (by omega)]
theorem Im (N:Nd) (a:aL) (n c:Nat) (hl:N.ks.length=16) (w:World) (hkd:N.kd=3) (hks:∀ k∈N.ks,k.size<=100):Calls prog 61 #[.agg (ndC N a n c)] w (Ab w (gN N)):=by
 obtain ⟨w2,hw2,hN,hO,fd,hs2⟩:=tQ w N a n c;have HI:Hid (gN N = .mk true ⟨#[]⟩ (N.ks.map eD++[it0])):=hid (by unfold gN cB; rw [if_pos hkd]);rw [HI.out];clear HI;have io:Hid (uy (w2.alloc (.cells BP 169)) (w.heap.size+2) N.ks 0):=hid (by rw [<-hs2]; exact uy.start w2 N.ks);have Rc:Hid (dL (w2.alloc (.cells BP 169)) w.heap.size N a n c):=hid (hN.below (al1 _ _));have zE:Hid (Rg.Own (w2.alloc (.cells BP 169)) (w.heap.size+1) (itC it0 none 0 0) 96):=hid (hO.below (al1 _ _))
 have HB0:Hid (Below w.heap.size w (w2.alloc (.cells BP 169))):=hid (bst fd (al1 _ _));obtain ⟨c0,c1,c2⟩:=eF hN;rw [hkd] at c0;have HL:=hid hl;have Xs:=hid hks;have Xz:=hid hs2;clear hN hO fd hks hkd hs2 hl;subst hw2;go_enter func61,ntmps61;go_wp2_with (first
  | (refine aB (jF _ _ _ (w.heap.size+1) (Ar _ _).symm rfl) ?_)
  | (refine aB (BJ _ _ _ (w.heap.size+2) Xz.out.symm rfl) ?_)
  | (refine aB (uG Rc.out HL.out ⟨_,rfl,rfl⟩) ?_))
 go_loopw [13] (λi wr=>∃ j:Nat,j<=16/\i = .int .i64 j/\Hid (uy wr (w.heap.size+2) N.ks j)/\Hid (Rg.Own wr (w.heap.size+1) (itC it0 none 0 0) 96)/\Hid (Below w.heap.size w wr)) (λi _=>16-(intOf i).toNat)
 case atStart=>exact ⟨0,Nat.zero_le _,rfl,io,zE,HB0⟩
 case round =>
  obtain ⟨j,hj,rfl,HR,HO,HB⟩:=hrel;clear io zE HB0 Rc;by_cases hlt:j<16
  .have e9:=hid (CW (N.ks.getD j eB) (by
    have:=Xs.out (N.ks.getD j eB) (by rw [List.getD_eq_getElem?_getD,List.getElem?_eq_getElem (by rw [HL.out]; exact hlt)]; exact List.getElem_mem _);omega) wr)
   go_wp2_with (refine Rg.run rfl (.string (N.ks.getD j eB)) _ (kS HL.out hlt ⟨_,_,rfl,rfl,rfl⟩) ?_)
   refine e9.out.mono ?_;rintro e w5 ⟨A,M,C,rfl,hI,hb5⟩;have XA:=HR.out.lt;have hst:=(HR.out.keep hb5).step hlt (bP.weak (B':=w.heap.size+2+1) hI (by omega));have HS:=hid hst;have cf:=hid (HO.out.below hb5);have al:=hid (bst HB.out hb5);obtain ⟨x,hx⟩:=aA (eD (N.ks.getD j eB))
   rw [hx] at HS ⊢;clear hI hb5 hst e9 HO HB HR hx;go_wp2_with (refine wpList_store_mid rfl 96 _ _ rfl (w.heap.size+2) (j*3) (itC x A M C) rfl rfl HS.out.2.2 (gV _ _ _ _) (jl _ _ _ _) ?_)
   go_roundw
   case rel=>exact ⟨j+1,by omega,by go_num,hid HS.out.1,hid (cf.out.upd HS.out.2.1 (by omega)),hid (HS.out.2.1.below al.out (by omega))⟩
   case measure=>simp [intOf]; omega
  .obtain rfl:j=16:=by omega
   have eo:=hid (zu _ _ _ _ _ (HR.out.done HL.out));obtain ⟨xs,hxs⟩:=aA (N.ks.map eD++[it0])
   rw [hxs] at eo;have HX:=hid hxs;clear hxs;go_wp2_with fail
   refine eo.out.mono ?_;rintro e w6 ⟨la,ln,lc,rfl,pw,hb6⟩;have cG:=hid (HO.out.below hb6);have bd:=hid (bst HB.out hb6);have hs6:=HO.out.1;have J8:=hid pw;clear pw hb6 eo;go_wp2_with (refine aZ cG.out (.mk true ⟨#[]⟩ xs) la ln lc rfl _ _ rfl rfl rfl rfl ?_)
   exact bodyPost_ret (oh rfl _ rfl (dB (dX cG.out).2)) rfl ⟨la,ln,lc,by rw [HX.out],by rw [HX.out]; exact bP.weak (jG J8.out (by omega) _) (by omega),bI bd.out (by omega) _⟩
end No
end
end Go.Proofs.YtokaiemgjngcoaaGreatDoor
