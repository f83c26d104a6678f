/-
 Contracts of node.Put and of the plain answer's Put.
-/
import Derived.Test.YtokaiemgjngcoaaGreatDoorVy13
import Derived.Test.YtokaiemgjngcoaaGreatDoorVy11
open Go.Lib (hid)
open Go.Proofs.Tryz
set_option linter.unusedSimpArgs false
set_option linter.unusedVariables false
set_option maxHeartbeats 40000000
set_option maxRecDepth 100000
namespace Go.Proofs.YtokaiemgjngcoaaGreatDoor
variable {k r:aM} {L c d j kn n:Nat} {a pa:aL} {w w':World} {o:Oper} {K:Act->World->Prop} {Q:Exit->Act->World->Prop} {ops:Array Oper} {t:TypeId} {act:Act} {ev:Operand->Value}
section
open Go.RowKit
namespace No
open Rl Ni
theorem QO (N:Nd) (a:aL) (n c:Nat) (hl:N.ks.length=16) (w:World) (hB:bf w a n c N.p) (hm:dN bJ N=true) (hks:∀ k∈N.ks,k.size<=100):Calls prog 61 #[.agg (ndC N a n c)] w (Ab w (gN N)):=by
 rcases fM hl hm with ⟨k1,_⟩ | ⟨k1,_⟩ | ⟨k1,_⟩
 .exact NJ N a n c hl w hB hm k1
 .exact Sv N a n c hl w hB hm k1 (hks _ (by rw [List.getD_eq_getElem?_getD,List.getElem?_eq_getElem (by omega)]; exact List.getElem_mem _))
 .exact Im N a n c hl w k1 hks
def VP (N:Nd):Value:=.tuple #[.string (if dN bJ N then ⟨(gU N).toArray⟩ else eB),.int .i64 (if dN bJ N then 0 else 2)]
theorem FY (N:Nd) (a:aL) (n c:Nat) (hl:N.ks.length=16) (w:World) (hB:bf w a n c N.p) (hv:N.v.size<=maxLen) (hks:∀ k∈N.ks,k.size<=100) :
  Calls prog 32 #[.agg (ndC N a n c)] w λe w'=>e = .returned (VP N)/\Below w.heap.size w w':=by
 obtain ⟨w2,hw2⟩:=ay (w.alloc (.cells (ndC N a n c) 67))
 have hO:dL w2 w.heap.size N a n c:=by rw [hw2]; exact Rg.Own.new _ _ _
 have fd:Below w.heap.size w w2:=by rw [hw2]; exact al1 _ _
 have HC:=hid (sG N a n c hl w2 (hB.below fd) hv (λk hk=>oI k (by have:=hks k hk; omega)));have G5:Hid (dN bJ N=true->∀ w',Below w.heap.size w w'->Calls prog 61 #[.agg (ndC N a n c)] w' (Ab w' (gN N))):=hid (λhm w' hb=>QO N a n c hl w' (hB.below hb) hm hks);have HF:Hid (dN bJ N=true->Fits 0 (gN N)/\(gN N).size<=4096/\(gN N).bytes.length<=1099511627776):=hid (λhm=>by
  obtain ⟨f1,f2,f3,_⟩:=Df hl hm;exact ⟨f1,f3,by omega⟩)
 have HO:=hid hO;have iz:=hid fd;have HL:=hid hl;unfold VP;obtain ⟨M,hM⟩:=aA (dN bJ N)
 rw [hM] at HC G5 HF ⊢;clear hO fd hB hks hv hl hM;unfold gU;obtain ⟨X,hX⟩:=aA (gN N)
 rw [hX] at G5 HF ⊢;clear hX;subst hw2;cases M with
 | false =>
  go_enter func32,ntmps32;go_wp2_with (refine aB (bH HO.out HL.out ?_) ?_; · exact ⟨_,rfl,rfl⟩)
  refine HC.out.mono ?_;rintro e w3 ⟨rfl,hb3⟩;have HB3:=hid (bst iz.out hb3);clear hb3;go_wp2;go_ret2
  exact ⟨rfl,HB3.out⟩
 | true =>
  go_enter func32,ntmps32;go_wp2_with (refine aB (bH HO.out HL.out ?_) ?_; · exact ⟨_,rfl,rfl⟩)
  refine HC.out.mono ?_;rintro e w3 ⟨rfl,hb3⟩;have ce:=hid (HO.out.below hb3);have HB3:=hid (bst iz.out hb3);have HI3:=hid (G5.out (by first | rfl | trivial) w3 HB3.out);clear hb3 HC G5;go_wp2_with (refine aB (bH ce.out HL.out ?_) ?_; · exact ⟨_,rfl,rfl⟩)
  refine HI3.out.mono ?_;rintro e w4 ⟨la,ln,lc,rfl,hI,hb4⟩;have co:=hid (bst HB3.out hb4);have XE:=hid (yH X w4 (itV X la ln lc) ⟨la,ln,lc,rfl,bP.weak hI (Nat.zero_le _)⟩ (HF.out (by first | rfl | trivial)).1 (HF.out (by first | rfl | trivial)).2.1 (HF.out (by first | rfl | trivial)).2.2);clear hI hb4 HI3;go_wp2_with fail
  refine XE.out.mono ?_;rintro e w5 ⟨rfl,hb5⟩;have al:=hid (bst co.out hb5);clear hb5;go_wp2;go_ret2
  exact ⟨rfl,al.out⟩
theorem sH (k:aM) (hk:k.size<=4294967286) (w:World):Calls prog 66 #[.string k] w λe w'=>e = .returned (.string ⟨(It.mk false k []).bytes.toArray⟩)/\Below w.heap.size w w':=by
 have hT:=λw=>Iz (.mk false k []) 0 w (itV (.mk false k []) none 0 0) ⟨none,0,0,rfl,bP.nil _ _⟩ (pF 0 (by omega) k) (by have:=rz k (by omega); omega);unfold itV at hT;dsimp only [It.l,It.s] at hT;have HT:=hid hT;clear hT;obtain ⟨B,hB⟩:=aA (⟨(It.mk false k []).bytes.toArray⟩:aM)
 rw [hB] at HT ⊢;clear hB;go_enter func66,ntmps66;go_wp2_with fail
 refine (HT.out _).mono ?_;rintro e w3 ⟨rfl,hb3⟩;have HB:=hid hb3;clear hb3;go_wp2;go_ret;exact ⟨rfl,HB.out⟩
theorem JX (h:bJ k=true) (hp:dH k=false):(⟨(eD k).bytes.toArray⟩:aM)=k:=by
 obtain ⟨x,n,hw,e,hl,hr,h32,hb,hf,_⟩:=qW hp h;rw [e,hb]
theorem Ik (k:aM) (hk:k.size<=100) (h:bJ k=true) (w:World):Calls prog 68 #[.string k] w λe w'=>e = .returned (.string ⟨(eD k).bytes.toArray⟩)/\Below w.heap.size w w':=by
 have HT:=hid (λw=>sH k (by omega) w);cases hp:dH k with
 | true =>
  rw [lZ hp];obtain ⟨B,hB⟩:=aA (⟨(It.mk false k []).bytes.toArray⟩:aM)
  rw [hB] at HT ⊢;clear hB;rcases jV hp with h0 | h32
  .obtain rfl:=cZ h0;clear h hp h0 hk;go_enter func68,ntmps68;go_wp2_with fail
   refine (HT.out _).mono ?_;rintro e w3 ⟨rfl,hb3⟩;have HB:=hid hb3;clear hb3;go_wp2;go_ret;exact ⟨rfl,HB.out⟩
  .have hne:=Ni.bZ (s:=k) (by omega);have hd:((k.size:Int)==32)=true:=by simp; omega
   clear h hp hk;go_enter func68,ntmps68;go_wp2_with fail
   refine (HT.out _).mono ?_;rintro e w3 ⟨rfl,hb3⟩;have HB:=hid hb3;clear hb3;go_wp2;go_ret;exact ⟨rfl,HB.out⟩
 | false =>
  have hns:¬ (k.size=0\/k.size=32):=of_decide_eq_false hp;have hne:=Ni.bZ (s:=k) (by omega);have hd:((k.size:Int)==32)=false:=by simp; omega
  rw [JX h hp];clear h hp hns hk;go_enter func68,ntmps68;go_wp2;go_ret;exact ⟨rfl,aI⟩
def jm (xs:List It):aM:=⟨((xs.map It.bytes).flatten).toArray⟩
theorem sw (xs ys:List It):jm (xs++ys)=jm xs++jm ys:=by
 unfold jm;rw [Ah,List.map_append,List.flatten_append]
theorem nO (x:It):jm [x]=⟨x.bytes.toArray⟩:=by
 unfold jm;rw [List.map_cons,List.map_nil,List.flatten_cons,List.flatten_nil,List.append_nil]
theorem uH (xs:List It):(jm xs).size=((xs.map It.bytes).flatten).length:=dM _
theorem vX {N:Nd} (hl:N.ks.length=16) (h:dN bJ N=true):(⟨(gU N).toArray⟩:aM)=fF (jm (cB N)).size true++jm (cB N)/\(jm (cB N)).size<=1200000:=by
 have h2:=yR (cB N) 65561 (λy hy=>(uz hl h y hy).2);have ez:=wD hl;have hm:(cB N).length*65561<=17*65561:=Nat.mul_le_mul_right _ ez;refine ⟨?_,by rw [uH]; omega⟩;unfold gU gN;rw [jB _ (by omega),uH];unfold fF jm;rw [Ah]
theorem Ox (N:Nd) (a:aL) (n c:Nat) (hl:N.ks.length=16) (w:World) (hB:bf w a n c N.p) (hm:dN bJ N=true) (hkd:N.kd=1) :
  Calls prog 37 #[.agg (ndC N a n c)] w λe w'=>e = .returned (.string ⟨(gU N).toArray⟩)/\Below w.heap.size w w':=by
 obtain ⟨m1,m2,_⟩:=jH hm;obtain ⟨f1,f2⟩:=vX hl hm;have fb:n<=64:=by rw [<-hB.len]; exact m1
 obtain ⟨w2,hw2⟩:=ay (w.alloc (.cells (ndC N a n c) 67))
 have hO:dL w2 w.heap.size N a n c:=by rw [hw2]; exact Rg.Own.new _ _ _
 have fd:Below w.heap.size w w2:=by rw [hw2]; exact al1 _ _
 have cW:=hid (λw' hb=>pR a n c N.p true m2 fb w' (hB.below hb));have HI:Hid (jm (cB N)=⟨(It.mk false ⟨(fG N.p true).toArray⟩ []).bytes.toArray⟩++⟨(It.mk false N.v []).bytes.toArray⟩):=hid (by
  unfold cB nX;rw [if_neg (by omega),if_pos hkd];rw [show ∀ x y:It,[x,y]=[x]++[y] from λ_ _=>rfl,sw,nO,nO,hkd];rfl)
 obtain ⟨P,hP⟩:=aA (⟨(fG N.p true).toArray⟩:aM)
 have hps:P.size<=100:=by rw [<-hP,nW,hB.len]; omega
 rw [hP] at cW HI;have HT1:=hid (λw=>sH P (by omega) w);have hv2:N.v.size<=65552:=by
  rcases fM hl hm with ⟨_,_,v,_⟩ | ⟨k2,_⟩ | ⟨k3,_⟩
  .exact v
  .omega
  .omega
 have HT2:=hid (λw=>sH N.v (by omega) w);rw [HI.out] at f1 f2;obtain ⟨T1,hT1⟩:=aA (⟨(It.mk false P []).bytes.toArray⟩:aM)
 obtain ⟨T2,fR⟩:=aA (⟨(It.mk false N.v []).bytes.toArray⟩:aM)
 rw [hT1] at f1 f2 HT1;rw [fR] at f1 f2 HT2;have hts:T1.size+T2.size<=1200000:=by rw [ByteArray.size_append] at f2; exact f2
 have sa:Hid (¬ 9223372036854775807<T1.size+T2.size):=hid (by omega);obtain ⟨X,hX⟩:=aA (T1++T2)
 have HX:=hid hX;rw [hX] at f1 f2;have HF:=hid f1;clear hT1 fR hP hX HI f1 fb;have HL:=hid hl;have HK:=hid hkd;have cr:=hid fd;have HO:=hid hO;obtain ⟨c0,c1,c2⟩:=eF hO;rw [hkd] at c0;clear hm hl m1 m2 hB hO fd hkd;subst hw2;go_enter func37,ntmps37;go_wp2_with fail
 refine aD (S:=λw'=>dL w' w.heap.size N a n c/\Below w.heap.size w w') (⟨HO.out.drew,cr.out.drew⟩) λhld=>?_;refine aj 0 ?_;try simp only [Act.put,au]
 refine aj 1 ?_ (hy:=by intro wz hSw; (have q0:=(eF hSw.1).2.1; go_simp <;> with_reducible rfl));try simp only [Act.put,au]
 refine aj 4 ?_;try simp only [Act.put,au]
 refine aj 5 ?_ (hy:=by intro wz hSw; (have q0:=(eF hSw.1).2.2; go_simp <;> with_reducible rfl));try simp only [Act.put,au]
 refine ak 2 λK hK=>?_;go_simp;go_at_call 67
 (with_reducible refine (cW.out _ hld.2).mono ?_)
 rintro e s9 ⟨rfl,hbx⟩;refine hK.out _ _ (⟨hld.1.below hbx,bst hld.2 hbx⟩) λhld=>?_;clear hK K hbx;try simp only [Act.put,au]
 refine ak 3 λK hK=>?_;go_simp;go_at_call 66
 (with_reducible refine (HT1.out _).mono ?_)
 rintro e zv ⟨rfl,hbx⟩;refine hK.out _ _ (⟨hld.1.below hbx,bst hld.2 hbx⟩) λhld=>?_;clear hK K hbx;try simp only [Act.put,au]
 refine ak 6 λK hK=>?_;go_simp;go_at_call 66
 (with_reducible refine (HT2.out _).mono ?_)
 rintro e J5 ⟨rfl,hbx⟩;refine hK.out _ _ (⟨hld.1.below hbx,bst hld.2 hbx⟩) λhld=>?_;clear hK K hbx;try simp only [Act.put,au]
 refine aj 7 ?_ (hy:=by intro wz hSw; (have q0:=sa.out; go_simp <;> with_reducible rfl));try simp only [Act.put,au]
 refine aj 8 ?_;try simp only [Act.put,au]
 refine aC ?_;rw [HX.out];obtain ⟨c0,c1,c2⟩:=eF hld.1;rw [HK.out] at c0;have pZ:=hid hld.2;clear hld;have A9:(fF X.size true).size<=9:=by unfold fF; rw [dM]; exact mJ _ _ (by omega)
 have As:=hid (pY X.size (by omega) true);go_wp2_with fail
 refine (As.out _).mono ?_;rintro e w9 ⟨rfl,cg⟩;have am:=hid (bst pZ.out cg);clear cg;go_wp2;go_ret;exact ⟨by rw [HF.out]; rfl,am.out⟩
theorem Qr (N:Nd) (a:aL) (n c:Nat) (hl:N.ks.length=16) (w:World) (hB:bf w a n c N.p) (hm:dN bJ N=true) (hkd:N.kd=2) :
  Calls prog 37 #[.agg (ndC N a n c)] w λe w'=>e = .returned (.string ⟨(gU N).toArray⟩)/\Below w.heap.size w w':=by
 obtain ⟨m1,m2,_⟩:=jH hm;obtain ⟨f1,f2⟩:=vX hl hm;have fb:n<=64:=by rw [<-hB.len]; exact m1
 obtain ⟨w2,hw2⟩:=ay (w.alloc (.cells (ndC N a n c) 67))
 have hO:dL w2 w.heap.size N a n c:=by rw [hw2]; exact Rg.Own.new _ _ _
 have fd:Below w.heap.size w w2:=by rw [hw2]; exact al1 _ _
 have cW:=hid (λw' hb=>pR a n c N.p false m2 fb w' (hB.below hb));have HI:Hid (jm (cB N)=⟨(It.mk false ⟨(fG N.p false).toArray⟩ []).bytes.toArray⟩++⟨(eD (N.ks.getD 0 eB)).bytes.toArray⟩):=hid (by
  unfold cB nX;rw [if_neg (by omega),if_neg (by omega)];rw [show ∀ x y:It,[x,y]=[x]++[y] from λ_ _=>rfl,sw,nO,nO,hkd];rfl)
 obtain ⟨P,hP⟩:=aA (⟨(fG N.p false).toArray⟩:aM)
 have hps:P.size<=100:=by rw [<-hP,nW,hB.len]; omega
 rw [hP] at cW HI;have HT1:=hid (λw=>sH P (by omega) w);have hr:bJ (N.ks.getD 0 eB)=true:=by
  rcases fM hl hm with ⟨k1,_⟩ | ⟨_,_,_,_,_,r⟩ | ⟨k3,_⟩
  .omega
  .exact r
  .omega
 obtain ⟨k,hk⟩:=aA (N.ks.getD 0 eB)
 rw [hk] at hr HI;have XF:Hid (∀ wz,dL wz w.heap.size N a n c->wz.cell? ⟨w.heap.size,3,none⟩=some (.string k)):=hid (λwz h=>by rw [<-hk]; exact mG h hl 0 (by decide));have hks:k.size<=100:=by
  cases hp:dH k with
  | true=>have:=jV hp; omega
  | false=>obtain ⟨_,_,_,_,_,_,h,_⟩:=qW hp hr; omega
 have HT2:=hid (λw=>Ik k hks hr w);clear hk hr hks;rw [HI.out] at f1 f2;obtain ⟨T1,hT1⟩:=aA (⟨(It.mk false P []).bytes.toArray⟩:aM)
 obtain ⟨T2,fR⟩:=aA (⟨(eD k).bytes.toArray⟩:aM)
 rw [hT1] at f1 f2 HT1;rw [fR] at f1 f2 HT2;have hts:T1.size+T2.size<=1200000:=by rw [ByteArray.size_append] at f2; exact f2
 have sa:Hid (¬ 9223372036854775807<T1.size+T2.size):=hid (by omega);obtain ⟨X,hX⟩:=aA (T1++T2)
 have HX:=hid hX;rw [hX] at f1 f2;have HF:=hid f1;clear hT1 fR hP hX HI f1 fb;have HL:=hid hl;have HK:=hid hkd;have cr:=hid fd;have HO:=hid hO;obtain ⟨c0,c1,c2⟩:=eF hO;rw [hkd] at c0;clear hm hl m1 m2 hB hO fd hkd;subst hw2;go_enter func37,ntmps37;go_wp2_with fail
 refine aD (S:=λw'=>dL w' w.heap.size N a n c/\Below w.heap.size w w') (⟨HO.out.drew,cr.out.drew⟩) λhld=>?_;refine aj 0 ?_;try simp only [Act.put,au]
 refine aj 1 ?_ (hy:=by intro wz hSw; (have q0:=(eF hSw.1).2.1; go_simp <;> with_reducible rfl));try simp only [Act.put,au]
 refine aj 4 ?_;try simp only [Act.put,au]
 refine aj 5 ?_;try simp only [Act.put,au]
 refine aj 6 ?_ (hy:=by intro wz hSw; (have q0:=XF.out wz hSw.1; go_simp <;> with_reducible rfl));try simp only [Act.put,au]
 refine ak 2 λK hK=>?_;go_simp;go_at_call 67
 (with_reducible refine (cW.out _ hld.2).mono ?_)
 rintro e s9 ⟨rfl,hbx⟩;refine hK.out _ _ (⟨hld.1.below hbx,bst hld.2 hbx⟩) λhld=>?_;clear hK K hbx;try simp only [Act.put,au]
 refine ak 3 λK hK=>?_;go_simp;go_at_call 66
 (with_reducible refine (HT1.out _).mono ?_)
 rintro e zv ⟨rfl,hbx⟩;refine hK.out _ _ (⟨hld.1.below hbx,bst hld.2 hbx⟩) λhld=>?_;clear hK K hbx;try simp only [Act.put,au]
 refine ak 7 λK hK=>?_;go_simp;go_at_call 68
 (with_reducible refine (HT2.out _).mono ?_)
 rintro e J5 ⟨rfl,hbx⟩;refine hK.out _ _ (⟨hld.1.below hbx,bst hld.2 hbx⟩) λhld=>?_;clear hK K hbx;try simp only [Act.put,au]
 refine aj 8 ?_ (hy:=by intro wz hSw; (have q0:=sa.out; go_simp <;> with_reducible rfl));try simp only [Act.put,au]
 refine aj 9 ?_;try simp only [Act.put,au]
 refine aC ?_;rw [HX.out];obtain ⟨c0,c1,c2⟩:=eF hld.1;rw [HK.out] at c0;have pZ:=hid hld.2;clear hld;have A9:(fF X.size true).size<=9:=by unfold fF; rw [dM]; exact mJ _ _ (by omega)
 have As:=hid (pY X.size (by omega) true);go_wp2_with fail
 refine (As.out _).mono ?_;rintro e w9 ⟨rfl,cg⟩;have am:=hid (bst pZ.out cg);clear cg;go_wp2;go_ret;exact ⟨by rw [HF.out]; rfl,am.out⟩
end No
end
section
open Go.RowKit
namespace Tm
open Tr Rf Rl Ni No Pk Sm
theorem Vi {N:Nd} (hl:N.ks.length=16) (h:dN bJ N=true):(gU N).length<=900000:=by
 have key:∀ m,(∀ y∈cB N,y.bytes.length<=m)->(cB N).length*m<=200000->(gU N).length<=900000:=by
  intro m h1 h2;have h3:=yR (cB N) m h1;unfold gU gN;rw [jB _ (by omega),List.length_append];have:=mJ ((cB N).map It.bytes).flatten.length true (by omega);omega
 have hg:=uz hl h;rcases fM hl h with ⟨k1,_⟩ | ⟨k1,_⟩ | ⟨k1,_,_,_,hr⟩
 .exact key 65561 (λy hy=>(hg y hy).2) (by unfold cB; rw [if_neg (by omega),if_pos k1]; simp)
 .exact key 65561 (λy hy=>(hg y hy).2) (by unfold cB; rw [if_neg (by omega),if_neg (by omega)]; simp)
 .refine key 41 (λy hy=>?_) (by have:=wD hl; omega);unfold cB at hy;rw [if_pos k1] at hy;rcases List.mem_append.1 hy with hy | hy
  .obtain ⟨k,hk,rfl⟩:=List.mem_map.1 hy;exact (lV (hr k hk)).2
  .obtain rfl:=List.mem_singleton.1 hy;have h:=(lV (k:=eB) (by unfold bJ; rw [qU]; rfl)).2;rw [lZ qU] at h;exact h
theorem Mc (h:bJ k=true):k.size<=32:=by
 unfold bJ at h;rw [Bool.or_eq_true,Bool.and_eq_true] at h;rcases h with h | h
 .have:k.size=0\/k.size=32:=of_decide_eq_true h;omega
 .have:=of_decide_eq_true h.1;omega
theorem VI:dN bJ nd0=false:=by
 unfold dN kK;rfl
theorem FK (p:aL) (N:Nd) (hl:N.ks.length=16) (hv:N.v.size<=maxLen) (hks:∀ k∈N.ks,k.size<=100) (w:World) (Q:World->Prop)
  (htop:∀ wx,Below w.heap.size w wx->Calls prog 63 #[.agg #[.pointer p]] wx λe w'=>∃ a n c,e = .returned (.agg (ndC N a n c))/\bf w' a n c N.p/\Q w') :
  Calls prog 34 #[.agg #[.pointer p]] w λe w'=>e = .returned (.string (if dN bJ N then ⟨(gU N).toArray⟩ else eB))/\∃ w1,Q w1/\Below w1.heap.size w1 w':=by
 have h0:=fU w p;have HT:=hid (htop _ (al1 w (.cells #[.pointer p] 46)));have HL:=hid hl;have HV:=hid hv;have HK:=hid hks;obtain ⟨s,hs⟩:=aA (if dN bJ N then (⟨(gU N).toArray⟩:aM) else eB)
 obtain ⟨x,hx⟩:∃ x:Int,(if dN bJ N then (0:Int) else 2)=x:=⟨_,rfl⟩
 rw [hs];have HS:=hid hs;have HX:=hid hx;clear htop hl hv hks hs hx;go_enter func34,ntmps34;go_wp2_with (refine aB (aW h0 ⟨_,rfl,rfl⟩) ?_)
 refine HT.out.mono ?_;rintro e w1 ⟨a,n,c,rfl,hB,hQ⟩;have HP:=hid (FY N a n c HL.out w1 hB HV.out HK.out);have HQ:=hid hQ;unfold VP at HP;rw [HS.out,HX.out] at HP;clear hB hQ HT h0;go_wp2_with fail
 refine HP.out.mono ?_;rintro e w2 ⟨rfl,hb2⟩;have HB:=hid hb2;clear hb2 HP;go_wp2;go_ret;exact ⟨rfl,w1,HQ.out,HB.out⟩
theorem Sg (p:aL) (k:Int) (h1:k≠1) (h2:k≠2) (h3:k≠3) (w:World)
  (hK:∀ wx,Below w.heap.size w wx->Calls prog 83 #[.agg #[.pointer p]] wx λe w'=>e = .returned (.int .i64 k)/\Below wx.heap.size wx w') :
  Calls prog 34 #[.agg #[.pointer p]] w λe w'=>e = .returned (.string eB)/\Below w.heap.size w w':=by
 refine (FK p nd0 bK (by show (0:Nat)<=_; omega) (λk hk=>by
  have:k=eB:=List.eq_of_mem_replicate (show k∈List.replicate 16 eB from hk);rw [this]; show (0:Nat)<=100; omega) w (λw'=>Below w.heap.size w w') (λwx hbx=>?_)).mono ?_
 .refine (Hr p k h1 h2 h3 wx (λwy hby=>hK wy (bst hbx hby))).mono ?_;rintro e w' ⟨rfl,hb⟩;exact ⟨none,0,0,rfl,bf.nil _,bst hbx hb⟩
 .rintro e w' ⟨rfl,w1,hQ,hb⟩;exact ⟨by rw [VI]; rfl,bst hQ hb⟩
theorem pz {t:T} {L:Nat} (g:Tr.Good t L) (hL:L<=64) (f:Fine t) (hn:t ≠ .nil) (hs:¬ gK t):dN bJ (bV t)=true/\dP t=⟨(gU (bV t)).toArray⟩/\(dP t).size<=900000/\(bV t).v.size<=maxLen/\(bV t).p.length<=64/\∀ k∈(bV t).ks,k.size<=100:=by
 have hm:=(iM t L g hL f hn).1 hs;have he:dP t=⟨(gU (bV t)).toArray⟩:=by
  cases t with
  | nil=>exact absurd rfl hn
  | stub r=>exact absurd trivial hs
  | leaf p v=>rfl
  | ext q s=>rfl
  | br ks=>rfl
 refine ⟨hm,he,?_,?_,?_,?_⟩
 .rw [he];have:=Vi (ig t) hm;show (gU (bV t)).toArray.size<=_;simpa using this
 .cases t with
  | leaf p v=>exact Nat.le_trans f.2 (by unfold maxLen; omega)
  | _=>exact Nat.zero_le _
 .unfold dN at hm;rw [Bool.and_eq_true,Bool.and_eq_true] at hm;exact of_decide_eq_true hm.1.1
 .intro k hk;have hz:∀ x,x=eB->x.size<=100:=λx e=>by rw [e]; exact Nat.zero_le _
  cases t with
  | nil=>exact hz k (List.eq_of_mem_replicate (show k∈List.replicate 16 eB from hk))
  | stub r=>exact absurd trivial hs
  | leaf p v=>exact hz k (List.eq_of_mem_replicate (show k∈List.replicate 16 eB from hk))
  | ext q s =>
   rcases List.mem_cons.1 (show k∈ref s::List.replicate 15 eB from hk) with rfl | h
   .obtain ⟨_,_,g3,g4,g5⟩:=g;have:=Mc (iM s _ g5 (by omega) f (qy g4)).2.1;omega
   .exact hz k (List.eq_of_mem_replicate h)
  | br ks =>
   obtain ⟨i,_,rfl⟩:=List.mem_map.1 (show k∈(List.finRange 16).map λi=>ref (ks i) from hk);by_cases e:ks i = .nil
   .rw [e]; exact Nat.zero_le _
   .have:=Mc (iM (ks i) _ (g.2.2 i) (by omega) (f i) e).2.1;show (ref (ks i)).size<=100;omega
theorem TJ {t:T} {L:Nat} (g:Tr.Good t L):(dA t).length<=L:=by
 cases t with
 | leaf p v=>exact Nat.le_of_eq g.1
 | ext q s=>exact g.2.2.1
 | nil=>exact Nat.zero_le _
 | br ks=>exact Nat.zero_le _
 | stub r=>exact Nat.zero_le _
theorem KJ (M:Mp) (b:Nat) (t:T) (hm:M.at_ b=some t) (hs:¬ gK t) (hn:t ≠ .nil) {L:Nat} (g:Tr.Good t L) (hL:L<=64) (w:World) (hi:eG M (sz t) w) {pa:aL} {pn pc:Nat} {ka:aL} {kn kc:Nat} (hB:Body M w b t pa pn pc ka kn kc) (hT:Tab w)
  (gm:∀ q s,t = .ext q s->mW s) (hR2:∀ ks,t = .br ks->∀ i,mW (ks i)) :
  Calls prog 63 #[.agg #[.pointer (some ⟨b,0,none⟩)]] w (nu M t w):=by
 have hp:=TJ g;cases t with
 | nil=>exact absurd rfl hn
 | stub r=>exact absurd trivial hs
 | leaf q v=>exact Tc M b q v hm w hi pa pn pc ka kn kc hB (by have:q.length<=L:=hp; omega)
 | ext q s=>exact VA M b q s hm w hi pa pn pc ka kn kc hB (by have:q.length<=L:=hp; omega) hT (gm q s rfl)
 | br ks=>exact Ws M b ks hm w hi pa pn pc ka kn kc hB hT (hR2 ks rfl)
theorem Li (M:Mp) (b:Nat) (t:T) (hm:M.at_ b=some t) (hs:¬ gK t) (hn:t ≠ .nil) (g:Tr.Good t L) (hL:L<=64) (f:Fine t) (w:World) (hi:eG M (sz t) w) {pn pc:Nat} {ka:aL} {kc:Nat} (hB:Body M w b t pa pn pc ka kn kc) (hT:Tab w)
  (gm:∀ q s,t = .ext q s->mW s) (hR2:∀ ks,t = .br ks->∀ i,mW (ks i)) :
  Calls prog 34 #[.agg #[.pointer (some ⟨b,0,none⟩)]] w λe w'=>e = .returned (.string (dP t))/\FrN M (sz t) w w'/\eG M (sz t) w':=by
 obtain ⟨h1,h2,h3,h4,h5,h6⟩:=pz g hL f hn hs;refine (FK (some ⟨b,0,none⟩) (bV t) (ig t) h4 h6 w (λw'=>FrN M (sz t) w w'/\eG M (sz t) w') (λwx hbx=>?_)).mono ?_
 .refine (KJ M b t hm hs hn g hL wx (hi.below hbx) (hB.below hbx) (hT.below hbx hT.pos) gm hR2).mono ?_;rintro e w' ⟨a,n,c,rfl,hx,hf,hi'⟩;exact ⟨a,n,c,rfl,hx.1,(FrN.below M _ hbx).trans hf,hi'⟩
 .rintro e w' ⟨rfl,w1,⟨hf,hi1⟩,hb⟩;exact ⟨by rw [if_pos h1,h2],hf.trans (FrN.below M _ hb),hi1.below hb⟩
def qK (t:T) (a:aL) (n c:Nat) (ka:aL) (kn kc:Nat) (r:aM):aO :=
 #[.int .i64 (fI t),.slice a n c,.string (Si t),.slice ka kn kc,.int .u32 0,.int .i32 1,.int .u32 0,.string r]
theorem Ux {t:T} {a:aL} {n c:Nat} {ka:aL} {kn kc:Nat} {r:aM} {j:Nat} {v:Value} (h:(qK t a n c ka kn kc r)[j]? = some v):(∀ x,v ≠ .int .u8 x)/\∀ p,v ≠ .pointer p:=by
 unfold qK at h
 match j,h with
 | 0,h | 1,h | 2,h | 3,h | 4,h | 5,h | 6,h | 7,h =>
  simp at h;subst h;exact ⟨λx e=>(by cases e),λp e=>(by cases e)⟩
 | j+8,h=>simp at h
theorem MQ {b:Nat} {t:T} {ka:aL} {kc:Nat} (h:Rg.Own w b (qK t a n c ka kn kc r) 150):Eb w b:=by
 refine ⟨λj v hc=>Ux (pJ h.2 hc),?_⟩;rw [World.cell?,h.2];rfl
theorem BA {a:Act} (hw:Region.wanted o (yielded ops a.tmps)=true) {b off:Nat} {cs:aO} (hg:Rg.Own w b cs t) (hof:off<cs.size) (s:aM)
  (ho:∃ x y,o.op = .store 9 x y/\a.eval x = .pointer (some ⟨b,off,none⟩)/\a.eval y = .string s)
  (h:∀ w',Rg.Own w' b (cs.setIfInBounds off (.string s)) t->Rg.Upd w b w'->K (a.put o.dst undef) w'):if Region.wanted o (yielded ops a.tmps)=true then Oper.wp prog o a w K Q else K (a.put o.dst undef) w:=by
 obtain ⟨x,y,ho,hx,hy⟩:=ho;refine Rg.want hw ?_;unfold Oper.wp execOp;simp only [ho,hx,hy,Sem.run_bind,Sem.run_pure,Result.andThen_ok,uP hg hof s];exact h _ (cO hg _) (bQ _ _ _ _)
theorem eG.lock {M:Mp} {b:Nat} {t:T} (h:eG M n w) (hu:Rg.Upd w b w') (hm:M.at_ b=some t) (hnt:n<=sz t) (hN:Eb w' b):eG M n w':=by
 refine ⟨λk hk=>by rw [hu.size]; exact h.lt_ k hk,λb' t' hm'=>?_⟩;obtain ⟨h1,h2,h3,h4⟩:=h.part_ b' t' hm';have hNb:=(h.part_ b t hm).2.2.1;by_cases e:b'=b
 .subst e;obtain rfl:t=t':=by rw [hm] at hm'; exact Option.some.inj hm'
  exact ⟨h1,h2,hN,λhl=>absurd hl (by omega)⟩
 .refine ⟨h1,h2,h3.keep (hu.block b' e),λhl=>(h4 hl).keep (by rw [hu.size]; exact aH) (hu.block b' e) (λk j v hk hc hv=>hu.block k (λek=>?_))⟩;subst ek;rcases hv with ⟨x,rfl⟩ | ⟨p,rfl⟩
  .exact (hNb.1 _ _ hc).1 x rfl
  .exact (hNb.1 _ _ hc).2 p rfl
theorem Body.upd {M:Mp} {b:Nat} {t:T} {ka:aL} {kc:Nat} (h:Body M w b t a n c ka kn kc) (hN:Eb w b) (hu:Rg.Upd w b w') (hc:∀ j,j<4->w'.cell? ⟨b,j,none⟩=w.cell? ⟨b,j,none⟩):Body M w' b t a n c ka kn kc:=by
 refine ⟨(hc 0 (by omega)).trans h.c0,(hc 1 (by omega)).trans h.c1,(hc 2 (by omega)).trans h.c2,(hc 3 (by omega)).trans h.c3,⟨h.hb.1,h.hb.2.1,h.hb.2.2.1,h.hb.2.2.2.1,λj hj=>?_⟩,h.hk.1,h.hk.2.1,h.hk.2.2.1,h.hk.2.2.2.1,λj hj=>?_⟩
 .obtain ⟨b',off,e,hlt,hcb⟩:=h.hb.2.2.2.2 j hj;refine ⟨b',off,e,by rw [hu.size]; exact hlt,?_⟩;rw [World.cell?_of_block (hu.block b' (λek=>by subst ek; exact (hN.1 _ _ hcb).1 _ rfl))];exact hcb
 .obtain ⟨b',off,p,e,hlt,hf,hcb,ht⟩:=h.hk.at' j hj;refine ⟨b',off,p,e,by rw [hu.size]; exact hlt,hf,?_,ht⟩;rw [World.cell?_of_block (hu.block b' (λek=>by subst ek; exact (hN.1 _ _ hcb).2 _ rfl))];exact hcb
theorem WB (M:Mp) (b:Nat) (t:T) (hm:M.at_ b=some t) (hsz:(dP t).size<=900000) (bx:Nat) (w:World) (hbx:w.cell? ⟨bx,0,none⟩=some (.pointer (some ⟨b,0,none⟩))) (hne:bx≠b) (hi:eG M (sz t) w) (hT:Tab w)
 {ka:aL} {kc:Nat} (hO:Rg.Own w b (qK t a n c ka kn kc eB) 150)
  (hE:Calls prog 34 #[.agg #[.pointer (some ⟨b,0,none⟩)]] w.drew λe w'=>e = .returned (.string (dP t))/\FrN M (sz t) w.drew w'/\eG M (sz t) w') :
  Calls prog 152 #[.pointer (some ⟨bx,0,none⟩)] w λe w'=>e = .returned (.tuple #[])/\∃ w1,FrN M (sz t) w w1/\eG M (sz t) w1/\Rg.Upd w1 b w'/\Rg.Own w' b (qK t a n c ka kn kc (ofP (dP t))) 150:=by
 have J9:=hid hE;have eb:=hid hsz;have hnb:M.at_ b=none\/∃ t',M.at_ b=some t'/\sz t<=sz t':=Or.inr ⟨t,hm,aH⟩;have HF:Hid (∀ w5,FrN M (sz t) w.drew w5->eG M (sz t) w5->w5.cell? ⟨bx,0,none⟩=some (.pointer (some ⟨b,0,none⟩))/\Tab w5/\Rg.Own w5 b (qK t a n c ka kn kc eB) 150/\
   ∀ w6,Below w5.heap.size w5 w6->w6.cell? ⟨bx,0,none⟩=some (.pointer (some ⟨b,0,none⟩))/\Rg.Own w6 b (qK t a n c ka kn kc eB) 150/\
   ∀ ai,Rg.Own ai b ((qK t a n c ka kn kc eB).setIfInBounds 7 (.string (ofP (dP t)))) 150->Rg.Upd w6 b ai->ai.cell? ⟨bx,0,none⟩=some (.pointer (some ⟨b,0,none⟩))/\∃ w1,FrN M (sz t) w w1/\eG M (sz t) w1/\Rg.Upd w1 b ai/\Rg.Own ai b (qK t a n c ka kn kc (ofP (dP t))) 150):=hid (λw5 em hi5=>by
  have Rd:eG M (sz t) w.drew:=hi.below (below_drewN aI 1);have XG:Tab w.drew:=hT;have h5:=em.cell (b:=bx) (o:=0) hbx (Or.inl (Rd.qw (j:=0) hbx));have c8:Rg.Own w5 b (qK t a n c ka kn kc eB) 150:=⟨aJ hO.1 em.size,(em.block b hO.1 hnb).trans hO.2⟩
  refine ⟨h5,yX Rd em XG,c8,λw6 hb6=>⟨aX hb6 h5,c8.below hb6,λai aw hu=>⟨?_,w6,(((FrN.below M _ (below_drewN aI 1)).trans em).trans (FrN.below M _ hb6)),hi5.below hb6,hu,aw⟩⟩⟩;rw [<-aX hb6 h5];exact World.cell?_of_block (w:=w6) (hu.block bx hne))
 clear hE hsz hi hT hO hm hnb hne;go_enter func152,ntmps152;go_wp2_with fail
 refine aD (S:=λw'=>w'.cell? ⟨bx,0,none⟩=some (.pointer (some ⟨b,0,none⟩))) (hbx) λhld=>?_;refine aj 0 ?_;try simp only [Act.put,au]
 refine aF 1 (λwz hSw=>hSw) ?_;try simp only [Act.put,au]
 refine aj 2 ?_ (hy:=by intro wz hSw; (refine aW hSw ?_; exact ⟨_,rfl,rfl⟩));try simp only [Act.put,au]
 refine ak 3 λK hK=>?_;go_simp;go_at_call 34
 (with_reducible refine J9.out.mono ?_)
 rintro e w5 ⟨rfl,em,hi5⟩;obtain ⟨hS5,ju,c8,Re⟩:=HF.out w5 em hi5;have H5:=hid Re;have cf:=hid c8;have sb:=hid ju;clear em hi5 Re c8 ju;refine hK.out _ _ (hS5) λhld=>?_;clear hK K;try simp only [Act.put,au]
 refine ak 4 λK hK=>?_;go_simp;go_at_call 153
 (with_reducible refine (LY _ eb.out w5 sb.out).mono ?_)
 rintro e w6 ⟨rfl,hb6⟩;obtain ⟨ke,az,zp⟩:=H5.out w6 hb6;have H6:=hid zp;have cG:=hid az;clear hb6 zp az;refine hK.out _ _ (ke) λhld=>?_;clear hK K;try simp only [Act.put,au]
 refine aj 5 ?_;try simp only [Act.put,au]
 refine aj 6 ?_;try simp only [Act.put,au]
 refine ak 7 λK hK=>?_;refine BA (by rfl) cG.out (off:=7) (show 7<8 by omega) (ofP (dP t)) ⟨_,_,rfl,rfl,rfl⟩ ?_;intro ai aw ax;obtain ⟨df,nj⟩:=H6.out ai aw ax;have iS:=hid nj;clear aw nj;refine hK.out _ _ (df) λhld=>?_;clear hK K;try simp only [Act.put,au]
 refine aC ?_;go_wp2;go_end0;exact ⟨rfl,iS.out⟩
end Tm
end
section
open Go.RowKit
namespace Rf
open Rl Ni No Sh Sm
def Wp (s:aM):aM:=⟨(mK s).toArray⟩
theorem UZ (s:aM) (hs:s.size<=900000) (w:World) :
  Calls prog 40 #[.string s] w λe w'=>e = .returned (.string (Wp s))/\Below w.heap.size w w':=by
 have h:=LM s.data.toList (by simpa using hs) w;have e:(⟨s.data.toList.toArray⟩:aM)=s:=by apply ByteArray.ext; simp
 rw [e] at h;exact h
theorem FB (s:aM) (hs:s.size<=900000) (w:World) :
  Calls prog 46 #[.string s] w λe w'=>e = .returned (.agg (kc (mK s)))/\Below w.heap.size w w':=by
 have h:=RA s.data.toList (by simpa using hs) w;have e:(⟨s.data.toList.toArray⟩:aM)=s:=by apply ByteArray.ext; simp
 rw [e] at h;exact h
theorem GN (s:aM) (hs:s.size<=900000) (w:World) :
  Calls prog 27 #[.string s] w λe w'=>e = .returned (.string (ofP s))/\Below w.heap.size w w':=by
 by_cases h:s.size<32
 .have HF:Hid (ofP s=s):=hid (by unfold ofP; rw [if_pos h]);have hd:decide ((32:Int)<=(s.size:Int))=false:=by simp; omega
  rw [HF.out];clear HF;go_enter func27,ntmps27;go_wp2;go_ret;exact ⟨rfl,aI⟩
 .have HF:Hid (ofP s=Wp s):=hid (by unfold ofP; rw [if_neg h]; rfl);have hd:decide ((32:Int)<=(s.size:Int))=true:=by simp; omega
  have cT:=hid (UZ s hs w);rw [HF.out];obtain ⟨K,hK⟩:=aA (Wp s)
  rw [hK] at cT;rw [hK];clear HF hK;go_enter func27,ntmps27;go_wp2_with fail
  refine cT.out.mono ?_;rintro e w1 ⟨rfl,hb1⟩;go_wp2;go_ret;exact ⟨rfl,hb1⟩
theorem AP (s:aM) (hs:s.size<=900000) (w:World) :
  Calls prog 24 #[.string s] w λe w'=>e = .returned (.agg (kc (eT s)))/\Below w.heap.size w w':=by
 have bj:=hid (iq s);by_cases h:s.size=0
 .obtain rfl:=cZ h;have cT:=hid (λW=>FB ⟨#[128]⟩ (by decide) W);have hR:eT eB=mK ⟨#[128]⟩:=rfl;rw [<-hR] at cT;obtain ⟨K,hK⟩:=aA (eT eB)
  rw [hK] at cT bj;rw [hK];clear hK hR h;go_enter func24,ntmps24;go_wp2_with (refine eH rfl _ _ (fH _ _ rfl _ _ rfl) ?_)
  refine (cT.out _).mono ?_;rintro e w1 ⟨rfl,hb1⟩;have el:=hid ((Rg.Own.new w (kc zk) 23).below hb1);have HB2:Hid (Below w.heap.size w w1):=hid (bst (al1 _ _) hb1);clear hb1;go_wp2_with (refine wpList_store_rowTo rfl 23 _ _ rfl rfl _ (kc K) rfl rfl 23 (kc zk) el.out.2 (gq K bj.out) (by rw [gy,gy,bj.out]; rfl) (tO _) ?_)
  exact bodyPost_ret (results_cell_row rfl _ _ w.heap.size 23 (kc K) (0,0) _ rfl (setRow_heap _ _ _ _ _ _ el.out.2) underlying23 rfl (gq K bj.out)) rfl ⟨rfl,Sm.bI HB2.out aH _⟩
 .have hne:=Ni.bZ (s:=s) (by omega);have cT:=hid (λW=>FB s hs W);have hR:eT s=mK s:=by unfold eT; rw [if_neg h]
  rw [<-hR] at cT;obtain ⟨K,hK⟩:=aA (eT s)
  rw [hK] at cT bj;rw [hK];clear hK hR h;go_enter func24,ntmps24;go_wp2_with (refine eH rfl _ _ (fH _ _ rfl _ _ rfl) ?_)
  refine (cT.out _).mono ?_;rintro e w1 ⟨rfl,hb1⟩;have el:=hid ((Rg.Own.new w (kc zk) 23).below hb1);have HB2:Hid (Below w.heap.size w w1):=hid (bst (al1 _ _) hb1);clear hb1;go_wp2_with (refine wpList_store_rowTo rfl 23 _ _ rfl rfl _ (kc K) rfl rfl 23 (kc zk) el.out.2 (gq K bj.out) (by rw [gy,gy,bj.out]; rfl) (tO _) ?_)
  exact bodyPost_ret (results_cell_row rfl _ _ w.heap.size 23 (kc K) (0,0) _ rfl (setRow_heap _ _ _ _ _ _ el.out.2) underlying23 rfl (gq K bj.out)) rfl ⟨rfl,Sm.bI HB2.out aH _⟩
end Rf
end
section
open Go.RowKit
namespace No
open Rl Ni
theorem Kl (ks:List aM) (j:Nat) (hj:j<ks.length):jm ((ks.take (j+1)).map eD)=jm ((ks.take j).map eD)++⟨(eD (ks.getD j eB)).bytes.toArray⟩:=by
 have e:ks.getD j eB=ks[j]:=by simp [List.getD,hj]
 rw [List.take_succ_eq_append_getElem hj,List.map_append,sw,List.map_cons,List.map_nil,nO,e]
theorem NR (ks:List aM) (hr:∀ k∈ks,bJ k=true) (j:Nat) (hj:j<=16):(jm ((ks.take j).map eD)).size<=656:=by
 rw [uH];have:=yR ((ks.take j).map eD) 41 (λy hy=>by
  obtain ⟨k,hk,rfl⟩:=List.mem_map.1 hy;exact (lV (hr k (List.mem_of_mem_take hk))).2)
 have h2:((ks.take j).map eD).length*41<=16*41:=Nat.mul_le_mul_right _ (by rw [List.length_map,List.length_take]; omega);omega
theorem Pv:(⟨(It.mk false ⟨#[]⟩ []).bytes.toArray⟩:aM)=⟨#[128]⟩:=by
 rw [jY ⟨#[]⟩ (by decide)];rfl
theorem He (N:Nd) (a:aL) (n c:Nat) (hl:N.ks.length=16) (w:World) (hB:bf w a n c N.p) (hm:dN bJ N=true) (hkd:N.kd=3) :
  Calls prog 37 #[.agg (ndC N a n c)] w λe w'=>e = .returned (.string ⟨(gU N).toArray⟩)/\Below w.heap.size w w':=by
 obtain ⟨m1,m2,_⟩:=jH hm;obtain ⟨f1,f2⟩:=vX hl hm;have fb:n<=64:=by rw [<-hB.len]; exact m1
 obtain ⟨w2,hw2⟩:=ay (w.alloc (.cells (ndC N a n c) 67))
 have hO:dL w2 w.heap.size N a n c:=by rw [hw2]; exact Rg.Own.new _ _ _
 have fd:Below w.heap.size w w2:=by rw [hw2]; exact al1 _ _
 have cW:=hid (λw' hb=>pR a n c N.p true m2 fb w' (hB.below hb));have hr:∀ k∈N.ks,bJ k=true:=by
  rcases fM hl hm with ⟨k1,_⟩ | ⟨k2,_⟩ | ⟨_,_,_,_,r⟩
  .omega
  .omega
  .exact r
 have HI:Hid (jm (cB N)=jm ((N.ks.take 16).map eD)++⟨#[128]⟩):=hid (by
  unfold cB;rw [if_pos hkd,sw,nO,List.take_of_length_le (by omega)];show _++(⟨(It.mk false ⟨#[]⟩ []).bytes.toArray⟩:aM)=_;rw [Pv])
 have j0:Hid (∀ j,j<16->∀ w,Calls prog 68 #[.string (N.ks.getD j eB)] w λe w'=>e = .returned (.string ⟨(eD (N.ks.getD j eB)).bytes.toArray⟩)/\Below w.heap.size w w'):=hid (λj hj w=>by
  have hmem:N.ks.getD j eB∈N.ks:=by rw [List.getD_eq_getElem?_getD,List.getElem?_eq_getElem (by omega)]; exact List.getElem_mem _
  refine Ik _ ?_ (hr _ hmem) w;cases hp:dH (N.ks.getD j eB) with
  | true=>have:=jV hp; omega
  | false=>obtain ⟨_,_,_,_,_,_,h,_⟩:=qW hp (hr _ hmem); omega)
 have Jn:Hid (∀ j,j<16->jm ((N.ks.take (j+1)).map eD)=jm ((N.ks.take j).map eD)++⟨(eD (N.ks.getD j eB)).bytes.toArray⟩):=hid (λj hj=>Kl N.ks j (by omega));have Jx:Hid (∀ j,j<=16->(jm ((N.ks.take j).map eD)).size<=656):=hid (λj hj=>NR N.ks hr j hj);have RM:Hid (_/\_):=hid ⟨f1,f2⟩;clear hr f1 f2;have HL:=hid hl;have HK:=hid hkd;have cr:=hid fd;have HO:=hid hO;obtain ⟨c0,c1,c2⟩:=eF hO;rw [hkd] at c0;clear hm hl m1 m2 hB hO fd hkd;subst hw2;go_enter func37,ntmps37;go_wp2_with fail
 go_loopw [3,4] (λs i wr=>∃ (j:Nat) (T:aM),j<=16/\i = .int .i64 j/\s = .string T/\T.size<=656/\Hid (jm ((N.ks.take j).map eD)=T)/\Hid (dL wr w.heap.size N a n c)/\Hid (Below w.heap.size w wr)) (λ_ i _=>16-(intOf i).toNat)
 case atStart=>exact ⟨0,⟨#[]⟩,Nat.zero_le _,rfl,rfl,by decide,hid rfl,HO,cr⟩
 case round =>
  obtain ⟨j,T,hj,rfl,rfl,hT,HT,HN,HB⟩:=hrel;clear HO cr c0 c1 c2;by_cases hlt:j<16
  .have HR:=hid (λw=>j0.out j hlt w);have HS:=hid (Jn.out j hlt);have HW:=Jx.out (j+1) (by omega);have hc:=mG HN.out HL.out j hlt;have HS2:Hid (jm ((N.ks.take (j+1)).map eD)=T++⟨(eD (N.ks.getD j eB)).bytes.toArray⟩):=hid (by rw [HS.out,HT.out]);rw [HS2.out] at HW;obtain ⟨k,hk⟩:=aA (N.ks.getD j eB)
   rw [hk] at hc HR HW HS2;obtain ⟨U,hU⟩:=aA (⟨(eD k).bytes.toArray⟩:aM)
   rw [hU] at HR HW HS2;have hsz:T.size+U.size<=656:=by rw [ByteArray.size_append] at HW; exact HW
   clear hk hU HS HT j0 Jn Jx;go_wp2_with fail
   refine (HR.out _).mono ?_;rintro e w5 ⟨rfl,hb5⟩;have iv:=hid (HN.out.below hb5);have al:=hid (bst HB.out hb5);clear hb5 HN HB hc;go_wp2;go_roundw
   case rel=>exact ⟨j+1,T++U,by omega,by go_num,rfl,HW,HS2,iv,al⟩
   case measure=>simp [intOf]; omega
  .obtain rfl:j=16:=by omega
   obtain ⟨f1,f2⟩:=RM.out;rw [HI.out,HT.out] at f1 f2;obtain ⟨X,hX⟩:=aA (T++⟨#[128]⟩)
   rw [hX] at f1 f2;have HF:=hid f1;have hsz:T.size+(⟨#[128]⟩:aM).size<=1200000:=by rw [<-ByteArray.size_append,hX]; exact f2
   have hone:(⟨#[128]⟩:aM).size=1:=rfl;rw [hone] at hsz;have XH:=hid hX;have A9:(fF X.size true).size<=9:=by unfold fF; rw [dM]; exact mJ _ _ (by omega)
   have RT:(X.size:Int)=(T.size:Int)+1:=by rw [<-hX,ByteArray.size_append,hone]; rfl
   have hHd:=pY X.size (by omega) true;rw [RT] at hHd;have As:=hid hHd;clear hHd RT;have h12:=f2;rw [<-hX] at h12;obtain ⟨c0,c1,c2⟩:=eF HN.out;rw [HK.out] at c0;clear f1 hX RM HI j0 Jn Jx;go_wp2_with fail
   rw [XH.out]
   with_reducible refine (As.out _).mono ?_
   rintro e w9 ⟨rfl,cg⟩;have am:=hid (bst HB.out cg);clear cg;go_wp2;go_ret;exact ⟨by rw [HF.out]; rfl,am.out⟩
theorem LC (N:Nd) (a:aL) (n c:Nat) (hl:N.ks.length=16) (w:World) (hB:bf w a n c N.p) (hm:dN bJ N=true) :
  Calls prog 37 #[.agg (ndC N a n c)] w λe w'=>e = .returned (.string ⟨(gU N).toArray⟩)/\Below w.heap.size w w':=by
 rcases fM hl hm with ⟨k1,_⟩ | ⟨k1,_⟩ | ⟨k1,_⟩
 .exact Ox N a n c hl w hB hm k1
 .exact Qr N a n c hl w hB hm k1
 .exact He N a n c hl w hB hm k1
end No
end
section
open Go.RowKit
namespace Tm
open Tr Ni Pk Ky No Rf Rl
theorem VN {l:aN} (h:bf w a n c l) (j:Nat) (hj:j<=n):bf w a j c (l.take j):=by
 have h1:=h.1;refine ⟨by omega,h.2.1,by rw [List.length_take,h.len]; omega,h.2.2.2.1,λi hi=>?_⟩;obtain ⟨b,off,e,hlt,hc⟩:=h.at' i (by omega);refine ⟨b,off,e,hlt,?_⟩;rw [hc];simp [List.getD,hi]
def QF (l:List Tr.In):Prop:=∀ x∈l,x.2.size≠0/\x.2.size<=65552
theorem QF.rest {l:List Tr.In} (h:QF l) (n:Nat):QF (WX l n):=λx hx=>by
 obtain ⟨y,hy,rfl⟩:=List.mem_map.1 hx;exact h y hy
theorem bS {rest:List Oper} {b:Nat} {N:Nd} (h:dL w b N a n c) (hl:N.ks.length=16) (M:Nd) (a':aL) (n' c':Nat) (hm:M.ks.length=16)
  (hgd:o.guard=none) (x y:Operand) (ho:o.op = .store 67 x y) (hx:act.eval x = .pointer (some ⟨b,0,none⟩)) (hy:act.eval y = .agg (ndC M a' n' c')) (hd:o.dst=none)
  (hQ:∀ w',dL w' b M a' n' c'->Rg.Upd w b w'->wpList prog ops Q rest act w'):wpList prog ops Q (o::rest) act w :=
 bA h hl M a' n' c' hm hgd x y ho hx hy hd (hQ _ (dG h) (Rg.Upd.set _ _ _))
end Tm
end
section
open Go.RowKit
namespace Tm
open Tr Ni Pk Ky No
theorem SA:(prog.info? 67).map (λi=>(i.size,i.bytes))=some (19,304):=by kernel_rfl
theorem EK:((prog.info? 67).bind (·.zero)).isSome=true:=by kernel_rfl
theorem BL:((prog.info? 67).bind (·.zero)).map (·.cells.size)=some 19:=by kernel_rfl
theorem BD:∃ i z,prog.info? 67=some i/\i.zero=some z/\i.size=19/\i.bytes=304/\z.cells.size=19:=by
 have h1:=SA;have h2:=EK;have h3:=BL;cases hi:prog.info? 67 with
 | none=>rw [hi] at h1; simp at h1
 | some i =>
  rw [hi] at h1 h2 h3;simp at h1 h2 h3;cases hz:i.zero with
  | none=>rw [hz] at h2; simp at h2
  | some z =>
   rw [hz] at h3;simp at h3;exact ⟨i,z,rfl,hz,h1.1,h1.2,h3⟩
def ndL (N:Nd) (h:Hdl):List Value:=.int .i64 N.kd :: .slice h.1 h.2.1 h.2.2 :: .string N.v::N.ks.map Value.string
theorem vg {N:Nd} {h:Hdl} (hl:N.ks.length=16):(ndL N h).length=19:=by simp [ndL,hl]
theorem Uy (N:Nd) (h:Hdl):∀ u∈ndL N h,u.oneCell'=true:=λu hu=>by
 unfold ndL at hu;simp only [List.mem_cons,List.mem_map] at hu;rcases hu with rfl | rfl | rfl | ⟨_,_,rfl⟩ <;> rfl
abbrev Nz:Type:=Nd × Hdl
def nz0:Nz:=(nd0,(none,0,0))
def IU (z:List Nz):List Value:=z.flatMap λp=>ndL p.1 p.2
theorem KU:∀ (z:List Nz),(∀ p∈z,p.1.ks.length=16)->∀ j i,j<z.length->i<19->(IU z)[j*19+i]? = (ndL (z.getD j nz0).1 (z.getD j nz0).2)[i]?
 | [],_,_,_,h,_=>absurd h (Nat.not_lt_zero _)
 | x::z,h,0,i,_,hi=>by
  show (ndL x.1 x.2++IU z)[0*19+i]? = _;rw [Nat.zero_mul,Nat.zero_add,List.getElem?_append_left (by rw [vg (h x List.mem_cons_self)]; exact hi)];rfl
 | x::z,h,j+1,i,hj,hi=>by
  show (ndL x.1 x.2++IU z)[(j+1)*19+i]? = _;have hx:=vg (h:=x.2) (h x List.mem_cons_self);rw [List.getElem?_append_right (by omega),hx,show (j+1)*19+i-19=j*19+i by omega,KU z (λy hy=>h y (List.mem_cons_of_mem _ hy)) j i (by simpa using hj) hi];rfl
def tq (w:World) (a:aL) (n c:Nat) (l:List Nd):Prop :=
 n<=c/\c<=maxLen/\(a=none->c=0)/\∃ z:List Nz,z.map Prod.fst=l/\z.length=n/\(∀ p∈z,p.1.ks.length=16/\bf w p.2.1 p.2.2.1 p.2.2.2 p.1.p)/\
  ∀ j,j<n->∃ b off,a=some ⟨b,off,none⟩/\b<w.heap.size/\w.rangeAt b (off+j*19) (ndL (z.getD j nz0).1 (z.getD j nz0).2)
theorem tq.len {l:List Nd} (h:tq w a n c l):l.length=n:=by
 obtain ⟨_,_,_,z,rfl,hz,_⟩:=h;rw [List.length_map,hz]
theorem tq.nil (w:World):tq w none 0 0 []:=⟨aH,Nat.zero_le _,λ_=>rfl,[],rfl,rfl,λ_ h=>(by cases h),λ_ h=>absurd h (Nat.not_lt_zero _)⟩
theorem kR {α:Type} {l:List α} {d : α} (h:j<l.length):l.getD j d∈l:=by
 rw [List.getD_eq_getElem?_getD,List.getElem?_eq_getElem h];exact List.getElem_mem _
theorem tq.at' {l:List Nd} (h:tq w a n c l) (j:Nat) (hj:j<n):∃ b off g,a=some ⟨b,off,none⟩/\b<w.heap.size/\w.rangeAt b (off+j*19) (ndL (l.getD j nd0) g)/\(l.getD j nd0).ks.length=16/\bf w g.1 g.2.1 g.2.2 (l.getD j nd0).p:=by
 obtain ⟨_,_,_,z,rfl,hz,hp,hr⟩:=h;obtain ⟨b,off,e,hlt,hc⟩:=hr j hj;have hg:(z.map Prod.fst).getD j nd0=(z.getD j nz0).1:=by
  have:j<z.length:=by omega
  simp [List.getD,this]
 obtain ⟨h1,h2⟩:=hp _ (kR (d:=nz0) (show j<z.length by omega));exact ⟨b,off,(z.getD j nz0).2,e,hlt,by rw [hg]; exact hc,by rw [hg]; exact h1,by rw [hg]; exact h2⟩
theorem MV {N:Nd} {h:Hdl} (hl:N.ks.length=16) (b:Nat) (hb:b=w.heap.size) (ho:∃ y,o.op = .buildSlice 77 1 #[(0,y)]/\ev y = .agg (ndC N h.1 h.2.1 h.2.2)) :
  (execOp ev o).run prog w = .ok (.value (.slice (some ⟨b,0,none⟩) 1 1)) (w.alloc (.cells (ndC N h.1 h.2.1 h.2.2) 67)):=by
 obtain ⟨y,ho,hx⟩:=ho;obtain ⟨kd,p,v,ks⟩:=N;subst hb;obtain ⟨x0,x1,x2,x3,x4,x5,x6,x7,x8,x9,x10,RW,S0,S1,cF,S2,rfl⟩:=sixteen ks hl;unfold execOp;simp only [ho,List.map_toArray,List.map_cons,List.map_nil,hx];kernel_rfl
end Tm
end
section
namespace Tr
open Rf Rl Ni No
theorem wT:∀ {q p:Pa},q<+:p↔cp q p=q.length
 | [],_=>by simp [cp]
 | _::_,[]=>by simp [cp]
 | a::q,b::p=>by
  rw [List.cons_prefix_cons,wT (q:=q) (p:=p)];by_cases e:a=b
  .simp [cp,e]
  .simp [cp,e]
end Tr
end
section
open Go.RowKit
namespace Tr
open Rf Rl Ni No
theorem at_len:∀ (t:T) (L:Nat) (w:Pa),Good t L->(bM t w).length<=w.length+1
 | .nil,_,_,_=>Nat.zero_le _
 | .leaf _ _,_,_,_=>by
  show 1<=_;omega
 | .ext q t,L,w,g=>by
  have hq:0<q.length:=List.length_pos_iff.2 g.1;have ih:=at_len t _ (w.drop q.length) g.2.2.2.2;rw [List.length_drop] at ih;show (_::if _ then _ else _).length<=_;by_cases h:q<+:w
  .rw [if_pos h,List.length_cons];have:=h.length_le;omega
  .rw [if_neg h];simp
 | .br ks,L,[],_=>aH
 | .br ks,L,c::w,g=>by
  have ih:=at_len (ks (nb c)) _ w (g.2.2 _);show (bM (ks (nb c)) w).length+1<=(w.length+1)+1;omega
 | .stub _,_,_,_=>Nat.zero_le _
end Tr
namespace Tm
open Tr Ni Pk Ky No
end Tm
end
section
namespace Tr
open Rf Rl Ni No
theorem Ap:∀ (t:T) (w:Pa),kZ t w=(bM t w).map iK
 | .nil,_=>rfl
 | .leaf _ _,_=>rfl
 | .ext q t,w=>by
  show dP (.ext q t)::(if q<+:w then kZ t (w.drop q.length) else [])=iK (bV (.ext q t))::List.map iK (if q<+:w then bM t (w.drop q.length) else []);rw [Ap t];by_cases h:q<+:w
  .rw [if_pos h,if_pos h]; rfl
  .rw [if_neg h,if_neg h]; rfl
 | .br ks,[]=>rfl
 | .br ks,c::w=>by
  show dP (.br ks)::kZ (ks (nb c)) w=iK (bV (.br ks))::List.map iK (bM (ks (nb c)) w);rw [Ap (ks (nb c)) w];rfl
 | .stub _,_=>rfl
def kD (l:List Nd):List aM:=(l.take 1).map iK++pI ((l.drop 1).map iK)
theorem WA (t:T) (w:Pa):tH t w=kD (bM t w):=by
 unfold tH kD;rw [Ap];cases bM t w with
 | nil=>rfl
 | cons x r=>rfl
theorem Qu (l:List Nd) (h:j<l.length):kD (l.take (j+1))=kD (l.take j)++if j=0\/32<=(iK (l.getD j nd0)).size then [iK (l.getD j nd0)] else []:=by
 have e:l.take (j+1)=l.take j++[l.getD j nd0]:=by
  have e1:l.getD j nd0=l[j]:=by simp [List.getD,h]
  rw [e1,List.take_succ_eq_append_getElem h]
 rw [e];generalize l.getD j nd0=x;by_cases hj:j=0
 .subst hj;rw [if_pos (.inl rfl),List.take_zero];rfl
 .have hl:1<=(l.take j).length:=by rw [List.length_take]; omega
  unfold kD;rw [List.take_append_of_le_length hl,List.drop_append_of_le_length hl,List.map_append,List.append_assoc];congr 1;unfold pI;rw [List.filter_append];congr 1;by_cases h32:32<=(iK x).size
  .rw [if_pos (.inr h32),List.map_cons,List.map_nil,List.filter_cons_of_pos (by simpa using h32)]; rfl
  .rw [if_neg (λh=>h.elim hj h32),List.map_cons,List.map_nil,List.filter_cons_of_neg (by simpa using h32)]; rfl
theorem En (l:List Nd):(kD l).length<=l.length:=by
 unfold kD pI;rw [List.length_append,List.length_map];have:=List.length_filter_le (λx:aM=>decide (32<=x.size)) ((l.drop 1).map iK);rw [List.length_map,List.length_drop] at this;rw [List.length_take];omega
theorem vv:∀ (t:T) (L:Nat) (w:Pa),Good t L->L<=64->Fine t->∀ N∈bM t w,∃ (s:T) (K:Nat),N=bV s/\dP s=iK N/\s ≠ .nil/\¬ gK s/\K<=64/\Good s K/\Fine s
 | .nil,_,_,_,_,_,_,h=>by cases h
 | .leaf p v,L,w,g,hL,f,N,h=>by
  rw [List.mem_singleton.1 h];exact ⟨_,L,rfl,rfl,λe=>(by cases e),λh=>h,hL,g,f⟩
 | .ext q t,L,w,g,hL,f,N,h=>by
  rcases List.mem_cons.1 h with rfl | h
  .exact ⟨_,L,rfl,rfl,λe=>(by cases e),λh=>h,hL,g,f⟩
  .by_cases hq:q<+:w
   .rw [if_pos hq] at h;exact vv t (L-q.length) (w.drop q.length) g.2.2.2.2 (by omega) f N h
   .rw [if_neg hq] at h;cases h
 | .br ks,L,[],g,hL,f,N,h=>by
  rw [List.mem_singleton.1 h];exact ⟨_,L,rfl,rfl,λe=>(by cases e),λh=>h,hL,g,f⟩
 | .br ks,L,c::w,g,hL,f,N,h=>by
  rcases List.mem_cons.1 h with rfl | h
  .exact ⟨_,L,rfl,rfl,λe=>(by cases e),λh=>h,hL,g,f⟩
  .exact vv (ks (nb c)) (L-1) w (g.2.2 _) (by omega) (f _) N h
 | .stub _,_,_,_,_,_,_,h=>by cases h
end Tr
end
section
namespace Tr
open Rf Rl Ni No
theorem Ul {l:List Nd} {s:aM} (h:s∈kD l):∃ N∈l,s=iK N:=by
 unfold kD pI at h;rcases List.mem_append.1 h with h | h
 .obtain ⟨N,hN,rfl⟩:=List.mem_map.1 h;exact ⟨N,List.mem_of_mem_take hN,rfl⟩
 .obtain ⟨N,hN,rfl⟩:=List.mem_map.1 (List.mem_filter.1 h).1;exact ⟨N,List.mem_of_mem_drop hN,rfl⟩
theorem LJ {t:T} (g:Good t 64) (f:Fine t) (q:Pa):∀ s∈kD (bM t q),s.size<=900000:=λs hs=>by
 obtain ⟨N,hN,rfl⟩:=Ul hs;obtain ⟨u,K,rfl,e,h1,h2,h3,h4,h5⟩:=vv t 64 q g aH f N hN;rw [<-e];exact (Tm.pz h4 h3 h5 h1 h2).2.2.1
end Tr
end
section
namespace Tr
open Rf Rl Ni No
def eU (l:List aM) (r:aN) (q:Pa):pX :=
 if l.length=0 then (if r=eT eB then some none else none,0) else
 if 70<l.length then (none,0) else
 if eT (l.getD 0 eB)=r then jc l 200 (l.getD 0 eB) q 1 false else (none,0)
theorem Od {t:T} (g:Good t 64) (u:Full t) (f:Fine t) {q:Pa} (hq:q.length=64) (hn:Nib q) (XI:(tH t q).length<=65):∃ a,get t q=some a/\eU (tH t q) (eT (dP t)) q=(some a,(tH t q).length):=by
 by_cases ht:t = .nil
 .subst ht;exact ⟨none,rfl,rfl⟩
 .obtain ⟨w,hw⟩:=xH ht (lS u) q;have hl:tH t q=dP t::pI w:=by unfold tH; rw [hw]
  rw [hl] at XI ⊢;obtain ⟨a,h1,h2⟩:=wE (dP t::pI w) t 64 200 q 1 false g aH u f ht hq hn (by omega) (λe=>by cases e) (by simp) (by rw [hw]; rfl);refine ⟨a,h1,?_⟩;unfold eU;rw [if_neg (by simp),if_neg (by omega),if_pos (show eT ((dP t::pI w).getD 0 eB)=eT (dP t) from rfl)];exact h2
theorem xC {s:aN} (hs:s.length<=4294967296) {n:Nd} (h:fE s=some n) (p:Pa) (ho:(onward n p).1.size≠0):(onward n p).2.length<p.length:=by
 have hm:=(FH hs h).2.1;unfold onward at ho ⊢;by_cases h2:n.kd=2/\n.p<+:p
 .rw [if_pos h2];have hp:0<n.p.length:=by
   unfold dN kK at hm;rw [if_neg (by rw [h2.1]; decide),if_pos h2.1] at hm;simp only [Bool.and_eq_true,decide_eq_true_eq] at hm;exact hm.2.1.1.1.1
  have:=h2.2.length_le;rw [List.length_drop];omega
 .rw [if_neg h2] at ho ⊢;by_cases h3:n.kd=3
  .rw [if_pos h3] at ho ⊢;cases p with
   | nil=>exact absurd rfl ho
   | cons c r=>exact Nat.lt_succ_self _
  .rw [if_neg h3] at ho;exact absurd rfl ho
theorem pE (l:List aM) (hl:∀ x∈l,x.size<=900000):∀ (s s':Nat) (enc:aM) (p:Pa) (used:Nat) (ext:Bool),enc.size<=900000->p.length<s->p.length<s'->jc l s enc p used ext=jc l s' enc p used ext
 | 0,_,_,_,_,_,_,h,_=>absurd h (Nat.not_lt_zero _)
 | _+1,0,_,_,_,_,_,_,h=>absurd h (Nat.not_lt_zero _)
 | s+1,s'+1,enc,p,used,ext,he,h,h'=>by
  unfold jc;cases hg:fE enc.data.toList with
  | none=>rfl
  | some n =>
   dsimp only;have hlen:enc.data.toList.length<=4294967296:=by rw [dZ]; omega
   by_cases ho:(onward n p).1.size=0
   .rw [if_pos ho,if_pos ho]
   .have hlt:=xC hlen hg p ho;rw [if_neg ho,if_neg ho];by_cases h32:(onward n p).1.size<32
    .rw [if_pos h32,if_pos h32,pE l hl s s' _ _ _ _ (by omega) (by omega) (by omega)]
    .rw [if_neg h32,if_neg h32];by_cases hu:used<l.length/\(l.getD used eB).size≠0/\ofP (l.getD used eB)=(onward n p).1
     .have hm:l.getD used eB∈l:=by
       rw [List.getD_eq_getElem?_getD,List.getElem?_eq_getElem hu.1];exact List.getElem_mem _
      rw [if_pos hu,if_pos hu,pE l hl s s' _ _ _ _ (hl _ hm) (by omega) (by omega)]
     .rw [if_neg hu,if_neg hu]
end Tr
end
section
open Go.RowKit Go.Maps
namespace Tm
open Tr Ni Pk Ky No Rf Rl
open Sm (Tab)
theorem AX {k l:aN} (hk:k.length=32) (hl:l.length=32) (w:World):(Op.equalIn 10000 23 (.agg (Sm.kc k)) (.agg (Sm.kc l))).run prog w = .ok (decide (k=l)) w:=by
 obtain ⟨i0,hi,_⟩:=info_parts Cc.jS;rw [show (10000:Nat)=9999+1 from rfl,run_equalIn_array w 9999 (Sm.kc k) (Sm.kc l) underlying23 hi,QH];have:=CO k l w 9998 (List.range 32) (λi h=>by rw [hk,hl]; have:=List.mem_range.1 h; omega);rw [QW hk hl] at this;exact this
theorem Rm {k l:aN} (hk:k.length=32) (hl:l.length=32) (w:World):(binOp .eql 23 (.agg (Sm.kc k)) (.agg (Sm.kc l))).run prog w = .ok (.bool (decide (k=l))) w:=by
 rw [run_eql_struct,AX hk hl w];rfl
theorem Ir {k l:aN} (hk:k.length=32) (hl:l.length=32) (ho:∃ x y tt,o.op = .binOp .eql 23 x y tt/\ev x = .agg (Sm.kc k)/\ev y = .agg (Sm.kc l)) :
  (execOp ev o).run prog w = .ok (.value (.bool (decide (k=l)))) w:=by
 obtain ⟨x,y,tt,ho,hx,hy⟩:=ho;unfold execOp;have hg:=Sm.Dl;simp [ho,hx,hy,run_eqGuard_agg,hg,Rm hk hl,Result.andThen]
end Tm
end
section
open Go.RowKit
namespace No
open Rl Ni
def ql (k:aM):Prop:=∀ w:World,Calls prog 79 #[.string k] w λe w'=>e = .returned (.bool (bJ k))/\Below w.heap.size w w'
def Fp (s:aM):Prop:=∀ w:World,Calls prog 25 #[.string s] w (gF w (fE s.data.toList))
theorem Vd (k:aM) (hk:k.size<=9223372036854775807) (h:k.size<32->Fp k):ql k:=by
 intro w;by_cases h0:k.size=0
 .obtain rfl:=cZ h0;have HF:Hid (bJ eB=true):=hid (by unfold bJ; rw [qU]; rfl);rw [HF.out];clear h;go_enter func79,ntmps79;go_wp2;go_ret;exact ⟨rfl,aI⟩
 .have hne:=Ni.bZ (s:=k) (by omega);by_cases h32:k.size=32
  .have hq:((k.size:Int)==32)=true:=by simp; omega
   have HF:Hid (bJ k=true):=hid (by unfold bJ dH; simp [h32]);rw [HF.out];clear h;go_enter func79,ntmps79;go_wp2;go_ret;exact ⟨rfl,aI⟩
  .have hq:((k.size:Int)==32)=false:=by simp; omega
   by_cases hlt:k.size<32
   .have HF:Hid (bJ k=(fE k.data.toList).isSome):=hid (by unfold bJ dH; simp [h32,h0,hlt]);have HG:=hid (h hlt w);rw [HF.out];obtain ⟨r,hr⟩:=aA (fE k.data.toList)
    rw [hr] at HG ⊢;have d31:decide (31<(k.size:Int))=false:=by simp; omega
    clear h hr HF;go_enter func79,ntmps79;go_wp2_with fail
    refine HG.out.mono ?_;rintro e w3 ⟨N,a3,n3,c3,b,rfl,hr3,hx3,hl3,hb3⟩;have HO:Hid (dL (w3.alloc (.cells (ndC nd0 none 0 0) 67)) w3.heap.size nd0 none 0 0):=hid (Rg.Own.new _ _ _);have HB:=hid (bst hb3 (al1 w3 (.cells (ndC nd0 none 0 0) 67)));have HL:=hid hl3;have hge:=hb3.size;clear hx3 hl3 hb3 HG;go_wp2_with (first
     | (refine aB (aY _ _ _ w3.heap.size rfl rfl) ?_)
     | (refine bA HO.out rfl N a3 n3 c3 HL.out rfl _ _ rfl rfl rfl rfl ?_))
    go_ret;rcases hr3 with ⟨rfl,rfl⟩ | ⟨rfl,rfl⟩
    .exact ⟨rfl,bX HB.out hge _⟩
    .exact ⟨rfl,bX HB.out hge _⟩
   .have HF:Hid (bJ k=false):=hid (by unfold bJ dH; simp [h32,h0,hlt]);rw [HF.out];have d31:decide (31<(k.size:Int))=true:=by simp; omega
    clear h;go_enter func79,ntmps79;go_wp2;go_ret;exact ⟨rfl,aI⟩
theorem zq {n:Nd} (hl:n.ks.length=16) (h:dN bJ n=true):∀ k∈n.ks,bJ k=true:=by
 have hz:∀ k:aM,k.size=0->bJ k=true:=λk hk=>by unfold bJ dH; simp [hk]
 rcases fM hl h with ⟨_,_,_,k3⟩ | ⟨_,_,_,k3,k4,k5⟩ | ⟨_,_,_,_,k5⟩
 .intro k hk;rw [vR k3] at hk;rw [List.eq_of_mem_replicate hk];exact hz _ rfl
 .intro k hk;rw [Gi hl k3 k4] at hk;unfold dR at hk;rcases List.mem_cons.1 hk with e | e
  .rw [e]; exact k5
  .rw [List.eq_of_mem_replicate e]; exact hz _ rfl
 .exact k5
theorem VH {n:Nd} (hl:n.ks.length=16) (h:∀ k∈n.ks,bJ k=true):dN bJ n=(decide (n.p.length<=64)&&dx n.p &&
  (if n.kd=1 then decide (n.v.size≠0)&&decide (n.v.size<=65552)&&decide ((dF n.ks).length=0) else
   if n.kd=2 then decide (n.v.size=0)&&decide (0<n.p.length)&&decide ((n.ks.getD 0 eB).size≠0)&&decide ((dF n.ks).length=1) else
   if n.kd=3 then decide (n.v.size=0)&&decide (n.p.length=0)&&decide (2<=(dF n.ks).length) else false)):=by
 have h0:bJ (n.ks.getD 0 eB)=true:=h _ (by rw [List.getD_eq_getElem?_getD,List.getElem?_eq_getElem (by omega)]; exact List.getElem_mem _);have h1:(dF n.ks).all bJ=true:=List.all_eq_true.2 λk hk=>h k (List.mem_filter.1 hk).1;unfold dN kK;rw [h0,h1];congr 1;split
 .rfl
 .split
  .rw [Bool.and_true];generalize decide (0<n.p.length)=A;generalize decide (n.v.size=0)=B;generalize decide ((dF n.ks).length=1)=C;generalize decide ((n.ks.getD 0 eB).size≠0)=D;cases A <;> cases B <;> cases C <;> cases D <;> rfl
  .split
   .rw [Bool.and_true];generalize decide (n.p.length=0)=A;generalize decide (n.v.size=0)=B;cases A <;> cases B <;> rfl
   .rfl
theorem Qo {n:Nd} (h:¬ n.p.length<=64):dN bJ n=false:=by unfold dN; simp [h]
theorem UL {n:Nd} (h:dx n.p=false):dN bJ n=false:=by unfold dN; simp [h]
theorem Br (N:Nd) (a:aL) (n c:Nat) (hl:N.ks.length=16) (w:World) (hB:bf w a n c N.p) (hv:N.v.size<=maxLen) (hR:∀ k∈N.ks,ql k) :
  Calls prog 49 #[.agg (ndC N a n c)] w λe w'=>e = .returned (.bool (dN bJ N))/\Below w.heap.size w w':=by
 have hp:=hB.len;have hm:=hB.2.1;have hnc:=hB.1;have HO:Hid (dL (w.alloc (.cells (ndC N a n c) 67)) w.heap.size N a n c):=hid (Rg.Own.new _ _ _);have iz:=hid (al1 w (.cells (ndC N a n c) 67));have px:=hid (Jd a n c N.p (w.alloc (.cells (ndC N a n c) 67)) (hB.below (al1 _ _)));obtain ⟨c0,c1,c2⟩:=eF HO.out;have HL:=hid hl;have HP:=hid hp;have HRR:=hid hR;unfold maxLen at hm hv;have HA:=hid (λh=>VH (n:=N) hl h);have HM:=hid (λh=>zq (n:=N) hl h);have HG:=hid (λh=>Qo (n:=N) h);have HD:=hid (λh=>UL (n:=N) h)
 rw [hp] at HA HG;obtain ⟨F,hF⟩:=aA (dN bJ N)
 rw [hF] at HA HM HG HD ⊢;obtain ⟨R,hRb⟩:=aA (dx N.p)
 rw [hRb] at px HA HD;clear hB hp hl hR hF hRb;cases R with
 | false =>
  obtain rfl:=HD.out rfl;go_enter func49,ntmps49;go_wp2_with fail
  refine px.out.mono ?_;rintro e w3 ⟨rfl,rfl⟩;go_wp2;go_ret;exact ⟨rfl,iz.out⟩
 | true =>
  by_cases h64:n<=64
  .have d64:decide (64<(n:Int))=false:=by simp; omega
   go_enter func49,ntmps49;go_wp2_with fail
   refine px.out.mono ?_;rintro e w3 ⟨rfl,rfl⟩;clear px;go_wp2;clear c0 c1 c2;go_loopw [3] (λi wr=>∃ j:Nat,j<=16/\i = .int .i64 j/\Hid (∀ k∈N.ks.take j,bJ k=true)/\Hid (Below (w.heap.size+1) (w.alloc (.cells (ndC N a n c) 67)) wr)) (λi _=>16-(intOf i).toNat)
   case atStart=>exact ⟨0,Nat.zero_le _,rfl,hid (λk hk=>by simp at hk),hid aI⟩
   case round =>
    obtain ⟨j,hj,rfl,HJ,HB⟩:=hrel;have HOr:=hid (HO.out.below (HB.out.mono (by simp)));have e8:=hid (nY HB.out);by_cases hlt:j<16
    .have hck:=mG HOr.out HL.out j hlt;have tE:Hid (N.ks.getD j eB∈N.ks):=hid (by rw [List.getD_eq_getElem?_getD,List.getElem?_eq_getElem (by rw [HL.out]; exact hlt)]; exact List.getElem_mem _);have HC:=hid (HRR.out _ tE.out wr);have HT:Hid (bJ (N.ks.getD j eB)=true->∀ k∈N.ks.take (j+1),bJ k=true):=hid (λh k hk=>by
      rw [List.take_succ_eq_append_getElem (by rw [HL.out]; exact hlt)] at hk;rcases List.mem_append.1 hk with e | e
      .exact HJ.out k e
      .rw [List.mem_singleton.1 e];rw [List.getD_eq_getElem?_getD,List.getElem?_eq_getElem (by rw [HL.out]; exact hlt)] at h;exact h)
     have HN:Hid (bJ (N.ks.getD j eB)=false->F=false):=hid (λh=>by
      cases F with
      | false=>rfl
      | true=>exact absurd (HM.out rfl _ tE.out) (by rw [h]; decide))
     obtain ⟨K,hK⟩:=aA (N.ks.getD j eB)
     rw [hK] at hck HC HT HN;obtain ⟨RK,q8⟩:=aA (bJ K)
     rw [q8] at HC HT HN;clear hK q8 tE HJ;go_wp2_with fail
     refine HC.out.mono ?_;rintro e w5 ⟨rfl,hb5⟩;have al:=hid (yJ HB.out hb5);have JS:=hid (nY al.out);clear hb5 HC HB hck HOr e8;cases RK with
     | true =>
      go_wp2;go_roundw
      case rel=>exact ⟨j+1,by omega,by go_num,hid (HT.out (by first | rfl | trivial)),al⟩
      case measure=>simp [intOf]; omega
     | false =>
      obtain rfl:=HN.out (by first | rfl | trivial);go_wp2;go_ret;exact ⟨rfl,JS.out⟩
    .obtain rfl:j=16:=by omega
     have e:N.ks.take 16=N.ks:=List.take_of_length_le (by rw [HL.out]; exact aH);have HE:=hid (HA.out (λk hk=>HJ.out k (by rw [e]; exact hk)));have gr:=hid (λw=>OA N a n c HL.out w);obtain ⟨c0,c1,c2⟩:=eF HOr.out;have ck:=mG HOr.out HL.out 0 (by decide);have hkl:=wQ N.ks 16;rw [e] at hkl;obtain ⟨Q,hQ⟩:=aA ((dF N.ks).length)
     obtain ⟨K,hK⟩:=aA (N.ks.getD 0 eB)
     obtain ⟨V,hV⟩:=aA N.v
     rw [hQ] at HE gr hkl;rw [hK] at HE ck;rw [hV] at HE c2 hv;clear e HJ HM HA HG HD hQ hK hV HB;by_cases hkd:N.kd=1
     .rw [hkd] at c0;rw [if_pos hkd] at HE;by_cases hv0:V.size=0
      .have d1:decide (1<=(V.size:Int))=false:=by simp; omega
       go_wp2;go_ret;exact ⟨by rw [HE.out]; simp [hv0],e8.out⟩
      .have d1:decide (1<=(V.size:Int))=true:=by simp; omega
       by_cases hv2:V.size<=65552
       .have d2:decide ((V.size:Int)<=65552)=true:=by simp; omega
        go_wp2_with (refine Rg.runW (by rfl) _ _ (bH HOr.out HL.out ?_) ?_; · exact ⟨_,rfl,rfl⟩)
        refine (gr.out _).mono ?_;rintro e w6 ⟨rfl,hb6⟩;have bd:=hid (bst e8.out hb6);clear hb6;by_cases hq:Q=0
        .subst hq;go_wp2;go_ret;exact ⟨by rw [HE.out]; simp [hv0,hv2,h64],bd.out⟩
        .have dq:((Q:Int)==0)=false:=by simp; omega
         go_wp2;go_ret;exact ⟨by rw [HE.out]; simp [hq],bd.out⟩
       .have d2:decide ((V.size:Int)<=65552)=false:=by simp; omega
        go_wp2;go_ret;exact ⟨by rw [HE.out]; simp [hv2],e8.out⟩
     .rw [if_neg hkd] at HE;have hk1:(N.kd==1)=false:=by simp; exact hkd
      clear hkd;by_cases hkd:N.kd=2
      .rw [hkd] at c0;rw [if_pos hkd] at HE;by_cases hv0:V.size=0
       .obtain rfl:=cZ hv0;by_cases hn0:0<n
        .have dn:decide (0<(n:Int))=true:=by simp; omega
         by_cases hz:K.size=0
         .obtain rfl:=cZ hz;go_wp2;go_ret;exact ⟨by rw [HE.out]; rw [show decide (eB.size≠0)=false from rfl,Bool.and_false,Bool.false_and,Bool.and_false]; rfl,e8.out⟩
         .have hkn:=Ni.bZ (s:=K) (by omega);go_wp2_with (refine Rg.runW (by rfl) _ _ (bH HOr.out HL.out ?_) ?_; · exact ⟨_,rfl,rfl⟩)
          refine (gr.out _).mono ?_;rintro e w6 ⟨rfl,hb6⟩;have bd:=hid (bst e8.out hb6);clear hb6;by_cases hq:Q=1
          .subst hq;go_wp2;go_ret;exact ⟨by rw [HE.out]; simp [hn0,hz,h64]; rfl,bd.out⟩
          .have dq:((Q:Int)==1)=false:=by simp; omega
           go_wp2;go_ret;exact ⟨by rw [HE.out]; simp [hq],bd.out⟩
        .obtain rfl:n=0:=by omega
         go_wp2;go_ret;exact ⟨by rw [HE.out]; simp,e8.out⟩
       .have G6:=Ni.bZ (s:=V) (by omega);go_wp2;go_ret;exact ⟨by rw [HE.out]; simp [hv0],e8.out⟩
      .rw [if_neg hkd] at HE;have hk2:(N.kd==2)=false:=by simp; exact hkd
       clear hkd;by_cases hkd:N.kd=3
       .rw [hkd] at c0;rw [if_pos hkd] at HE;by_cases hv0:V.size=0
        .obtain rfl:=cZ hv0;by_cases hn0:n=0
         .subst hn0;go_wp2_with (refine Rg.runW (by rfl) _ _ (bH HOr.out HL.out ?_) ?_; · exact ⟨_,rfl,rfl⟩)
          refine (gr.out _).mono ?_;rintro e w6 ⟨rfl,hb6⟩;have bd:=hid (bst e8.out hb6);clear hb6;by_cases hq:2<=Q
          .have dq:decide (2<=(Q:Int))=true:=by simp; omega
           go_wp2;go_ret;exact ⟨by rw [HE.out]; simp [hq]; rfl,bd.out⟩
          .have dq:decide (2<=(Q:Int))=false:=by simp; omega
           go_wp2;go_ret;exact ⟨by rw [HE.out]; simp [hq],bd.out⟩
         .have dn:((n:Int)==0)=false:=by simp; omega
          go_wp2;go_ret;exact ⟨by rw [HE.out]; simp [hn0],e8.out⟩
        .have G6:=Ni.bZ (s:=V) (by omega);go_wp2;go_ret;exact ⟨by rw [HE.out]; simp [hv0],e8.out⟩
       .rw [if_neg hkd] at HE;have hk3:(N.kd==3)=false:=by simp; exact hkd
        go_wp2;go_ret;exact ⟨by rw [HE.out]; simp,e8.out⟩
  .have d64:decide (64<(n:Int))=true:=by simp; omega
   obtain rfl:=HG.out h64;go_enter func49,ntmps49;go_wp2_with fail
   refine px.out.mono ?_;rintro e w3 ⟨rfl,rfl⟩;go_wp2;go_ret;exact ⟨rfl,iz.out⟩
def jw (x:It):aM × Bool:=if x.l then (if x.bytes.length<32 then (⟨x.bytes.toArray⟩,bJ ⟨x.bytes.toArray⟩) else (eB,false)) else (x.s,bJ x.s)
theorem NA (s:aM) (w:World) (a:aL) (n c:Nat) (hR:ql s) (_hs:s.size<=1000000) :
  Calls prog 50 #[.agg #[.bool false,.string s,.slice a n c]] w λe w'=>e = .returned (.tuple #[.string s,.bool (bJ s)])/\Below w.heap.size w w':=by
 have hO:Rg.Own (w.alloc (.cells #[.bool false,.string s,.slice a n c] 96)) w.heap.size (itC (.mk false s []) a n c) 96:=Rg.Own.new _ _ _;obtain ⟨c0,c1,c2⟩:=dB hO.2;have HB:=hid (al1 w (.cells #[.bool false,.string s,.slice a n c] 96));have HR:=hid (λw=>hR w);obtain ⟨RK,q8⟩:=aA (bJ s)
 rw [q8] at HR ⊢;dsimp only [It.l,It.s] at c0 c1;clear hO q8 hR;go_enter func50,ntmps50;go_wp2_with fail
 refine (HR.out _).mono ?_;rintro e w3 ⟨rfl,hb3⟩;have HB3:=hid (bst HB.out hb3);clear hb3;go_wp2;go_ret2
 exact ⟨rfl,HB3.out⟩
theorem Pm (s:aM) (xs:List It) (w:World) (a:aL) (n c:Nat) (hv:gZ w xs a n c) (hG:Good (.mk true s xs)) (h1:(It.mk true s xs).bytes.length<32->ql ⟨(It.mk true s xs).bytes.toArray⟩) :
  Calls prog 50 #[.agg #[.bool true,.string s,.slice a n c]] w λe w'=>e = .returned (.tuple #[.string (jw (.mk true s xs)).1,.bool (jw (.mk true s xs)).2])/\Below w.heap.size w w':=by
 obtain ⟨w1,hw1⟩:=ay (w.alloc (.cells #[.bool true,.string s,.slice a n c] 96))
 have hb1:Below w.heap.size w w1:=by rw [hw1]; exact al1 _ _
 have hO:Rg.Own w1 w.heap.size (itC (.mk true s xs) a n c) 96:=by rw [hw1]; exact Rg.Own.new _ _ _
 obtain ⟨c0,c1,c2⟩:=dB hO.2;have HB:=hid hb1;have HO:=hid hO;have hP:Calls prog 81 #[.agg (itC (.mk true s xs) a n c)] w1 _:=Iz (.mk true s xs) 0 w1 (itV (.mk true s xs) a n c) ⟨a,n,c,rfl,hv.stays hb1⟩ hG.1 hG.2.2.1;have hsz:=hG.2.2.1;have hbs:(⟨(It.mk true s xs).bytes.toArray⟩:aM).size=(It.mk true s xs).bytes.length:=dM _;unfold jw;rw [if_pos (show (It.mk true s xs).l=true from rfl)];dsimp only [It.l,It.s] at c0 c1;by_cases hlt:(It.mk true s xs).bytes.length<32
 .have hR:=h1 hlt;rw [if_pos hlt];dsimp only;obtain ⟨S,hS⟩:=aA (⟨(It.mk true s xs).bytes.toArray⟩:aM)
  obtain ⟨RK,q8⟩:=aA (bJ S)
  unfold ql at hR;rw [hS] at hR hP hbs;rw [hS,q8];rw [q8] at hR;have HR:=hid (λw=>hR w);have HP:=hid hP;have d31:decide (31<(S.size:Int))=false:=by simp; omega
  clear h1 hv hG hb1 hO hP hsz q8 hS hR;subst hw1;go_enter func50,ntmps50;go_wp2_with (refine aB (bY HO.out ⟨_,rfl,rfl⟩) ?_)
  with_reducible refine HP.out.mono ?_
  rintro e w3 ⟨rfl,hb3⟩;have HB3:=hid (bst HB.out hb3);clear hb3 HP;go_wp2_with fail
  refine (HR.out _).mono ?_;rintro e w4 ⟨rfl,hb4⟩;have co:=hid (bst HB3.out hb4);clear hb4;go_wp2;go_ret2
  exact ⟨rfl,co.out⟩
 .rw [if_neg hlt];dsimp only;obtain ⟨S,hS⟩:=aA (⟨(It.mk true s xs).bytes.toArray⟩:aM)
  rw [hS] at hP hbs;have HP:=hid hP;have d31:decide (31<(S.size:Int))=true:=by simp; omega
  clear h1 hv hG hb1 hO hS hP;subst hw1;go_enter func50,ntmps50;go_wp2_with (refine aB (bY HO.out ⟨_,rfl,rfl⟩) ?_)
  with_reducible refine HP.out.mono ?_
  rintro e w3 ⟨rfl,hb3⟩;have HB3:=hid (bst HB.out hb3);clear hb3 HP;go_wp2;go_ret2
  exact ⟨rfl,HB3.out⟩
theorem FL (x:It) (w:World) (a:aL) (n c:Nat) (hv:gZ w x.xs a n c) (hG:Good x) (h1:x.l=true->x.bytes.length<32->ql ⟨x.bytes.toArray⟩) (h2:x.l=false->ql x.s) :
  Calls prog 50 #[itV x a n c] w λe w'=>e = .returned (.tuple #[.string (jw x).1,.bool (jw x).2])/\Below w.heap.size w w':=by
 cases x with
 | mk l s xs =>
  cases l with
  | true=>exact Pm s xs w a n c hv hG (h1 rfl)
  | false =>
   obtain rfl:xs=[]:=by
    have:=AU hG.1 rfl;exact congrArg It.xs this
   have hk:jw (.mk false s [])=(s,bJ s):=rfl;rw [hk];exact NA s w a n c (h2 rfl) hG.2.2.2
theorem LA {x:It} (h:jL x=some k) (hr:bJ k=true):jw x=(k,true):=by
 unfold jL at h;unfold jw;split at h
 .rename_i hl;rw [if_pos hl];split at h
  .rename_i hb;obtain rfl:=Option.some.inj h;rw [if_pos hb,hr]
  .cases h
 .rename_i hl;rw [if_neg hl];split at h
  .obtain rfl:=Option.some.inj h;rw [hr]
  .cases h
theorem CB:∀ {l:List It} {ks:List aM},kU l=some ks->(∀ k∈ks,bJ k=true)->l.map jw=ks.map λk=>(k,true)
 | [],ks,h,_=>by obtain rfl:=Option.some.inj h; rfl
 | x::l,ks,h,hr=>by
  unfold kU at h;cases hk:jL x with
  | none=>rw [hk] at h; cases h
  | some k =>
   rw [hk] at h;dsimp only at h;cases ha:kU l with
   | none=>rw [ha] at h; cases h
   | some ks' =>
    rw [ha] at h;obtain rfl:=Option.some.inj h;rw [List.map_cons,List.map_cons,LA hk (hr k List.mem_cons_self),CB ha (λq hq=>hr q (List.mem_cons_of_mem _ hq))]
theorem Tf {s:aN} (hs:s.length<=1000000) {N:Nd} (hl:N.ks.length=16) (h:∀ M,fE s=some M->M=N):fE s=if dN bJ N=true/\gU N=s then some N else none:=by
 by_cases hc:dN bJ N=true/\gU N=s
 .rw [if_pos hc];have:=get_put hl hc.1;rw [hc.2] at this;exact this
 .rw [if_neg hc];cases hg:fE s with
  | none=>rfl
  | some M =>
   obtain rfl:=h M hg;obtain ⟨_,h2,h3,_⟩:=Pj hs hg;exact absurd ⟨h3,h2⟩ hc
theorem Nk {s:aN} {c:Int} (h:bR s 0 0 = .error c):dJ s = .error c:=by
 unfold dJ;rw [h]
theorem Jl {s:aN} {x:It} {k:Nat} (h:bR s 0 0 = .ok (x,n,k)) (hn:n<s.length):dJ s = .error 6:=by
 unfold dJ;rw [h];exact if_pos hn
theorem RY {s:aN} {x:It} {k:Nat} (h:bR s 0 0 = .ok (x,n,k)) (hn:¬ n<s.length):dJ s = .ok x:=by
 unfold dJ;rw [h];exact if_neg hn
theorem Ma {s:aN} (hs:s.length<=1000000) {c:Int} (hw:dJ s = .error c):fE s=none:=by rw [qz s (by omega),hw]
theorem Vh {s:aN} (hs:s.length<=1000000) {x:It} (hw:dJ s = .ok x) (h2:x.xs.length≠2) (cY:x.xs.length≠17):fE s=none:=by
 rw [qz s (by omega),hw];dsimp only;rw [show dO x.xs=none by unfold dO; rw [if_neg h2,if_neg cY]]
theorem Uj {s:aN} (hs:s.length<=1000000) {x:It} (hw:dJ s = .ok x) (h2:x.xs.length=2) (hb:(x.xs.getD 0 it0).s.size=0\/Bad (x.xs.getD 0 it0).s):fE s=none:=by
 rw [qz s (by omega),hw];dsimp only;rw [show dO x.xs=none by unfold dO fA; rw [if_pos h2,if_pos hb]]
def lG (y z:It):Nd:=⟨1,bW y.s,z.s,zks⟩
theorem Sd {s:aN} (hs:s.length<=1000000) {x:It} (hw:dJ s = .ok x) (h2:x.xs.length=2) (hb:¬ ((x.xs.getD 0 it0).s.size=0\/Bad (x.xs.getD 0 it0).s)) (hlf:iC (x.xs.getD 0 it0).s=true) :
  fE s=if dN bJ (lG (x.xs.getD 0 it0) (x.xs.getD 1 it0))=true then some (lG (x.xs.getD 0 it0) (x.xs.getD 1 it0)) else none:=by
 rw [qz s (by omega),hw];dsimp only;rw [show dO x.xs=some (lG (x.xs.getD 0 it0) (x.xs.getD 1 it0)) by unfold dO fA; rw [if_pos h2,if_neg hb,if_pos hlf]; rfl]
theorem Ns {y z:It} (hf:Fits d z) (hm:dN bJ (lG y z)=true):z.l=false:=by
 rcases fM (n:=lG y z) bK hm with ⟨_,h,_⟩ | ⟨h,_⟩ | ⟨h,_⟩
 .exact congrArg It.l (vk hf h)
 .exact absurd (show (1:Int)=2 from h) (by decide)
 .exact absurd (show (1:Int)=3 from h) (by decide)
def IW (y z:It):Nd:=⟨2,bW y.s,eB,dR (jw z).1⟩
theorem Fw (y z:It):(IW y z).ks.length=16:=gB _
theorem qp {s:aN} (hs:s.length<=1000000) {x:It} (hw:dJ s = .ok x) (h2:x.xs.length=2) (hb:¬ ((x.xs.getD 0 it0).s.size=0\/Bad (x.xs.getD 0 it0).s)) (hlf:iC (x.xs.getD 0 it0).s=false) :
  ∀ M,fE s=some M->(jw (x.xs.getD 1 it0)).2=true/\M=IW (x.xs.getD 0 it0) (x.xs.getD 1 it0):=by
 intro M hM;obtain ⟨x',hw',hr,hm⟩:=mF (by omega) hM;obtain rfl:=iG (hw.symm.trans hw');unfold dO fA at hr;rw [if_pos h2,if_neg hb,if_neg (by rw [hlf]; decide)] at hr;obtain ⟨k,hk,rfl⟩:=Option.map_eq_some_iff.1 hr;have:=LA hk (zq (gB k) hm k List.mem_cons_self);unfold IW;rw [this];exact ⟨rfl,rfl⟩
def brN (xs:List It):Nd:=⟨3,[],eB,(xs.take 16).map λx=>(jw x).1⟩
theorem zM {xs:List It} (h:xs.length=17):(brN xs).ks.length=16:=by simp [brN,h]
theorem JD {s:aN} (hs:s.length<=1000000) {x:It} (hw:dJ s = .ok x) (cY:x.xs.length=17) :
  ∀ M,fE s=some M->(∀ y∈x.xs.take 16,(jw y).2=true)/\M=brN x.xs:=by
 intro M hM;obtain ⟨x',hw',hr,hm⟩:=mF (by omega) hM;obtain rfl:=iG (hw.symm.trans hw');unfold dO dK at hr;rw [if_neg (by omega),if_pos cY] at hr;cases ha:kU (x.xs.take 16) with
 | none=>rw [ha] at hr; cases hr
 | some ks =>
  rw [ha] at hr;dsimp only at hr;split at hr
  .obtain rfl:=Option.some.inj hr;have hkl:ks.length=16:=by rw [SH ha]; simp [cY]
   have hrf:=zq hkl hm;have hmap:=CB ha hrf;refine ⟨λy hy=>?_,?_⟩
   .have h1:jw y∈(x.xs.take 16).map jw:=List.mem_map_of_mem hy;rw [hmap] at h1;obtain ⟨k,_,h1⟩:=List.mem_map.1 h1;rw [<-h1]
   .have h1:=congrArg (List.map Prod.fst) hmap;rw [List.map_map,List.map_map] at h1;unfold brN;have h2:((x.xs.take 16).map λx=>(jw x).1)=ks:=by
     have e1:(Prod.fst ∘ jw)=λx=>(jw x).1:=rfl;have e2:(Prod.fst ∘ λk:aM=>(k,true))=id:=rfl;rw [e1,e2,List.map_id] at h1;exact h1
    rw [h2]
  .cases hr
end No
end
end Go.Proofs.YtokaiemgjngcoaaGreatDoor
