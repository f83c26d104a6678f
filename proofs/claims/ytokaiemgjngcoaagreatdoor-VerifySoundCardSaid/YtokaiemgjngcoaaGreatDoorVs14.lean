/-
 Contracts of node.Put and of the plain answer's Put.
-/
import Derived.Test.YtokaiemgjngcoaaGreatDoorVs13
import Derived.Test.YtokaiemgjngcoaaGreatDoorVs11
open Go.Lib (hid)
open Go.Proofs.Tryz
set_option linter.unusedSimpArgs false
set_option linter.unusedVariables false
set_option maxHeartbeats 40000000
set_option maxRecDepth 100000
namespace Go.Proofs.YtokaiemgjngcoaaGreatDoor
variable {k r x:aM} {L c j kn n u:Nat} {a pa:aL} {w w':World} {o:Oper} {K:Act->World->Prop} {Q:Exit->Act->World->Prop} {ops:Array Oper} {e t:TypeId} {v:Value} {act:Act} {ev:Operand->Value}
section
open Go.RowKit
namespace No
open Rl Ni
theorem Sr (N:Nd) (a:aL) (n c:Nat) (hl:N.ks.length=16) (w:World) (hB:bf w a n c N.p) (hm:fC bV N=true) (hks:∀ k∈N.ks,k.size<=100):Calls prog 61 #[.agg (ndC N a n c)] w (Co w (gX N)):=by
 rcases iD hl hm with ⟨k1,_⟩ | ⟨k1,_⟩ | ⟨k1,_⟩
 .exact QI N a n c hl w hB hm k1
 .exact QM N a n c hl w hB hm k1 (hks _ (by rw [List.getD_eq_getElem?_getD,List.getElem?_eq_getElem (by omega)]; exact List.getElem_mem _))
 .exact Gj N a n c hl w k1 hks
def Vj (N:Nd):Value:=.tuple #[.string (if fC bV N then ⟨(jM N).toArray⟩ else eB),.int .i64 (if fC bV N then 0 else 2)]
theorem Gy (N:Nd) (a:aL) (n c:Nat) (hl:N.ks.length=16) (w:World) (hB:bf w a n c N.p) (hv:N.v.size<=maxLen) (hks:∀ k∈N.ks,k.size<=100) :
  Calls prog 32 #[.agg (ndC N a n c)] w λe w'=>e = .returned (Vj N)/\Below w.heap.size w w':=by
 obtain ⟨w2,hw2⟩:=ay (w.alloc (.cells (ndC N a n c) 67))
 have hO:dZ w2 w.heap.size N a n c:=by rw [hw2]; exact Rg.Own.new _ _ _
 have eo:Below w.heap.size w w2:=by rw [hw2]; exact al1 _ _
 have HC:=hid (sZ N a n c hl w2 (hB.below eo) hv (λk hk=>oQ k (by have:=hks k hk; omega)));have G7:Hid (fC bV N=true->∀ w',Below w.heap.size w w'->Calls prog 61 #[.agg (ndC N a n c)] w' (Co w' (gX N))):=hid (λhm w' hb=>Sr N a n c hl w' (hB.below hb) hm hks);have HF:Hid (fC bV N=true->Fits 0 (gX N)/\(gX N).size<=4096/\(gX N).bytes.length<=1099511627776):=hid (λhm=>by
  obtain ⟨f1,f2,f3,_⟩:=DU hl hm;exact ⟨f1,f3,by omega⟩)
 have HO:=hid hO;have fR:=hid eo;have HL:=hid hl;unfold Vj;obtain ⟨M,hM⟩:=aA (fC bV N)
 rw [hM] at HC G7 HF ⊢;clear hO eo hB hks hv hl hM;unfold jM;obtain ⟨X,hX⟩:=aA (gX N)
 rw [hX] at G7 HF ⊢;clear hX;subst hw2;cases M with
 | false =>
  go_enter func32,ntmps32;go_wp2_with (refine aB (bU HO.out HL.out ?_) ?_; · exact ⟨_,rfl,rfl⟩)
  refine HC.out.mono ?_;rintro e w3 ⟨rfl,hb3⟩;have HB3:=hid (bst fR.out hb3);clear hb3;go_wp2;go_ret2
  exact ⟨rfl,HB3.out⟩
 | true =>
  go_enter func32,ntmps32;go_wp2_with (refine aB (bU HO.out HL.out ?_) ?_; · exact ⟨_,rfl,rfl⟩)
  refine HC.out.mono ?_;rintro e w3 ⟨rfl,hb3⟩;have ce:=hid (HO.out.below hb3);have HB3:=hid (bst fR.out hb3);have HI3:=hid (G7.out (by first | rfl | trivial) w3 HB3.out);clear hb3 HC G7;go_wp2_with (refine aB (bU ce.out HL.out ?_) ?_; · exact ⟨_,rfl,rfl⟩)
  refine HI3.out.mono ?_;rintro e w4 ⟨la,ln,lc,rfl,hI,hb4⟩;have aq:=hid (bst HB3.out hb4);have G8:=hid (zK X w4 (itV X la ln lc) ⟨la,ln,lc,rfl,bO.weak hI (Nat.zero_le _)⟩ (HF.out (by first | rfl | trivial)).1 (HF.out (by first | rfl | trivial)).2.1 (HF.out (by first | rfl | trivial)).2.2);clear hI hb4 HI3;go_wp2_with fail
  refine G8.out.mono ?_;rintro e w5 ⟨rfl,hb5⟩;have ae:=hid (bst aq.out hb5);clear hb5;go_wp2;go_ret2
  exact ⟨rfl,ae.out⟩
theorem tq (k:aM) (hk:k.size<=4294967286) (w:World):Calls prog 66 #[.string k] w λe w'=>e = .returned (.string ⟨(It.mk false k []).bytes.toArray⟩)/\Below w.heap.size w w':=by
 have hT:=λw=>Tz (.mk false k []) 0 w (itV (.mk false k []) none 0 0) ⟨none,0,0,rfl,bO.nil _ _⟩ (pR 0 (by omega) k) (by have:=rE k (by omega); omega);unfold itV at hT;dsimp only [It.l,It.s] at hT;have HT:=hid hT;clear hT;obtain ⟨B,hB⟩:=aA (⟨(It.mk false k []).bytes.toArray⟩:aM)
 rw [hB] at HT ⊢;clear hB;go_enter func66,ntmps66;go_wp2_with fail
 refine (HT.out _).mono ?_;rintro e w3 ⟨rfl,hb3⟩;have HB:=hid hb3;clear hb3;go_wp2;go_ret;exact ⟨rfl,HB.out⟩
theorem JF (h:bV k=true) (hp:dB k=false):(⟨(dS k).bytes.toArray⟩:aM)=k:=by
 obtain ⟨x,n,hw,e,hl,hr,h32,hb,hf,_⟩:=rA hp h;rw [e,hb]
theorem Gm (k:aM) (hk:k.size<=100) (h:bV k=true) (w:World):Calls prog 68 #[.string k] w λe w'=>e = .returned (.string ⟨(dS k).bytes.toArray⟩)/\Below w.heap.size w w':=by
 have HT:=hid (λw=>tq k (by omega) w);cases hp:dB k with
 | true =>
  rw [nU hp];obtain ⟨B,hB⟩:=aA (⟨(It.mk false k []).bytes.toArray⟩:aM)
  rw [hB] at HT ⊢;clear hB;rcases jW hp with h0 | h32
  .obtain rfl:=dI h0;clear h hp h0 hk;go_enter func68,ntmps68;go_wp2_with fail
   refine (HT.out _).mono ?_;rintro e w3 ⟨rfl,hb3⟩;have HB:=hid hb3;clear hb3;go_wp2;go_ret;exact ⟨rfl,HB.out⟩
  .have hne:=Ni.dJ (s:=k) (by omega);have hd:((k.size:Int)==32)=true:=by simp; omega
   clear h hp hk;go_enter func68,ntmps68;go_wp2_with fail
   refine (HT.out _).mono ?_;rintro e w3 ⟨rfl,hb3⟩;have HB:=hid hb3;clear hb3;go_wp2;go_ret;exact ⟨rfl,HB.out⟩
 | false =>
  have hns:¬ (k.size=0\/k.size=32):=of_decide_eq_false hp;have hne:=Ni.dJ (s:=k) (by omega);have hd:((k.size:Int)==32)=false:=by simp; omega
  rw [JF h hp];clear h hp hns hk;go_enter func68,ntmps68;go_wp2;go_ret;exact ⟨rfl,aI⟩
def jl (xs:List It):aM:=⟨((xs.map It.bytes).flatten).toArray⟩
theorem sK (xs ys:List It):jl (xs++ys)=jl xs++jl ys:=by
 unfold jl;rw [Br,List.map_append,List.flatten_append]
theorem nM (x:It):jl [x]=⟨x.bytes.toArray⟩:=by
 unfold jl;rw [List.map_cons,List.map_nil,List.flatten_cons,List.flatten_nil,List.append_nil]
theorem uF (xs:List It):(jl xs).size=((xs.map It.bytes).flatten).length:=fq _
theorem xL {N:Nd} (hl:N.ks.length=16) (h:fC bV N=true):(⟨(jM N).toArray⟩:aM)=eZ (jl (bX N)).size true++jl (bX N)/\(jl (bX N)).size<=1200000:=by
 have h2:=zI (bX N) 65561 (λy hy=>(uz hl h y hy).2);have cS:=wM hl;have hm:(bX N).length*65561<=17*65561:=Nat.mul_le_mul_right _ cS;refine ⟨?_,by rw [uF]; omega⟩;unfold jM gX;rw [jg _ (by omega),uF];unfold eZ jl;rw [Br]
theorem Nr (N:Nd) (a:aL) (n c:Nat) (hl:N.ks.length=16) (w:World) (hB:bf w a n c N.p) (hm:fC bV N=true) (hkd:N.kd=1) :
  Calls prog 37 #[.agg (ndC N a n c)] w λe w'=>e = .returned (.string ⟨(jM N).toArray⟩)/\Below w.heap.size w w':=by
 obtain ⟨m1,m2,_⟩:=jD hm;obtain ⟨f1,f2⟩:=xL hl hm;have el:n<=64:=by rw [<-hB.len]; exact m1
 obtain ⟨w2,hw2⟩:=ay (w.alloc (.cells (ndC N a n c) 67))
 have hO:dZ w2 w.heap.size N a n c:=by rw [hw2]; exact Rg.Own.new _ _ _
 have eo:Below w.heap.size w w2:=by rw [hw2]; exact al1 _ _
 have fk:=hid (λw' hb=>wX a n c N.p true m2 el w' (hB.below hb));have HI:Hid (jl (bX N)=⟨(It.mk false ⟨(gY N.p true).toArray⟩ []).bytes.toArray⟩++⟨(It.mk false N.v []).bytes.toArray⟩):=hid (by
  unfold bX pJ;rw [if_neg (by omega),if_pos hkd];rw [show ∀ x y:It,[x,y]=[x]++[y] from λ_ _=>rfl,sK,nM,nM,hkd];rfl)
 obtain ⟨P,hP⟩:=aA (⟨(gY N.p true).toArray⟩:aM)
 have hps:P.size<=100:=by rw [<-hP,ou,hB.len]; omega
 rw [hP] at fk HI;have HT1:=hid (λw=>tq P (by omega) w);have hv2:N.v.size<=65552:=by
  rcases iD hl hm with ⟨_,_,v,_⟩ | ⟨k2,_⟩ | ⟨k3,_⟩
  .exact v
  .omega
  .omega
 have HT2:=hid (λw=>tq N.v (by omega) w);rw [HI.out] at f1 f2;obtain ⟨T1,hT1⟩:=aA (⟨(It.mk false P []).bytes.toArray⟩:aM)
 obtain ⟨T2,eL⟩:=aA (⟨(It.mk false N.v []).bytes.toArray⟩:aM)
 rw [hT1] at f1 f2 HT1;rw [eL] at f1 f2 HT2;have hts:T1.size+T2.size<=1200000:=by rw [ByteArray.size_append] at f2; exact f2
 have rI:Hid (¬ 9223372036854775807<T1.size+T2.size):=hid (by omega);obtain ⟨X,hX⟩:=aA (T1++T2)
 have HX:=hid hX;rw [hX] at f1 f2;have HF:=hid f1;clear hT1 eL hP hX HI f1 el;have HL:=hid hl;have HK:=hid hkd;have cI:=hid eo;have HO:=hid hO;obtain ⟨c0,c1,c2⟩:=dX hO;rw [hkd] at c0;clear hm hl m1 m2 hB hO eo hkd;subst hw2;go_enter func37,ntmps37;go_wp2_with fail
 refine aD (S:=λw'=>dZ w' w.heap.size N a n c/\Below w.heap.size w w') (⟨HO.out.drew,cI.out.drew⟩) λhld=>?_;refine aj 0 ?_;try simp only [Act.put,au]
 refine aj 1 ?_ (hy:=by intro wz hSw; (have q0:=(dX hSw.1).2.1; go_simp <;> with_reducible rfl));try simp only [Act.put,au]
 refine aj 4 ?_;try simp only [Act.put,au]
 refine aj 5 ?_ (hy:=by intro wz hSw; (have q0:=(dX hSw.1).2.2; go_simp <;> with_reducible rfl));try simp only [Act.put,au]
 refine ak 2 λK hK=>?_;go_simp;go_at_call 67
 (with_reducible refine (fk.out _ hld.2).mono ?_)
 rintro e J6 ⟨rfl,hbx⟩;refine hK.out _ _ (⟨hld.1.below hbx,bst hld.2 hbx⟩) λhld=>?_;clear hK K hbx;try simp only [Act.put,au]
 refine ak 3 λK hK=>?_;go_simp;go_at_call 66
 (with_reducible refine (HT1.out _).mono ?_)
 rintro e J7 ⟨rfl,hbx⟩;refine hK.out _ _ (⟨hld.1.below hbx,bst hld.2 hbx⟩) λhld=>?_;clear hK K hbx;try simp only [Act.put,au]
 refine ak 6 λK hK=>?_;go_simp;go_at_call 66
 (with_reducible refine (HT2.out _).mono ?_)
 rintro e J8 ⟨rfl,hbx⟩;refine hK.out _ _ (⟨hld.1.below hbx,bst hld.2 hbx⟩) λhld=>?_;clear hK K hbx;try simp only [Act.put,au]
 refine aj 7 ?_ (hy:=by intro wz hSw; (have q0:=rI.out; go_simp <;> with_reducible rfl));try simp only [Act.put,au]
 refine aj 8 ?_;try simp only [Act.put,au]
 refine aC ?_;rw [HX.out];obtain ⟨c0,c1,c2⟩:=dX hld.1;rw [HK.out] at c0;have kO:=hid hld.2;clear hld;have A0:(eZ X.size true).size<=9:=by unfold eZ; rw [fq]; exact mM _ _ (by omega)
 have A9:=hid (qd X.size (by omega) true);go_wp2_with fail
 refine (A9.out _).mono ?_;rintro e w9 ⟨rfl,es⟩;have cD:=hid (bst kO.out es);clear es;go_wp2;go_ret;exact ⟨by rw [HF.out]; rfl,cD.out⟩
theorem UA (N:Nd) (a:aL) (n c:Nat) (hl:N.ks.length=16) (w:World) (hB:bf w a n c N.p) (hm:fC bV N=true) (hkd:N.kd=2) :
  Calls prog 37 #[.agg (ndC N a n c)] w λe w'=>e = .returned (.string ⟨(jM N).toArray⟩)/\Below w.heap.size w w':=by
 obtain ⟨m1,m2,_⟩:=jD hm;obtain ⟨f1,f2⟩:=xL hl hm;have el:n<=64:=by rw [<-hB.len]; exact m1
 obtain ⟨w2,hw2⟩:=ay (w.alloc (.cells (ndC N a n c) 67))
 have hO:dZ w2 w.heap.size N a n c:=by rw [hw2]; exact Rg.Own.new _ _ _
 have eo:Below w.heap.size w w2:=by rw [hw2]; exact al1 _ _
 have fk:=hid (λw' hb=>wX a n c N.p false m2 el w' (hB.below hb));have HI:Hid (jl (bX N)=⟨(It.mk false ⟨(gY N.p false).toArray⟩ []).bytes.toArray⟩++⟨(dS (N.ks.getD 0 eB)).bytes.toArray⟩):=hid (by
  unfold bX pJ;rw [if_neg (by omega),if_neg (by omega)];rw [show ∀ x y:It,[x,y]=[x]++[y] from λ_ _=>rfl,sK,nM,nM,hkd];rfl)
 obtain ⟨P,hP⟩:=aA (⟨(gY N.p false).toArray⟩:aM)
 have hps:P.size<=100:=by rw [<-hP,ou,hB.len]; omega
 rw [hP] at fk HI;have HT1:=hid (λw=>tq P (by omega) w);have hr:bV (N.ks.getD 0 eB)=true:=by
  rcases iD hl hm with ⟨k1,_⟩ | ⟨_,_,_,_,_,r⟩ | ⟨k3,_⟩
  .omega
  .exact r
  .omega
 obtain ⟨k,hk⟩:=aA (N.ks.getD 0 eB)
 rw [hk] at hr HI;have Z0:Hid (∀ wz,dZ wz w.heap.size N a n c->wz.cell? ⟨w.heap.size,3,none⟩=some (.string k)):=hid (λwz h=>by rw [<-hk]; exact rR h hl 0 (by decide));have hks:k.size<=100:=by
  cases hp:dB k with
  | true=>have:=jW hp; omega
  | false=>obtain ⟨_,_,_,_,_,_,h,_⟩:=rA hp hr; omega
 have HT2:=hid (λw=>Gm k hks hr w);clear hk hr hks;rw [HI.out] at f1 f2;obtain ⟨T1,hT1⟩:=aA (⟨(It.mk false P []).bytes.toArray⟩:aM)
 obtain ⟨T2,eL⟩:=aA (⟨(dS k).bytes.toArray⟩:aM)
 rw [hT1] at f1 f2 HT1;rw [eL] at f1 f2 HT2;have hts:T1.size+T2.size<=1200000:=by rw [ByteArray.size_append] at f2; exact f2
 have rI:Hid (¬ 9223372036854775807<T1.size+T2.size):=hid (by omega);obtain ⟨X,hX⟩:=aA (T1++T2)
 have HX:=hid hX;rw [hX] at f1 f2;have HF:=hid f1;clear hT1 eL hP hX HI f1 el;have HL:=hid hl;have HK:=hid hkd;have cI:=hid eo;have HO:=hid hO;obtain ⟨c0,c1,c2⟩:=dX hO;rw [hkd] at c0;clear hm hl m1 m2 hB hO eo hkd;subst hw2;go_enter func37,ntmps37;go_wp2_with fail
 refine aD (S:=λw'=>dZ w' w.heap.size N a n c/\Below w.heap.size w w') (⟨HO.out.drew,cI.out.drew⟩) λhld=>?_;refine aj 0 ?_;try simp only [Act.put,au]
 refine aj 1 ?_ (hy:=by intro wz hSw; (have q0:=(dX hSw.1).2.1; go_simp <;> with_reducible rfl));try simp only [Act.put,au]
 refine aj 4 ?_;try simp only [Act.put,au]
 refine aj 5 ?_;try simp only [Act.put,au]
 refine aj 6 ?_ (hy:=by intro wz hSw; (have q0:=Z0.out wz hSw.1; go_simp <;> with_reducible rfl));try simp only [Act.put,au]
 refine ak 2 λK hK=>?_;go_simp;go_at_call 67
 (with_reducible refine (fk.out _ hld.2).mono ?_)
 rintro e J6 ⟨rfl,hbx⟩;refine hK.out _ _ (⟨hld.1.below hbx,bst hld.2 hbx⟩) λhld=>?_;clear hK K hbx;try simp only [Act.put,au]
 refine ak 3 λK hK=>?_;go_simp;go_at_call 66
 (with_reducible refine (HT1.out _).mono ?_)
 rintro e J7 ⟨rfl,hbx⟩;refine hK.out _ _ (⟨hld.1.below hbx,bst hld.2 hbx⟩) λhld=>?_;clear hK K hbx;try simp only [Act.put,au]
 refine ak 7 λK hK=>?_;go_simp;go_at_call 68
 (with_reducible refine (HT2.out _).mono ?_)
 rintro e J8 ⟨rfl,hbx⟩;refine hK.out _ _ (⟨hld.1.below hbx,bst hld.2 hbx⟩) λhld=>?_;clear hK K hbx;try simp only [Act.put,au]
 refine aj 8 ?_ (hy:=by intro wz hSw; (have q0:=rI.out; go_simp <;> with_reducible rfl));try simp only [Act.put,au]
 refine aj 9 ?_;try simp only [Act.put,au]
 refine aC ?_;rw [HX.out];obtain ⟨c0,c1,c2⟩:=dX hld.1;rw [HK.out] at c0;have kO:=hid hld.2;clear hld;have A0:(eZ X.size true).size<=9:=by unfold eZ; rw [fq]; exact mM _ _ (by omega)
 have A9:=hid (qd X.size (by omega) true);go_wp2_with fail
 refine (A9.out _).mono ?_;rintro e w9 ⟨rfl,es⟩;have cD:=hid (bst kO.out es);clear es;go_wp2;go_ret;exact ⟨by rw [HF.out]; rfl,cD.out⟩
end No
end
section
open Go.RowKit
namespace Tm
open Tr Rf Rl Ni No Pk Sm
theorem LJ {N:Nd} (hl:N.ks.length=16) (h:fC bV N=true):(jM N).length<=900000:=by
 have key:∀ m,(∀ y∈bX N,y.bytes.length<=m)->(bX N).length*m<=200000->(jM N).length<=900000:=by
  intro m h1 h2;have h3:=zI (bX N) m h1;unfold jM gX;rw [jg _ (by omega),List.length_append];have:=mM ((bX N).map It.bytes).flatten.length true (by omega);omega
 have hg:=uz hl h;rcases iD hl h with ⟨k1,_⟩ | ⟨k1,_⟩ | ⟨k1,_,_,_,hr⟩
 .exact key 65561 (λy hy=>(hg y hy).2) (by unfold bX; rw [if_neg (by omega),if_pos k1]; simp)
 .exact key 65561 (λy hy=>(hg y hy).2) (by unfold bX; rw [if_neg (by omega),if_neg (by omega)]; simp)
 .refine key 41 (λy hy=>?_) (by have:=wM hl; omega);unfold bX at hy;rw [if_pos k1] at hy;rcases List.mem_append.1 hy with hy | hy
  .obtain ⟨k,hk,rfl⟩:=List.mem_map.1 hy;exact (mg (hr k hk)).2
  .obtain rfl:=List.mem_singleton.1 hy;have h:=(mg (k:=eB) (by unfold bV; rw [vo]; rfl)).2;rw [nU vo] at h;exact h
theorem MP (h:bV k=true):k.size<=32:=by
 unfold bV at h;rw [Bool.or_eq_true,Bool.and_eq_true] at h;rcases h with h | h
 .have:k.size=0\/k.size=32:=of_decide_eq_true h;omega
 .have:=of_decide_eq_true h.1;omega
theorem Ww:fC bV nd0=false:=by
 unfold fC lH;rfl
theorem Hz (p:aL) (N:Nd) (hl:N.ks.length=16) (hv:N.v.size<=maxLen) (hks:∀ k∈N.ks,k.size<=100) (w:World) (Q:World->Prop)
  (htop:∀ wx,Below w.heap.size w wx->Calls prog 63 #[.agg #[.pointer p]] wx λe w'=>∃ a n c,e = .returned (.agg (ndC N a n c))/\bf w' a n c N.p/\Q w') :
  Calls prog 34 #[.agg #[.pointer p]] w λe w'=>e = .returned (.string (if fC bV N then ⟨(jM N).toArray⟩ else eB))/\∃ w1,Q w1/\Below w1.heap.size w1 w':=by
 have h0:=fK w p;have HT:=hid (htop _ (al1 w (.cells #[.pointer p] 46)));have HL:=hid hl;have HV:=hid hv;have HK:=hid hks;obtain ⟨s,hs⟩:=aA (if fC bV N then (⟨(jM N).toArray⟩:aM) else eB)
 obtain ⟨x,hx⟩:∃ x:Int,(if fC bV N then (0:Int) else 2)=x:=⟨_,rfl⟩
 rw [hs];have HS:=hid hs;have HX:=hid hx;clear htop hl hv hks hs hx;go_enter func34,ntmps34;go_wp2_with (refine aB (aW h0 ⟨_,rfl,rfl⟩) ?_)
 refine HT.out.mono ?_;rintro e w1 ⟨a,n,c,rfl,hB,hQ⟩;have HP:=hid (Gy N a n c HL.out w1 hB HV.out HK.out);have HQ:=hid hQ;unfold Vj at HP;rw [HS.out,HX.out] at HP;clear hB hQ HT h0;go_wp2_with fail
 refine HP.out.mono ?_;rintro e w2 ⟨rfl,hb2⟩;have HB:=hid hb2;clear hb2 HP;go_wp2;go_ret;exact ⟨rfl,w1,HQ.out,HB.out⟩
theorem UJ (p:aL) (k:Int) (h1:k≠1) (h2:k≠2) (h3:k≠3) (w:World)
  (hK:∀ wx,Below w.heap.size w wx->Calls prog 83 #[.agg #[.pointer p]] wx λe w'=>e = .returned (.int .i64 k)/\Below wx.heap.size wx w') :
  Calls prog 34 #[.agg #[.pointer p]] w λe w'=>e = .returned (.string eB)/\Below w.heap.size w w':=by
 refine (Hz p nd0 cB (by show (0:Nat)<=_; omega) (λk hk=>by
  have:k=eB:=List.eq_of_mem_replicate (show k∈List.replicate 16 eB from hk);rw [this]; show (0:Nat)<=100; omega) w (λw'=>Below w.heap.size w w') (λwx hbx=>?_)).mono ?_
 .refine (Hw p k h1 h2 h3 wx (λwy hby=>hK wy (bst hbx hby))).mono ?_;rintro e w' ⟨rfl,hb⟩;exact ⟨none,0,0,rfl,bf.nil _,bst hbx hb⟩
 .rintro e w' ⟨rfl,w1,hQ,hb⟩;exact ⟨by rw [Ww]; rfl,bst hQ hb⟩
theorem pX {t:T} {L:Nat} (g:Tr.Good t L) (hL:L<=64) (f:Fine t) (hn:t ≠ .nil) (hs:¬ eY t):fC bV (bg t)=true/\bP t=⟨(jM (bg t)).toArray⟩/\(bP t).size<=900000/\(bg t).v.size<=maxLen/\(bg t).p.length<=64/\∀ k∈(bg t).ks,k.size<=100:=by
 have hm:=(eT t L g hL f hn).1 hs;have he:bP t=⟨(jM (bg t)).toArray⟩:=by
  cases t with
  | nil=>exact absurd rfl hn
  | stub r=>exact absurd trivial hs
  | leaf p v=>rfl
  | ext q s=>rfl
  | br ks=>rfl
 refine ⟨hm,he,?_,?_,?_,?_⟩
 .rw [he];have:=LJ (dY t) hm;show (jM (bg t)).toArray.size<=_;simpa using this
 .cases t with
  | leaf p v=>exact Nat.le_trans f.2 (by unfold maxLen; omega)
  | _=>exact Nat.zero_le _
 .unfold fC at hm;rw [Bool.and_eq_true,Bool.and_eq_true] at hm;exact of_decide_eq_true hm.1.1
 .intro k hk;have hz:∀ x,x=eB->x.size<=100:=λx e=>by rw [e]; exact Nat.zero_le _
  cases t with
  | nil=>exact hz k (List.eq_of_mem_replicate (show k∈List.replicate 16 eB from hk))
  | stub r=>exact absurd trivial hs
  | leaf p v=>exact hz k (List.eq_of_mem_replicate (show k∈List.replicate 16 eB from hk))
  | ext q s =>
   rcases List.mem_cons.1 (show k∈ref s::List.replicate 15 eB from hk) with rfl | h
   .obtain ⟨_,_,g3,g4,g5⟩:=g;have:=MP (eT s _ g5 (by omega) f (mE g4)).2.1;omega
   .exact hz k (List.eq_of_mem_replicate h)
  | br ks =>
   obtain ⟨i,_,rfl⟩:=List.mem_map.1 (show k∈(List.finRange 16).map λi=>ref (ks i) from hk);by_cases e:ks i = .nil
   .rw [e]; exact Nat.zero_le _
   .have:=MP (eT (ks i) _ (g.2.2 i) (by omega) (f i) e).2.1;show (ref (ks i)).size<=100;omega
theorem Tn {t:T} {L:Nat} (g:Tr.Good t L):(bY t).length<=L:=by
 cases t with
 | leaf p v=>exact Nat.le_of_eq g.1
 | ext q s=>exact g.2.2.1
 | nil=>exact Nat.zero_le _
 | br ks=>exact Nat.zero_le _
 | stub r=>exact Nat.zero_le _
theorem Mh (M:Mp) (b:Nat) (t:T) (hm:M.at_ b=some t) (hs:¬ eY t) (hn:t ≠ .nil) {L:Nat} (g:Tr.Good t L) (hL:L<=64) (w:World) (hi:dM M (sz t) w) {pa:aL} {pn pc:Nat} {ka:aL} {kn kc:Nat} (hB:Body M w b t pa pn pc ka kn kc) (hT:Tab w)
  (gO:∀ q s,t = .ext q s->mZ s) (hR2:∀ ks,t = .br ks->∀ i,mZ (ks i)) :
  Calls prog 63 #[.agg #[.pointer (some ⟨b,0,none⟩)]] w (nA M t w):=by
 have hp:=Tn g;cases t with
 | nil=>exact absurd rfl hn
 | stub r=>exact absurd trivial hs
 | leaf q v=>exact RS M b q v hm w hi pa pn pc ka kn kc hB (by have:q.length<=L:=hp; omega)
 | ext q s=>exact Wn M b q s hm w hi pa pn pc ka kn kc hB (by have:q.length<=L:=hp; omega) hT (gO q s rfl)
 | br ks=>exact Xy M b ks hm w hi pa pn pc ka kn kc hB hT (hR2 ks rfl)
theorem Nc (M:Mp) (b:Nat) (t:T) (hm:M.at_ b=some t) (hs:¬ eY t) (hn:t ≠ .nil) (g:Tr.Good t L) (hL:L<=64) (f:Fine t) (w:World) (hi:dM M (sz t) w) {pn pc:Nat} {ka:aL} {kc:Nat} (hB:Body M w b t pa pn pc ka kn kc) (hT:Tab w)
  (gO:∀ q s,t = .ext q s->mZ s) (hR2:∀ ks,t = .br ks->∀ i,mZ (ks i)) :
  Calls prog 34 #[.agg #[.pointer (some ⟨b,0,none⟩)]] w λe w'=>e = .returned (.string (bP t))/\FrN M (sz t) w w'/\dM M (sz t) w':=by
 obtain ⟨h1,h2,h3,h4,h5,h6⟩:=pX g hL f hn hs;refine (Hz (some ⟨b,0,none⟩) (bg t) (dY t) h4 h6 w (λw'=>FrN M (sz t) w w'/\dM M (sz t) w') (λwx hbx=>?_)).mono ?_
 .refine (Mh M b t hm hs hn g hL wx (hi.below hbx) (hB.below hbx) (hT.below hbx hT.pos) gO hR2).mono ?_;rintro e w' ⟨a,n,c,rfl,hx,hf,hi'⟩;exact ⟨a,n,c,rfl,hx.1,(FrN.below M _ hbx).trans hf,hi'⟩
 .rintro e w' ⟨rfl,w1,⟨hf,hi1⟩,hb⟩;exact ⟨by rw [if_pos h1,h2],hf.trans (FrN.below M _ hb),hi1.below hb⟩
def qQ (t:T) (a:aL) (n c:Nat) (ka:aL) (kn kc:Nat) (r:aM):aO :=
 #[.int .i64 (fB t),.slice a n c,.string (RP t),.slice ka kn kc,.int .u32 0,.int .i32 1,.int .u32 0,.string r]
theorem Xh {t:T} {a:aL} {n c:Nat} {ka:aL} {kn kc:Nat} {r:aM} {j:Nat} {v:Value} (h:(qQ t a n c ka kn kc r)[j]? = some v):(∀ x,v ≠ .int .u8 x)/\∀ p,v ≠ .pointer p:=by
 unfold qQ at h
 match j,h with
 | 0,h | 1,h | 2,h | 3,h | 4,h | 5,h | 6,h | 7,h =>
  simp at h;subst h;exact ⟨λx e=>(by cases e),λp e=>(by cases e)⟩
 | j+8,h=>simp at h
theorem Pt {b:Nat} {t:T} {ka:aL} {kc:Nat} (h:Rg.Own w b (qQ t a n c ka kn kc r) 150):FM w b:=by
 refine ⟨λj v hc=>Xh (pI h.2 hc),?_⟩;rw [World.cell?,h.2];rfl
theorem CV {a:Act} (hw:Region.wanted o (yielded ops a.tmps)=true) {b off:Nat} {cs:aO} (hg:Rg.Own w b cs t) (hof:off<cs.size) (s:aM)
  (ho:∃ x y,o.op = .store 9 x y/\a.eval x = .pointer (some ⟨b,off,none⟩)/\a.eval y = .string s)
  (h:∀ w',Rg.Own w' b (cs.setIfInBounds off (.string s)) t->Rg.Upd w b w'->K (a.put o.dst undef) w'):if Region.wanted o (yielded ops a.tmps)=true then Oper.wp prog o a w K Q else K (a.put o.dst undef) w:=by
 obtain ⟨x,y,ho,hx,hy⟩:=ho;refine Rg.want hw ?_;unfold Oper.wp execOp;simp only [ho,hx,hy,Sem.run_bind,Sem.run_pure,Result.andThen_ok,qo hg hof s];exact h _ (bZ hg _) (bM _ _ _ _)
theorem dM.lock {M:Mp} {b:Nat} {t:T} (h:dM M n w) (hu:Rg.Upd w b w') (hm:M.at_ b=some t) (hnt:n<=sz t) (hN:FM w' b):dM M n w':=by
 refine ⟨λk hk=>by rw [hu.size]; exact h.lt_ k hk,λb' t' hm'=>?_⟩;obtain ⟨h1,h2,h3,h4⟩:=h.part_ b' t' hm';have hNb:=(h.part_ b t hm).2.2.1;by_cases e:b'=b
 .subst e;obtain rfl:t=t':=by rw [hm] at hm'; exact Option.some.inj hm'
  exact ⟨h1,h2,hN,λhl=>absurd hl (by omega)⟩
 .refine ⟨h1,h2,h3.keep (hu.block b' e),λhl=>(h4 hl).keep (by rw [hu.size]; exact aH) (hu.block b' e) (λk j v hk hc hv=>hu.block k (λek=>?_))⟩;subst ek;rcases hv with ⟨x,rfl⟩ | ⟨p,rfl⟩
  .exact (hNb.1 _ _ hc).1 x rfl
  .exact (hNb.1 _ _ hc).2 p rfl
theorem Body.upd {M:Mp} {b:Nat} {t:T} {ka:aL} {kc:Nat} (h:Body M w b t a n c ka kn kc) (hN:FM w b) (hu:Rg.Upd w b w') (hc:∀ j,j<4->w'.cell? ⟨b,j,none⟩=w.cell? ⟨b,j,none⟩):Body M w' b t a n c ka kn kc:=by
 refine ⟨(hc 0 (by omega)).trans h.c0,(hc 1 (by omega)).trans h.c1,(hc 2 (by omega)).trans h.c2,(hc 3 (by omega)).trans h.c3,⟨h.hb.1,h.hb.2.1,h.hb.2.2.1,h.hb.2.2.2.1,λj hj=>?_⟩,h.hk.1,h.hk.2.1,h.hk.2.2.1,h.hk.2.2.2.1,λj hj=>?_⟩
 .obtain ⟨b',off,e,hlt,hcb⟩:=h.hb.2.2.2.2 j hj;refine ⟨b',off,e,by rw [hu.size]; exact hlt,?_⟩;rw [World.cell?_of_block (hu.block b' (λek=>by subst ek; exact (hN.1 _ _ hcb).1 _ rfl))];exact hcb
 .obtain ⟨b',off,p,e,hlt,hf,hcb,ht⟩:=h.hk.at' j hj;refine ⟨b',off,p,e,by rw [hu.size]; exact hlt,hf,?_,ht⟩;rw [World.cell?_of_block (hu.block b' (λek=>by subst ek; exact (hN.1 _ _ hcb).2 _ rfl))];exact hcb
theorem XH (M:Mp) (b:Nat) (t:T) (hm:M.at_ b=some t) (hsz:(bP t).size<=900000) (bx:Nat) (w:World) (hbx:w.cell? ⟨bx,0,none⟩=some (.pointer (some ⟨b,0,none⟩))) (hne:bx≠b) (hi:dM M (sz t) w) (hT:Tab w)
 {ka:aL} {kc:Nat} (hO:Rg.Own w b (qQ t a n c ka kn kc eB) 150)
  (hE:Calls prog 34 #[.agg #[.pointer (some ⟨b,0,none⟩)]] w.drew λe w'=>e = .returned (.string (bP t))/\FrN M (sz t) w.drew w'/\dM M (sz t) w') :
  Calls prog 152 #[.pointer (some ⟨bx,0,none⟩)] w λe w'=>e = .returned (.tuple #[])/\∃ w1,FrN M (sz t) w w1/\dM M (sz t) w1/\Rg.Upd w1 b w'/\Rg.Own w' b (qQ t a n c ka kn kc (ofP (bP t))) 150:=by
 have rK:=hid hE;have l9:=hid hsz;have hnb:M.at_ b=none\/∃ t',M.at_ b=some t'/\sz t<=sz t':=Or.inr ⟨t,hm,aH⟩;have HF:Hid (∀ w5,FrN M (sz t) w.drew w5->dM M (sz t) w5->w5.cell? ⟨bx,0,none⟩=some (.pointer (some ⟨b,0,none⟩))/\Tab w5/\Rg.Own w5 b (qQ t a n c ka kn kc eB) 150/\
   ∀ w6,Below w5.heap.size w5 w6->w6.cell? ⟨bx,0,none⟩=some (.pointer (some ⟨b,0,none⟩))/\Rg.Own w6 b (qQ t a n c ka kn kc eB) 150/\
   ∀ ag,Rg.Own ag b ((qQ t a n c ka kn kc eB).setIfInBounds 7 (.string (ofP (bP t)))) 150->Rg.Upd w6 b ag->ag.cell? ⟨bx,0,none⟩=some (.pointer (some ⟨b,0,none⟩))/\∃ w1,FrN M (sz t) w w1/\dM M (sz t) w1/\Rg.Upd w1 b ag/\Rg.Own ag b (qQ t a n c ka kn kc (ofP (bP t))) 150):=hid (λw5 dg hi5=>by
  have RM:dM M (sz t) w.drew:=hi.below (below_drewN aI 1);have Z1:Tab w.drew:=hT;have h5:=dg.cell (b:=bx) (o:=0) hbx (Or.inl (RM.qy (j:=0) hbx));have bo:Rg.Own w5 b (qQ t a n c ka kn kc eB) 150:=⟨aJ hO.1 dg.size,(dg.block b hO.1 hnb).trans hO.2⟩
  refine ⟨h5,zx RM dg Z1,bo,λw6 hb6=>⟨aX hb6 h5,bo.below hb6,λag ai hu=>⟨?_,w6,(((FrN.below M _ (below_drewN aI 1)).trans dg).trans (FrN.below M _ hb6)),hi5.below hb6,hu,ai⟩⟩⟩;rw [<-aX hb6 h5];exact World.cell?_of_block (w:=w6) (hu.block bx hne))
 clear hE hsz hi hT hO hm hnb hne;go_enter func152,ntmps152;go_wp2_with fail
 refine aD (S:=λw'=>w'.cell? ⟨bx,0,none⟩=some (.pointer (some ⟨b,0,none⟩))) (hbx) λhld=>?_;refine aj 0 ?_;try simp only [Act.put,au]
 refine aF 1 (λwz hSw=>hSw) ?_;try simp only [Act.put,au]
 refine aj 2 ?_ (hy:=by intro wz hSw; (refine aW hSw ?_; exact ⟨_,rfl,rfl⟩));try simp only [Act.put,au]
 refine ak 3 λK hK=>?_;go_simp;go_at_call 34
 (with_reducible refine rK.out.mono ?_)
 rintro e w5 ⟨rfl,dg,hi5⟩;obtain ⟨hS5,ip,bo,RT⟩:=HF.out w5 dg hi5;have H5:=hid RT;have cf:=hid bo;have rL:=hid ip;clear dg hi5 RT bo ip;refine hK.out _ _ (hS5) λhld=>?_;clear hK K;try simp only [Act.put,au]
 refine ak 4 λK hK=>?_;go_simp;go_at_call 153
 (with_reducible refine (ML _ l9.out w5 rL.out).mono ?_)
 rintro e w6 ⟨rfl,hb6⟩;obtain ⟨iS,bj,zs⟩:=H5.out w6 hb6;have H6:=hid zs;have cF:=hid bj;clear hb6 zs bj;refine hK.out _ _ (iS) λhld=>?_;clear hK K;try simp only [Act.put,au]
 refine aj 5 ?_;try simp only [Act.put,au]
 refine aj 6 ?_;try simp only [Act.put,au]
 refine ak 7 λK hK=>?_;refine CV (by rfl) cF.out (off:=7) (show 7<8 by omega) (ofP (bP t)) ⟨_,_,rfl,rfl,rfl⟩ ?_;intro ag ai al;obtain ⟨cM,mc⟩:=H6.out ag ai al;have gE:=hid mc;clear ai mc;refine hK.out _ _ (cM) λhld=>?_;clear hK K;try simp only [Act.put,au]
 refine aC ?_;go_wp2;go_end0;exact ⟨rfl,gE.out⟩
end Tm
end
section
open Go.RowKit
namespace Rf
open Rl Ni No Sh Sm
def tH (s:aM):aM:=⟨(gG s).toArray⟩
theorem MX (s:aM) (hs:s.size<=900000) (w:World) :
  Calls prog 40 #[.string s] w λe w'=>e = .returned (.string (tH s))/\Below w.heap.size w w':=by
 have h:=WX s.data.toList (by simpa using hs) w;have e:(⟨s.data.toList.toArray⟩:aM)=s:=by apply ByteArray.ext; simp
 rw [e] at h;exact h
theorem Hf (s:aM) (hs:s.size<=900000) (w:World) :
  Calls prog 27 #[.string s] w λe w'=>e = .returned (.string (ofP s))/\Below w.heap.size w w':=by
 by_cases h:s.size<32
 .have HF:Hid (ofP s=s):=hid (by unfold ofP; rw [if_pos h]);have hd:decide ((32:Int)<=(s.size:Int))=false:=by simp; omega
  rw [HF.out];clear HF;go_enter func27,ntmps27;go_wp2;go_ret;exact ⟨rfl,aI⟩
 .have HF:Hid (ofP s=tH s):=hid (by unfold ofP; rw [if_neg h]; rfl);have hd:decide ((32:Int)<=(s.size:Int))=true:=by simp; omega
  have de:=hid (MX s hs w);rw [HF.out];obtain ⟨K,hK⟩:=aA (tH s)
  rw [hK] at de;rw [hK];clear HF hK;go_enter func27,ntmps27;go_wp2_with fail
  refine de.out.mono ?_;rintro e w1 ⟨rfl,hb1⟩;go_wp2;go_ret;exact ⟨rfl,hb1⟩
theorem NV (xs:List aM) (q:Nat) (h:q<xs.length):(xs.take (q+1)).map tH=(xs.take q).map tH++[tH (xs.getD q eB)]:=by
 have e:xs.getD q eB=xs[q]:=by simp [List.getD,h]
 rw [List.take_succ_eq_append_getElem h,e,List.map_append];rfl
theorem MI (xs:List aM) (q k:Nat) (h:q<=xs.length) (hk:k<q):((xs.take q).map tH).getD k eB=tH (xs.getD k eB):=by
 have h1:k<xs.length:=by omega
 simp [List.getD,List.getElem?_take_of_lt hk,h1]
theorem VG {xs:List aM} (hj:j<xs.length):xs.getD j eB∈xs:=by
 have e:xs.getD j eB=xs[j]:=by simp [List.getD,hj]
 rw [e]; exact List.getElem_mem hj
theorem GQ {B:Nat} {xs:List Value} (h:w.ownsRow B e 1 v n xs) (hb:Below w.heap.size w w'):w'.ownsRow B e 1 v n xs:=h.kept (Bu.gN hb) (by cases v.ownBlock <;> simp)
end Rf
end
section
open Go.RowKit
namespace No
open Rl Ni
theorem Lg (ks:List aM) (j:Nat) (hj:j<ks.length):jl ((ks.take (j+1)).map dS)=jl ((ks.take j).map dS)++⟨(dS (ks.getD j eB)).bytes.toArray⟩:=by
 have e:ks.getD j eB=ks[j]:=by simp [List.getD,hj]
 rw [List.take_succ_eq_append_getElem hj,List.map_append,sK,List.map_cons,List.map_nil,nM,e]
theorem Ob (ks:List aM) (hr:∀ k∈ks,bV k=true) (j:Nat) (hj:j<=16):(jl ((ks.take j).map dS)).size<=656:=by
 rw [uF];have:=zI ((ks.take j).map dS) 41 (λy hy=>by
  obtain ⟨k,hk,rfl⟩:=List.mem_map.1 hy;exact (mg (hr k (List.mem_of_mem_take hk))).2)
 have h2:((ks.take j).map dS).length*41<=16*41:=Nat.mul_le_mul_right _ (by rw [List.length_map,List.length_take]; omega);omega
theorem Qq:(⟨(It.mk false ⟨#[]⟩ []).bytes.toArray⟩:aM)=⟨#[128]⟩:=by
 rw [kE ⟨#[]⟩ (by decide)];rfl
theorem Ib (N:Nd) (a:aL) (n c:Nat) (hl:N.ks.length=16) (w:World) (hB:bf w a n c N.p) (hm:fC bV N=true) (hkd:N.kd=3) :
  Calls prog 37 #[.agg (ndC N a n c)] w λe w'=>e = .returned (.string ⟨(jM N).toArray⟩)/\Below w.heap.size w w':=by
 obtain ⟨m1,m2,_⟩:=jD hm;obtain ⟨f1,f2⟩:=xL hl hm;have el:n<=64:=by rw [<-hB.len]; exact m1
 obtain ⟨w2,hw2⟩:=ay (w.alloc (.cells (ndC N a n c) 67))
 have hO:dZ w2 w.heap.size N a n c:=by rw [hw2]; exact Rg.Own.new _ _ _
 have eo:Below w.heap.size w w2:=by rw [hw2]; exact al1 _ _
 have fk:=hid (λw' hb=>wX a n c N.p true m2 el w' (hB.below hb));have hr:∀ k∈N.ks,bV k=true:=by
  rcases iD hl hm with ⟨k1,_⟩ | ⟨k2,_⟩ | ⟨_,_,_,_,r⟩
  .omega
  .omega
  .exact r
 have HI:Hid (jl (bX N)=jl ((N.ks.take 16).map dS)++⟨#[128]⟩):=hid (by
  unfold bX;rw [if_pos hkd,sK,nM,List.take_of_length_le (by omega)];show _++(⟨(It.mk false ⟨#[]⟩ []).bytes.toArray⟩:aM)=_;rw [Qq])
 have Jx:Hid (∀ j,j<16->∀ w,Calls prog 68 #[.string (N.ks.getD j eB)] w λe w'=>e = .returned (.string ⟨(dS (N.ks.getD j eB)).bytes.toArray⟩)/\Below w.heap.size w w'):=hid (λj hj w=>by
  have hmem:N.ks.getD j eB∈N.ks:=by rw [List.getD_eq_getElem?_getD,List.getElem?_eq_getElem (by omega)]; exact List.getElem_mem _
  refine Gm _ ?_ (hr _ hmem) w;cases hp:dB (N.ks.getD j eB) with
  | true=>have:=jW hp; omega
  | false=>obtain ⟨_,_,_,_,_,_,h,_⟩:=rA hp (hr _ hmem); omega)
 have JP:Hid (∀ j,j<16->jl ((N.ks.take (j+1)).map dS)=jl ((N.ks.take j).map dS)++⟨(dS (N.ks.getD j eB)).bytes.toArray⟩):=hid (λj hj=>Lg N.ks j (by omega));have JS:Hid (∀ j,j<=16->(jl ((N.ks.take j).map dS)).size<=656):=hid (λj hj=>Ob N.ks hr j hj);have S0:Hid (_/\_):=hid ⟨f1,f2⟩;clear hr f1 f2;have HL:=hid hl;have HK:=hid hkd;have cI:=hid eo;have HO:=hid hO;obtain ⟨c0,c1,c2⟩:=dX hO;rw [hkd] at c0;clear hm hl m1 m2 hB hO eo hkd;subst hw2;go_enter func37,ntmps37;go_wp2_with fail
 go_loopw [3,4] (λs i wr=>∃ (j:Nat) (T:aM),j<=16/\i = .int .i64 j/\s = .string T/\T.size<=656/\Hid (jl ((N.ks.take j).map dS)=T)/\Hid (dZ wr w.heap.size N a n c)/\Hid (Below w.heap.size w wr)) (λ_ i _=>16-(intOf i).toNat)
 case atStart=>exact ⟨0,⟨#[]⟩,Nat.zero_le _,rfl,rfl,by decide,hid rfl,HO,cI⟩
 case round =>
  obtain ⟨j,T,hj,rfl,rfl,hT,HT,HN,HB⟩:=hrel;clear HO cI c0 c1 c2;by_cases hlt:j<16
  .have HR:=hid (λw=>Jx.out j hlt w);have HS:=hid (JP.out j hlt);have HW:=JS.out (j+1) (by omega);have hc:=rR HN.out HL.out j hlt;have HS2:Hid (jl ((N.ks.take (j+1)).map dS)=T++⟨(dS (N.ks.getD j eB)).bytes.toArray⟩):=hid (by rw [HS.out,HT.out]);rw [HS2.out] at HW;obtain ⟨k,hk⟩:=aA (N.ks.getD j eB)
   rw [hk] at hc HR HW HS2;obtain ⟨U,hU⟩:=aA (⟨(dS k).bytes.toArray⟩:aM)
   rw [hU] at HR HW HS2;have hsz:T.size+U.size<=656:=by rw [ByteArray.size_append] at HW; exact HW
   clear hk hU HS HT Jx JP JS;go_wp2_with fail
   refine (HR.out _).mono ?_;rintro e w5 ⟨rfl,hb5⟩;have js:=hid (HN.out.below hb5);have ae:=hid (bst HB.out hb5);clear hb5 HN HB hc;go_wp2;go_roundw
   case rel=>exact ⟨j+1,T++U,by omega,by go_num,rfl,HW,HS2,js,ae⟩
   case measure=>simp [intOf]; omega
  .obtain rfl:j=16:=by omega
   obtain ⟨f1,f2⟩:=S0.out;rw [HI.out,HT.out] at f1 f2;obtain ⟨X,hX⟩:=aA (T++⟨#[128]⟩)
   rw [hX] at f1 f2;have HF:=hid f1;have hsz:T.size+(⟨#[128]⟩:aM).size<=1200000:=by rw [<-ByteArray.size_append,hX]; exact f2
   have hone:(⟨#[128]⟩:aM).size=1:=rfl;rw [hone] at hsz;have Z2:=hid hX;have A0:(eZ X.size true).size<=9:=by unfold eZ; rw [fq]; exact mM _ _ (by omega)
   have S1:(X.size:Int)=(T.size:Int)+1:=by rw [<-hX,ByteArray.size_append,hone]; rfl
   have hHd:=qd X.size (by omega) true;rw [S1] at hHd;have A9:=hid hHd;clear hHd S1;have h12:=f2;rw [<-hX] at h12;obtain ⟨c0,c1,c2⟩:=dX HN.out;rw [HK.out] at c0;clear f1 hX S0 HI Jx JP JS;go_wp2_with fail
   rw [Z2.out]
   with_reducible refine (A9.out _).mono ?_
   rintro e w9 ⟨rfl,es⟩;have cD:=hid (bst HB.out es);clear es;go_wp2;go_ret;exact ⟨by rw [HF.out]; rfl,cD.out⟩
theorem LP (N:Nd) (a:aL) (n c:Nat) (hl:N.ks.length=16) (w:World) (hB:bf w a n c N.p) (hm:fC bV N=true) :
  Calls prog 37 #[.agg (ndC N a n c)] w λe w'=>e = .returned (.string ⟨(jM N).toArray⟩)/\Below w.heap.size w w':=by
 rcases iD hl hm with ⟨k1,_⟩ | ⟨k1,_⟩ | ⟨k1,_⟩
 .exact Nr N a n c hl w hB hm k1
 .exact UA N a n c hl w hB hm k1
 .exact Ib N a n c hl w hB hm k1
end No
end
section
open Go.RowKit
namespace Tm
open Tr Ni Pk Ky No Rf Rl
theorem MZ {l:aN} (h:bf w a n c l) (j:Nat) (hj:j<=n):bf w a j c (l.take j):=by
 have h1:=h.1;refine ⟨by omega,h.2.1,by rw [List.length_take,h.len]; omega,h.2.2.2.1,λi hi=>?_⟩;obtain ⟨b,off,e,hlt,hc⟩:=h.at' i (by omega);refine ⟨b,off,e,hlt,?_⟩;rw [hc];simp [List.getD,hi]
theorem VB (N:Nd) (a:aL) (n c i:Nat) (s:aM):(ndC N a n c).setIfInBounds (3+i) (.string s)=ndC ⟨N.kd,N.p,N.v,N.ks.set i s⟩ a n c:=by
 unfold ndC;rw [List.map_set,show 3+i=i+1+1+1 by omega];simp
theorem su {rest:List Oper} {b i:Nat} {N:Nd} (h:dZ w b N a n c) (hl:N.ks.length=16) (hi:i<16) (s:aM)
  (hgd:o.guard=none) (x y:Operand) (ho:o.op = .store 9 x y) (hx:act.eval x = .pointer (some ⟨b,3+i,none⟩)) (hy:act.eval y = .string s)
  (hQ:∀ w',dZ w' b ⟨N.kd,N.p,N.v,N.ks.set i s⟩ a n c->Rg.Upd w b w'->wpList prog ops Q rest (act.put o.dst undef) w'):wpList prog ops Q (o::rest) act w :=
 wpList_plain hgd λK hK=>by
  unfold Oper.wp execOp;simp only [ho,hx,hy,Sem.run_bind,Sem.run_pure,Result.andThen_ok,qo h (o:=3+i) (by rw [eO _ _ _ _ hl]; omega) s];refine hK _ _ (hQ _ ?_ (bM _ _ _ _));have:=bZ (o:=3+i) h (.string s);rwa [VB] at this
def qO (l:List Tr.In):Prop:=∀ x∈l,x.2.size≠0/\x.2.size<=65552
theorem qO.rest {l:List Tr.In} (h:qO l) (n:Nat):qO (bR l n):=λx hx=>by
 obtain ⟨y,hy,rfl⟩:=List.mem_map.1 hx;exact h y hy
theorem qO.begin {l:List Tr.In} (h:qO l) (c:Fin 16):qO (bK l c):=λx hx=>h x (lX.1 hx).1
theorem LC {L:Nat} {l:List Tr.In} (hL:L<=64) (ok:Ok L l) (f:qO l):(bP (build L l)).size<=900000:=by
 by_cases hn:build L l = .nil
 .rw [hn]; exact Nat.zero_le _
 .have hs:=dK (ow L l);have hm:=(eT _ L (qB L l ok) hL (qF L l f) hn).1 hs;have e:bP (build L l)=gH (bg (build L l)):=by
   cases hb:build L l with
   | nil=>exact absurd hb hn
   | stub r=>rw [hb] at hs; exact absurd trivial hs
   | leaf p v=>rfl
   | ext q t=>rfl
   | br ks=>rfl
  rw [e,wZ];exact LJ (dY _) hm
theorem LQ {l:List Tr.In}:ofP (bP (build L l))=ref (build L l):=(qp (dK (ow L l))).symm
def Nv (L:Nat):Prop:=∀ (l:List Tr.In),Ok L l->qO l->∀ (a:aL) (n c:Nat) (w:World),gV w a n c l->n<=1000000->
 Calls prog 65 #[.slice a n c] w λe w'=>e = .returned (.string (bP (build L l)))/\Below w.heap.size w w'
def LX (w:World) (N:Nd) (e:Ending) (w':World):Prop:=∃ a n c,e = .returned (.tuple #[.agg (ndC N a n c),.bool true])/\bf w' a n c N.p/\Below w.heap.size w w'
theorem WQ (w:World):∃ w1,w1=w.alloc (.cells (ndC nd0 none 0 0) 67)/\dZ w1 w.heap.size nd0 none 0 0/\Below w.heap.size w w1/\w1.heap.size=w.heap.size+1:=⟨_,rfl,Rg.Own.new _ _ _,al1 _ _,by simp⟩
theorem DT (a:aL) (c:Nat) (w:World):Calls prog 36 #[.slice a 0 c] w λe w'=>e = .returned (.tuple #[.agg (ndC nd0 none 0 0),.bool false])/\Below w.heap.size w w':=by
 obtain ⟨w1,hw1,am,hb1,hs1⟩:=WQ w;have HO:=hid am;have HB:=hid hb1;clear am hb1;subst hw1;go_enter func36,ntmps36;go_wp2_with (first
  | (refine aB (aY _ _ _ w.heap.size rfl rfl) ?_)
  | (refine aB (bQ qG ?_) ?_; · exact ⟨_,rfl,rfl⟩)
  | (refine bN HO.out rfl nd0 none 0 0 rfl rfl _ _ rfl rfl rfl rfl ?_))
 exact bodyPost_ret (fF (p:=2) (u:=3) rfl _ rfl (dO HO.out) rfl) rfl ⟨rfl,cO HB.out aH _⟩
theorem UH (x:Tr.In) (a:aL) (c:Nat) (w:World) (h:gV w a 1 c [x]):Calls prog 36 #[.slice a 1 c] w (LX w ⟨1,x.1,x.2,zks⟩):=by
 obtain ⟨w1,hw1,am,hb1,hs1⟩:=WQ w;obtain ⟨b,off,hd,rfl,hblt,hin,hbs⟩:=h.at' 0 (by omega);have hcap:=h.1;have hmx:=h.2.1;unfold maxLen at hmx;obtain ⟨p,v⟩:=x;obtain ⟨hp0,hp1,hp2⟩:=hd;simp only [Nat.zero_mul,Nat.add_zero] at hin;have hc0:=hin.1;have hc1:=hin.2;have Z3:Hid (bf w hp0 hp1 hp2 p):=hid hbs;dsimp only at hc0 hc1;replace hc1:w.cell? ⟨b,off+1,none⟩=some (.string v):=hc1;have hn0:(0:Int)<(1:Nat):=by omega
 have pB:0<1:=by omega
 have HO:=hid am;have HB:=hid hb1;have HW:Hid (_=_):=hid hw1;clear am hb1 hw1 h hin hbs;go_enter func36,ntmps36;go_wp2_with (refine aB (aY _ _ _ w.heap.size rfl rfl) ?_)
 rw [<-HW.out];clear HW;go_wp2_with fail
 refine aD (S:=λw'=>Below w.heap.size w w') (below_drewN HB.out 1) λhld=>?_;refine aj 0 ?_;try simp only [Act.put,au]
 refine aj 1 ?_ (hy:=by intro wz hSw; have q0:=hn0; have q1:=pB; (try dsimp only at hSw); go_simp <;> with_reducible rfl);try simp only [Act.put,au]
 refine aj 2 ?_;try simp only [Act.put,au]
 refine aF 3 (λwz hSw=>aX hSw hc0) ?_;try simp only [Act.put,au]
 refine aj 4 ?_;try simp only [Act.put,au]
 refine aj 5 ?_ (hy:=by intro wz hSw; have q0:=hn0; have q1:=pB; (try dsimp only at hSw); go_simp <;> with_reducible rfl);try simp only [Act.put,au]
 refine aj 6 ?_;try simp only [Act.put,au]
 refine aF 7 (λwz hSw=>aX hSw hc1) ?_;try simp only [Act.put,au]
 refine aj 8 ?_ (hy:=by intro wz hSw; (refine bQ (_root_.Go.Proofs.YtokaiemgjngcoaaGreatDoor.qJ hp0 hp1 hp2 p v) ?_; exact ⟨_,rfl,rfl⟩));try simp only [Act.put,au]
 refine ak 9 λK hK=>?_;refine Rg.meetStore (by rfl) HO.out.drew 67 (ndC ⟨1,p,v,zks⟩ hp0 hp1 hp2) ⟨_,_,rfl,rfl,rfl⟩ (kY _ _ _ _ rfl) (by rw [eO _ _ _ _ rfl,eO _ _ _ _ rfl]) (oZ _ _ _ _) ?_;intro ag ai al;have cq:=hid ai;have cY:Hid (Below w.heap.size w ag):=hid (al.below hld aH);clear ai al;refine hK.out _ _ (cY.out) λhld=>?_;clear hK K;try simp only [Act.put,au]
 refine aj 10 ?_;try simp only [Act.put,au]
 refine aC ?_;go_wp2;exact bodyPost_ret (fF (p:=2) (u:=3) rfl _ rfl cq.out rfl) rfl ⟨hp0,hp1,hp2,rfl,Z3.out.below cY.out,cY.out⟩
theorem bI {rest:List Oper} {b:Nat} {N:Nd} (h:dZ w b N a n c) (hl:N.ks.length=16) (M:Nd) (a':aL) (n' c':Nat) (hm:M.ks.length=16)
  (hgd:o.guard=none) (x y:Operand) (ho:o.op = .store 67 x y) (hx:act.eval x = .pointer (some ⟨b,0,none⟩)) (hy:act.eval y = .agg (ndC M a' n' c')) (hd:o.dst=none)
  (hQ:∀ w',dZ w' b M a' n' c'->Rg.Upd w b w'->wpList prog ops Q rest act w'):wpList prog ops Q (o::rest) act w :=
 bN h hl M a' n' c' hm hgd x y ho hx hy hd (hQ _ (dO h) (Rg.Upd.set _ _ _))
theorem Ue {L:Nat} (hL:L<=64) (x y:Tr.In) (r:List Tr.In) (ok:Ok L (x::y::r)) (f:qO (x::y::r)) (h0:0<bE (x::y::r)) (hE:Nv (L-bE (x::y::r))) (a:aL) (n c:Nat) (w:World) (h:gV w a n c (x::y::r)) (hn:n<=1000000) :
  Calls prog 36 #[.slice a n c] w (LX w (bg (build L (x::y::r)))):=by
 obtain ⟨w1,hw1,am,hb1,hs1⟩:=WQ w;have hlen:=h.len;have hn2:2<=n:=by rw [<-hlen]; simp
 obtain ⟨b,off,hd,rfl,hblt,hin,hbs⟩:=h.at' 0 (by omega);have hcl:=kR ok;have hall:∀ z∈x::y::r,z.1.length=L:=λz hz=>(ok.1 z hz).1;have hNe:bg (build L (x::y::r))=⟨2,x.1.take (bE (x::y::r)),eB,iJ (ref (build (L-bE (x::y::r)) (bR (x::y::r) (bE (x::y::r)))))⟩:=by
  rw [build,dif_pos ⟨h0,by omega⟩]; rfl
 have hok':=sV ok (Nat.le_of_lt hcl) (λz hz z' hz'=>by rw [iq hz,iq hz']);have hx1:((x::y::r).getD 0 ([],eB)).1=x.1:=rfl;have hxl:=hall x List.mem_cons_self;rw [hx1] at hbs;generalize x::y::r=l at *
 generalize x.1=p at *
 obtain ⟨p0,p1,p2⟩:=hd;simp only [Nat.zero_mul,Nat.add_zero] at hin;have hc0:=hin.1;dsimp only at hc0 hbs;have hpl:=hbs.len;have hcp:=hbs.1;obtain ⟨K,hK⟩:=aA (bE l)
 have HC:=hid (λwz (hb:Below w.heap.size w wz)=>qL l (some ⟨b,off,none⟩) n c (λz hz=>by rw [hall z hz]; omega) (by omega) wz (h.below hb) hn);have jz:=hid (λwz (hb:Below w.heap.size w wz)=>wF l (some ⟨b,off,none⟩) n c K (λz hz=>by rw [hall z hz]; omega) wz (h.below hb) hn);rw [hK] at HC hok' hE h0 hcl hNe;have rK:=hid (hE (bR l K) hok' (f.rest K));have de:=hid (λwz=>Hf (bP (build (L-K) (bR l K))) (LC (by omega) hok' (f.rest K)) wz);rw [LQ] at de;have hrl:(bR l K).length=n:=by unfold bR; rw [List.length_map,hlen]
 have f9:=hid hrl;obtain ⟨E,hE1⟩:=aA (bP (build (L-K) (bR l K)))
 obtain ⟨R,gO⟩:=aA (ref (build (L-K) (bR l K)))
 rw [hE1] at rK de;rw [gO] at de hNe;have Z4:=hid (MZ hbs K (by omega));have At:=hid hNe;have hKc:K<=p2:=by omega
 have ld:(0:Int)<K:=by omega
 have hcap:=h.1;have hmx:=h.2.1;unfold maxLen at hmx;have hn0:(0:Int)<n:=by omega
 have hnn:0<n:=by omega
 have e0:((n:Int)==0)=false:=by simp; omega
 have e1:((n:Int)==1)=false:=by simp; omega
 have d0:decide ((n:Int)=0)=false:=by simp; omega
 have d1:decide ((n:Int)=1)=false:=by simp; omega
 have HO:=hid am;have HB:=hid hb1;have HW:Hid (_=_):=hid hw1;clear am hb1 hw1 h hin hbs hE1 gO hrl hlen hok' hE hall ok f hx1 hNe hK hpl;go_enter func36,ntmps36;go_wp2_with (refine aB (aY _ _ _ w.heap.size rfl rfl) ?_)
 rw [<-HW.out];clear HW;refine (HC.out w1 HB.out).mono ?_;rintro e w3 ⟨rfl,hb3⟩;have HB3:=hid (bst HB.out hb3);have ce:=hid (HO.out.below hb3);have k0:=aX (bst HB.out hb3) hc0;have hNew:=Rg.Own.new w3 (ndC nd0 none 0 0) 67;have HN:=hid hNew;have hs3:=hb3.size;clear hb3 HC HO hNew hc0;go_wp2_with (first
  | (refine aB (vT (a:=p0) (n:=p1) (c:=p2) (j:=K) fZ iL hKc ⟨_,_,rfl,rfl,rfl⟩) ?_)
  | (refine aB (bQ (KV 2 p0 K p2 (p.take K)) ?_) ?_; · exact ⟨_,rfl,rfl⟩)
  | (refine aB (aY _ _ _ w3.heap.size rfl rfl) ?_)
  | (refine bI HN.out rfl ⟨2,p.take K,eB,zks⟩ p0 K p2 rfl rfl _ _ rfl rfl rfl rfl ?_; intro w4 hO4 fl; have cC:=hid hO4; have aq:Hid (Below w3.heap.size w3 w4):=hid (fl.below (al1 _ _) aH); clear hO4 fl))
 refine (jz.out w4 (bst HB3.out aq.out)).mono ?_;rintro e w5 ⟨a5,n5,c5,rfl,rN,hb5⟩;have oX:n5=n:=by rw [<-rN.len]; exact f9.out
 subst oX;have oS:=hid rN;have ae:=hid hb5;clear rN hb5 jz;go_wp2_with fail
 refine (rK.out a5 n5 c5 w5 oS.out hn).mono ?_;rintro e w6 ⟨rfl,hb6⟩;have ax:=hid (bst ae.out hb6);clear hb6 ae oS;go_wp2_with fail
 refine (de.out w6).mono ?_;rintro e w7 ⟨rfl,cQ⟩;have cA:=hid (bst ax.out cQ);have eK:=hid (cC.out.below cA.out);clear cQ ax;go_wp2_with (first
  | (refine su eK.out rfl (i:=0) (by decide) R rfl _ _ rfl rfl rfl ?_; intro w8 gR mm; have cJ:Hid (dZ w8 w3.heap.size ⟨2,p.take K,eB,iJ R⟩ p0 K p2):=hid gR; have tD:=hid mm; clear gR mm)
  | (refine aB (bU cJ.out (fP R) ⟨_,rfl,rfl⟩) ?_)
  | (refine bI (Rg.Own.upd (Rg.Own.below (Rg.Own.below ce.out aq.out) cA.out) tD.out (by omega)) rfl ⟨2,p.take K,eB,iJ R⟩ p0 K p2 (fP R) rfl _ _ rfl rfl rfl rfl ?_; intro w9 aw b8; have cl:=hid aw; have Ax:=hid b8; clear aw b8))
 have fR:Hid (Below w.heap.size w w9):=hid (Ax.out.below (tD.out.below (bst (bst HB3.out aq.out) cA.out) (by have:=HB3.out.size; omega)) aH);exact bodyPost_ret (fF (p:=2) (u:=3) rfl _ rfl cl.out (fP R)) rfl ⟨p0,K,p2,by rw [At.out]; rfl,by rw [At.out]; exact Z4.out.below fR.out,fR.out⟩
theorem Vk {L:Nat} (hL:L<=64) (x y:Tr.In) (r:List Tr.In) (ok:Ok L (x::y::r)) (f:qO (x::y::r)) (h0:bE (x::y::r)=0) (hE:Nv (L-1)) (a:aL) (n c:Nat) (w:World) (h:gV w a n c (x::y::r)) (hn:n<=1000000) :
  Calls prog 36 #[.slice a n c] w (LX w (bg (build L (x::y::r)))):=by
 obtain ⟨w1,hw1,am,hb1,hs1⟩:=WQ w;have hlen:=h.len;have hn2:2<=n:=by rw [<-hlen]; simp
 have hL0:0<L:=by have:=kR ok; omega
 have hall:∀ z∈x::y::r,z.1.length=L:=λz hz=>(ok.1 z hz).1;have hNe:bg (build L (x::y::r))=⟨3,[],eB,gq λd=>ref (build (L-1) (bR (bK (x::y::r) d) 1))⟩:=by
  rw [build,dif_neg (by omega),dif_pos hL0]; rfl
 generalize x::y::r=l at *
 have HC:=hid (λwz (hb:Below w.heap.size w wz)=>qL l a n c (λz hz=>by rw [hall z hz]; omega) (by omega) wz (h.below hb) hn);rw [h0] at HC;have xF:=hid (λ(d:Fin 16) wz (hb:Below w.heap.size w wz)=>DW l a n c d (λz hz=>by rw [hall z hz]; omega) wz (h.below hb) hn);have jz:=hid (λ(d:Fin 16) a' n' c' wz (hi:gV wz a' n' c' (bK l d)) (h':n'<=1000000)=>wF (bK l d) a' n' c' 1 (λz hz=>by rw [hall z (lX.1 hz).1]; omega) wz hi h');have rK:=hid (λ(d:Fin 16)=>hE (bR (bK l d) 1) (oo ok hL0 d) ((f.begin d).rest 1))
 have de:=hid (λ(d:Fin 16) wz=>by have:=Hf (bP (build (L-1) (bR (bK l d) 1))) (LC (by omega) (oo ok hL0 d) ((f.begin d).rest 1)) wz; rw [LQ] at this; exact this);have fm:Hid (∀ d:Fin 16,(bK l d).length<=n):=hid (λd=>by
  have:=DF l d n;rwa [List.take_of_length_le (by omega)] at this)
 have f9:Hid (∀ d:Fin 16,(bR (bK l d) 1).length=(bK l d).length):=hid (λd=>by unfold bR; rw [List.length_map]);obtain ⟨ks,hks⟩:∃ ks,(gq λd=>ref (build (L-1) (bR (bK l d) 1)))=ks:=⟨_,rfl⟩
 have hkl:ks.length=16:=by rw [<-hks]; exact mG _
 have hki:∀ j (hj:j<16),ref (build (L-1) (bR (bK l ⟨j,hj⟩) 1))=ks.getD j eB:=λj hj=>by
  rw [<-hks]; exact (mJ (λd=>ref (build (L-1) (bR (bK l d) 1))) ⟨j,hj⟩).symm
 rw [hks] at hNe;have co:=hid hkl;have Z5:=hid hki;have At:=hid hNe;have hcap:=h.1;have hmx:=h.2.1;unfold maxLen at hmx;have hn0:(0:Int)<n:=by omega
 have hnn:0<n:=by omega
 have e0:((n:Int)==0)=false:=by simp; omega
 have e1:((n:Int)==1)=false:=by simp; omega
 have d0:decide ((n:Int)=0)=false:=by simp; omega
 have d1:decide ((n:Int)=1)=false:=by simp; omega
 have HO:=hid am;have HB:=hid hb1;have HW:Hid (_=_):=hid hw1;clear am hb1 hw1 h hlen hE hall ok f hNe hkl hki hks h0;go_enter func36,ntmps36;go_wp2_with (refine aB (aY _ _ _ w.heap.size rfl rfl) ?_)
 rw [<-HW.out];clear HW;refine (HC.out w1 HB.out).mono ?_;rintro e w3 ⟨rfl,hb3⟩;have HB3:=hid hb3;have hNew:=Rg.Own.new w3 (ndC nd0 none 0 0) 67;have HN:=hid hNew;have hs3:=hb3.size;clear hb3 HC hNew;go_wp2_with (first
  | (refine aB (bQ (Ru 3) ?_) ?_; · exact ⟨_,rfl,rfl⟩)
  | (refine aB (aY _ _ _ w3.heap.size rfl rfl) ?_)
  | (refine bI HN.out rfl ⟨3,[],eB,zks⟩ none 0 0 rfl rfl _ _ rfl rfl rfl rfl ?_; intro w4 hO4 fl; have cC:=hid hO4; have aq:Hid (Below w3.heap.size w3 w4):=hid (fl.below (al1 _ _) aH); clear hO4 fl))
 have AC:Hid (Below w1.heap.size w1 w4):=hid (bst HB3.out aq.out);have xw:Hid (dZ w4 w3.heap.size ⟨3,[],eB,iM ks 0⟩ none 0 0):=hid (by rw [yM]; exact cC.out);clear HB3 aq cC HN;obtain ⟨g,hg⟩:=aA w3.heap.size
 rw [hg] at xw hs3 ⊢;clear hg;go_loopw [7] (λi wr=>∃ j:Nat,j<=16/\i = .int .i64 j/\Hid (dZ wr g ⟨3,[],eB,iM ks j⟩ none 0 0)/\Hid (Below w1.heap.size w1 wr)) (λi _=>16-(intOf i).toNat)
 case atStart=>exact ⟨0,Nat.zero_le _,rfl,xw,AC⟩
 case round =>
  obtain ⟨j,hj,rfl,rS,rB⟩:=hrel;clear xw AC;by_cases hlt:j<16
  .have hji:(j:Int)<16:=by omega
   have cI:Hid (Below w.heap.size w wr):=hid (bst HB.out rB.out);have HS:=hid (AO co.out hlt);have xT:=hid (tY co.out hj);go_wp2_with fail
   refine (xF.out ⟨j,hlt⟩ wr cI.out).mono ?_;rintro e w5 ⟨a5,n5,c5,rfl,rN,hb5⟩;have oX:n5<=1000000:=by rw [<-rN.len]; exact Nat.le_trans (fm.out ⟨j,hlt⟩) hn
   have hl5:=rN.len;have oS:=hid rN;have ae:=hid hb5;clear rN hb5;go_wp2_with fail
   refine (jz.out ⟨j,hlt⟩ a5 n5 c5 w5 oS.out oX).mono ?_;rintro e w6 ⟨a6,n6,c6,rfl,s0,hb6⟩;have Z6:n6<=1000000:=by rw [<-s0.len,f9.out,hl5]; exact oX
   have xz:=hid s0;have ax:=hid (bst ae.out hb6);clear s0 hb6 oS ae;go_wp2_with fail
   refine (rK.out ⟨j,hlt⟩ a6 n6 c6 w6 xz.out Z6).mono ?_;rintro e w7 ⟨rfl,cQ⟩;have cA:=hid (bst ax.out cQ);have pL:=hid (de.out ⟨j,hlt⟩ w7);obtain ⟨E,hE⟩:=aA (bP (build (L-1) (bR (bK l ⟨j,hlt⟩) 1)))
   rw [Z5.out j hlt,hE] at pL;rw [hE];obtain ⟨R,hR⟩:=aA (ks.getD j eB)
   rw [hR] at pL HS;clear cQ ax xz hE hR;go_wp2_with fail
   refine pL.out.mono ?_;rintro e w8 ⟨rfl,cE⟩;have kO:=hid (bst cA.out cE);have tE:=hid (rS.out.below kO.out);clear cE cA pL;go_wp2_with (refine su tE.out xT.out (i:=j) hlt R rfl _ _ rfl rfl rfl ?_; intro w9 aw b8; have cl:=hid aw; have Ax:=hid b8; clear aw b8)
   have hge:w1.heap.size<=g:=hs3;go_roundw
   case rel=>exact ⟨j+1,by omega,by go_num,hid (by rw [<-HS.out]; exact cl.out),hid (Ax.out.below (rB.out.trans (kO.out.mono rB.out.size)) hge)⟩
   case measure=>simp [intOf]; omega
  .obtain rfl:j=16:=by omega
   have z9:Hid (dZ wr g ⟨3,[],eB,ks⟩ none 0 0):=hid (by have:=rS.out; rwa [BD co.out] at this);clear rS;go_wp2_with (first
    | (refine aB (bU z9.out co.out ⟨_,rfl,rfl⟩) ?_)
    | (refine bI (Rg.Own.below HO.out rB.out) rfl ⟨3,[],eB,ks⟩ none 0 0 co.out rfl _ _ rfl rfl rfl rfl ?_; intro w9 aw b8; have cl:=hid aw; have Ax:=hid b8; clear aw b8))
   have fR:Hid (Below w.heap.size w w9):=hid (Ax.out.below (bst HB.out rB.out) aH);exact bodyPost_ret (fF (p:=2) (u:=3) rfl _ rfl cl.out co.out) rfl ⟨none,0,0,by rw [At.out]; rfl,by rw [At.out]; exact bf.nil _,fR.out⟩
theorem IZ {L:Nat} (hL:L<=64) (ih:∀ m,m<L->Nv m) {l:List Tr.In} (ok:Ok L l) (f:qO l) (hne:l≠[]) (a:aL) (n c:Nat) (w:World) (h:gV w a n c l) (hn:n<=1000000) :
  Calls prog 36 #[.slice a n c] w (LX w (bg (build L l))):=by
 match l,hne with
 | [x],_ =>
  obtain rfl:n=1:=h.len.symm;have:=UH x a c w h;rw [build];exact this
 | x::y::r,_ =>
  have hlt:=kR ok;by_cases h0:0<bE (x::y::r)
  .exact Ue hL x y r ok f h0 (ih _ (by omega)) a n c w h hn
  .exact Vk hL x y r ok f (by omega) (ih _ (by omega)) a n c w h hn
theorem XP {L:Nat} (hL:L<=64) (ih:∀ m,m<L->Nv m):Nv L:=λl ok f a n c w h hn=>by
 by_cases hne:l=[]
 .subst hne;obtain rfl:n=0:=h.len.symm;rw [build];have HC:=hid (DT a c w);clear h;go_enter func65,ntmps65;go_wp2_with fail
  refine HC.out.mono ?_;rintro e w1 ⟨rfl,hb1⟩;have HB1:=hid hb1;have hNew:=Rg.Own.new w1 (ndC nd0 none 0 0) 67;have HN:=hid hNew;clear hb1 hNew;go_wp2_with (first
   | (refine aB (aY _ _ _ w1.heap.size rfl rfl) ?_)
   | (refine bI HN.out rfl nd0 none 0 0 rfl rfl _ _ rfl rfl rfl rfl ?_; intro w4 hO4 fl; have aq:Hid (Below w1.heap.size w1 w4):=hid (fl.below (al1 _ _) aH); clear hO4 fl))
  go_ret;exact ⟨rfl,bst HB1.out aq.out⟩
 .have hb:=BG ok hne;have hs:=dK (ow L l);have hm:=(eT _ L (qB L l ok) hL (qF L l f) hb).1 hs;have e:bP (build L l)=gH (bg (build L l)):=by
   cases hb':build L l with
   | nil=>exact absurd hb' hb
   | stub r=>rw [hb'] at hs; exact absurd trivial hs
   | leaf p v=>rfl
   | ext q t=>rfl
   | br ks=>rfl
  have HC:=hid (IZ hL ih ok f hne a n c w h hn);have hl:=dY (build L l);rw [e];generalize bg (build L l)=N at *
  have HM:=hid hm;have HL:=hid hl;clear h hm hl e hs hb;go_enter func65,ntmps65;go_wp2_with fail
  refine HC.out.mono ?_;rintro e w1 ⟨a1,n1,c1,rfl,hp1,hb1⟩;have HB1:=hid hb1;have hNew:=Rg.Own.new w1 (ndC nd0 none 0 0) 67;have HN:=hid hNew;have HP:=hid hp1;clear hb1 hNew hp1 HC;go_wp2_with (first
   | (refine aB (aY _ _ _ w1.heap.size rfl rfl) ?_)
   | (refine bI HN.out rfl N a1 n1 c1 HL.out rfl _ _ rfl rfl rfl rfl ?_; intro w4 hO4 fl; have cC:=hid hO4; have aq:Hid (Below w1.heap.size w1 w4):=hid (fl.below (al1 _ _) aH); clear hO4 fl)
   | (refine aB (bU cC.out HL.out ⟨_,rfl,rfl⟩) ?_))
  refine (LP N a1 n1 c1 HL.out w4 (HP.out.below aq.out) HM.out).mono ?_;rintro e w5 ⟨rfl,hb5⟩;have ae:=hid (bst (bst HB1.out aq.out) hb5);clear hb5;go_wp2;go_ret;exact ⟨rfl,ae.out⟩
theorem Un (L:Nat):L<=64->Nv L:=by
 induction L using Nat.strongRecOn with
 | ind L ih=>exact λhL=>XP hL λm hm=>ih m hm (by omega)
end Tm
end
section
open Go.RowKit
namespace Tm
open Tr Ni Pk Ky No
theorem Rp:(prog.info? 67).map (λi=>(i.size,i.bytes))=some (19,304):=by kernel_rfl
theorem EH:((prog.info? 67).bind (·.zero)).isSome=true:=by kernel_rfl
theorem Dh:((prog.info? 67).bind (·.zero)).map (·.cells.size)=some 19:=by kernel_rfl
theorem CY:∃ i z,prog.info? 67=some i/\i.zero=some z/\i.size=19/\i.bytes=304/\z.cells.size=19:=by
 have h1:=Rp;have h2:=EH;have h3:=Dh;cases hi:prog.info? 67 with
 | none=>rw [hi] at h1; simp at h1
 | some i =>
  rw [hi] at h1 h2 h3;simp at h1 h2 h3;cases hz:i.zero with
  | none=>rw [hz] at h2; simp at h2
  | some z =>
   rw [hz] at h3;simp at h3;exact ⟨i,z,rfl,hz,h1.1,h1.2,h3⟩
def ndL (N:Nd) (h:Hdl):List Value:=.int .i64 N.kd :: .slice h.1 h.2.1 h.2.2 :: .string N.v::N.ks.map Value.string
theorem vV {N:Nd} {h:Hdl} (hl:N.ks.length=16):(ndL N h).length=19:=by simp [ndL,hl]
theorem Vf (N:Nd) (h:Hdl):∀ u∈ndL N h,u.oneCell'=true:=λu hu=>by
 unfold ndL at hu;simp only [List.mem_cons,List.mem_map] at hu;rcases hu with rfl | rfl | rfl | ⟨_,_,rfl⟩ <;> rfl
abbrev Nz:Type:=Nd × Hdl
def nz0:Nz:=(nd0,(none,0,0))
def JQ (z:List Nz):List Value:=z.flatMap λp=>ndL p.1 p.2
theorem MJ:∀ (z:List Nz),(∀ p∈z,p.1.ks.length=16)->∀ j i,j<z.length->i<19->(JQ z)[j*19+i]? = (ndL (z.getD j nz0).1 (z.getD j nz0).2)[i]?
 | [],_,_,_,h,_=>absurd h (Nat.not_lt_zero _)
 | x::z,h,0,i,_,hi=>by
  show (ndL x.1 x.2++JQ z)[0*19+i]? = _;rw [Nat.zero_mul,Nat.zero_add,List.getElem?_append_left (by rw [vV (h x List.mem_cons_self)]; exact hi)];rfl
 | x::z,h,j+1,i,hj,hi=>by
  show (ndL x.1 x.2++JQ z)[(j+1)*19+i]? = _;have hx:=vV (h:=x.2) (h x List.mem_cons_self);rw [List.getElem?_append_right (by omega),hx,show (j+1)*19+i-19=j*19+i by omega,MJ z (λy hy=>h y (List.mem_cons_of_mem _ hy)) j i (by simpa using hj) hi];rfl
def tK (w:World) (a:aL) (n c:Nat) (l:List Nd):Prop :=
 n<=c/\c<=maxLen/\(a=none->c=0)/\∃ z:List Nz,z.map Prod.fst=l/\z.length=n/\(∀ p∈z,p.1.ks.length=16/\bf w p.2.1 p.2.2.1 p.2.2.2 p.1.p)/\
  ∀ j,j<n->∃ b off,a=some ⟨b,off,none⟩/\b<w.heap.size/\w.rangeAt b (off+j*19) (ndL (z.getD j nz0).1 (z.getD j nz0).2)
theorem tK.len {l:List Nd} (h:tK w a n c l):l.length=n:=by
 obtain ⟨_,_,_,z,rfl,hz,_⟩:=h;rw [List.length_map,hz]
theorem tK.nil (w:World):tK w none 0 0 []:=⟨aH,Nat.zero_le _,λ_=>rfl,[],rfl,rfl,λ_ h=>(by cases h),λ_ h=>absurd h (Nat.not_lt_zero _)⟩
theorem kQ {α:Type} {l:List α} {d : α} (h:j<l.length):l.getD j d∈l:=by
 rw [List.getD_eq_getElem?_getD,List.getElem?_eq_getElem h];exact List.getElem_mem _
theorem tK.at' {l:List Nd} (h:tK w a n c l) (j:Nat) (hj:j<n):∃ b off g,a=some ⟨b,off,none⟩/\b<w.heap.size/\w.rangeAt b (off+j*19) (ndL (l.getD j nd0) g)/\(l.getD j nd0).ks.length=16/\bf w g.1 g.2.1 g.2.2 (l.getD j nd0).p:=by
 obtain ⟨_,_,_,z,rfl,hz,hp,hr⟩:=h;obtain ⟨b,off,e,hlt,hc⟩:=hr j hj;have hg:(z.map Prod.fst).getD j nd0=(z.getD j nz0).1:=by
  have:j<z.length:=by omega
  simp [List.getD,this]
 obtain ⟨h1,h2⟩:=hp _ (kQ (d:=nz0) (show j<z.length by omega));exact ⟨b,off,(z.getD j nz0).2,e,hlt,by rw [hg]; exact hc,by rw [hg]; exact h1,by rw [hg]; exact h2⟩
theorem Nh {N:Nd} {h:Hdl} (hl:N.ks.length=16) (b:Nat) (hb:b=w.heap.size) (ho:∃ y,o.op = .buildSlice 77 1 #[(0,y)]/\ev y = .agg (ndC N h.1 h.2.1 h.2.2)) :
  (execOp ev o).run prog w = .ok (.value (.slice (some ⟨b,0,none⟩) 1 1)) (w.alloc (.cells (ndC N h.1 h.2.1 h.2.2) 67)):=by
 obtain ⟨y,ho,hx⟩:=ho;obtain ⟨kd,p,v,ks⟩:=N;subst hb;obtain ⟨x0,x1,x2,x3,x4,x5,x6,x7,x8,x9,x10,S2,S3,S4,cn,S5,rfl⟩:=sixteen ks hl;unfold execOp;simp only [ho,List.map_toArray,List.map_cons,List.map_nil,hx];kernel_rfl
end Tm
end
section
namespace Tr
open Rf Rl Ni No
end Tr
end
section
open Go.RowKit
namespace Tr
open Rf Rl Ni No
theorem at_len:∀ (t:T) (L:Nat) (w:Pa),Good t L->(bD t w).length<=w.length+1
 | .nil,_,_,_=>Nat.zero_le _
 | .leaf _ _,_,_,_=>by
  show 1<=_;omega
 | .ext q t,L,w,g=>by
  have hq:0<q.length:=List.length_pos_iff.2 g.1;have ih:=at_len t _ (w.drop q.length) g.2.2.2.2;rw [List.length_drop] at ih;show (_::if _ then _ else _).length<=_;by_cases h:q<+:w
  .rw [if_pos h,List.length_cons];have:=h.length_le;omega
  .rw [if_neg h];simp
 | .br ks,L,[],_=>aH
 | .br ks,L,c::w,g=>by
  have ih:=at_len (ks (nb c)) _ w (g.2.2 _);show (bD (ks (nb c)) w).length+1<=(w.length+1)+1;omega
 | .stub _,_,_,_=>Nat.zero_le _
end Tr
namespace Tm
open Tr Ni Pk Ky No
end Tm
end
section
namespace Tr
open Rf Rl Ni No
theorem Bv:∀ (t:T) (w:Pa),kX t w=(bD t w).map gH
 | .nil,_=>rfl
 | .leaf _ _,_=>rfl
 | .ext q t,w=>by
  show bP (.ext q t)::(if q<+:w then kX t (w.drop q.length) else [])=gH (bg (.ext q t))::List.map gH (if q<+:w then bD t (w.drop q.length) else []);rw [Bv t];by_cases h:q<+:w
  .rw [if_pos h,if_pos h]; rfl
  .rw [if_neg h,if_neg h]; rfl
 | .br ks,[]=>rfl
 | .br ks,c::w=>by
  show bP (.br ks)::kX (ks (nb c)) w=gH (bg (.br ks))::List.map gH (bD (ks (nb c)) w);rw [Bv (ks (nb c)) w];rfl
 | .stub _,_=>rfl
def jU (l:List Nd):List aM:=(l.take 1).map gH++pF ((l.drop 1).map gH)
theorem Yb (t:T) (w:Pa):uQ t w=jU (bD t w):=by
 unfold uQ jU;rw [Bv];cases bD t w with
 | nil=>rfl
 | cons x r=>rfl
theorem Ud (l:List Nd) (h:j<l.length):jU (l.take (j+1))=jU (l.take j)++if j=0\/32<=(gH (l.getD j nd0)).size then [gH (l.getD j nd0)] else []:=by
 have e:l.take (j+1)=l.take j++[l.getD j nd0]:=by
  have e1:l.getD j nd0=l[j]:=by simp [List.getD,h]
  rw [e1,List.take_succ_eq_append_getElem h]
 rw [e];generalize l.getD j nd0=x;by_cases hj:j=0
 .subst hj;rw [if_pos (.inl rfl),List.take_zero];rfl
 .have hl:1<=(l.take j).length:=by rw [List.length_take]; omega
  unfold jU;rw [List.take_append_of_le_length hl,List.drop_append_of_le_length hl,List.map_append,List.append_assoc];congr 1;unfold pF;rw [List.filter_append];congr 1;by_cases h32:32<=(gH x).size
  .rw [if_pos (.inr h32),List.map_cons,List.map_nil,List.filter_cons_of_pos (by simpa using h32)]; rfl
  .rw [if_neg (λh=>h.elim hj h32),List.map_cons,List.map_nil,List.filter_cons_of_neg (by simpa using h32)]; rfl
theorem FQ (l:List Nd):(jU l).length<=l.length:=by
 unfold jU pF;rw [List.length_append,List.length_map];have:=List.length_filter_le (λx:aM=>decide (32<=x.size)) ((l.drop 1).map gH);rw [List.length_map,List.length_drop] at this;rw [List.length_take];omega
theorem vI:∀ (t:T) (L:Nat) (w:Pa),Good t L->L<=64->Fine t->∀ N∈bD t w,∃ (s:T) (K:Nat),N=bg s/\bP s=gH N/\s ≠ .nil/\¬ eY s/\K<=64/\Good s K/\Fine s
 | .nil,_,_,_,_,_,_,h=>by cases h
 | .leaf p v,L,w,g,hL,f,N,h=>by
  rw [List.mem_singleton.1 h];exact ⟨_,L,rfl,rfl,λe=>(by cases e),λh=>h,hL,g,f⟩
 | .ext q t,L,w,g,hL,f,N,h=>by
  rcases List.mem_cons.1 h with rfl | h
  .exact ⟨_,L,rfl,rfl,λe=>(by cases e),λh=>h,hL,g,f⟩
  .by_cases hq:q<+:w
   .rw [if_pos hq] at h;exact vI t (L-q.length) (w.drop q.length) g.2.2.2.2 (by omega) f N h
   .rw [if_neg hq] at h;cases h
 | .br ks,L,[],g,hL,f,N,h=>by
  rw [List.mem_singleton.1 h];exact ⟨_,L,rfl,rfl,λe=>(by cases e),λh=>h,hL,g,f⟩
 | .br ks,L,c::w,g,hL,f,N,h=>by
  rcases List.mem_cons.1 h with rfl | h
  .exact ⟨_,L,rfl,rfl,λe=>(by cases e),λh=>h,hL,g,f⟩
  .exact vI (ks (nb c)) (L-1) w (g.2.2 _) (by omega) (f _) N h
 | .stub _,_,_,_,_,_,_,h=>by cases h
end Tr
end
section
namespace Tr
open Rf Rl Ni No
theorem VK {l:List Nd} {s:aM} (h:s∈jU l):∃ N∈l,s=gH N:=by
 unfold jU pF at h;rcases List.mem_append.1 h with h | h
 .obtain ⟨N,hN,rfl⟩:=List.mem_map.1 h;exact ⟨N,List.mem_of_mem_take hN,rfl⟩
 .obtain ⟨N,hN,rfl⟩:=List.mem_map.1 (List.mem_filter.1 h).1;exact ⟨N,List.mem_of_mem_drop hN,rfl⟩
theorem Nf {t:T} (g:Good t 64) (f:Fine t) (q:Pa):∀ s∈jU (bD t q),s.size<=900000:=λs hs=>by
 obtain ⟨N,hN,rfl⟩:=VK hs;obtain ⟨u,K,rfl,e,h1,h2,h3,h4,h5⟩:=vI t 64 q g aH f N hN;rw [<-e];exact (Tm.pX h4 h3 h5 h1 h2).2.2.1
end Tr
end
section
namespace Tr
open Rf Rl Ni No
def mY (l:List aM) (r:aN) (q:Pa):qN :=
 if l.length=0 then (if r=eG eB then some none else none,0) else
 if 70<l.length then (none,0) else
 if eG (l.getD 0 eB)=r then jA l 200 (l.getD 0 eB) q 1 false else (none,0)
theorem uo:kW []=none:=by
 cases h:kW [] with
 | none=>rfl
 | some n =>
  have:=MS (s:=[]) (by decide) h;simp at this
theorem Uz (c:UInt8):kW [c]=none:=by
 have hl:[c].length<=4294967296:=by simp
 cases h:kW [c] with
 | none=>rfl
 | some n =>
  obtain ⟨x,h1,h2,_⟩:=pK hl h;obtain ⟨g1,g2,g3⟩:=jS hl h1;exfalso;have hz:x.xs≠[]:=by
   intro e;rw [e] at h2;cases h2
  obtain ⟨y,ys,hy⟩:=List.exists_cons_of_ne_nil hz;have hm:y∈x.xs:=by rw [hy]; exact List.mem_cons_self
  have h3:=sM g2 (by rw [g1]; exact hl) hm;rw [g1] at h3;have h3:y.bytes.length<1:=h3;exact pG (EX g2 hm) (by omega) (List.eq_nil_of_length_eq_zero (by omega))
theorem Py {t:T} (g:Good t 64) (u:Full t) (f:Fine t) {q:Pa} (hq:q.length=64) (hn:Nib q) (Z7:(uQ t q).length<=65):∃ a,get t q=some a/\mY (uQ t q) (eG (bP t)) q=(some a,(uQ t q).length):=by
 by_cases ht:t = .nil
 .subst ht;exact ⟨none,rfl,rfl⟩
 .obtain ⟨w,hw⟩:=yD ht (dK u) q;have hl:uQ t q=bP t::pF w:=by unfold uQ; rw [hw]
  rw [hl] at Z7 ⊢;obtain ⟨a,h1,h2⟩:=xV (bP t::pF w) t 64 200 q 1 false g aH u f ht hq hn (by omega) (λe=>by cases e) (by simp) (by rw [hw]; rfl);refine ⟨a,h1,?_⟩;unfold mY;rw [if_neg (by simp),if_neg (by omega),if_pos (show eG ((bP t::pF w).getD 0 eB)=eG (bP t) from rfl)];exact h2
theorem vO {s:aM} (h:s.size≠0):eG s=gG s:=by unfold eG; rw [if_neg h]
theorem Bz (l:List aM) (h:kW x.data.toList=none) (s:Nat) (q:Pa) (used:Nat) (ext:Bool) {a:Option aM}:jA l (s+1) x q used ext≠(some a,u):=by
 unfold jA;rw [h];intro e;cases e
theorem NA {t:T} (g:Good t 64) (u:Full t) (f:Fine t) {q:Pa} (hq:q.length=64) (hn:Nib q) {l:List aM} (hc:∀ x∈⟨#[128]⟩::cu t++l,∀ y∈⟨#[128]⟩::cu t++l,gG x=gG y->x=y) {a:Option aM} (h:mY l (eG (bP t)) q=(some a,n)):get t q=some a:=by
 have h128:kW (⟨#[128]⟩:aM).data.toList=none:=Uz 128;have hne:t ≠ .nil->kW (bP t).data.toList=some (bg t):=λht=>nS g aH f ht (dK u);have hz:t ≠ .nil->(bP t).size≠0:=λht e=>by
  have h1:=hne ht;have h2:(bP t).data.toList=[]:=List.eq_nil_of_length_eq_zero (by rw [iC]; exact e);rw [h2,uo] at h1;cases h1
 have hmem:t ≠ .nil->bP t∈⟨#[128]⟩::cu t++l:=λht=>List.mem_append_left _ (List.mem_cons_of_mem _ (xY ht (dK u)));have AD:(⟨#[128]⟩:aM)∈⟨#[128]⟩::cu t++l:=List.mem_append_left _ List.mem_cons_self;have hno:t ≠ .nil->gG (bP t)≠gG ⟨#[128]⟩:=λht e=>by
  have e1:=hc _ (hmem ht) _ AD e;have h1:=hne ht;rw [e1,h128] at h1;cases h1
 unfold mY at h;by_cases h0:l.length=0
 .rw [if_pos h0] at h;by_cases ht:t = .nil
  .subst ht;have h1:=(Prod.mk.inj h).1;rw [if_pos (show eG (bP .nil)=eG eB from rfl)] at h1;rw [<-Option.some.inj h1];rfl
  .rw [if_neg (λe=>hno ht (by rw [vO (hz ht)] at e; exact e))] at h;cases h
 .rw [if_neg h0] at h;by_cases y0:70<l.length
  .rw [if_pos y0] at h;cases h
  .rw [if_neg y0] at h;have hm:l.getD 0 eB∈l:=by
    rw [List.getD_eq_getElem?_getD,List.getElem?_eq_getElem (by omega)];exact List.getElem_mem _
   have hml:l.getD 0 eB∈⟨#[128]⟩::cu t++l:=List.mem_append_right _ hm;generalize l.getD 0 eB=x at h hm hml;by_cases hr:eG x=eG (bP t)
   .rw [if_pos hr] at h;by_cases ht:t = .nil
    .subst ht;exfalso;by_cases hx:x.size=0
     .obtain rfl:=dI hx;exact Bz l uo 199 q 1 false h
     .rw [vO hx] at hr;have:=hc _ hml _ AD hr;subst this;exact Bz l h128 199 q 1 false h
    .by_cases hx:x.size=0
     .obtain rfl:=dI hx;exfalso;exact Bz l uo 199 q 1 false h
     .rw [vO hx,vO (hz ht)] at hr;have:=hc _ hml _ (hmem ht) hr;subst this;exact qb l t 64 200 q 1 false g aH u f ht hq hn (λx hx y hy e=>hc _ (List.mem_append_right _ hy) _ (List.mem_append_left _ (List.mem_cons_of_mem _ hx)) e) a n h
   .rw [if_neg hr] at h;cases h
theorem yg {s:aN} (hs:s.length<=4294967296) {n:Nd} (h:kW s=some n) (p:Pa) (ho:(onward n p).1.size≠0):(onward n p).2.length<p.length:=by
 have hm:=(GH hs h).2.1;unfold onward at ho ⊢;by_cases h2:n.kd=2/\n.p<+:p
 .rw [if_pos h2];have hp:0<n.p.length:=by
   unfold fC lH at hm;rw [if_neg (by rw [h2.1]; decide),if_pos h2.1] at hm;simp only [Bool.and_eq_true,decide_eq_true_eq] at hm;exact hm.2.1.1.1.1
  have:=h2.2.length_le;rw [List.length_drop];omega
 .rw [if_neg h2] at ho ⊢;by_cases h3:n.kd=3
  .rw [if_pos h3] at ho ⊢;cases p with
   | nil=>exact absurd rfl ho
   | cons c r=>exact Nat.lt_succ_self _
  .rw [if_neg h3] at ho;exact absurd rfl ho
theorem qc (l:List aM) (hl:∀ x∈l,x.size<=900000):∀ (s s':Nat) (enc:aM) (p:Pa) (used:Nat) (ext:Bool),enc.size<=900000->p.length<s->p.length<s'->jA l s enc p used ext=jA l s' enc p used ext
 | 0,_,_,_,_,_,_,h,_=>absurd h (Nat.not_lt_zero _)
 | _+1,0,_,_,_,_,_,_,h=>absurd h (Nat.not_lt_zero _)
 | s+1,s'+1,enc,p,used,ext,he,h,h'=>by
  unfold jA;cases hg:kW enc.data.toList with
  | none=>rfl
  | some n =>
   dsimp only;have hlen:enc.data.toList.length<=4294967296:=by rw [iC]; omega
   by_cases ho:(onward n p).1.size=0
   .rw [if_pos ho,if_pos ho]
   .have hlt:=yg hlen hg p ho;rw [if_neg ho,if_neg ho];by_cases h32:(onward n p).1.size<32
    .rw [if_pos h32,if_pos h32,qc l hl s s' _ _ _ _ (by omega) (by omega) (by omega)]
    .rw [if_neg h32,if_neg h32];by_cases hu:used<l.length/\(l.getD used eB).size≠0/\ofP (l.getD used eB)=(onward n p).1
     .have hm:l.getD used eB∈l:=by
       rw [List.getD_eq_getElem?_getD,List.getElem?_eq_getElem hu.1];exact List.getElem_mem _
      rw [if_pos hu,if_pos hu,qc l hl s s' _ _ _ _ (hl _ hm) (by omega) (by omega)]
     .rw [if_neg hu,if_neg hu]
end Tr
end
section
open Go.RowKit Go.Maps
namespace Tm
open Tr Ni Pk Ky No Rf Rl
open Sm (Tab)
theorem Cv {k l:aN} (hk:k.length=32) (hl:l.length=32) (w:World):(Op.equalIn 10000 23 (.agg (Sm.kc k)) (.agg (Sm.kc l))).run prog w = .ok (decide (k=l)) w:=by
 obtain ⟨i0,hi,_⟩:=info_parts Cc.lC;rw [show (10000:Nat)=9999+1 from rfl,run_equalIn_array w 9999 (Sm.kc k) (Sm.kc l) underlying23 hi,Jw];have:=xK k l w 9998 (List.range 32) (λi h=>by rw [hk,hl]; have:=List.mem_range.1 h; omega);rw [GV hk hl] at this;exact this
theorem RQ {k l:aN} (hk:k.length=32) (hl:l.length=32) (w:World):(binOp .eql 23 (.agg (Sm.kc k)) (.agg (Sm.kc l))).run prog w = .ok (.bool (decide (k=l))) w:=by
 rw [run_eql_struct,Cv hk hl w];rfl
theorem Jl {k l:aN} (hk:k.length=32) (hl:l.length=32) (ho:∃ x y tt,o.op = .binOp .eql 23 x y tt/\ev x = .agg (Sm.kc k)/\ev y = .agg (Sm.kc l)) :
  (execOp ev o).run prog w = .ok (.value (.bool (decide (k=l)))) w:=by
 obtain ⟨x,y,tt,ho,hx,hy⟩:=ho;unfold execOp;have hg:=Sm.DY;simp [ho,hx,hy,run_eqGuard_agg,hg,RQ hk hl,Result.andThen]
end Tm
end
section
open Go.RowKit
namespace No
open Rl Ni
end No
end
end Go.Proofs.YtokaiemgjngcoaaGreatDoor
