/-
 A tree's places are gone through (walk.goer$1$1), the block of each node's path is handed over.
-/
import Derived.Test.YtokaiemgjngcoaaGreatDoorVs21
open Go.Lib (hid)
open Go.Proofs.Tryz
set_option linter.unusedSimpArgs false
set_option linter.unusedVariables false
set_option maxHeartbeats 40000000
set_option maxRecDepth 100000
namespace Go.Proofs.YtokaiemgjngcoaaGreatDoor
variable {u v:Value} {a:aL} {B bx c n:Nat} {ad:Addr} {p:Nat->Prop} {ev:Operand->Value} {E R:aM}
section
open Go.RowKit
namespace Tm
open Tr Ni Pk Ky No Rf Rl da
open Sm (Tab)
def gvP (_:Pl) (args:aO) (k:Nat):Prop:=∃ (cs:aO) (ad:Addr) (n c:Nat),args[1]? = some (.agg cs)/\cs[1]? = some (.slice (some ad) n c)/\0<n/\k=ad.block
theorem XZ {x:Pl} {N:Nd} {k:Nat} (h:gvP x #[u,.agg (ndC N a n c)] k):∃ ad,a=some ad/\0<n/\k=ad.block:=by
 obtain ⟨cs,ad,n',c',h1,h2,h3,h4⟩:=h;have h5:some (Value.agg (ndC N a n c))=some (Value.agg cs):=h1;injection h5 with h5;injection h5 with h5;subst h5;have h6:(ndC N a n c)[1]? = some (.slice a n c):=by simp [ndC]
 rw [h6] at h2;injection h2 with h2;injection h2 with e1 e2 e3;exact ⟨ad,e1,by omega,h4⟩
theorem Rh {x:Pl} {N:Nd} (hn:0<n):gvP x #[u,.agg (ndC N (some ad) n c)] ad.block :=
 ⟨ndC N (some ad) n c,ad,n,c,rfl,by simp [ndC],hn,rfl⟩
theorem XW {x:Pl} {N:Nd} {k:Nat} {w:World} {l:aN} (hb:bf w a n c l) (hB:∀ ad,a=some ad->B<=ad.block) (h:gvP x #[u,.agg (ndC N a n c)] k):B<=k/\k<w.heap.size:=by
 obtain ⟨ad,rfl,hn,rfl⟩:=XZ h;obtain ⟨b,off,e,hlt,_⟩:=hb.at' 0 hn;injection e with e;refine ⟨hB _ rfl,?_⟩;rw [e];exact hlt
section
variable {α:Type} {M:Mp} {J:List α->(Nat->Prop)->World->Prop} {gv : α->aO->Nat->Prop} {V:List α} {K K':Nat->Prop} {x : α} {args:aO} {w w7 w8 wa wb:World}
theorem Yv {N:Nat->Prop} (hu:∀ k,w.heap.size<=k->M.at_ k=none/\¬ M.ft k) (r:Db M J V K N x wa wb K'):Mv w K wa (λ_=>False) wb:=⟨r.f.size,λb hB hl hn=>r.f.block b hl (hu b hB).1 hn,λ_ h=>h.elim⟩
theorem Yi (hu:∀ k,w.heap.size<=k->M.at_ k=none/\¬ M.ft k) (m:Mv w K w7 K w8) (hb:Below w8.heap.size w8 wa) (r:Db M J V K (QD gv x args wa.heap.size) x wa wb K') (hg:∀ k,gv x args k->w7.heap.size<=k/\k<w8.heap.size):Mv w K w7 K' wb:=by
 have h1:=m.sz;have h2:=hb.size;have h3:=r.f.size;refine ⟨by omega,λb hB hl hn=>((r.f.block b (by omega) (hu b hB).1 hn).trans (hb.block b (by omega))).trans (m.bl b hB hl hn),λk hk=>(r.sub k hk).imp id λg=>?_⟩;rcases g with g | g
 .omega
 .exact (hg k g).1
end
theorem Oj (M:Mp) (g0 gi fi:Nat) (cp:aO) (p0:aL) (t:T) (I:Pa->Bool) (eI:∀ args w,(callFunc fi args).run prog w = .ok (.enter fi args) w) (hg:Tr.Good t 64) (hf:Fine t) (hc:jC t<=200000) (ht:IsT M p0 t) :
  Yk M 91 #[.pointer (some ⟨g0,0,none⟩),.pointer (some ⟨gi,0,none⟩)] (goA M) gvP (goL I t 0 []) (Yf M g0 gi fi cp p0 I):=by
 intro lp J Js K0 w hJ hJs hP hi hT h0 hY;show Calls prog 91 #[.func (.yield lp) #[] #[],.pointer (some ⟨g0,0,none⟩),.pointer (some ⟨gi,0,none⟩)] w (Fa M J Js (goL I t 0 []) K0 w);have hout:∀ k,w.heap.size<=k->M.at_ k=none/\¬ M.ft k:=λk hk=>⟨hi.out hk,hi.free hk⟩
 obtain ⟨w1,hw1⟩:=ay (w.alloc (.cells (plA p0 0 (none,0,0)) 111))
 have hb1:Below w.heap.size w w1:=by rw [hw1]; exact al1 _ _
 have hs1:w1.heap.size=w.heap.size+1:=by rw [hw1]; simp
 have gO:jN w.heap.size w1 (.slice (some ⟨w.heap.size,0,none⟩) 1 1) [⟨p0,(none,0,0),(t,0,[])⟩]:=by
  rw [hw1];exact World.ownsRow_lit (e:=111) (size:=3) (base:=w.heap.size) w (plA p0 0 (none,0,0)) 1 aH (by unfold maxLen; decide) rfl
 obtain ⟨w3,hw3⟩:=ay (w1.alloc (.cells #[.slice (some ⟨w.heap.size,0,none⟩) 1 1] 154))
 have hb2':=al1 w1 (.cells #[.slice (some ⟨w.heap.size,0,none⟩) 1 1] 154);rw [<-hw3] at hb2';have hb3:Below w.heap.size w w3:=bst hb1 hb2';have hO3:Rg.Own w3 (w.heap.size+1) #[.slice (some ⟨w.heap.size,0,none⟩) 1 1] 154:=by rw [hw3,<-hs1]; exact Rg.Own.new _ _ _
 have yb:jN w.heap.size w3 (.slice (some ⟨w.heap.size,0,none⟩) 1 1) [⟨p0,(none,0,0),(t,0,[])⟩]:=eX gO λk e=>hb2'.block k (gO.lt k e).2;have GF:Hid (Gq M J K0 w (w.heap.size+1) (.slice (some ⟨w.heap.size,0,none⟩) 1 1) [⟨p0,(none,0,0),(t,0,[])⟩] [] K0 [] w3):=hid (by
  have hK:=hJ.lt _ _ _ h0;refine ⟨hO3,yb,λy hy=>?_,hJ.st _ _ _ _ h0 hb3.size λk hk=>hb3.block k (hK k hk).1,λhk=>by have:=(hK _ hk).1; omega,λk e hk=>?_,λe=>?_,by omega,(FrK.refl M K0 w).below hb3 aH,λk hk=>.inl hk,hi.below hb3,hT.below hb3 hT.pos,hout,hT.pos,List.nodup_nil,λD hD=>by cases hD⟩
  .obtain rfl:=List.mem_singleton.1 hy;exact ⟨ht,xQ.root hg hf,bf.nil _,λad e=>by cases e⟩
  .have e2:w.heap.size=k:=Option.some.inj e;have:=(hK _ hk).1;omega
  .have e2:w.heap.size=w.heap.size+1:=Option.some.inj e;omega)
 have HP:=hid hP;have HY:=hid hY;have HJ:=hid hJ;have Th:=hid hJs;have HC:=hid hc;have cH:=hid hout;have hcell0:=hP.c0;clear hP hY hJ hJs hc hout hi hT h0 hb1 hs1 gO hb2' hO3 hb3 yb hg hf ht;refine yR func91 rfl ?_;simp only [ntmps91,List.size_toArray,List.length_cons,List.length_nil,Nat.reduceAdd,Nat.reduceSub,Array.replicate_succ,Array.replicate_zero,List.push_toArray,List.append_toArray,List.nil_append,List.cons_append]
 obtain ⟨INV,Cl⟩:∃ INV:Go.Act->World->Prop,INV=λa' wr=>∃ (Ds:List Nat) (v:Value) (l:List Pc) (V:List Pl) (K:Nat->Prop),Hid (Gq M J K0 w (w.heap.size+1) v l V K Ds wr)/\Hid (V++jI I (l.map (·.x))=goL I t 0 []/\nu (l.map (·.x))<=200000)/\
   ∃ u3 u5 u6 u7 u8 u9 u10 u11 u12 u13 u14 u15 u16 u17 u18 u19 u20 u21 u22 u23 u24 u25 u26 u27 u28 u29 u30 u31 u32 u33 u34 u35 u36 u37 u38 u39 u40 u41 u42 u43 u44 u45 u46 u47 u48 u49 u50 u51 u52 u53 u54 u55 u56 u57 u58 u59:Value,a'={ tmps:=#[.func (.yield lp) #[] #[],.pointer (some ⟨g0,0,none⟩),.pointer (some ⟨gi,0,none⟩),u3,.pointer (some ⟨w.heap.size+1,0,none⟩),u5,u6,u7,u8,u9,u10,u11,u12,u13,u14,u15,u16,u17,u18,u19,u20,u21,u22,u23,u24,u25,u26,u27,u28,u29,u30,u31,u32,u33,u34,u35,u36,u37,u38,u39,u40,u41,u42,u43,u44,u45,u46,u47,u48,u49,u50,u51,u52,u53,u54,u55,u56,u57,u58,u59],defers:=marks Ds }:=⟨_,rfl⟩
 have qn:=hid Cl;clear Cl;go_wp2_with (first
  | (refine aB (aW hcell0 ⟨_,rfl,rfl⟩) ?_)
  | (refine aB (bQ (OL p0) ⟨_,rfl,rfl⟩) ?_)
  | (refine aB (xJ w.heap.size rfl ⟨_,rfl,rfl⟩) ?_)
  | (refine wp_loop INV (λ_ wr=>yP M (w.heap.size+1) wr) ?_ ?_))
 .rw [<-hw1,<-hw3,qn.out];refine ⟨[],_,_,_,_,GF,hid ⟨by rw [List.nil_append]; exact Kg I (t,0,[]),by show jC t+0<=200000; exact HC.out⟩,?_⟩
  (repeat apply Exists.intro)
  rfl
 .intro a' wr hinv;rw [qn.out] at hinv;obtain ⟨Ds,v,l,V,K,HG,HE,u3,u5,u6,u7,u8,u9,u10,u11,u12,u13,u14,u15,u16,u17,u18,u19,u20,u21,u22,u23,u24,u25,u26,u27,u28,u29,u30,u31,u32,u33,u34,u35,u36,u37,u38,u39,u40,u41,u42,u43,u44,u45,u46,u47,u48,u49,u50,u51,u52,u53,u54,u55,u56,u57,u58,u59,rfl⟩:=hinv;clear GF hcell0 hw1 hw3 w1 w3 HC;try dsimp only
  rw [MG 6];have hcb:=aV (j:=0) HG.out.ob rfl;by_cases hl:l=[]
  .subst hl;obtain ⟨a,c,rfl⟩:=kG HG.out.row;have cN:Hid (Fa M J Js (goL I t 0 []) K0 w (.returned (.tuple #[])) (shut wr Ds)):=hid (Jv HJ.out Th.out (.inl ⟨by have:=HE.out.1; simpa [jI] using this,HG.out.j⟩) HG.out.f HG.out.i HG.out.t HG.out.sub HG.out.u HG.out.z HG.out.dm _);have HD:=hid (And.intro HG.out.dn HG.out.dm);clear HG HE HP HY;go_wp2;refine nE Ds wr HD.out.1 (λD hD=>(HD.out.2 D hD).2.1) ⟨_,results_none rfl _ _ _,cN.out⟩
  .obtain ⟨l,y,rfl⟩:∃ l' y,l=l'++[y]:=⟨_,_,(List.dropLast_concat_getLast hl).symm⟩
   obtain ⟨g,cap,rfl,hgB,hgl,hcap,hcm,hAt⟩:=HG.out.row.last;have Tl:=AJ HG.out.ob HG.out.row (λz hz=>(HG.out.ok z hz).1);have hlen:l.length<=200000:=by
    have h1:=Nt ((l++[y]).map (·.x));have h2:=HE.out.2;rw [List.length_map,List.length_append] at h1;omega
   have To:=hid Tl;unfold maxLen at hcm;obtain ⟨n,hn⟩:=aA l.length
   have HN:=hid hn;rw [hn] at hcb hcap hAt hlen;rw [hn] at HG;have hpos:(0:Int)<((n+1:Nat):Int):=by omega
   have hsub:IntKind.i64.wrap (((n+1:Nat):Int)-1)=(n:Int):=by rw [show ((n+1:Nat):Int)-1=(n:Int) by omega]; exact IntWalk.i64_in _ (by omega)
   have hnc:n<=cap:=by omega
   have hn1:n<n+1:=Nat.lt_succ_self n;have Ts:=hid hAt;have bo:=Rg.Own.new wr (plA none 0 (none,0,0)) 111;have cf:=hid bo;have Cp:=al1 wr (.cells (plA none 0 (none,0,0)) 111);obtain ⟨Tu,Ty,TC⟩:=HG.out.ok y (by simp);have hrow:=HG.out.row;rw [<-HN.out] at hrow;have hgi:w.heap.size<=wr.heap.size:=HG.out.f.size
   have TE:Hid (∀ w5,Rg.Upd (wr.alloc (.cells (plA none 0 (none,0,0)) 111)) wr.heap.size w5->Rg.Own w5 wr.heap.size (plA y.p y.x.2.1 y.h) 111->w5.cell? ⟨w.heap.size+1,0,none⟩=some (.slice (some ⟨g,0,none⟩) (n+1) cap)/\w5.frozen? ⟨w.heap.size+1,0,none⟩=false/\
     ∃ w6,w6=w5.setCell ⟨w.heap.size+1,0,none⟩ (.slice (some ⟨g,0,none⟩) n cap)/\(w6.cell? ⟨gi,0,none⟩=some (.func (Fn.func fi) #[] cp)/\Gq M J K0 w (w.heap.size+1) (.slice (some ⟨g,0,none⟩) n cap) l V K Ds w6/\Ex w K w6 wr.heap.size (plA y.p y.x.2.1 y.h) 111/\BsK w K w6 y.h y.x.2.2)):=hid (λw5 hu h5=>by
    have hb5:Below wr.heap.size wr w5:=hu.below Cp aH;have hg5:=HG.out.below HJ.out hb5;have cm:=bM w5 (w.heap.size+1) 0 (.slice (some ⟨g,0,none⟩) n cap);have ZR:Rg.Own (w5.setCell ⟨w.heap.size+1,0,none⟩ (.slice (some ⟨g,0,none⟩) n cap)) (w.heap.size+1) #[.slice (some ⟨g,0,none⟩) n cap] 154:=bZ (o:=0) hg5.ob _;have Cs:=eX hrow λk e=>hb5.block k (hrow.lt k e).2;have hne:g≠w.heap.size+1:=λe=>HG.out.nb (by rw [<-e]; rfl)
    have CA:jN w.heap.size (w5.setCell ⟨w.heap.size+1,0,none⟩ (.slice (some ⟨g,0,none⟩) n cap)) (.slice (some ⟨g,0,none⟩) n cap) l:=by
     have:=eX (jN.init Cs) λk e=>cm.block k (by have e2:g=k:=Option.some.inj e; omega);rw [HN.out] at this;unfold jN;rw [HN.out];exact this
    have G4:=hg5.box HJ.out cm ZR CA rfl (λz hz=>by simp [hz]);refine ⟨aV (j:=0) hg5.ob rfl,fJ hg5.ob,_,rfl,?_,G4,⟨h5.upd cm (by have:=HG.out.ob.1; omega),hgi,λhk=>by have:=(HJ.out.lt _ _ _ HG.out.j _ hk).1; omega⟩,?_⟩
    .have hlt:=World.block_lt_of_cell? w _ HP.out.ci;have hlt':gi<w.heap.size:=hlt;rw [World.cell?_of_block (G4.f.block gi hlt' HP.out.hi HP.out.ki)];exact HP.out.ci
    .have h2:=TC.kept hb5.size λb _ hl=>hb5.block b hl;exact (h2.kept (by rw [cm.size]; exact aH) λb hp _=>cm.block b hp.2.2.1).to λb _ hp=>⟨hp.1,hp.2.1⟩)
   have j5:=hid (And.intro Tu Ty);clear Tu Ty TC hrow hgi;clear hl Tl hn hAt bo Cp;go_wp2_with (first
    | (refine aB (IX hn1 ⟨_,_,rfl,rfl,rfl⟩) ?_)
    | (refine aB (lU Ts.out ⟨_,rfl,rfl⟩) ?_)
    | (refine aB (Fy _ _ _ wr.heap.size rfl rfl) ?_)
    | (refine EO cf.out y.p y.x.2.1 y.h rfl _ _ rfl rfl rfl rfl ?_; intro w5 bo bd; obtain ⟨ZS,si,w6,eS,iS⟩:=TE.out w5 bd bo; have CC:=iS.1; have q8:=hid iS; clear bo bd hcb iS)
    | (refine aB (vN OT VN hnc ⟨_,_,rfl,rfl,rfl⟩) ?_)
    | ((try rw [<-eS]); refine aB (lU (Ji.own q8.out.2.2.1.o) ⟨_,rfl,rfl⟩) ?_)
    | ((try rw [<-eS]); refine Rg.run rfl (.func (Fn.func fi) #[] cp) _ (JH CC ⟨_,rfl,rfl⟩) ?_))
   rw [<-eS];have hyl:y.x.2.2.length<=64:=by
    obtain ⟨L,h,_⟩:=j5.out.2;omega
   refine (HP.out.into w6 q8.out.2.1.f y.p y.x.2.1 y.h y.x.2.2 q8.out.2.2.2.1 hyl).mono ?_;rintro e w7 ⟨rfl,cQ⟩;have ll:Mv w K w6 K w7:=Mv.below cQ;have gr:=hid (q8.out.2.1.below HJ.out cQ);have xp:=hid (q8.out.2.2.1.mv ll);have Cd:=hid (q8.out.2.2.2.mv ll);have j0:Hid (jI I ((l++[y]).map (·.x))=jI I (l.map (·.x)++[y.x])):=hid (by rw [List.map_append]; rfl);clear eS q8 cQ ll ZS si CC TE cf Ts w6 w5;by_cases hI:I y.x.2.2=true
   .rw [hI];obtain ⟨L,hL,hgd,hfn,_⟩:=j5.out.2;go_wp2_with (first
     | (refine aB (aW (aV (j:=0) xp.out.o rfl) ⟨_,rfl,rfl⟩) ?_))
    refine (QT M y.p y.x.1 L hgd (by omega) hfn w7 gr.out.i j5.out.1 gr.out.t).mono ?_;rintro e w8 ⟨na,nn,nc,ka,kc,qs,rfl,sk,lm,_,CD,_,f8,i8,t8⟩;have sl:Mv w K w7 K w8:=Mv.fr cH.out f8;have GS:=hid (gr.out.open_ HJ.out f8 i8 t8);have pf:=hid (xp.out.mv sl);have h58:wr.heap.size<w8.heap.size:=pf.out.o.1;have GT:=hid (Cd.out.mv sl);have yd:∀ k,K k->k<w7.heap.size:=λk hk=>(HJ.out.lt _ _ _ gr.out.j k hk).1;have GW:∀ k,K k->k<w8.heap.size:=λk hk=>(HJ.out.lt _ _ _ GS.out.j k hk).1
    have CE:Hid (EL w K w8 ka qs):=hid (EL.ofRow sk gr.out.f.size yd);have ur:Hid (BsK w K w8 (na,nn,nc) (bg y.x.1).p):=hid ⟨lm.1,λad e _=>⟨Nat.le_trans gr.out.f.size (lm.2 ad e),λhk=>by have:=yd _ hk; have:=lm.2 ad e; omega⟩⟩;have CH:=hid CD;have dy:=hid (dY y.x.1);obtain ⟨N,hN⟩:=aA (bg y.x.1)
    have sm:=hid hN;rw [hN] at dy ur ⊢;obtain ⟨A8,hA8⟩:=ay ((w8.alloc (.cells (ndC nd0 none 0 0) 67)).alloc (.cells #[.slice none 0 0] 136))
    have CI:Below w8.heap.size w8 A8:=by rw [hA8]; exact al2 _ _ _
    have gR:dZ A8 w8.heap.size nd0 none 0 0:=by rw [hA8]; exact (Rg.Own.new _ _ _).below (al1 _ _)
    have CL:Rg.Own A8 (w8.heap.size+1) #[.slice none 0 0] 136:=by
     have:=Rg.Own.new (w8.alloc (.cells (ndC nd0 none 0 0) 67)) #[.slice none 0 0] 136;rw [hA8];simpa using this
    have cJ:=hid gR;have CM:Hid (∀ w9,Rg.Upd A8 w8.heap.size w9->dZ w9 w8.heap.size N na nn nc->w9.cell? ⟨w8.heap.size+1,0,none⟩=some (.slice none 0 0)/\w9.frozen? ⟨w8.heap.size+1,0,none⟩=false/\
      ∃ ag,ag=w9.setCell ⟨w8.heap.size+1,0,none⟩ (.slice ka qs.length kc)/\Below w8.heap.size w8 ag/\Ex w K ag w8.heap.size (ndC N na nn nc) 67/\Ex w K ag (w8.heap.size+1) #[.slice ka qs.length kc] 136):=hid (λw9 hu h9=>by
     have ho:=CL.upd hu (by omega);have al:=bM w9 (w8.heap.size+1) 0 (.slice ka qs.length kc);have AM:=GS.out.f.size;exact ⟨aV (j:=0) ho rfl,fJ ho,_,rfl,al.below (hu.below CI aH) (by omega),⟨h9.upd al (by omega),AM,λhk=>by have:=GW _ hk; omega⟩,⟨bZ (o:=0) ho _,by omega,λhk=>by have:=GW _ hk; omega⟩⟩)
    have qq:=hid sl;have ut:Hid (∀ k,gvP y.x #[.agg (plA y.p y.x.2.1 y.h),.agg (ndC N na nn nc)] k->w7.heap.size<=k/\k<w8.heap.size):=hid (λk hk=>XW lm.1 lm.2 hk);clear sk lm CD f8 i8 t8 sl yd GW hN CI gR CL xp Cd hgd hfn hL;go_wp2_with (first
     | (refine aB (aY _ _ _ w8.heap.size rfl rfl) ?_)
     | (rw [<-hA8]; refine bI cJ.out cB N na nn nc dy.out rfl _ _ rfl rfl rfl rfl ?_; intro w9 aw b8; obtain ⟨ZT,ZU,ag,qr,CN,CR,hk10⟩:=CM.out w9 b8 aw; have cY:=hid CN; have qt:=hid CR; have uu:=hid hk10; clear aw b8 CN CR hk10)
     | (refine MK (LZ 6 3 rfl (by rintro ⟨_,_,⟨⟨_,h⟩,_⟩⟩; cases h) ?_); intro _ _; dsimp only [List.take_succ_cons,List.take_zero,List.drop_succ_cons,List.drop_zero])
     | ((try rw [<-qr]); refine aB (lU (Ji.own (pf.out.mv (Mv.below cY.out)).o) ⟨_,rfl,rfl⟩) ?_)
     | ((try rw [<-qr]); refine aB (bU qt.out.o dy.out ⟨_,rfl,rfl⟩) ?_))
    have mS:Mv w K w8 K ag:=Mv.below cY.out;have dC:=hid (GS.out.below HJ.out cY.out);have uv:=hid (pf.out.mv mS);have qu:=hid (GT.out.mv mS);have mT:=hid (CE.out.mv mS);have kh:=hid (ur.out.mv mS);have hst:V++y.x::jI I (l.map (·.x)++(eF y.x).reverse)=goL I t 0 []:=by rw [<-HE.out.1,j0.out,OB _ hI]
    have hpre:V++[y.x]<+:goL I t 0 []:=⟨jI I (l.map (·.x)++(eF y.x).reverse),by rw [<-hst]; simp⟩
    have Mo:=hid hst;have qv:=hid (HY.out V K y.x #[.agg (plA y.p y.x.2.1 y.h),.agg (ndC N na nn nc)] ag dC.out.j dC.out.f dC.out.i dC.out.t hpre ⟨y.p,y.h,na,nn,nc,by rw [sm.out],j5.out.1,qu.out.1,by rw [sm.out]; exact kh.out.1,j5.out.2⟩ (λk hk=>⟨Nat.le_trans gr.out.f.size (ut.out k hk).1,aJ (ut.out k hk).2 cY.out.size,λhkk=>by have:=(HJ.out.lt _ _ _ gr.out.j k hkk).1; have:=(ut.out k hk).1; omega⟩));have Mu:=hid hpre;try rw [<-qr]
    clear mS hst hpre GS pf GT CE ur CM cJ qr hA8 ZT ZU;refine Hl qv.out ?_ ?_ ?_ ?_
    .rfl
    .rfl
    .exact ⟨_,_,_,rfl,rfl,rfl⟩
    rintro e eN ⟨K',h⟩;rcases h with ⟨rfl,h11⟩ | ⟨rfl,h11⟩
    .refine ⟨_,rfl,vv rfl (by rintro ⟨_,_,⟨⟨_,h⟩,_⟩⟩; cases h) ?_⟩;have dT:Mv w K ag (λ_=>False) eN:=Yv cH.out h11;have ll:Mv w K w7 K' eN:=Yi cH.out qq.out cY.out h11 ut.out;have lr:=hid (gr.out.keep ll.sz ll.bl h11.j ll.sub (dC.out.f.trans h11.f dC.out.sub) h11.i h11.t);have ux:=hid (uv.out.mv dT);have CT:=hid (qu.out.mv dT);have sp:=hid (mT.out.mv dT);have sq:=hid (kh.out.mv dT);have D0:=hid (qt.out.mv dT);have D1:=hid (uu.out.mv dT);have kj:=hid (XY j5.out.2);rw [sm.out] at kj;clear dT ll h11 qv gr qq ut dC uv qu mT kh qt uu cY;go_wp2_with (first
      | (refine aB (lU (Ji.own ux.out.o) ⟨_,rfl,rfl⟩) ?_)
      | (refine aB (bU D0.out.o dy.out ⟨_,rfl,rfl⟩) ?_))
     refine (UL y.p y.x.2.1 y.h y.x.2.2 N na nn nc dy.out eN CT.out.1 sq.out.1 kj.out.1 kj.out.2).mono ?_;rintro e qS ⟨v12,hs,rfl,uA,eA⟩;have D2:=hid uA;have My:v12.oneCell'=true:=by
      obtain ⟨_,_,rfl⟩:=kG uA.row;rfl
     clear uA;go_wp2_with fail
     refine (Qp v12 My qS).mono ?_;rintro e pg ⟨rfl,ms,qT⟩;go_wp2_with fail
     have eC:Below eN.heap.size eN pg:=bst eA qT;have r3:Mv w (λ_=>False) eN (λ_=>False) pg:=Mv.below eC;have di:=hid (lr.out.below HJ.out eC);have r4:=hid (ux.out.mv r3);have D3:=hid (sp.out.mv r3);have r5:=hid (D1.out.mv r3);have hwk:lM N y.x.2.2 16=(eF y.x).map (·.2.2):=by rw [<-sm.out]; exact OQ j5.out.2
     have r6:=D2.out.keep qT.size λb _ hl=>qT.block b hl;rw [hwk] at r6;have n0:=hid r6;have Ha:hs.length=(eF y.x).length:=by rw [r6.len,List.length_map]
     have ix:qs.length=(eF y.x).length:=by rw [CH.out.1,<-nT,List.length_map]
     have h16:=KW y.x;have hgr:g<eN.heap.size:=(lr.out.row.lt g rfl).2;have hbx:w.heap.size+1<eN.heap.size:=lr.out.ob.1;have Mz:w.heap.size<=eN.heap.size:=lr.out.f.size;have D4:eN.heap.size<=qS.heap.size:=eA.size;have MA:qS.heap.size<pg.heap.size:=ms.1;have MD:∀ k,K' k->k<eN.heap.size:=λk hk=>(HJ.out.lt _ _ _ lr.out.j k hk).1;have ZV:w.heap.size+1<wr.heap.size:=HG.out.ob.1;have ME:=hid ms;clear ms eC r3 hwk r6 lr ux CT sp sq D0 D1 eA qT
     refine Rk (gf:=131) (lb:=#[.pointer (some ⟨qS.heap.size,0,none⟩)]) (K0:=λk=>k=w.heap.size+1\/(Value.slice (some ⟨g,0,none⟩) n cap).ownBlock=some k) rfl (enters_of func131 (by kernel_rfl) rfl) (Ut M eN.heap.size qS.heap.size v12 hs (by omega)) (λx W args e=>by rw [show args=_ from e]; rfl) ?pre di.out.i di.out.t (UY M w.heap.size (w.heap.size+1) l (λz=>⟨qs.getD z.1 none,z.2,iY y.x z.1⟩)) (Ix:=λ_ _ _ _=>False) (λ_=>SF M) ?start ?round ?done ?stop
     case pre =>
      intro W1 K1 hb1 hK1;have hk0:∀ k,eN.heap.size<=k->k<pg.heap.size->¬ K1 k:=λk h1 h2 hk=>(hK1 k hk).elim (λe=>e.elim (by omega) λe=>by have:=Option.some.inj e; have e2:g=k:=this; omega) (by omega);exact ⟨ME.out.below hb1,eX n0.out.row λk e=>hb1.block k (n0.out.row.lt k e).2,hk0 _ D4 MA,λk e=>hk0 k (n0.out.row.lt k e).1 (n0.out.row.lt k e).2,D4,λk hk=>cH.out k (by omega)⟩
     case start=>exact ⟨_,di.out.ob,by rw [List.map_nil,List.append_nil]; exact di.out.row,λk=>Iff.rfl,di.out.nb,di.out.bb,di.out.u⟩
     case stop =>
      intro c V1 K1 W _ h;exact h.elim
     case done =>
      intro Ki Wd ⟨vd,TO⟩ D5 hjd htd hsd D6 _;have Hb:=hid (di.out.pushed HJ.out j5.out.2 CH.out n0.out Mz hbx hgr MD (by omega) TO D5 hjd htd hsd D6);have hms:((l++(bk hs 0).map λz=>(⟨qs.getD z.1 none,z.2,iY y.x z.1⟩:Pc)).map (·.x))=l.map (·.x)++(eF y.x).reverse:=by
       rw [List.map_append,List.map_map,<-Vl Ha];rfl
      have rK:Hid (V++[y.x]++jI I ((l++(bk hs 0).map λz=>(⟨qs.getD z.1 none,z.2,iY y.x z.1⟩:Pc)).map (·.x))=goL I t 0 []/\nu ((l++(bk hs 0).map λz=>(⟨qs.getD z.1 none,z.2,iY y.x z.1⟩:Pc)).map (·.x))<=200000):=hid (by
       rw [hms];refine ⟨by rw [<-Mo.out]; simp,?_⟩;have h1:=Ih (l.map (·.x)) y.x;have h2:=HE.out.2;rw [List.map_append] at h2;have h3:nu (l.map (·.x)++[y.x])<=200000:=h2;omega)
      have Hc:Hid (yP M (w.heap.size+1) Wd<yP M (w.heap.size+1) wr):=hid (by
       have hr:=AJ Hb.out.ob Hb.out.row (λz hz=>(Hb.out.ok z hz).1);rw [hr,To.out,hms,List.map_append];exact Ih _ _)
      clear TO D5 hjd htd hsd D6;simp only [Exit.inBlock];refine ⟨?_,Hc.out⟩;rw [qn.out];refine ⟨pg.heap.size::Ds,_,_,_,_,Hb,rK,?_⟩
      (repeat apply Exists.intro)
      rfl
     case round =>
      intro l1 V1 K1 x args W S hl1 ZW ul hI hf hsub sh qi hpf hA hS;obtain ⟨vW,sr⟩:=hI;obtain ⟨j,z⟩:=x;have hj:j<hs.length:=(XE hpf).1;have hA':args = #[.int .i64 j,hv z]:=hA;subst hA';have HS:=hid hS;have hjk:j<(eF y.x).length:=by rw [<-Ha]; exact hj
      obtain ⟨gk,ck,ZX,hck,un,hok⟩:=D3.out.cell (j:=j) (by rw [ix]; exact hjk);have hkb:gk≠w.heap.size+1:=λe=>by
       have h1:=hok.2;rw [e,di.out.ob.2] at h1;simp at h1
      have hkg:gk≠g:=λe=>by
       have h1:=hok.2;rcases di.out.row.2 with ⟨e2,_⟩ | ⟨g',_,_,e2,_,hh,_⟩
       .cases e2
       .injection e2 with e3;injection e3 with e3;injection e3 with e3;rw [e,e3,hh] at h1;simp at h1
      have hk0:∀ b,b≠w.heap.size+1->b≠g->¬ (b=w.heap.size+1\/(Value.slice (some ⟨g,0,none⟩) n cap).ownBlock=some b):=λb h1 h2 e=>e.elim h1 λe=>h2 (Option.some.inj e).symm;have hk1:∀ b,b≠w.heap.size+1->b≠g->b<pg.heap.size->¬ K1 b:=λb h1 h2 h3 hk=>(hsub b hk).elim (hk0 b h1 h2) (by omega);have hcell:∀ b o v,w.heap.size<=b->b<pg.heap.size->b≠w.heap.size+1->b≠g->pg.cell? ⟨b,o,none⟩=some v->W.cell? ⟨b,o,none⟩=some v:=λb o v h0 h1 h2 h3 hc=>by
       rw [World.cell?_of_block (hf.block b h1 (cH.out b h0).1 (hk0 b h2 h3))];exact hc
      have c5:W.cell? ⟨wr.heap.size,1,none⟩=some (.int .i64 y.x.2.1):=hcell _ 1 _ r4.out.g r4.out.o.1 (by omega) (by omega) (aV (j:=1) r4.out.o rfl);have c7:W.cell? ⟨w8.heap.size+1,0,none⟩=some (.slice ka qs.length kc):=hcell _ 0 _ r5.out.g r5.out.o.1 (by omega) (by omega) (aV (j:=0) r5.out.o rfl);have ct:=hcell _ j _ un hok.1 hkb hkg hck;have n5:¬ K1 wr.heap.size:=hk1 _ (by omega) (by omega) r4.out.o.1;have n7:¬ K1 (w8.heap.size+1):=hk1 _ (by omega) (by omega) r5.out.o.1;have nk:¬ K1 gk:=hk1 _ hkb hkg hok.1
      have HC:=hid (And.intro c5 (And.intro c7 (And.intro ct (And.intro n5 (And.intro n7 nk)))));have ib:=hid sr;clear hS hf hcell c5 c7 ct n5 n7 nk hk0 hk1 hck hok hkb hkg;have n9:V1.length<=16:=by
       have h1:=hpf.length_le;have h2:(bk hs 0).length=hs.length:=by simp [bk]
       rw [List.length_append] at h1;omega
      have ZY:=hid hjk;have TX:=hid Ha;have hji:(j:Int)<(qs.length:Int):=by omega
      have hov:y.x.2.1<=64:=by
       obtain ⟨L,h1,_,_,_,h2⟩:=j5.out.2;omega
      subst ZX;clear ix Ha hjk hj hpf hA;unfold hv;refine wpIn_seq_k ?_;intro K8 GW;refine rV rfl (λ⟨_,_,h⟩=>h) ?_;go_wp2;refine rV rfl (λ⟨_,_,h⟩=>h) ?_;go_wp2;refine HS.out _ _ aI (λW2 eL=>?_);obtain ⟨hd5,hd7,hdt,n5,n7,nk⟩:=HC.out;have c5:=eL.cell hd5;have c7:=eL.cell hd7;have ct:=eL.cell hdt;have hs2:W2.heap.size=W.heap.size:=eL.u.size
      have cV:Hid (Mt M w.heap.size (w.heap.size+1) l (λz=>⟨qs.getD z.1 none,z.2,iY y.x z.1⟩) V1 K1 W2 vW):=hid ⟨eL.own ib.out.o,eX ib.out.r λk e=>eL.u.block k λe2=>ul (by rw [<-e2]; exact (ib.out.k k).2 (.inr e)),ib.out.k,ib.out.nb,ib.out.bb,ib.out.u⟩;have hi2:=hid (sh.upd eL.u (cH.out l1 (by omega)).2);have ht2:=hid (zo qi eL.u (by have:=di.out.z; omega));have cb:W2.drew.cell? ⟨w.heap.size+1,0,none⟩=some vW:=aV (j:=0) cV.out.o rfl;have hal:=al1 W2.drew (.cells (plA (qs.getD j none) (y.x.2.1+1) z) 111)
      have hwrap:IntKind.i64.wrap ((y.x.2.1:Int)+1)=((y.x.2.1+1:Nat):Int):=by rw [show (y.x.2.1:Int)+1=((y.x.2.1+1:Nat):Int) by omega]; exact IntWalk.i64_in _ (by omega)
      have hoa:Rg.Own (W2.drew.alloc (.cells (plA (qs.getD j none) (y.x.2.1+1) z) 111)) W2.heap.size (plA (qs.getD j none) (iY y.x j).2.1 z) 111:=by
       rw [KC ZY.out];exact Rg.Own.new W2.drew _ _
      have D7:=hid hoa;have hbl:w.heap.size+1<W2.heap.size:=cV.out.o.1;have TZ:Hid (jN w.heap.size (W2.drew.alloc (.cells (plA (qs.getD j none) (y.x.2.1+1) z) 111)) vW (l++V1.map λz=>⟨qs.getD z.1 none,z.2,iY y.x z.1⟩)):=hid (eX (w:=W2.drew) cV.out.r λk e=>hal.block k (cV.out.r.lt k e).2);have ph:Hid (Rg.Own (W2.drew.alloc (.cells (plA (qs.getD j none) (y.x.2.1+1) z) 111)) (w.heap.size+1) #[vW] 154):=hid (Rg.Own.below (w:=W2.drew) cV.out.o hal)
      have hln:(l++V1.map λz=>(⟨qs.getD z.1 none,z.2,iY y.x z.1⟩:Pc)).length<=1000000:=by
       rw [List.length_append,List.length_map,HN.out];omega
      have hB3:w.heap.size<=(W2.drew.alloc (.cells (plA (qs.getD j none) (y.x.2.1+1) z) 111)).heap.size:=by
       have:=hal.size;have e:W2.drew.heap.size=W2.heap.size:=rfl;omega
      clear hoa hd5 hd7 hdt HS ib eL;refine wpIn_block ?_;refine XK (S:=λw'=>Bo2 K1 W2 w') (by kernel_rfl) rfl (λ⟨_,_,h⟩=>h) (Bo2.of aI.drew) (λhld=>?_);refine aj 1 ?_ (hy:=by intro wz hSw; (have hc:=Bo2.cell hSw c7 n7; go_simp <;> with_reducible rfl));try simp only [Act.put,au]
      refine aj 2 ?_;try simp only [Act.put,au]
      refine aj 3 ?_ (hy:=by intro wz hSw; (have q0:=hji; go_simp <;> with_reducible rfl));try simp only [Act.put,au]
      refine aj 4 ?_ (hy:=by intro wz hSw; (refine aW (off:=j) (Bo2.cell hSw ct nk) ?_; exact ⟨_,rfl,rfl⟩));try simp only [Act.put,au]
      refine aj 5 ?_;try simp only [Act.put,au]
      refine aj 6 ?_ (hy:=by intro wz hSw; (have hc:=Bo2.cell hSw c5 n5; go_simp <;> with_reducible rfl));try simp only [Act.put,au]
      refine aj 7 ?_ (hy:=by intro wz hSw; (have hw:=hwrap; go_simp <;> with_reducible rfl));try simp only [Act.put,au]
      refine aj 8 ?_;try simp only [Act.put,au]
      refine aj 9 ?_ (hy:=by intro wz hSw; (refine bQ (UC (qs.getD j none) (y.x.2.1+1) z) ?_; exact ⟨_,rfl,rfl⟩));try simp only [Act.put,au]
      refine wpAnyH_ready (rs:=[0,10]) (by kernel_rfl) (by simp) ?_;refine Rg.readyC (i:=0) rfl (λK hK=>?_) (Rg.readyL (i:=10) rfl (λK hK=>?_))
      .refine Rg.meet (by rfl) _ _ (yS (cb) ?_) ?_
       .exact ⟨_,rfl,rfl⟩
       refine hK.out _ _ (hld) λhld=>?_;clear hK K;try simp only [Act.put,au]
       refine ak 10 λK hK=>?_;refine Rg.meet (by rfl) _ _ (xJ (p:=qs.getD j none) (n:=y.x.2.1+1) (h:=z) _ rfl ?_) ?_
       .exact ⟨_,rfl,rfl⟩
       refine hK.out _ _ (Bo2.below (Bo2.of aI.drew) hal) λhld=>?_;clear hK K;try simp only [Act.put,au]
       refine ak 11 λK hK=>?_;refine vE ⟨qs.getD j none,z,iY y.x j⟩ (by rfl) ?_ TZ.out D7.out hln hB3 ?_
       .exact ⟨_,_,rfl,rfl,rfl⟩
       intro v4 w4 hr4 hg4 hl4;refine hK.out _ _ (hld.grown hg4 (λk e=>(cV.out.k k).2 (.inr e))) λhld=>?_;clear hK K;try simp only [Act.put,au]
       refine ak 12 λK hK=>?_;have ie:Rg.Own w4 (w.heap.size+1) #[vW] 154:=⟨aJ ph.out.1 hg4.size,(hg4.block _ ph.out.1 (λe=>cV.out.nb e.symm)).trans ph.out.2⟩
       have hv4:∃ s n c,v4 = .slice s n c:=by obtain ⟨a,c,e⟩:=kG hr4; exact ⟨_,_,_,e⟩
       refine rH (by rfl) ie ?_ hv4 ?_
       .exact ⟨_,_,rfl,rfl,rfl⟩
       intro w5 MM bd;refine hK.out _ _ (hld.upd bd ((cV.out.k _).2 (.inl rfl))) λhld=>?_;clear hK K;refine wpAnyH_done (by kernel_rfl) ?_ _;have hs3:W2.heap.size<=(W2.drew.alloc (.cells (plA (qs.getD j none) (y.x.2.1+1) z) 111)).heap.size:=hal.size;have hl5:v4.ownBlock=vW.ownBlock\/∃ k,W2.heap.size<=k/\v4.ownBlock=some k:=hl4.imp id λe=>⟨_,hs3,e⟩
       have hne:∀ k,v4.ownBlock=some k->k≠w.heap.size+1:=λk e e2=>by
        rcases hl5 with e3 | ⟨k',hk',e3⟩
        .exact cV.out.nb (by rw [<-e3,<-e2]; exact e)
        .rw [e3] at e;have:=Option.some.inj e;omega
       exact Iz cV.out hi2.out ht2.out di.out.z (by omega) hld MM (eX hr4 λk e=>bd.block k (hne k e)) hl5
      .refine Rg.meet (by rfl) _ _ (xJ (p:=qs.getD j none) (n:=y.x.2.1+1) (h:=z) _ rfl ?_) ?_
       .exact ⟨_,rfl,rfl⟩
       refine hK.out _ _ (Bo2.below (Bo2.of aI.drew) hal) λhld=>?_;clear hK K;try simp only [Act.put,au]
       refine ak 0 λK hK=>?_;refine Rg.meet (by rfl) _ _ (yS (aX hal cb) ?_) ?_
       .exact ⟨_,rfl,rfl⟩
       refine hK.out _ _ (hld) λhld=>?_;clear hK K;try simp only [Act.put,au]
       refine ak 11 λK hK=>?_;refine vE ⟨qs.getD j none,z,iY y.x j⟩ (by rfl) ?_ TZ.out D7.out hln hB3 ?_
       .exact ⟨_,_,rfl,rfl,rfl⟩
       intro v4 w4 hr4 hg4 hl4;refine hK.out _ _ (hld.grown hg4 (λk e=>(cV.out.k k).2 (.inr e))) λhld=>?_;clear hK K;try simp only [Act.put,au]
       refine ak 12 λK hK=>?_;have ie:Rg.Own w4 (w.heap.size+1) #[vW] 154:=⟨aJ ph.out.1 hg4.size,(hg4.block _ ph.out.1 (λe=>cV.out.nb e.symm)).trans ph.out.2⟩
       have hv4:∃ s n c,v4 = .slice s n c:=by obtain ⟨a,c,e⟩:=kG hr4; exact ⟨_,_,_,e⟩
       refine rH (by rfl) ie ?_ hv4 ?_
       .exact ⟨_,_,rfl,rfl,rfl⟩
       intro w5 MM bd;refine hK.out _ _ (hld.upd bd ((cV.out.k _).2 (.inl rfl))) λhld=>?_;clear hK K;refine wpAnyH_done (by kernel_rfl) ?_ _;have hs3:W2.heap.size<=(W2.drew.alloc (.cells (plA (qs.getD j none) (y.x.2.1+1) z) 111)).heap.size:=hal.size;have hl5:v4.ownBlock=vW.ownBlock\/∃ k,W2.heap.size<=k/\v4.ownBlock=some k:=hl4.imp id λe=>⟨_,hs3,e⟩
       have hne:∀ k,v4.ownBlock=some k->k≠w.heap.size+1:=λk e e2=>by
        rcases hl5 with e3 | ⟨k',hk',e3⟩
        .exact cV.out.nb (by rw [<-e3,<-e2]; exact e)
        .rw [e3] at e;have:=Option.some.inj e;omega
       exact Iz cV.out hi2.out ht2.out di.out.z (by omega) hld MM (eX hr4 λk e=>bd.block k (hne k e)) hl5
    .refine ⟨_,rfl,vv rfl (by rintro ⟨_,_,⟨⟨_,h⟩,_⟩⟩; cases h) ?_⟩;have dT:Mv w K ag (λ_=>False) eN:=Yv cH.out h11;have ll:Mv w K w7 K' eN:=Yi cH.out qq.out cY.out h11 ut.out;have MT:∀ D∈Ds,w.heap.size<=D/\eN.heap[D]? = some (.deferred (some []))/\¬ K' D:=λD hD=>by
      obtain ⟨h1,h2,h3⟩:=gr.out.dm D hD;have hl:=(Array.getElem?_eq_some_iff.1 h2).1;exact ⟨h1,(ll.bl D h1 hl h3).trans h2,ll.not hl h3⟩
     have cN:Hid (Fa M J Js (goL I t 0 []) K0 w (.returned (.tuple #[])) (shut eN Ds)):=hid (Jv HJ.out Th.out (.inr ⟨Mu.out,h11.j⟩) (dC.out.f.trans h11.f dC.out.sub) h11.i h11.t (λk hk=>(ll.sub k hk).elim (gr.out.sub k) (λh=>.inr (Nat.le_trans gr.out.f.size h))) cH.out dC.out.z MT _);have HD:=hid (And.intro dC.out.dn MT);clear dT ll h11 qv gr qq ut dC uv qu mT kh qt uu cY MT;go_wp2;refine nE Ds eN HD.out.1 (λD hD=>(HD.out.2 D hD).2.1) ⟨_,results_none rfl _ _ _,cN.out⟩
   .have hI':I y.x.2.2=false:=by
     cases h:I y.x.2.2 with
     | true=>exact absurd h hI
     | false=>rfl
    rw [hI'];have ZZ:Hid (V++jI I (l.map (·.x))=goL I t 0 []/\nu (l.map (·.x))<=200000):=hid (by
     have h1:=HE.out;rw [j0.out,JC _ hI',List.map_append] at h1;exact ⟨h1.1,by have:=EF (l.map (·.x)) y.x; have h2:nu (l.map (·.x)++[y.x])<=200000:=h1.2; omega⟩)
    have gC:Hid (yP M (w.heap.size+1) w7<yP M (w.heap.size+1) wr):=hid (by
     have hr:=AJ gr.out.ob gr.out.row (λz hz=>(gr.out.ok z hz).1);rw [hr,To.out,List.map_append];exact EF _ _)
    clear Cd xp hI HE HG j5;go_wp2;refine ⟨?_,gC.out⟩;rw [qn.out];refine ⟨Ds,_,l,V,K,gr,ZZ,?_⟩
    (repeat apply Exists.intro)
    rfl
def PBk (h:Hdl) (k:Nat):Prop:=∃ ad,h.1=some ad/\0<h.2.1/\k=ad.block
theorem BsP.blk {w:World} {h:Hdl} {l:aN} (g:BsP p w h l):BsP (λb=>p b/\PBk h b) w h l:=⟨g.1,λad e hn=>⟨g.2 ad e hn,ad,e,hn,rfl⟩⟩
structure NdG (M:Mp) (B bx:Nat) (z:List Nz) (K:Nat->Prop) (w:World) (v:Value):Prop where
 o:Rg.Own w bx #[v] 77
 r:yc B w v z
 k:∀ k,K k↔(k=bx\/v.ownBlock=some k)\/∃ y∈z,PBk y.2 k
 nb:v.ownBlock≠some bx
 bb:B<=bx
 u:∀ k,B<=k->M.at_ k=none/\¬ M.ft k
 hb:∀ y∈z,y.1.ks.length=16/\BsP (λb=>B<=b/\b≠bx/\v.ownBlock≠some b) w y.2 y.1.p
theorem NdG.keep {M:Mp} {z:List Nz} {K:Nat->Prop} {w w':World} (h:NdG M B bx z K w v) (hs:w.heap.size<=w'.heap.size) (hk:∀ k,K k->w'.heap[k]? = w.heap[k]?):NdG M B bx z K w' v :=
 ⟨⟨aJ h.o.1 hs,(hk bx ((h.k bx).2 (.inl (.inl rfl)))).trans h.o.2⟩,eX h.r λk e=>hk k ((h.k k).2 (.inl (.inr e))),h.k,h.nb,h.bb,h.u,λy hy=>⟨(h.hb y hy).1,((h.hb y hy).2.blk.kept hs λb hp _=>hk b ((h.k b).2 (.inr ⟨y,hy,hp.2⟩))).to λ_ _ hp=>hp.1⟩⟩
theorem NdG.lt {M:Mp} {B bx:Nat} {z:List Nz} {K:Nat->Prop} {w:World} {v:Value} (h:NdG M B bx z K w v):∀ k,K k->k<w.heap.size/\M.at_ k=none/\¬ M.ft k:=λk hk=>by
 rcases (h.k k).1 hk with (rfl | e) | ⟨y,hy,ad,e,hn,rfl⟩
 .exact ⟨h.o.1,h.u k h.bb⟩
 .exact ⟨(h.r.lt k e).2,h.u k (h.r.lt k e).1⟩
 .exact ⟨(BsP.old (h.hb y hy).2.1).2 ad e hn,h.u _ ((h.hb y hy).2.2 ad e hn).1⟩
theorem NdG.nds {M:Mp} {z:List Nz} {K:Nat->Prop} {w:World} (h:NdG M B bx z K w v):∃ a c,v = .slice a z.length c/\tK w a z.length c (z.map Prod.fst):=by
 rcases h.r.2 with ⟨rfl,h0⟩ | ⟨g,cap,cur,rfl,hbg,hg,hnc,hcm,hcs,htake⟩
 .have:z=[]:=List.length_eq_zero_iff.1 h0;subst this;exact ⟨none,0,rfl,tK.nil _⟩
 .refine ⟨_,_,rfl,hnc,hcm,λe=>(by cases e),z,rfl,rfl,λp hm=>⟨(h.hb p hm).1,(h.hb p hm).2.1⟩,λj hj=>⟨g,0,rfl,(Array.getElem?_eq_some_iff.1 hg).1,λi u hu=>?_⟩⟩;have hall:∀ p∈z,p.1.ks.length=16:=λp hm=>(h.hb p hm).1;have MY:i<19:=by
   have:=(List.getElem?_eq_some_iff.1 hu).1;rwa [vV (hall _ (kQ hj))] at this
  have:=h.r.cells (g:=g) rfl (j*19+i) u (by rw [MJ z hall j i hj MY]; exact hu);rw [Addr.add_mid] at this;rw [Nat.add_assoc];exact this
def YL (M:Mp) (B bx:Nat) (V:List Pl) (K:Nat->Prop) (w:World):Prop:=∃ z v,z.map Prod.fst=Eo V/\NdG M B bx z K w v
theorem Rj (M:Mp) (B bx:Nat):Sta M (YL M B bx):=⟨λ_ _ _ _ ⟨z,v,e,h⟩ hs hk=>⟨z,v,e,h.keep hs hk⟩,λ_ _ _ ⟨_,_,_,h⟩=>h.lt⟩
theorem QN {M:Mp} {z:List Nz} {K:Nat->Prop} {w w5:World} {v':Value} {N:Nd} {h:Hdl} (hI:NdG M B bx z K w v) (hi:Inv M w) (ht:Tab w) (hz:0<B) (hb:Bo2 (λk=>k=bx\/v.ownBlock=some k) w w5)
  (ho:Rg.Own w5 bx #[v'] 77) (hr:yc B w5 v' (z++[(N,h)])) (hl:v'.ownBlock=v.ownBlock\/∃ k,w.heap.size<=k/\v'.ownBlock=some k) (hN:N.ks.length=16) (hp:BsP (λb=>B<=b/\b≠bx/\v.ownBlock≠some b) w h N.p) :
  ∃ K',NdG M B bx (z++[(N,h)]) K' w5 v'/\(∀ k,K' k->K k\/w.heap.size<=k\/PBk h k)/\FrK M K w w5/\Inv M w5/\Tab w5:=by
 have hup:∀ (q:Hdl) (l:aN),BsP (λb=>B<=b/\b≠bx/\v.ownBlock≠some b) w q l->BsP (λb=>B<=b/\b≠bx/\v'.ownBlock≠some b) w5 q l:=λq l g=>by
  have g2:BsP (λb=>(B<=b/\b≠bx/\v.ownBlock≠some b)/\b<w.heap.size) w q l:=g.to λb hlt hp=>⟨hp,hlt⟩
  refine (g2.kept hb.size λb hp hlt=>hb.block b hlt λe=>e.elim hp.1.2.1 hp.1.2.2).to λb _ hp=>⟨hp.1.1,hp.1.2.1,λe=>?_⟩
  rcases hl with e2 | ⟨k,hk,e2⟩
  .exact hp.1.2.2 (by rw [<-e2]; exact e)
  .rw [e2] at e;have:=Option.some.inj e;have:=hp.2;omega
 refine ⟨λk=>(k=bx\/v'.ownBlock=some k)\/∃ y∈z++[(N,h)],PBk y.2 k,⟨ho,hr,λk=>Iff.rfl,λe=>?_,hI.bb,hI.u,λy hy=>?_⟩,λk hk=>?_,⟨hb.os,hb.tape,hb.output,hb.size,λk hk _ hn=>hb.block k hk λe=>hn ((hI.k k).2 (.inl e))⟩,hi.keep hb.size λk hk=>hb.block k (hi.lt_ k hk) λg=>?_,λj hj=>?_⟩
 .rcases hl with e2 | ⟨k,hk,e2⟩
  .exact hI.nb (by rw [<-e2]; exact e)
  .rw [e2] at e;have:=Option.some.inj e;have:=hI.o.1;omega
 .rcases List.mem_append.1 hy with hy | hy
  .exact ⟨(hI.hb y hy).1,hup _ _ (hI.hb y hy).2⟩
  .obtain rfl:=List.mem_singleton.1 hy;exact ⟨hN,hup _ _ hp⟩
 .rcases hk with (rfl | e) | ⟨y,hy,hq⟩
  .exact .inl ((hI.k _).2 (.inl (.inl rfl)))
  .rcases hl with e2 | ⟨k',hk,e2⟩
   .exact .inl ((hI.k _).2 (.inl (.inr (by rw [<-e2]; exact e))))
   .rw [e2] at e;have:=Option.some.inj e;exact .inr (.inl (by omega))
  .rcases List.mem_append.1 hy with hy | hy
   .exact .inl ((hI.k _).2 (.inr ⟨y,hy,hq⟩))
   .obtain rfl:=List.mem_singleton.1 hy;exact .inr (.inr hq)
 .rcases g with rfl | e
  .exact (hI.u _ hI.bb).2 hk
  .exact (hI.u k (hI.r.lt k e).1).2 hk
 .have hlt:0<w.heap.size:=aJ hz (Nat.le_trans hI.bb (Nat.le_of_lt hI.o.1));have hnk:¬ (0=bx\/v.ownBlock=some 0):=λg=>by
   rcases g with e | e
   .have:=hI.bb; omega
   .have:=(hI.r.lt _ e).1; omega
  rw [World.cell?_of_block (hb.block 0 hlt hnk)];exact ht j hj
theorem BO (k:aN):Nib (bG k):=λc hc=>by
 have h:=zQ k;unfold dh at h;have:=List.all_eq_true.1 h c hc;have:=of_decide_eq_true this;omega
def Xl (M:Mp) (w:World) (l:List Nd) (e:Ending) (w':World):Prop:=∃ a n c,e = .returned (.slice a n c)/\tK w' a n c l/\Fr M M w w'/\Inv M w'/\Tab w'
theorem Qh (M:Mp) (p:aL) (t:T) (k:aN) (hk:k.length=32) (hg:Tr.Good t 64) (hf:Fine t) (hc:jC t<=200000) (w:World) (hi:Inv M w) (ht:IsT M p t) (hT:Tab w) :
  Calls prog 31 #[tv p,.agg (kc k)] w (Xl M w (bD t (bG k))):=by
 have hout:∀ k,w.heap.size<=k->M.at_ k=none/\¬ M.ft k:=λk hk=>⟨hi.out hk,hi.free hk⟩
 have D8:Nib (bG k):=λc hc=>by
  have h:=zQ k;unfold dh at h;have:=List.all_eq_true.1 h c hc;have:=of_decide_eq_true this;omega
 obtain ⟨w1,hw1⟩:=ay ((w.alloc (.cells #[.pointer p] 46)).alloc (.cells (kc k) 24))
 have hb1:Below w.heap.size w w1:=by rw [hw1]; exact al2 _ _ _
 have hs1:w1.heap.size=w.heap.size+2:=by rw [hw1]; simp
 have hT1:Rg.Own w1 w.heap.size #[.pointer p] 46:=by
  have:=(Rg.Own.new w #[.pointer p] 46).below (al1 _ (.cells (kc k) 24));rw [hw1];exact this
 have hK1:Rg.Own w1 (w.heap.size+1) (kc k) 24:=by
  have:=Rg.Own.new (w.alloc (.cells #[.pointer p] 46)) (kc k) 24;rw [hw1];simpa using this
 have HW1:=hid hw1;have HB1:=hid hb1;have cW:=hid hs1;have HT1:=hid hT1;have cH:=hid hout;have HI:=hid hi;have HT:=hid hT;have cR:=hid hK1;have co:=hid hk;have ir:=hid (II k hk w1);have py:=hid (fM k hk);have U0:=hid (Vq t 0 [] (bG k) D8);have D9:Hid ((goL (leads (bG k)) t 0 []).length<=200000):=hid (Nat.le_trans (Lr (leads (bG k)) t 0 []) hc);obtain ⟨P,U1⟩:=aA (bG k)
 rw [U1] at ir py U0 D9 ⊢;have HGo:=hid (λg0 gi bp=>Oj M g0 gi 58 #[.pointer (some ⟨bp,0,none⟩)] p t (leads P) (enters_of func58 (by kernel_rfl) rfl) hg hf hc ht);obtain ⟨C,hC⟩:=aA (kc k)
 have HC:=hid hC;rw [hC] at hw1 HW1 cR ir ⊢;have dT:∀ (fn:Fn) (first cap:aO) (w:World),(Instr.makeFunc fn first cap).run prog w = .ok (.func fn first cap) w:=λ_ _ _ _=>rfl;clear hC hb1 hs1 hT1 hw1 hout hi hT hg hf hc ht hK1 hk D8 U1;refine yR func31 rfl ?_;simp only [ntmps31,List.size_toArray,List.length_cons,List.length_nil,Nat.reduceAdd,Nat.reduceSub,Array.replicate_succ,Array.replicate_zero,List.push_toArray,List.append_toArray,List.nil_append,List.cons_append];go_wp2_with (first
  | ((try rw [<-HW1.out]); refine Rg.run rfl (.agg C) _ (by rw [<-HC.out]; exact bJ co.out (by rw [HC.out]; exact cR.out.2) ⟨_,rfl,rfl⟩) ?_))
 refine ir.out.mono ?_;rintro e w2 ⟨r,rfl,hr,hb2⟩;obtain ⟨w3,hw3⟩:=ay (w2.alloc (.cells #[.slice r.1 r.2.1 r.2.2] 35))
 have fb:=al1 w2 (.cells #[.slice r.1 r.2.1 r.2.2] 35);have hO3:=Rg.Own.new w2 #[.slice r.1 r.2.1 r.2.2] 35;rw [<-hw3] at fb hO3;obtain ⟨w4,hw4⟩:=ay (w3.alloc (.cells #[.slice none 0 0] 77))
 have cU:=al1 w3 (.cells #[.slice none 0 0] 77);have hO4:=Rg.Own.new w3 #[.slice none 0 0] 77;rw [<-hw4] at cU hO4;rw [show w3.heap.size=w2.heap.size+1 by rw [hw3]; simp] at hO4;have uB:=bst (bst hb2 fb) cU;have hc4:w4.cell? ⟨w.heap.size,0,none⟩=some (.pointer p):=aV (j:=0) (HT1.out.below uB) rfl;have hr4:BsP (λb=>w1.heap.size<=b/\b<w2.heap.size) w4 r P:=by
  have h2:BsP (λb=>w1.heap.size<=b/\b<w2.heap.size) w2 r P:=hr.to λb hl hp=>⟨hp,hl⟩
  have fN:=bst fb cU;exact h2.kept fN.size λb _ hl=>fN.block b hl
 have HW3:=hid hw3;have LI:=hid hw4;have HR4:=hid hr4;have N1:=hid (hO3.below cU);have cC:=hid hO4;have nd:=hid (bst HB1.out uB);have l9:Hid (w1.heap.size<=w2.heap.size/\w2.heap.size<w2.heap.size+1/\w2.heap.size+1<w4.heap.size):=hid ⟨hb2.size,Nat.lt_succ_self _,hO4.1⟩;clear hr hb2 fb hO3 cU hO4 uB hr4 hw3 hw4;go_wp2_with (first
  | ((try rw [<-HW3.out]); (try rw [<-LI.out]); refine aB (aW hc4 ⟨_,rfl,rfl⟩) ?_))
 refine (Om p w4).mono ?_;rintro e w5 ⟨rfl,h5,hb5⟩;have cf:=hid h5;have ae:=hid hb5;clear h5 hb5 hc4;go_wp2_with fail
 refine (JO (.func (Fn.func 58) #[] #[.pointer (some ⟨w2.heap.size,0,none⟩)]) w4.heap.size w5 rfl).mono ?_;rintro e w6 ⟨rfl,h6,hb6⟩;have cF:=hid h6;have ax:=hid hb6;have j6:=bst ae.out hb6;have HB46:=hid j6;have dj:=hid (bst nd.out j6);have N3:=hid (cC.out.below j6);have N5:=hid (N1.out.below j6);have dr:Hid (BsP (λb=>w1.heap.size<=b/\b<w2.heap.size) w6 r P):=hid (HR4.out.kept j6.size λb _ hl=>j6.block b hl);clear h6 hb6 j6;go_wp2_with fail
 refine QC (gf:=91) (lb:=#[.pointer (some ⟨w4.heap.size,0,none⟩),.pointer (some ⟨w5.heap.size,0,none⟩)]) (K0:=λk=>k=w2.heap.size+1) rfl (enters_of func91 (by kernel_rfl) rfl) (HGo.out _ _ w2.heap.size) (λx W args h=>by rw [SC h]; rfl) ?pre (HI.out.below dj.out) (HT.out.below dj.out HT.out.pos) (Rj M w.heap.size (w2.heap.size+1)) (Ix:=λ_ _ _ _=>False) (λ_=>SF M) ?start ?round ?done ?stop
 case pre =>
  intro W1 K1 hb hK;obtain ⟨z1,z2,z3⟩:=l9.out;have z0:=cW.out;have z5:w4.heap.size<w5.heap.size:=cf.out.1;have z6:w5.heap.size<w6.heap.size:=cF.out.1;have hKn:∀ b,b<w6.heap.size->b≠w2.heap.size+1->¬ K1 b:=λb h1 h2 h3=>(hK b h3).elim h2 (by omega);have hq:BsP (λb=>M.at_ b=none/\¬ K1 b) W1 r P:=by
   exact (dr.out.kept hb.size λb _ hl=>hb.block b hl).to λb _ hp=>⟨(cH.out b (by omega)).1,hKn b (by omega) (by omega)⟩
  refine ⟨aV (j:=0) ((cf.out.below ax.out).below hb) rfl,aV (j:=0) (cF.out.below hb) rfl,(cH.out _ (by omega)).1,hKn _ (by omega) (by omega),λwr f pp o h a ha hl=>?_⟩;exact Oq w2.heap.size r P py.out wr (aV (j:=0) (WM f (N5.out.below hb) ⟨(cH.out _ (by omega)).1,hKn _ (by omega) (by omega)⟩) rfl) (hq.kept f.size λb hp hl=>f.block b hl hp.1 hp.2).1 pp o h a ha hl
 case start=>exact ⟨[],.slice none 0 0,rfl,N3.out,World.ownsRow_nil _ _ _ _,λk=>by simp [Value.ownBlock],by simp [Value.ownBlock],by have:=l9.out; have:=cW.out; omega,cH.out,λ_ h=>by cases h⟩
 case stop =>
  intro c V K W _ h;exact h.elim
 case done =>
  rintro K Wd ⟨z,v,hz,hJ⟩ D5 hjd htd hsd D6 U2;obtain ⟨z1,z2,z3⟩:=l9.out;have z0:=cW.out;have U3:=Wj dj.out D5 hjd htd HI.out HT.out.pos (λk hk=>by omega) dj.out.size;have hcd:=aV (j:=0) hJ.o rfl;have HD:=hid D6;have HF:=hid U3;have hN:=(hJ.keep (w':=shut Wd [w6.heap.size]) (by rw [sW]; exact aH) λk hk=>qE [w6.heap.size] Wd k λe=>U2 (by rw [<-List.mem_singleton.1 e]; exact hk)).nds;obtain ⟨av,cv,rfl,hN⟩:=hN
  have HNs:=hid (show tK (shut Wd [w6.heap.size]) av z.length cv (bD t P) by rw [<-show z.map Prod.fst=bD t P from hz.trans U0.out]; exact hN);clear hJ D5 hjd htd hsd D6 U3 U2 hz hN z1 z2 z3 z0;simp only [Exit.inBlock];go_wp2;exact JY HD.out ⟨_,results_tmp (t:=4) rfl _ _ _,av,_,cv,rfl,HNs.out,HF.out⟩
 case round =>
  rintro l V K x args W S hl hlW ul ⟨z,v,hz,hI⟩ lj N6 sh qi hpf ⟨pp,hh,na,nn,nc,rfl,htp,hbW,hbN,hok⟩ hgv hS;have HS:=hid hS;have HZ:=hid hz;have hVn:z.length<=1000000:=by
   have h1:=hpf.length_le;have h2:=D9.out;have h3:=congrArg List.length hz;have h4:(Eo V).length<=V.length:=by unfold Eo; rw [List.length_map]; exact List.length_filter_le _ _
   rw [List.length_append] at h1;rw [List.length_map] at h3;omega
  have hsz:=dj.out.size;have U4:Hid (BsP (λb=>(w.heap.size<=b/\b≠w2.heap.size+1/\v.ownBlock≠some b)/\b≠l/\b<W.heap.size) W (na,nn,nc) (bg x.1).p):=hid ⟨hbN,λad e hn=>by
   have e':na=some ad:=e;subst e';obtain ⟨q1,q2,q3,q4⟩:=hgv ad.block (Rh hn);exact ⟨⟨by omega,λe2=>q4 ((hI.k _).2 (.inl (.inl e2))),λe2=>q4 ((hI.k _).2 (.inl (.inr e2)))⟩,q3,q2⟩⟩
  clear lj N6 hpf hS hz hbW hbN htp hok hgv hsz;rw [YG];simp only [List.setIfInBounds_toArray,List.set_cons_zero,List.set_cons_succ];have fb:=al1 W (.cells (ndC nd0 none 0 0) 67);have pi:=hid (Rg.Own.new W (ndC nd0 none 0 0) 67);have dy:=hid (dY x.1);obtain ⟨N,hN⟩:=aA (bg x.1)
  have sm:=hid hN;rw [hN] at dy U4 ⊢;clear hN;refine rV rfl (λ⟨_,_,h⟩=>h) ?_;go_wp2_with (first
   | (refine aB (aY _ _ _ W.heap.size rfl rfl) ?_)
   | (refine bI pi.out cB N na nn nc dy.out rfl _ _ rfl rfl rfl rfl ?_; intro W3 hO hu; have lk:=hid hO; have HB3:=hid (hu.below fb aH); clear hO hu))
  refine HS.out _ _ HB3.out (λW5 ip=>?_);have js:=hid (ip.own lk.out);have hs5:W5.heap.size=W3.heap.size:=ip.u.size;obtain ⟨z1,z2,z3⟩:=l9.out;have z0:=cW.out;have z6:=dj.out.size;have hzz:=HT.out.pos;have N6:=HB3.out.size;have oS:=hid ((sh.below HB3.out).upd ip.u (cH.out l (by omega)).2);have Dd:=hid (zo (qi.below HB3.out qi.pos) ip.u (by omega));have sr:=hI.keep (w':=W5) (by omega) (λk hk=>(ip.u.block k λe=>ul (by rw [<-e]; exact hk)).trans (HB3.out.block k (hI.lt k hk).1));have ib:=hid sr
  have HbN:Hid (BsP (λb=>w.heap.size<=b/\b≠w2.heap.size+1/\v.ownBlock≠some b) W5 (na,nn,nc) N.p):=hid (((U4.out.kept N6 λb _ hl=>HB3.out.block b hl).kept (by omega) λb hp _=>ip.u.block b hp.2.1).to λ_ _ hp=>hp.1);have hcb:W5.cell? ⟨w2.heap.size+1,0,none⟩=some v:=aV (j:=0) sr.o rfl;have eh:w.heap.size<=W5.heap.size:=Nat.le_trans sr.bb (Nat.le_of_lt sr.o.1);have hck:W5.cell? ⟨W.heap.size,0,none⟩=some (.int .i64 N.kd):=aV (j:=0) js.out rfl;obtain ⟨av,cv,rfl⟩:=kG sr.r;clear HS sh qi hI ip sr fb z1 z2 z3 z0 z6;refine wpIn_block ?_
  refine wpIn_seq_k ?_;intro K9 hK9;refine rV rfl (λ⟨_,_,h⟩=>h) ?_;by_cases hx:isNode x.1=true
  .have hkd:(N.kd != 0)=true:=by
    rw [<-sm.out];have:(bg x.1).kd≠0:=λe=>by rw [Me.1 e] at hx; cases hx
    simp [this]
   have HX:=hid hx;have nf:=al1 W5 (.cells (ndC N na nn nc) 67);have eK:=hid (Rg.Own.new W5 (ndC N na nn nc) 67);have gC:Hid (yc w.heap.size (W5.alloc (.cells (ndC N na nn nc) 67)) (.slice av z.length cv) z):=hid (eX ib.out.r λk e=>nf.block k (ib.out.r.lt k e).2);have ph:=hid (ib.out.o.below nf);have d8:=hid nf;have GB:w.heap.size<=(W5.alloc (.cells (ndC N na nn nc) 67)).heap.size:=Nat.le_trans eh nf.size;clear nf hx;go_wp2;refine wpIn_cond_true rfl ?_;refine rV rfl (λ⟨_,_,h⟩=>h) ?_;go_wp2_with (first
    | (refine aB (bU js.out dy.out ⟨_,rfl,rfl⟩) ?_)
    | (refine aB (Gs hcb ⟨_,rfl,rfl⟩) ?_)
    | (refine aB (Nh (h:=(na,nn,nc)) dy.out W5.heap.size rfl ⟨_,rfl,rfl⟩) ?_)
    | (refine GK (h:=(na,nn,nc)) gC.out eK.out dy.out hVn GB rfl ⟨_,_,rfl,rfl,rfl⟩ ?_; intro v4 U5 hr4 hg4 hl4; have ie:Rg.Own U5 (w2.heap.size+1) #[.slice av z.length cv] 77:=⟨aJ ph.out.1 hg4.size,(hg4.block _ ph.out.1 (λe=>ib.out.nb e.symm)).trans ph.out.2⟩; have fd:=hid hr4; have B6:=hid hg4; have uC:=hid hl4; obtain ⟨s4,c4,e4⟩:=kG hr4; obtain ⟨n4,sA⟩:=aA ((z++[(N,(na,nn,nc))]).length); rw [sA] at e4; subst e4; clear sA; have N7:=hid ie; have c4b:=aV (j:=0) ie rfl; have z4b:=fJ (j:=0) ie; clear hr4 hg4 hl4 ie))
   have N8:=hid (bZ (o:=0) N7.out (Value.slice s4 n4 c4));have px:=hid (bM U5 (w2.heap.size+1) 0 (Value.slice s4 n4 c4));have hs3:=d8.out.size;have hl5:(Value.slice s4 n4 c4).ownBlock=(Value.slice av z.length cv).ownBlock\/∃ k,W5.heap.size<=k/\(Value.slice s4 n4 c4).ownBlock=some k:=uC.out.imp id λe=>⟨_,hs3,e⟩
   have hne:∀ k,(Value.slice s4 n4 c4).ownBlock=some k->k≠w2.heap.size+1:=λk e e2=>by
    rcases hl5 with e3 | ⟨k',hk',e3⟩
    .exact ib.out.nb (by rw [<-e3,<-e2]; exact e)
    .rw [e3] at e;have:=Option.some.inj e;have:=ib.out.o.1;omega
   have Hd:Bo2 (λk=>k=w2.heap.size+1\/(Value.slice av z.length cv).ownBlock=some k) W5 _:=(((Bo2.of aI).below d8.out).grown B6.out (λk e=>.inr e)).upd px.out (.inl rfl);obtain ⟨K',h1,h2,h2f,h3,h4⟩:=QN ib.out oS.out Dd.out HT.out.pos Hd N8.out (eX fd.out λk e=>px.out.block k (hne k e)) hl5 dy.out HbN.out;refine ⟨K',⟨_,_,by rw [List.map_append,HZ.out,Ce,if_pos HX.out,sm.out]; rfl,h1⟩,λk hk=>(h2 k hk).imp id λh=>h.elim (λh=>.inl (by omega)) λ⟨ad,e,hn,e2⟩=>.inr ?_,h2f,h3,h4⟩;have e':na=some ad:=e;subst e'
   rw [e2];exact Rh hn
  .have hkd:(N.kd != 0)=false:=by
    rw [<-sm.out];have:(bg x.1).kd=0:=Me.2 (by cases e:isNode x.1 with
     | true=>exact absurd e hx
     | false=>rfl)
    simp [this]
   have HX:=hid hx;clear hx;go_wp2;refine wpIn_cond_false rfl ?_;refine wpIn_skip ?_;exact ⟨K,⟨z,_,by rw [HZ.out,Ce,if_neg HX.out,List.append_nil],ib.out⟩,λk hk=>.inl hk,FrK.refl _ _ _,oS.out,Dd.out⟩
end Tm
end
section
open Go.RowKit
namespace Tm
open Tr Ni Pk Ky No Rf Rl
open Sm (Tab)
def Says:qN->aO->Prop
 | (none,u),cs=>∃ v h,cs=vdC v h u false
 | (some none,u),cs=>cs=vdC eB false u true
 | (some (some v),u),cs=>cs=vdC v true u true
def YE (w:World) (s:qN) (e:Ending) (w':World):Prop:=∃ cs,e = .returned (.agg cs)/\Says s cs/\Below w.heap.size w w'
theorem add_block (a:Addr) (i:Nat):(a.add i).block=a.block:=by unfold Addr.add; split <;> rfl
theorem FB {o:Oper} {w:World} {k l:aN} {g:Bool} (hk:k.length=32) (hl:l.length=32) (hd:decide (k=l)=g) (ho:∃ x y tt,o.op = .binOp .eql 23 x y tt/\ev x = .agg (Sm.kc k)/\ev y = .agg (Sm.kc l)) :
  (execOp ev o).run prog w = .ok (.value (.bool g)) w:=by
 subst hd;exact Jl hk hl ho
theorem PK (a b:aL) (n m c d:Nat) (x y:aN) (hn:m<n) (w:World) (ha:bf w a n c x) (hb:bf w b m d y) :
  Calls prog 44 #[.slice b m d,.slice a n c] w λe w'=>e = .returned (.bool (decide (x<+:y)))/\w=w':=by
 have HR:Hid (decide (x<+:y)=false):=hid (decide_eq_false λh=>by
  have h1:=h.length_le;have h2:=ha.len;have h3:=hb.len;omega)
 have hi:¬ (n:Int)<=(m:Int):=by omega
 have hi2:decide ((n:Int)<=(m:Int))=false:=decide_eq_false hi;rw [HR.out];clear ha hb HR;go_enter func44,ntmps44;go_wp2;go_ret;exact ⟨rfl,rfl⟩
theorem Ho (a b:aL) (n m c d:Nat) (x y:aN) (hm:m<=1000000) (w:World) (ha:bf w a n c x) (hb:bf w b m d y) :
  Calls prog 44 #[.slice b m d,.slice a n c] w λe w'=>e = .returned (.bool (decide (x<+:y)))/\w=w':=by
 by_cases h:n<=m
 .exact Ao a b n m c d x y h hm w ha hb
 .exact PK a b n m c d x y (by omega) w ha hb
theorem AX {B:Nat} {w:World} {r:Hdl} {l:aN} (h:BsP (λb=>B<=b) w r l) (i:Nat) (hi:i<=r.2.1):BsP (λb=>B<=b) w (eP r.1 r.2.2 i,r.2.1-i,r.2.2-i) (l.drop i):=by
 refine ⟨wm h.1 i hi,λad e hn=>?_⟩;have hn':0<r.2.1-i:=hn;have e':eP r.1 r.2.2 i=some ad:=e;unfold eP at e';split at e'
 .exact h.2 ad e' (by omega)
 .cases hr:r.1 with
  | none=>rw [hr] at e'; cases e'
  | some a =>
   rw [hr] at e';rw [<-Option.some.inj e',add_block];exact h.2 a hr (by omega)
theorem dP {w w':World} {r:Hdl} {l:aN} (h:BsP (λb=>B<=b) w r l) (hb:Below w.heap.size w w'):BsP (λb=>B<=b) w' r l:=h.kept hb.size λb _ hl=>hb.block b hl
theorem Wz {g:Nat} {w w':World} {r:Hdl} {l:aN} (h:BsP (λb=>B<=b) w r l) (hu:Rg.Upd w g w') (hg:g<B):BsP (λb=>B<=b) w' r l:=h.kept (Nat.le_of_eq hu.size.symm) λb hp _=>hu.block b (λe=>by
 have:B<=b:=hp;omega)
structure Fol (w0:World) (la:aL) (ln lc o g bu bp us:Nat) (w:World):Prop where
 b:Below w0.heap.size w0 w
 fo:Rg.Own w o (vdC eB false 0 false) 62
 fg:Rg.Own w g #[.int .i64 us] 3
 fu:Rg.Own w bu #[.pointer (some ⟨g,0,none⟩)] 89
 fp:Rg.Own w bp #[.slice la ln lc] 26
 lo:w0.heap.size<=o
 og:o<g
 gu:g<bu
 gp:g<bp
namespace Fol
variable {w0 w w':World} {la:aL} {ln lc o g bu bp us us':Nat}
theorem below (h:Fol w0 la ln lc o g bu bp us w) (hb:Below w.heap.size w w'):Fol w0 la ln lc o g bu bp us w':=⟨bst h.b hb,h.fo.below hb,h.fg.below hb,h.fu.below hb,h.fp.below hb,h.lo,h.og,h.gu,h.gp⟩
theorem upd (h:Fol w0 la ln lc o g bu bp us w) (hu:Rg.Upd w g w') (hg:Rg.Own w' g #[.int .i64 us'] 3):Fol w0 la ln lc o g bu bp us' w':=⟨hu.below h.b (by have:=h.lo; have:=h.og; omega),h.fo.upd hu (by have:=h.og; omega),hg,h.fu.upd hu (by have:=h.gu; omega),h.fp.upd hu (by have:=h.gp; omega),h.lo,h.og,h.gu,h.gp⟩
theorem next {l:List aM} {e:Ending} (h:Fol w0 la ln lc o g bu bp us w) (n:Xq l g us R w e w'):∃ X th us',e = .returned (.tuple #[.string X,.bool th])/\(th=true->nxP l us R=some (X,us'))/\(th=false->nxP l us R=none/\us'=us)/\Fol w0 la ln lc o g bu bp us' w'/\∀ B r q,g<B->BsP (λb=>B<=b) w r q->BsP (λb=>B<=b) w' r q:=by
 obtain ⟨X,th,us',w2,w3,he,h1,h2,h3,h4,h5,h6⟩:=n;have h6':Rg.Own w3 g #[.int .i64 us'] 3:=by
  have hg2:=(h.below h3).fg.1;have:g<w3.heap.size:=by rw [h4.size]; exact hg2
  exact ⟨this,(h5.block g this).symm.trans h6.2⟩
 exact ⟨X,th,us',he,h1,h2,((h.below h3).upd h4 h6').below h5,λB r q hB hq=>dP (Wz (dP hq h3) h4 hB) h5⟩
end Fol
def WJ:Value->Nat
 | .slice _ n _=>n
 | _=>0
def thV:Value->Nat
 | .bool true=>1
 | _=>0
theorem Kw {l:List aM} (hx:∀ s∈l,s.size<=900000) {us us':Nat} {X:aM} (hR:R.size<=900000) (hu:us<=l.length) (h:nxP l us R=some (X,us')):X.size<=900000/\us'<=l.length:=by
 unfold nxP at h;split at h
 .obtain ⟨rfl,rfl⟩:=Prod.mk.inj (Option.some.inj h);exact ⟨hR,hu⟩
 .split at h
  .rename_i h2;obtain ⟨rfl,rfl⟩:=Prod.mk.inj (Option.some.inj h);exact ⟨hx _ (Rf.jL h2.1),h2.1⟩
  .cases h
theorem SY {l:List aM} {q:Pa} {us:Nat} {b:Bool} {N:Nd} {s:Nat} (hg:kW E.data.toList=some N) (hr:¬ (b=true/\N.kd≠3)) {q2:Pa} (ho:onward N q=(eB,q2)) (hq:N.kd=1->q2=q):Says (jA l (s+1) E q us b) (zi N q us l.length):=by
 rw [Hy hg hr ho,if_pos (show eB.size=0 from rfl)];unfold zi;by_cases hu:us=l.length
 .rw [if_neg (λh=>h hu),aK hu];by_cases hk:N.kd=1/\N.p=q
  .rw [if_pos hk,if_pos ⟨hk.1,by rw [hq hk.1]; exact hk.2⟩];rfl
  .rw [if_neg hk,if_neg (λh=>hk ⟨h.1,by rw [<-hq h.1]; exact h.2⟩)];rfl
 .rw [if_pos hu,decide_eq_false hu];split
  .exact ⟨_,_,rfl⟩
  .exact ⟨_,_,rfl⟩
end Tm
end
end Go.Proofs.YtokaiemgjngcoaaGreatDoor
