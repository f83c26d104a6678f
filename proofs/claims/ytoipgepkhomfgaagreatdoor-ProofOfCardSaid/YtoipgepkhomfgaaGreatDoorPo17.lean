/-
 A tree's places are gone through (walk.goer$1$1), the block of each node's path is handed over.
-/
import Derived.Test.YtoipgepkhomfgaaGreatDoorPo16
import Derived.WideKeyEntry
open Go.Lib (hid)
open Go.Proofs.Tryz
set_option linter.unusedSimpArgs false
set_option linter.unusedVariables false
set_option maxHeartbeats 40000000
set_option maxRecDepth 100000
namespace Go.Proofs.YtoipgepkhomfgaaGreatDoor
variable {u v:Value} {ad:Addr} {L bx j:Nat} {ev:Operand->Value} {ops:Array Oper} {R:World->Prop}
section
open Go.RowKit
namespace Tm
open Tr Ni Pk Ky No Rf Rl cY
open Sm (Tab)
def gvP (_:Pl) (args:aN) (k:Nat):Prop:=∃ (cs:aN) (ad:Addr) (n c:Nat),args[1]? = some (.agg cs)/\cs[1]? = some (.slice (some ad) n c)/\0<n/\k=ad.block
theorem YH {x:Pl} {N:Nd} {a:aK} {n c k:Nat} (h:gvP x #[u,.agg (ndC N a n c)] k):∃ ad,a=some ad/\0<n/\k=ad.block:=by
 obtain ⟨cs,ad,n',c',h1,h2,h3,h4⟩:=h;have h5:some (Value.agg (ndC N a n c))=some (Value.agg cs):=h1;injection h5 with h5;injection h5 with h5;subst h5;have h6:(ndC N a n c)[1]? = some (.slice a n c):=by simp [ndC]
 rw [h6] at h2;injection h2 with h2;injection h2 with e1 e2 e3;exact ⟨ad,e1,by omega,h4⟩
theorem RD {x:Pl} {N:Nd} {n c:Nat} (hn:0<n):gvP x #[u,.agg (ndC N (some ad) n c)] ad.block :=
 ⟨ndC N (some ad) n c,ad,n,c,rfl,by simp [ndC],hn,rfl⟩
theorem Yy {x:Pl} {N:Nd} {a:aK} {n c k B:Nat} {w:World} {l:aM} (hb:aZ w a n c l) (hB:∀ ad,a=some ad->B<=ad.block) (h:gvP x #[u,.agg (ndC N a n c)] k):B<=k/\k<w.heap.size:=by
 obtain ⟨ad,rfl,hn,rfl⟩:=YH h;obtain ⟨b,off,e,hlt,_⟩:=hb.at' 0 hn;injection e with e;refine ⟨hB _ rfl,?_⟩;rw [e];exact hlt
section
variable {α:Type} {M:Mp} {J:List α->(Nat->Prop)->World->Prop} {gv : α->aN->Nat->Prop} {V:List α} {K K':Nat->Prop} {x : α} {args:aN} {w w7 w8 wa wb:World}
theorem Zf {N:Nat->Prop} (hu:∀ k,w.heap.size<=k->M.at_ k=none/\¬ M.ft k) (r:CY M J V K N x wa wb K'):Mv w K wa (λ_=>False) wb:=⟨r.f.size,λb hB hl hn=>r.f.block b hl (hu b hB).1 hn,λ_ h=>h.elim⟩
theorem Zv (hu:∀ k,w.heap.size<=k->M.at_ k=none/\¬ M.ft k) (m:Mv w K w7 K w8) (hb:Below w8.heap.size w8 wa) (r:CY M J V K (Qq gv x args wa.heap.size) x wa wb K') (hg:∀ k,gv x args k->w7.heap.size<=k/\k<w8.heap.size):Mv w K w7 K' wb:=by
 have h1:=m.sz;have h2:=hb.size;have h3:=r.f.size;refine ⟨by omega,λb hB hl hn=>((r.f.block b (by omega) (hu b hB).1 hn).trans (hb.block b (by omega))).trans (m.bl b hB hl hn),λk hk=>(r.sub k hk).imp id λg=>?_⟩;rcases g with g | g
 .omega
 .exact (hg k g).1
end
theorem Rn (M:Mp) (g0 gi fi:Nat) (cp:aN) (p0:aK) (t:T) (I:Pa->Bool) (eI:∀ args w,(callFunc fi args).run prog w = .ok (.enter fi args) w) (hg:Tr.Good t 64) (hf:Fine t) (hc:jO t<=200000) (ht:IsT M p0 t) :
  Zb M 85 #[.pointer (some ⟨g0,0,none⟩),.pointer (some ⟨gi,0,none⟩)] (goA M) gvP (goL I t 0 []) (Zl M g0 gi fi cp p0 I):=by
 intro lp J Js K0 w hJ hJs hP hi hT h0 hY;show Calls prog 85 #[.func (.yield lp) #[] #[],.pointer (some ⟨g0,0,none⟩),.pointer (some ⟨gi,0,none⟩)] w (Gd M J Js (goL I t 0 []) K0 w);have hout:∀ k,w.heap.size<=k->M.at_ k=none/\¬ M.ft k:=λk hk=>⟨hi.out hk,hi.free hk⟩
 obtain ⟨w1,hw1⟩:=au (w.alloc (.cells (plA p0 0 (none,0,0)) 95))
 have hb1:Below w.heap.size w w1:=by rw [hw1]; exact al1 _ _
 have hs1:w1.heap.size=w.heap.size+1:=by rw [hw1]; simp
 have g8:jV w.heap.size w1 (.slice (some ⟨w.heap.size,0,none⟩) 1 1) [⟨p0,(none,0,0),(t,0,[])⟩]:=by
  rw [hw1];exact World.ownsRow_lit (e:=95) (size:=3) (base:=w.heap.size) w (plA p0 0 (none,0,0)) 1 aG (by unfold maxLen; decide) rfl
 obtain ⟨w3,hw3⟩:=au (w1.alloc (.cells #[.slice (some ⟨w.heap.size,0,none⟩) 1 1] 151))
 have hb2':=al1 w1 (.cells #[.slice (some ⟨w.heap.size,0,none⟩) 1 1] 151);rw [<-hw3] at hb2';have hb3:Below w.heap.size w w3:=bst hb1 hb2';have hO3:Rg.Own w3 (w.heap.size+1) #[.slice (some ⟨w.heap.size,0,none⟩) 1 1] 151:=by rw [hw3,<-hs1]; exact Rg.Own.new _ _ _
 have ur:jV w.heap.size w3 (.slice (some ⟨w.heap.size,0,none⟩) 1 1) [⟨p0,(none,0,0),(t,0,[])⟩]:=dU g8 λk e=>hb2'.block k (g8.lt k e).2;have E3:Hid (Gq M J K0 w (w.heap.size+1) (.slice (some ⟨w.heap.size,0,none⟩) 1 1) [⟨p0,(none,0,0),(t,0,[])⟩] [] K0 [] w3):=hid (by
  have hK:=hJ.lt _ _ _ h0;refine ⟨hO3,ur,λy hy=>?_,hJ.st _ _ _ _ h0 hb3.size λk hk=>hb3.block k (hK k hk).1,λhk=>by have:=(hK _ hk).1; omega,λk e hk=>?_,λe=>?_,by omega,(FrK.refl M K0 w).below hb3 aG,λk hk=>.inl hk,hi.below hb3,hT.below hb3 hT.pos,hout,hT.pos,List.nodup_nil,λD hD=>by cases hD⟩
  .obtain rfl:=List.mem_singleton.1 hy;exact ⟨ht,xS.root hg hf,aZ.nil _,λad e=>by cases e⟩
  .have e2:w.heap.size=k:=Option.some.inj e;have:=(hK _ hk).1;omega
  .have e2:w.heap.size=w.heap.size+1:=Option.some.inj e;omega)
 have HP:=hid hP;have HY:=hid hY;have HJ:=hid hJ;have RK:=hid hJs;have HC:=hid hc;have cE:=hid hout;have hcell0:=hP.c0;clear hP hY hJ hJs hc hout hi hT h0 hb1 hs1 g8 hb2' hO3 hb3 ur hg hf ht;refine yx func85 rfl ?_;simp only [ntmps85,List.size_toArray,List.length_cons,List.length_nil,Nat.reduceAdd,Nat.reduceSub,Array.replicate_succ,Array.replicate_zero,List.push_toArray,List.append_toArray,List.nil_append,List.cons_append]
 obtain ⟨INV,AI⟩:∃ INV:Go.Act->World->Prop,INV=λa' wr=>∃ (Ds:List Nat) (v:Value) (l:List Pc) (V:List Pl) (K:Nat->Prop),Hid (Gq M J K0 w (w.heap.size+1) v l V K Ds wr)/\Hid (V++jU I (l.map (·.x))=goL I t 0 []/\nJ (l.map (·.x))<=200000)/\
   ∃ u3 u5 u6 u7 u8 u9 u10 u11 u12 u13 u14 u15 u16 u17 u18 u19 u20 u21 u22 u23 u24 u25 u26 u27 u28 u29 u30 u31 u32 u33 u34 u35 u36 u37 u38 u39 u40 u41 u42 u43 u44 u45 u46 u47 u48 u49 u50 u51 u52 u53 u54 u55 u56 u57 u58 u59:Value,a'={ tmps:=#[.func (.yield lp) #[] #[],.pointer (some ⟨g0,0,none⟩),.pointer (some ⟨gi,0,none⟩),u3,.pointer (some ⟨w.heap.size+1,0,none⟩),u5,u6,u7,u8,u9,u10,u11,u12,u13,u14,u15,u16,u17,u18,u19,u20,u21,u22,u23,u24,u25,u26,u27,u28,u29,u30,u31,u32,u33,u34,u35,u36,u37,u38,u39,u40,u41,u42,u43,u44,u45,u46,u47,u48,u49,u50,u51,u52,u53,u54,u55,u56,u57,u58,u59],defers:=marks Ds }:=⟨_,rfl⟩
 have pm:=hid AI;clear AI;go_wp2_with (first
  | (refine aA (aU hcell0 ⟨_,rfl,rfl⟩) ?_)
  | (refine aA (bV (Ol p0) ⟨_,rfl,rfl⟩) ?_)
  | (refine aA (xC w.heap.size rfl ⟨_,rfl,rfl⟩) ?_)
  | (refine wp_loop INV (λ_ wr=>ze M (w.heap.size+1) wr) ?_ ?_))
 .rw [<-hw1,<-hw3,pm.out];refine ⟨[],_,_,_,_,E3,hid ⟨by rw [List.nil_append]; exact LD I (t,0,[]),by show jO t+0<=200000; exact HC.out⟩,?_⟩
  (repeat apply Exists.intro)
  rfl
 .intro a' wr hinv;rw [pm.out] at hinv;obtain ⟨Ds,v,l,V,K,HG,HE,u3,u5,u6,u7,u8,u9,u10,u11,u12,u13,u14,u15,u16,u17,u18,u19,u20,u21,u22,u23,u24,u25,u26,u27,u28,u29,u30,u31,u32,u33,u34,u35,u36,u37,u38,u39,u40,u41,u42,u43,u44,u45,u46,u47,u48,u49,u50,u51,u52,u53,u54,u55,u56,u57,u58,u59,rfl⟩:=hinv;clear E3 hcell0 hw1 hw3 w1 w3 HC;try dsimp only
  rw [ML 6];have hcb:=aV (j:=0) HG.out.ob rfl;by_cases hl:l=[]
  .subst hl;obtain ⟨a,c,rfl⟩:=gY HG.out.row;have bj:Hid (Gd M J Js (goL I t 0 []) K0 w (.returned (.tuple #[])) (shut wr Ds)):=hid (Hz HJ.out RK.out (.inl ⟨by have:=HE.out.1; simpa [jU] using this,HG.out.j⟩) HG.out.f HG.out.i HG.out.t HG.out.sub HG.out.u HG.out.z HG.out.dm _);have HD:=hid (And.intro HG.out.dn HG.out.dm);clear HG HE HP HY;go_wp2;refine nT Ds wr HD.out.1 (λD hD=>(HD.out.2 D hD).2.1) ⟨_,results_none rfl _ _ _,bj.out⟩
  .obtain ⟨l,y,rfl⟩:∃ l' y,l=l'++[y]:=⟨_,_,(List.dropLast_concat_getLast hl).symm⟩
   obtain ⟨g,cap,rfl,hgB,hgl,hcap,hcm,hAt⟩:=HG.out.row.last;have RM:=Cx HG.out.ob HG.out.row (λz hz=>(HG.out.ok z hz).1);have hlen:l.length<=200000:=by
    have h1:=QE ((l++[y]).map (·.x));have h2:=HE.out.2;rw [List.length_map,List.length_append] at h1;omega
   have RT:=hid RM;unfold maxLen at hcm;obtain ⟨n,hn⟩:=ay l.length
   have HN:=hid hn;rw [hn] at hcb hcap hAt hlen;rw [hn] at HG;have hpos:(0:Int)<((n+1:Nat):Int):=by omega
   have hsub:IntKind.i64.wrap (((n+1:Nat):Int)-1)=(n:Int):=by rw [show ((n+1:Nat):Int)-1=(n:Int) by omega]; exact IntWalk.i64_in _ (by omega)
   have hnc:n<=cap:=by omega
   have hn1:n<n+1:=Nat.lt_succ_self n;have sR:=hid hAt;have aE:=Rg.Own.new wr (plA none 0 (none,0,0)) 95;have bh:=hid aE;have AK:=al1 wr (.cells (plA none 0 (none,0,0)) 95);obtain ⟨RW,S0,S1⟩:=HG.out.ok y (by simp);have hrow:=HG.out.row;rw [<-HN.out] at hrow;have hgi:w.heap.size<=wr.heap.size:=HG.out.f.size
   have S2:Hid (∀ w5,Rg.Upd (wr.alloc (.cells (plA none 0 (none,0,0)) 95)) wr.heap.size w5->Rg.Own w5 wr.heap.size (plA y.p y.x.2.1 y.h) 95->w5.cell? ⟨w.heap.size+1,0,none⟩=some (.slice (some ⟨g,0,none⟩) (n+1) cap)/\w5.frozen? ⟨w.heap.size+1,0,none⟩=false/\
     ∃ w6,w6=w5.setCell ⟨w.heap.size+1,0,none⟩ (.slice (some ⟨g,0,none⟩) n cap)/\(w6.cell? ⟨gi,0,none⟩=some (.func (Fn.func fi) #[] cp)/\Gq M J K0 w (w.heap.size+1) (.slice (some ⟨g,0,none⟩) n cap) l V K Ds w6/\Ex w K w6 wr.heap.size (plA y.p y.x.2.1 y.h) 95/\BsK w K w6 y.h y.x.2.2)):=hid (λw5 hu h5=>by
    have hb5:Below wr.heap.size wr w5:=hu.below AK aG;have hg5:=HG.out.below HJ.out hb5;have d9:=bO w5 (w.heap.size+1) 0 (.slice (some ⟨g,0,none⟩) n cap);have ho6:Rg.Own (w5.setCell ⟨w.heap.size+1,0,none⟩ (.slice (some ⟨g,0,none⟩) n cap)) (w.heap.size+1) #[.slice (some ⟨g,0,none⟩) n cap] 151:=dx (o:=0) hg5.ob _;have AM:=dU hrow λk e=>hb5.block k (hrow.lt k e).2;have hne:g≠w.heap.size+1:=λe=>HG.out.nb (by rw [<-e]; rfl)
    have AR:jV w.heap.size (w5.setCell ⟨w.heap.size+1,0,none⟩ (.slice (some ⟨g,0,none⟩) n cap)) (.slice (some ⟨g,0,none⟩) n cap) l:=by
     have:=dU (jV.init AM) λk e=>d9.block k (by have e2:g=k:=Option.some.inj e; omega);rw [HN.out] at this;unfold jV;rw [HN.out];exact this
    have E6:=hg5.box HJ.out d9 ho6 AR rfl (λz hz=>by simp [hz]);refine ⟨aV (j:=0) hg5.ob rfl,gV hg5.ob,_,rfl,?_,E6,⟨h5.upd d9 (by have:=HG.out.ob.1; omega),hgi,λhk=>by have:=(HJ.out.lt _ _ _ HG.out.j _ hk).1; omega⟩,?_⟩
    .have hlt:=World.block_lt_of_cell? w _ HP.out.ci;have hlt':gi<w.heap.size:=hlt;rw [World.cell?_of_block (E6.f.block gi hlt' HP.out.hi HP.out.ki)];exact HP.out.ci
    .have h2:=S1.kept hb5.size λb _ hl=>hb5.block b hl;exact (h2.kept (by rw [d9.size]; exact aG) λb hp _=>d9.block b hp.2.2.1).to λb _ hp=>⟨hp.1,hp.2.1⟩)
   have iz:=hid (And.intro RW S0);clear RW S0 S1 hrow hgi;clear hl RM hn hAt aE AK;go_wp2_with (first
    | (refine aA (Io hn1 ⟨_,_,rfl,rfl,rfl⟩) ?_)
    | (refine aA (lS sR.out ⟨_,rfl,rfl⟩) ?_)
    | (refine aA (Fb _ _ _ wr.heap.size rfl rfl) ?_)
    | (refine FC bh.out y.p y.x.2.1 y.h rfl _ _ rfl rfl rfl rfl ?_; intro w5 aE bd; obtain ⟨hc5,E7,w6,m5,ii⟩:=S2.out w5 bd aE; have AS:=ii.1; have ff:=hid ii; clear aE bd hcb ii)
    | (refine aA (RB Ru Xw hnc ⟨_,_,rfl,rfl,rfl⟩) ?_)
    | ((try rw [<-m5]); refine aA (lS (GR.own ff.out.2.2.1.o) ⟨_,rfl,rfl⟩) ?_)
    | ((try rw [<-m5]); refine Rg.run rfl (.func (Fn.func fi) #[] cp) _ (Kt AS ⟨_,rfl,rfl⟩) ?_))
   rw [<-m5];have hyl:y.x.2.2.length<=64:=by
    obtain ⟨L,h,_⟩:=iz.out.2;omega
   refine (HP.out.into w6 ff.out.2.1.f y.p y.x.2.1 y.h y.x.2.2 ff.out.2.2.2.1 hyl).mono ?_;rintro e w7 ⟨rfl,cL⟩;have km:Mv w K w6 K w7:=Mv.below cL;have fY:=hid (ff.out.2.1.below HJ.out cL);have we:=hid (ff.out.2.2.1.mv km);have IT:=hid (ff.out.2.2.2.mv km);have dr:Hid (jU I ((l++[y]).map (·.x))=jU I (l.map (·.x)++[y.x])):=hid (by rw [List.map_append]; rfl);clear m5 ff cL km hc5 E7 AS S2 bh sR w6 w5;by_cases hI:I y.x.2.2=true
   .rw [hI];obtain ⟨L,hL,hgd,hfn,_⟩:=iz.out.2;go_wp2_with (first
     | (refine aA (aU (aV (j:=0) we.out.o rfl) ⟨_,rfl,rfl⟩) ?_))
    refine (Ut M y.p y.x.1 L hgd (by omega) hfn w7 fY.out.i iz.out.1 fY.out.t).mono ?_;rintro e w8 ⟨na,nn,nc,ka,kc,qs,rfl,rm,kt,_,AT,_,f8,i8,t8⟩;have rn:Mv w K w7 K w8:=Mv.fr cE.out f8;have E8:=hid (fY.out.open_ HJ.out f8 i8 t8);have tn:=hid (we.out.mv rn);have h58:wr.heap.size<w8.heap.size:=tn.out.o.1;have tp:=hid (IT.out.mv rn);have ut:∀ k,K k->k<w7.heap.size:=λk hk=>(HJ.out.lt _ _ _ fY.out.j k hk).1;have E9:∀ k,K k->k<w8.heap.size:=λk hk=>(HJ.out.lt _ _ _ E8.out.j k hk).1
    have AW:Hid (EM w K w8 ka qs):=hid (EM.ofRow rm fY.out.f.size ut);have tx:Hid (BsK w K w8 (na,nn,nc) (bC y.x.1).p):=hid ⟨kt.1,λad e _=>⟨Nat.le_trans fY.out.f.size (kt.2 ad e),λhk=>by have:=ut _ hk; have:=kt.2 ad e; omega⟩⟩;have B3:=hid AT;have cU:=hid (cu y.x.1);obtain ⟨N,hN⟩:=ay (bC y.x.1)
    have rp:=hid hN;rw [hN] at cU tx ⊢;obtain ⟨A8,hA8⟩:=au ((w8.alloc (.cells (ndC nd0 none 0 0) 69)).alloc (.cells #[.slice none 0 0] 122))
    have B4:Below w8.heap.size w8 A8:=by rw [hA8]; exact al2 _ _ _
    have eh:dI A8 w8.heap.size nd0 none 0 0:=by rw [hA8]; exact (Rg.Own.new _ _ _).below (al1 _ _)
    have B5:Rg.Own A8 (w8.heap.size+1) #[.slice none 0 0] 122:=by
     have:=Rg.Own.new (w8.alloc (.cells (ndC nd0 none 0 0) 69)) #[.slice none 0 0] 122;rw [hA8];simpa using this
    have kz:=hid eh;have B6:Hid (∀ w9,Rg.Upd A8 w8.heap.size w9->dI w9 w8.heap.size N na nn nc->w9.cell? ⟨w8.heap.size+1,0,none⟩=some (.slice none 0 0)/\w9.frozen? ⟨w8.heap.size+1,0,none⟩=false/\
      ∃ ag,ag=w9.setCell ⟨w8.heap.size+1,0,none⟩ (.slice ka qs.length kc)/\Below w8.heap.size w8 ag/\Ex w K ag w8.heap.size (ndC N na nn nc) 69/\Ex w K ag (w8.heap.size+1) #[.slice ka qs.length kc] 122):=hid (λw9 hu h9=>by
     have ho:=B5.upd hu (by omega);have al:=bO w9 (w8.heap.size+1) 0 (.slice ka qs.length kc);have qr:=E8.out.f.size;exact ⟨aV (j:=0) ho rfl,gV ho,_,rfl,al.below (hu.below B4 aG) (by omega),⟨h9.upd al (by omega),qr,λhk=>by have:=E9 _ hk; omega⟩,⟨dx (o:=0) ho _,by omega,λhk=>by have:=E9 _ hk; omega⟩⟩)
    have pr:=hid rn;have tz:Hid (∀ k,gvP y.x #[.agg (plA y.p y.x.2.1 y.h),.agg (ndC N na nn nc)] k->w7.heap.size<=k/\k<w8.heap.size):=hid (λk hk=>Yy kt.1 kt.2 hk);clear rm kt AT f8 i8 t8 rn ut E9 hN B4 eh B5 we IT hgd hfn hL;go_wp2_with (first
     | (refine aA (aY _ _ _ w8.heap.size rfl rfl) ?_)
     | (rw [<-hA8]; refine dB kz.out gq N na nn nc cU.out rfl _ _ rfl rfl rfl rfl ?_; intro w9 ce cg; obtain ⟨hc9,Rc,ag,pt,kv,B7,hk10⟩:=B6.out w9 cg ce; have cn:=hid kv; have pv:=hid B7; have tA:=hid hk10; clear ce cg kv B7 hk10)
     | (refine Nh (NK 6 3 rfl (by rintro ⟨_,_,⟨⟨_,h⟩,_⟩⟩; cases h) ?_); intro _ _; dsimp only [List.take_succ_cons,List.take_zero,List.drop_succ_cons,List.drop_zero])
     | ((try rw [<-pt]); refine aA (lS (GR.own (tn.out.mv (Mv.below cn.out)).o) ⟨_,rfl,rfl⟩) ?_)
     | ((try rw [<-pt]); refine aA (bU pv.out.o cU.out ⟨_,rfl,rfl⟩) ?_))
    have mc:Mv w K w8 K ag:=Mv.below cn.out;have dE:=hid (E8.out.below HJ.out cn.out);have tD:=hid (tn.out.mv mc);have pw:=hid (tp.out.mv mc);have me:=hid (AW.out.mv mc);have ja:=hid (tx.out.mv mc);have hst:V++y.x::jU I (l.map (·.x)++(eu y.x).reverse)=goL I t 0 []:=by rw [<-HE.out.1,dr.out,Og _ hI]
    have hpre:V++[y.x]<+:goL I t 0 []:=⟨jU I (l.map (·.x)++(eu y.x).reverse),by rw [<-hst]; simp⟩
    have ta:=hid hst;have J0:=hid (HY.out V K y.x #[.agg (plA y.p y.x.2.1 y.h),.agg (ndC N na nn nc)] ag dE.out.j dE.out.f dE.out.i dE.out.t hpre ⟨y.p,y.h,na,nn,nc,by rw [rp.out],iz.out.1,pw.out.1,by rw [rp.out]; exact ja.out.1,iz.out.2⟩ (λk hk=>⟨Nat.le_trans fY.out.f.size (tz.out k hk).1,aI (tz.out k hk).2 cn.out.size,λhkk=>by have:=(HJ.out.lt _ _ _ fY.out.j k hkk).1; have:=(tz.out k hk).1; omega⟩));have J1:=hid hpre;try rw [<-pt]
    clear mc hst hpre E8 tn tp AW tx B6 kz pt hA8 hc9 Rc;refine IG J0.out ?_ ?_ ?_ ?_
    .rfl
    .rfl
    .exact ⟨_,_,_,rfl,rfl,rfl⟩
    rintro e eL ⟨K',h⟩;rcases h with ⟨rfl,h11⟩ | ⟨rfl,h11⟩
    .refine ⟨_,rfl,vR rfl (by rintro ⟨_,_,⟨⟨_,h⟩,_⟩⟩; cases h) ?_⟩;have di:Mv w K ag (λ_=>False) eL:=Zf cE.out h11;have km:Mv w K w7 K' eL:=Zv cE.out pr.out cn.out h11 tz.out;have kw:=hid (fY.out.keep km.sz km.bl h11.j km.sub (dE.out.f.trans h11.f dE.out.sub) h11.i h11.t);have tE:=hid (tD.out.mv di);have B8:=hid (pw.out.mv di);have rq:=hid (me.out.mv di);have rr:=hid (ja.out.mv di);have B9:=hid (pv.out.mv di);have Be:=hid (tA.out.mv di);have vp:=hid (Yt iz.out.2);rw [rp.out] at vp;clear di km h11 J0 fY pr tz dE tD pw me ja pv tA cn;go_wp2_with (first
      | (refine aA (lS (GR.own tE.out.o) ⟨_,rfl,rfl⟩) ?_)
      | (refine aA (bU B9.out.o cU.out ⟨_,rfl,rfl⟩) ?_))
     refine (TK y.p y.x.2.1 y.h y.x.2.2 N na nn nc cU.out eL B8.out.1 rr.out.1 vp.out.1 vp.out.2).mono ?_;rintro e rj ⟨v12,hs,rfl,tG,cX⟩;have Bi:=hid tG;have J2:v12.oneCell'=true:=by
      obtain ⟨_,_,rfl⟩:=gY tG.row;rfl
     clear tG;go_wp2_with fail
     refine (OY v12 J2 rj).mono ?_;rintro e o6 ⟨rfl,ll,gw⟩;go_wp2_with fail
     have eA:Below eL.heap.size eL o6:=bst cX gw;have px:Mv w (λ_=>False) eL (λ_=>False) o6:=Mv.below eA;have df:=hid (kw.out.below HJ.out eA);have py:=hid (tE.out.mv px);have Bk:=hid (rq.out.mv px);have pA:=hid (Be.out.mv px);have hwk:lI N y.x.2.2 16=(eu y.x).map (·.2.2):=by rw [<-rp.out]; exact Ql iz.out.2
     have pB:=Bi.out.keep gw.size λb _ hl=>gw.block b hl;rw [hwk] at pB;have mf:=hid pB;have Eg:hs.length=(eu y.x).length:=by rw [pB.len,List.length_map]
     have ib:qs.length=(eu y.x).length:=by rw [B3.out.1,<-oH,List.length_map]
     have h16:=KU y.x;have hgr:g<eL.heap.size:=(kw.out.row.lt g rfl).2;have hbx:w.heap.size+1<eL.heap.size:=kw.out.ob.1;have J3:w.heap.size<=eL.heap.size:=kw.out.f.size;have Bm:eL.heap.size<=rj.heap.size:=cX.size;have J4:rj.heap.size<o6.heap.size:=ll.1;have J5:∀ k,K' k->k<eL.heap.size:=λk hk=>(HJ.out.lt _ _ _ kw.out.j k hk).1;have hbxr:w.heap.size+1<wr.heap.size:=HG.out.ob.1;have J6:=hid ll;clear ll eA px hwk pB kw tE B8 rq rr B9 Be cX gw
     refine RP (gf:=131) (lb:=#[.pointer (some ⟨rj.heap.size,0,none⟩)]) (K0:=λk=>k=w.heap.size+1\/(Value.slice (some ⟨g,0,none⟩) n cap).ownBlock=some k) rfl (enters_of func131 (by kernel_rfl) rfl) (Vh M eL.heap.size rj.heap.size v12 hs (by omega)) (λx W args e=>by rw [show args=_ from e]; rfl) ?pre df.out.i df.out.t (Uj M w.heap.size (w.heap.size+1) l (λz=>⟨qs.getD z.1 none,z.2,jq y.x z.1⟩)) (Ix:=λ_ _ _ _=>False) (λ_=>SG M) ?start ?round ?done ?stop
     case pre =>
      intro W1 K1 hb1 hK1;have hk0:∀ k,eL.heap.size<=k->k<o6.heap.size->¬ K1 k:=λk h1 h2 hk=>(hK1 k hk).elim (λe=>e.elim (by omega) λe=>by have:=Option.some.inj e; have e2:g=k:=this; omega) (by omega);exact ⟨J6.out.below hb1,dU mf.out.row λk e=>hb1.block k (mf.out.row.lt k e).2,hk0 _ Bm J4,λk e=>hk0 k (mf.out.row.lt k e).1 (mf.out.row.lt k e).2,Bm,λk hk=>cE.out k (by omega)⟩
     case start=>exact ⟨_,df.out.ob,by rw [List.map_nil,List.append_nil]; exact df.out.row,λk=>Iff.rfl,df.out.nb,df.out.bb,df.out.u⟩
     case stop =>
      intro c V1 K1 W _ h;exact h.elim
     case done =>
      intro Ki Wd ⟨vd,S3⟩ rf hjd htd hsd By _;have Ek:=hid (df.out.pushed HJ.out iz.out.2 B3.out mf.out J3 hbx hgr J5 (by omega) S3 rf hjd htd hsd By);have hms:((l++(bk hs 0).map λz=>(⟨qs.getD z.1 none,z.2,jq y.x z.1⟩:Pc)).map (·.x))=l.map (·.x)++(eu y.x).reverse:=by
       rw [List.map_append,List.map_map,<-Xy Eg];rfl
      have pZ:Hid (V++[y.x]++jU I ((l++(bk hs 0).map λz=>(⟨qs.getD z.1 none,z.2,jq y.x z.1⟩:Pc)).map (·.x))=goL I t 0 []/\nJ ((l++(bk hs 0).map λz=>(⟨qs.getD z.1 none,z.2,jq y.x z.1⟩:Pc)).map (·.x))<=200000):=hid (by
       rw [hms];refine ⟨by rw [<-ta.out]; simp,?_⟩;have h1:=Ia (l.map (·.x)) y.x;have h2:=HE.out.2;rw [List.map_append] at h2;have h3:nJ (l.map (·.x)++[y.x])<=200000:=h2;omega)
      have EE:Hid (ze M (w.heap.size+1) Wd<ze M (w.heap.size+1) wr):=hid (by
       have hr:=Cx Ek.out.ob Ek.out.row (λz hz=>(Ek.out.ok z hz).1);rw [hr,RT.out,hms,List.map_append];exact Ia _ _)
      clear S3 rf hjd htd hsd By;simp only [Exit.inBlock];refine ⟨?_,EE.out⟩;rw [pm.out];refine ⟨o6.heap.size::Ds,_,_,_,_,Ek,pZ,?_⟩
      (repeat apply Exists.intro)
      rfl
     case round =>
      intro l1 V1 K1 x args W S hl1 hl1' tw hI hf hsub rk pi hpf hA hS;obtain ⟨vW,rt⟩:=hI;obtain ⟨j,z⟩:=x;have hj:j<hs.length:=(Yn hpf).1;have hA':args = #[.int .i64 j,hv z]:=hA;subst hA';have HS:=hid hS;have hjk:j<(eu y.x).length:=by rw [<-Eg]; exact hj
      obtain ⟨gk,ck,eka,hck,oX,hok⟩:=Bk.out.cell (j:=j) (by rw [ib]; exact hjk);have hkb:gk≠w.heap.size+1:=λe=>by
       have h1:=hok.2;rw [e,df.out.ob.2] at h1;simp at h1
      have hkg:gk≠g:=λe=>by
       have h1:=hok.2;rcases df.out.row.2 with ⟨e2,_⟩ | ⟨g',_,_,e2,_,hh,_⟩
       .cases e2
       .injection e2 with e3;injection e3 with e3;injection e3 with e3;rw [e,e3,hh] at h1;simp at h1
      have hk0:∀ b,b≠w.heap.size+1->b≠g->¬ (b=w.heap.size+1\/(Value.slice (some ⟨g,0,none⟩) n cap).ownBlock=some b):=λb h1 h2 e=>e.elim h1 λe=>h2 (Option.some.inj e).symm;have hk1:∀ b,b≠w.heap.size+1->b≠g->b<o6.heap.size->¬ K1 b:=λb h1 h2 h3 hk=>(hsub b hk).elim (hk0 b h1 h2) (by omega);have hcell:∀ b o v,w.heap.size<=b->b<o6.heap.size->b≠w.heap.size+1->b≠g->o6.cell? ⟨b,o,none⟩=some v->W.cell? ⟨b,o,none⟩=some v:=λb o v h0 h1 h2 h3 hc=>by
       rw [World.cell?_of_block (hf.block b h1 (cE.out b h0).1 (hk0 b h2 h3))];exact hc
      have c5:W.cell? ⟨wr.heap.size,1,none⟩=some (.int .i64 y.x.2.1):=hcell _ 1 _ py.out.g py.out.o.1 (by omega) (by omega) (aV (j:=1) py.out.o rfl);have c7:W.cell? ⟨w8.heap.size+1,0,none⟩=some (.slice ka qs.length kc):=hcell _ 0 _ pA.out.g pA.out.o.1 (by omega) (by omega) (aV (j:=0) pA.out.o rfl);have ct:=hcell _ j _ oX hok.1 hkb hkg hck;have n5:¬ K1 wr.heap.size:=hk1 _ (by omega) (by omega) py.out.o.1;have n7:¬ K1 (w8.heap.size+1):=hk1 _ (by omega) (by omega) pA.out.o.1;have nk:¬ K1 gk:=hk1 _ hkb hkg hok.1
      have HC:=hid (And.intro c5 (And.intro c7 (And.intro ct (And.intro n5 (And.intro n7 nk)))));have gA:=hid rt;clear hS hf hcell c5 c7 ct n5 n7 nk hk0 hk1 hck hok hkb hkg;have ml:V1.length<=16:=by
       have h1:=hpf.length_le;have h2:(bk hs 0).length=hs.length:=by simp [bk]
       rw [List.length_append] at h1;omega
      have HJk:=hid hjk;have S4:=hid Eg;have hji:(j:Int)<(qs.length:Int):=by omega
      have hov:y.x.2.1<=64:=by
       obtain ⟨L,h1,_,_,_,h2⟩:=iz.out.2;omega
      subst eka;clear ib Eg hjk hj hpf hA;unfold hv;refine wpIn_seq_k ?_;intro K8 E9;refine rO rfl (λ⟨_,_,h⟩=>h) ?_;go_wp2;refine rO rfl (λ⟨_,_,h⟩=>h) ?_;go_wp2;refine HS.out _ _ aH (λW2 db=>?_);obtain ⟨hd5,hd7,hdt,n5,n7,nk⟩:=HC.out;have c5:=db.cell hd5;have c7:=db.cell hd7;have ct:=db.cell hdt;have hs2:W2.heap.size=W.heap.size:=db.u.size
      have cS:Hid (MU M w.heap.size (w.heap.size+1) l (λz=>⟨qs.getD z.1 none,z.2,jq y.x z.1⟩) V1 K1 W2 vW):=hid ⟨db.own gA.out.o,dU gA.out.r λk e=>db.u.block k λe2=>tw (by rw [<-e2]; exact (gA.out.k k).2 (.inr e)),gA.out.k,gA.out.nb,gA.out.bb,gA.out.u⟩;have hi2:=hid (rk.upd db.u (cE.out l1 (by omega)).2);have ht2:=hid (zR pi db.u (by have:=df.out.z; omega));have cb:W2.drew.cell? ⟨w.heap.size+1,0,none⟩=some vW:=aV (j:=0) cS.out.o rfl;have hal:=al1 W2.drew (.cells (plA (qs.getD j none) (y.x.2.1+1) z) 95)
      have hwrap:IntKind.i64.wrap ((y.x.2.1:Int)+1)=((y.x.2.1+1:Nat):Int):=by rw [show (y.x.2.1:Int)+1=((y.x.2.1+1:Nat):Int) by omega]; exact IntWalk.i64_in _ (by omega)
      have hoa:Rg.Own (W2.drew.alloc (.cells (plA (qs.getD j none) (y.x.2.1+1) z) 95)) W2.heap.size (plA (qs.getD j none) (jq y.x j).2.1 z) 95:=by
       rw [LW HJk.out];exact Rg.Own.new W2.drew _ _
      have S5:=hid hoa;have hbl:w.heap.size+1<W2.heap.size:=cS.out.o.1;have S6:Hid (jV w.heap.size (W2.drew.alloc (.cells (plA (qs.getD j none) (y.x.2.1+1) z) 95)) vW (l++V1.map λz=>⟨qs.getD z.1 none,z.2,jq y.x z.1⟩)):=hid (dU (w:=W2.drew) cS.out.r λk e=>hal.block k (cS.out.r.lt k e).2);have o7:Hid (Rg.Own (W2.drew.alloc (.cells (plA (qs.getD j none) (y.x.2.1+1) z) 95)) (w.heap.size+1) #[vW] 151):=hid (Rg.Own.below (w:=W2.drew) cS.out.o hal)
      have hln:(l++V1.map λz=>(⟨qs.getD z.1 none,z.2,jq y.x z.1⟩:Pc)).length<=1000000:=by
       rw [List.length_append,List.length_map,HN.out];omega
      have hB3:w.heap.size<=(W2.drew.alloc (.cells (plA (qs.getD j none) (y.x.2.1+1) z) 95)).heap.size:=by
       have:=hal.size;have e:W2.drew.heap.size=W2.heap.size:=rfl;omega
      clear hoa hd5 hd7 hdt HS gA db;refine wpIn_block ?_;refine Yv (S:=λw'=>Bo2 K1 W2 w') (by kernel_rfl) rfl (λ⟨_,_,h⟩=>h) (Bo2.of aH.drew) (λhld=>?_);refine ah 1 ?_ (hy:=by intro wz hSw; (have hc:=Bo2.cell hSw c7 n7; go_simp <;> with_reducible rfl));try simp only [Act.put,ak]
      refine ah 2 ?_;try simp only [Act.put,ak]
      refine ah 3 ?_ (hy:=by intro wz hSw; (have q0:=hji; go_simp <;> with_reducible rfl));try simp only [Act.put,ak]
      refine ah 4 ?_ (hy:=by intro wz hSw; (refine aU (off:=j) (Bo2.cell hSw ct nk) ?_; exact ⟨_,rfl,rfl⟩));try simp only [Act.put,ak]
      refine ah 5 ?_;try simp only [Act.put,ak]
      refine ah 6 ?_ (hy:=by intro wz hSw; (have hc:=Bo2.cell hSw c5 n5; go_simp <;> with_reducible rfl));try simp only [Act.put,ak]
      refine ah 7 ?_ (hy:=by intro wz hSw; (have hw:=hwrap; go_simp <;> with_reducible rfl));try simp only [Act.put,ak]
      refine ah 8 ?_;try simp only [Act.put,ak]
      refine ah 9 ?_ (hy:=by intro wz hSw; (refine bV (UC (qs.getD j none) (y.x.2.1+1) z) ?_; exact ⟨_,rfl,rfl⟩));try simp only [Act.put,ak]
      refine wpAnyH_ready (rs:=[0,10]) (by kernel_rfl) (by simp) ?_;refine Rg.readyC (i:=0) rfl (λK hK=>?_) (Rg.readyL (i:=10) rfl (λK hK=>?_))
      .refine Rg.meet (by rfl) _ _ (yB (cb) ?_) ?_
       .exact ⟨_,rfl,rfl⟩
       refine hK.out _ _ (hld) λhld=>?_;clear hK K;try simp only [Act.put,ak]
       refine aj 10 λK hK=>?_;refine Rg.meet (by rfl) _ _ (xC (p:=qs.getD j none) (n:=y.x.2.1+1) (h:=z) _ rfl ?_) ?_
       .exact ⟨_,rfl,rfl⟩
       refine hK.out _ _ (Bo2.below (Bo2.of aH.drew) hal) λhld=>?_;clear hK K;try simp only [Act.put,ak]
       refine aj 11 λK hK=>?_;refine vJ ⟨qs.getD j none,z,jq y.x j⟩ (by rfl) ?_ S6.out S5.out hln hB3 ?_
       .exact ⟨_,_,rfl,rfl,rfl⟩
       intro v4 w4 hr4 hg4 hl4;refine hK.out _ _ (hld.grown hg4 (λk e=>(cS.out.k k).2 (.inr e))) λhld=>?_;clear hK K;try simp only [Act.put,ak]
       refine aj 12 λK hK=>?_;have gC:Rg.Own w4 (w.heap.size+1) #[vW] 151:=⟨aI o7.out.1 hg4.size,(hg4.block _ o7.out.1 (λe=>cS.out.nb e.symm)).trans o7.out.2⟩
       have hv4:∃ s n c,v4 = .slice s n c:=by obtain ⟨a,c,e⟩:=gY hr4; exact ⟨_,_,_,e⟩
       refine rT (by rfl) gC ?_ hv4 ?_
       .exact ⟨_,_,rfl,rfl,rfl⟩
       intro w5 J7 bd;refine hK.out _ _ (hld.upd bd ((cS.out.k _).2 (.inl rfl))) λhld=>?_;clear hK K;refine wpAnyH_done (by kernel_rfl) ?_ _;have hs3:W2.heap.size<=(W2.drew.alloc (.cells (plA (qs.getD j none) (y.x.2.1+1) z) 95)).heap.size:=hal.size;have hl5:v4.ownBlock=vW.ownBlock\/∃ k,W2.heap.size<=k/\v4.ownBlock=some k:=hl4.imp id λe=>⟨_,hs3,e⟩
       have hne:∀ k,v4.ownBlock=some k->k≠w.heap.size+1:=λk e e2=>by
        rcases hl5 with e3 | ⟨k',hk',e3⟩
        .exact cS.out.nb (by rw [<-e3,<-e2]; exact e)
        .rw [e3] at e;have:=Option.some.inj e;omega
       exact GK cS.out hi2.out ht2.out df.out.z (by omega) hld J7 (dU hr4 λk e=>bd.block k (hne k e)) hl5
      .refine Rg.meet (by rfl) _ _ (xC (p:=qs.getD j none) (n:=y.x.2.1+1) (h:=z) _ rfl ?_) ?_
       .exact ⟨_,rfl,rfl⟩
       refine hK.out _ _ (Bo2.below (Bo2.of aH.drew) hal) λhld=>?_;clear hK K;try simp only [Act.put,ak]
       refine aj 0 λK hK=>?_;refine Rg.meet (by rfl) _ _ (yB (aW hal cb) ?_) ?_
       .exact ⟨_,rfl,rfl⟩
       refine hK.out _ _ (hld) λhld=>?_;clear hK K;try simp only [Act.put,ak]
       refine aj 11 λK hK=>?_;refine vJ ⟨qs.getD j none,z,jq y.x j⟩ (by rfl) ?_ S6.out S5.out hln hB3 ?_
       .exact ⟨_,_,rfl,rfl,rfl⟩
       intro v4 w4 hr4 hg4 hl4;refine hK.out _ _ (hld.grown hg4 (λk e=>(cS.out.k k).2 (.inr e))) λhld=>?_;clear hK K;try simp only [Act.put,ak]
       refine aj 12 λK hK=>?_;have gC:Rg.Own w4 (w.heap.size+1) #[vW] 151:=⟨aI o7.out.1 hg4.size,(hg4.block _ o7.out.1 (λe=>cS.out.nb e.symm)).trans o7.out.2⟩
       have hv4:∃ s n c,v4 = .slice s n c:=by obtain ⟨a,c,e⟩:=gY hr4; exact ⟨_,_,_,e⟩
       refine rT (by rfl) gC ?_ hv4 ?_
       .exact ⟨_,_,rfl,rfl,rfl⟩
       intro w5 J7 bd;refine hK.out _ _ (hld.upd bd ((cS.out.k _).2 (.inl rfl))) λhld=>?_;clear hK K;refine wpAnyH_done (by kernel_rfl) ?_ _;have hs3:W2.heap.size<=(W2.drew.alloc (.cells (plA (qs.getD j none) (y.x.2.1+1) z) 95)).heap.size:=hal.size;have hl5:v4.ownBlock=vW.ownBlock\/∃ k,W2.heap.size<=k/\v4.ownBlock=some k:=hl4.imp id λe=>⟨_,hs3,e⟩
       have hne:∀ k,v4.ownBlock=some k->k≠w.heap.size+1:=λk e e2=>by
        rcases hl5 with e3 | ⟨k',hk',e3⟩
        .exact cS.out.nb (by rw [<-e3,<-e2]; exact e)
        .rw [e3] at e;have:=Option.some.inj e;omega
       exact GK cS.out hi2.out ht2.out df.out.z (by omega) hld J7 (dU hr4 λk e=>bd.block k (hne k e)) hl5
    .refine ⟨_,rfl,vR rfl (by rintro ⟨_,_,⟨⟨_,h⟩,_⟩⟩; cases h) ?_⟩;have di:Mv w K ag (λ_=>False) eL:=Zf cE.out h11;have km:Mv w K w7 K' eL:=Zv cE.out pr.out cn.out h11 tz.out;have J8:∀ D∈Ds,w.heap.size<=D/\eL.heap[D]? = some (.deferred (some []))/\¬ K' D:=λD hD=>by
      obtain ⟨h1,h2,h3⟩:=fY.out.dm D hD;have hl:=(Array.getElem?_eq_some_iff.1 h2).1;exact ⟨h1,(km.bl D h1 hl h3).trans h2,km.not hl h3⟩
     have bj:Hid (Gd M J Js (goL I t 0 []) K0 w (.returned (.tuple #[])) (shut eL Ds)):=hid (Hz HJ.out RK.out (.inr ⟨J1.out,h11.j⟩) (dE.out.f.trans h11.f dE.out.sub) h11.i h11.t (λk hk=>(km.sub k hk).elim (fY.out.sub k) (λh=>.inr (Nat.le_trans fY.out.f.size h))) cE.out dE.out.z J8 _);have HD:=hid (And.intro dE.out.dn J8);clear di km h11 J0 fY pr tz dE tD pw me ja pv tA cn J8;go_wp2;refine nT Ds eL HD.out.1 (λD hD=>(HD.out.2 D hD).2.1) ⟨_,results_none rfl _ _ _,bj.out⟩
   .have hI':I y.x.2.2=false:=by
     cases h:I y.x.2.2 with
     | true=>exact absurd h hI
     | false=>rfl
    rw [hI'];have HE7:Hid (V++jU I (l.map (·.x))=goL I t 0 []/\nJ (l.map (·.x))<=200000):=hid (by
     have h1:=HE.out;rw [dr.out,KM _ hI',List.map_append] at h1;exact ⟨h1.1,by have:=EL (l.map (·.x)) y.x; have h2:nJ (l.map (·.x)++[y.x])<=200000:=h1.2; omega⟩)
    have cM:Hid (ze M (w.heap.size+1) w7<ze M (w.heap.size+1) wr):=hid (by
     have hr:=Cx fY.out.ob fY.out.row (λz hz=>(fY.out.ok z hz).1);rw [hr,RT.out,List.map_append];exact EL _ _)
    clear IT we hI HE HG iz;go_wp2;refine ⟨?_,cM.out⟩;rw [pm.out];refine ⟨Ds,_,l,V,K,fY,HE7,?_⟩
    (repeat apply Exists.intro)
    rfl
def PBk (h:Hdl) (k:Nat):Prop:=∃ ad,h.1=some ad/\0<h.2.1/\k=ad.block
theorem BsP.blk {p:Nat->Prop} {w:World} {h:Hdl} {l:aM} (g:BsP p w h l):BsP (λb=>p b/\PBk h b) w h l:=⟨g.1,λad e hn=>⟨g.2 ad e hn,ad,e,hn,rfl⟩⟩
structure NdG (M:Mp) (B bx:Nat) (z:List Nz) (K:Nat->Prop) (w:World) (v:Value):Prop where
 o:Rg.Own w bx #[v] 65
 r:yU B w v z
 k:∀ k,K k↔(k=bx\/v.ownBlock=some k)\/∃ y∈z,PBk y.2 k
 nb:v.ownBlock≠some bx
 bb:B<=bx
 u:∀ k,B<=k->M.at_ k=none/\¬ M.ft k
 hb:∀ y∈z,y.1.ks.length=16/\BsP (λb=>B<=b/\b≠bx/\v.ownBlock≠some b) w y.2 y.1.p
theorem NdG.keep {M:Mp} {B:Nat} {z:List Nz} {K:Nat->Prop} {w w':World} (h:NdG M B bx z K w v) (hs:w.heap.size<=w'.heap.size) (hk:∀ k,K k->w'.heap[k]? = w.heap[k]?):NdG M B bx z K w' v :=
 ⟨⟨aI h.o.1 hs,(hk bx ((h.k bx).2 (.inl (.inl rfl)))).trans h.o.2⟩,dU h.r λk e=>hk k ((h.k k).2 (.inl (.inr e))),h.k,h.nb,h.bb,h.u,λy hy=>⟨(h.hb y hy).1,((h.hb y hy).2.blk.kept hs λb hp _=>hk b ((h.k b).2 (.inr ⟨y,hy,hp.2⟩))).to λ_ _ hp=>hp.1⟩⟩
theorem NdG.lt {M:Mp} {B bx:Nat} {z:List Nz} {K:Nat->Prop} {w:World} {v:Value} (h:NdG M B bx z K w v):∀ k,K k->k<w.heap.size/\M.at_ k=none/\¬ M.ft k:=λk hk=>by
 rcases (h.k k).1 hk with (rfl | e) | ⟨y,hy,ad,e,hn,rfl⟩
 .exact ⟨h.o.1,h.u k h.bb⟩
 .exact ⟨(h.r.lt k e).2,h.u k (h.r.lt k e).1⟩
 .exact ⟨(BsP.old (h.hb y hy).2.1).2 ad e hn,h.u _ ((h.hb y hy).2.2 ad e hn).1⟩
theorem NdG.nds {M:Mp} {B:Nat} {z:List Nz} {K:Nat->Prop} {w:World} (h:NdG M B bx z K w v):∃ a c,v = .slice a z.length c/\mZ w a z.length c (z.map Prod.fst):=by
 rcases h.r.2 with ⟨rfl,h0⟩ | ⟨g,cap,cur,rfl,hbg,hg,hnc,hcm,hcs,htake⟩
 .have:z=[]:=List.length_eq_zero_iff.1 h0;subst this;exact ⟨none,0,rfl,mZ.nil _⟩
 .refine ⟨_,_,rfl,hnc,hcm,λe=>(by cases e),z,rfl,rfl,λp hm=>⟨(h.hb p hm).1,(h.hb p hm).2.1⟩,λj hj=>⟨g,0,rfl,(Array.getElem?_eq_some_iff.1 hg).1,λi u hu=>?_⟩⟩;have hall:∀ p∈z,p.1.ks.length=16:=λp hm=>(h.hb p hm).1;have sC:i<19:=by
   have:=(List.getElem?_eq_some_iff.1 hu).1;rwa [pI (hall _ (iy hj))] at this
  have:=h.r.cells (g:=g) rfl (j*19+i) u (by rw [zQ z hall j i hj sC]; exact hu);rw [Addr.add_mid] at this;rw [Nat.add_assoc];exact this
def ZB (M:Mp) (B bx:Nat) (V:List Pl) (K:Nat->Prop) (w:World):Prop:=∃ z v,z.map Prod.fst=Dy V/\NdG M B bx z K w v
theorem SK (M:Mp) (B bx:Nat):Sta M (ZB M B bx):=⟨λ_ _ _ _ ⟨z,v,e,h⟩ hs hk=>⟨z,v,e,h.keep hs hk⟩,λ_ _ _ ⟨_,_,_,h⟩=>h.lt⟩
theorem Uy {M:Mp} {B:Nat} {z:List Nz} {K:Nat->Prop} {w w5:World} {v':Value} {N:Nd} {h:Hdl} (hI:NdG M B bx z K w v) (hi:Inv M w) (ht:Tab w) (hz:0<B) (hb:Bo2 (λk=>k=bx\/v.ownBlock=some k) w w5)
  (ho:Rg.Own w5 bx #[v'] 65) (hr:yU B w5 v' (z++[(N,h)])) (hl:v'.ownBlock=v.ownBlock\/∃ k,w.heap.size<=k/\v'.ownBlock=some k) (hN:N.ks.length=16) (hp:BsP (λb=>B<=b/\b≠bx/\v.ownBlock≠some b) w h N.p) :
  ∃ K',NdG M B bx (z++[(N,h)]) K' w5 v'/\(∀ k,K' k->K k\/w.heap.size<=k\/PBk h k)/\FrK M K w w5/\Inv M w5/\Tab w5:=by
 have hup:∀ (q:Hdl) (l:aM),BsP (λb=>B<=b/\b≠bx/\v.ownBlock≠some b) w q l->BsP (λb=>B<=b/\b≠bx/\v'.ownBlock≠some b) w5 q l:=λq l g=>by
  have g2:BsP (λb=>(B<=b/\b≠bx/\v.ownBlock≠some b)/\b<w.heap.size) w q l:=g.to λb hlt hp=>⟨hp,hlt⟩
  refine (g2.kept hb.size λb hp hlt=>hb.block b hlt λe=>e.elim hp.1.2.1 hp.1.2.2).to λb _ hp=>⟨hp.1.1,hp.1.2.1,λe=>?_⟩
  rcases hl with e2 | ⟨k,hk,e2⟩
  .exact hp.1.2.2 (by rw [<-e2]; exact e)
  .rw [e2] at e;have:=Option.some.inj e;have:=hp.2;omega
 refine ⟨λk=>(k=bx\/v'.ownBlock=some k)\/∃ y∈z++[(N,h)],PBk y.2 k,⟨ho,hr,λk=>Iff.rfl,λe=>?_,hI.bb,hI.u,λy hy=>?_⟩,λk hk=>?_,⟨hb.os,hb.tape,hb.output,hb.size,λk hk _ hn=>hb.block k hk λe=>hn ((hI.k k).2 (.inl e))⟩,hi.keep hb.size λk hk=>hb.block k (hi.lt_ k hk) λg=>?_,λj hj=>?_⟩
 .rcases hl with e2 | ⟨k,hk,e2⟩
  .exact hI.nb (by rw [<-e2]; exact e)
  .rw [e2] at e;have:=Option.some.inj e;have:=hI.o.1;omega
 .rcases List.mem_append.1 hy with hy | hy
  .exact ⟨(hI.hb y hy).1,hup _ _ (hI.hb y hy).2⟩
  .obtain rfl:=List.mem_singleton.1 hy;exact ⟨hN,hup _ _ hp⟩
 .rcases hk with (rfl | e) | ⟨y,hy,hq⟩
  .exact .inl ((hI.k _).2 (.inl (.inl rfl)))
  .rcases hl with e2 | ⟨k',hk,e2⟩
   .exact .inl ((hI.k _).2 (.inl (.inr (by rw [<-e2]; exact e))))
   .rw [e2] at e;have:=Option.some.inj e;exact .inr (.inl (by omega))
  .rcases List.mem_append.1 hy with hy | hy
   .exact .inl ((hI.k _).2 (.inr ⟨y,hy,hq⟩))
   .obtain rfl:=List.mem_singleton.1 hy;exact .inr (.inr hq)
 .rcases g with rfl | e
  .exact (hI.u _ hI.bb).2 hk
  .exact (hI.u k (hI.r.lt k e).1).2 hk
 .have hlt:0<w.heap.size:=aI hz (Nat.le_trans hI.bb (Nat.le_of_lt hI.o.1));have hnk:¬ (0=bx\/v.ownBlock=some 0):=λg=>by
   rcases g with e | e
   .have:=hI.bb; omega
   .have:=(hI.r.lt _ e).1; omega
  rw [World.cell?_of_block (hb.block 0 hlt hnk)];exact ht j hj
theorem Vg (k:aM):Nib (cZ k):=λc hc=>by
 have h:=Ai k;unfold dh at h;have:=List.all_eq_true.1 h c hc;have:=of_decide_eq_true this;omega
def Ya (M:Mp) (w:World) (l:List Nd) (e:Ending) (w':World):Prop:=∃ a n c,e = .returned (.slice a n c)/\mZ w' a n c l/\Fr M M w w'/\Inv M w'/\Tab w'
theorem Oo (M:Mp) (p:aK) (t:T) (k:aM) (hk:k.length=32) (hg:Tr.Good t 64) (hf:Fine t) (hc:jO t<=200000) (w:World) (hi:Inv M w) (ht:IsT M p t) (hT:Tab w) :
  Calls prog 27 #[tv p,.agg (kc k)] w (Ya M w (bD t (cZ k))):=by
 have hout:∀ k,w.heap.size<=k->M.at_ k=none/\¬ M.ft k:=λk hk=>⟨hi.out hk,hi.free hk⟩
 have BB:Nib (cZ k):=λc hc=>by
  have h:=Ai k;unfold dh at h;have:=List.all_eq_true.1 h c hc;have:=of_decide_eq_true this;omega
 obtain ⟨w1,hw1⟩:=au ((w.alloc (.cells #[.pointer p] 35)).alloc (.cells (kc k) 24))
 have hb1:Below w.heap.size w w1:=by rw [hw1]; exact al2 _ _ _
 have hs1:w1.heap.size=w.heap.size+2:=by rw [hw1]; simp
 have hT1:Rg.Own w1 w.heap.size #[.pointer p] 35:=by
  have:=(Rg.Own.new w #[.pointer p] 35).below (al1 _ (.cells (kc k) 24));rw [hw1];exact this
 have hK1:Rg.Own w1 (w.heap.size+1) (kc k) 24:=by
  have:=Rg.Own.new (w.alloc (.cells #[.pointer p] 35)) (kc k) 24;rw [hw1];simpa using this
 have HW1:=hid hw1;have HB1:=hid hb1;have ke:=hid hs1;have HT1:=hid hT1;have cE:=hid hout;have HI:=hid hi;have HT:=hid hT;have rv:=hid hK1;have cm:=hid hk;have eR:=hid (Tp k hk w1);have j6:=hid (jd k hk);have S7:=hid (Wo t 0 [] (cZ k) BB);have p7:Hid ((goL (leads (cZ k)) t 0 []).length<=200000):=hid (Nat.le_trans (Kl (leads (cZ k)) t 0 []) hc);obtain ⟨P,S8⟩:=ay (cZ k)
 rw [S8] at eR j6 S7 p7 ⊢;have HGo:=hid (λg0 gi bp=>Rn M g0 gi 48 #[.pointer (some ⟨bp,0,none⟩)] p t (leads P) (enters_of func48 (by kernel_rfl) rfl) hg hf hc ht);obtain ⟨C,hC⟩:=ay (kc k)
 have HC:=hid hC;rw [hC] at hw1 HW1 rv eR ⊢;have di:∀ (fn:Fn) (first cap:aN) (w:World),(Instr.makeFunc fn first cap).run prog w = .ok (.func fn first cap) w:=λ_ _ _ _=>rfl;clear hC hb1 hs1 hT1 hw1 hout hi hT hg hf hc ht hK1 hk BB S8;refine yx func27 rfl ?_;simp only [ntmps27,List.size_toArray,List.length_cons,List.length_nil,Nat.reduceAdd,Nat.reduceSub,Array.replicate_succ,Array.replicate_zero,List.push_toArray,List.append_toArray,List.nil_append,List.cons_append];go_wp2_with (first
  | ((try rw [<-HW1.out]); refine Rg.run rfl (.agg C) _ (by rw [<-HC.out]; exact dL cm.out (by rw [HC.out]; exact rv.out.2) ⟨_,rfl,rfl⟩) ?_))
 refine eR.out.mono ?_;rintro e w2 ⟨r,rfl,hr,hb2⟩;obtain ⟨w3,hw3⟩:=au (w2.alloc (.cells #[.slice r.1 r.2.1 r.2.2] 40))
 have eV:=al1 w2 (.cells #[.slice r.1 r.2.1 r.2.2] 40);have hO3:=Rg.Own.new w2 #[.slice r.1 r.2.1 r.2.2] 40;rw [<-hw3] at eV hO3;obtain ⟨w4,hw4⟩:=au (w3.alloc (.cells #[.slice none 0 0] 65))
 have cR:=al1 w3 (.cells #[.slice none 0 0] 65);have hO4:=Rg.Own.new w3 #[.slice none 0 0] 65;rw [<-hw4] at cR hO4;rw [show w3.heap.size=w2.heap.size+1 by rw [hw3]; simp] at hO4;have eS:=bst (bst hb2 eV) cR;have hc4:w4.cell? ⟨w.heap.size,0,none⟩=some (.pointer p):=aV (j:=0) (HT1.out.below eS) rfl;have hr4:BsP (λb=>w1.heap.size<=b/\b<w2.heap.size) w4 r P:=by
  have h2:BsP (λb=>w1.heap.size<=b/\b<w2.heap.size) w2 r P:=hr.to λb hl hp=>⟨hp,hl⟩
  have fm:=bst eV cR;exact h2.kept fm.size λb _ hl=>fm.block b hl
 have HW3:=hid hw3;have HW4:=hid hw4;have HR4:=hid hr4;have J9:=hid (hO3.below cR);have b8:=hid hO4;have Jn:=hid (bst HB1.out eS);have fa:Hid (w1.heap.size<=w2.heap.size/\w2.heap.size<w2.heap.size+1/\w2.heap.size+1<w4.heap.size):=hid ⟨hb2.size,Nat.lt_succ_self _,hO4.1⟩;clear hr hb2 eV hO3 cR hO4 eS hr4 hw3 hw4;go_wp2_with (first
  | ((try rw [<-HW3.out]); (try rw [<-HW4.out]); refine aA (aU hc4 ⟨_,rfl,rfl⟩) ?_))
 refine (Pt p w4).mono ?_;rintro e w5 ⟨rfl,h5,hb5⟩;have bh:=hid h5;have ae:=hid hb5;clear h5 hb5 hc4;go_wp2_with fail
 refine (Li (.func (Fn.func 48) #[] #[.pointer (some ⟨w2.heap.size,0,none⟩)]) w4.heap.size w5 rfl).mono ?_;rintro e w6 ⟨rfl,h6,hb6⟩;have cf:=hid h6;have ap:=hid hb6;have iS:=bst ae.out hb6;have HB46:=hid iS;have dg:=hid (bst Jn.out iS);have Jx:=hid (b8.out.below iS);have JP:=hid (J9.out.below iS);have el:Hid (BsP (λb=>w1.heap.size<=b/\b<w2.heap.size) w6 r P):=hid (HR4.out.kept iS.size λb _ hl=>iS.block b hl);clear h6 hb6 iS;go_wp2_with fail
 refine QM (gf:=85) (lb:=#[.pointer (some ⟨w4.heap.size,0,none⟩),.pointer (some ⟨w5.heap.size,0,none⟩)]) (K0:=λk=>k=w2.heap.size+1) rfl (enters_of func85 (by kernel_rfl) rfl) (HGo.out _ _ w2.heap.size) (λx W args h=>by rw [Sr h]; rfl) ?pre (HI.out.below dg.out) (HT.out.below dg.out HT.out.pos) (SK M w.heap.size (w2.heap.size+1)) (Ix:=λ_ _ _ _=>False) (λ_=>SG M) ?start ?round ?done ?stop
 case pre =>
  intro W1 K1 hb hK;obtain ⟨z1,z2,z3⟩:=fa.out;have z0:=ke.out;have z5:w4.heap.size<w5.heap.size:=bh.out.1;have z6:w5.heap.size<w6.heap.size:=cf.out.1;have hKn:∀ b,b<w6.heap.size->b≠w2.heap.size+1->¬ K1 b:=λb h1 h2 h3=>(hK b h3).elim h2 (by omega);have hq:BsP (λb=>M.at_ b=none/\¬ K1 b) W1 r P:=by
   exact (el.out.kept hb.size λb _ hl=>hb.block b hl).to λb _ hp=>⟨(cE.out b (by omega)).1,hKn b (by omega) (by omega)⟩
  refine ⟨aV (j:=0) ((bh.out.below ap.out).below hb) rfl,aV (j:=0) (cf.out.below hb) rfl,(cE.out _ (by omega)).1,hKn _ (by omega) (by omega),λwr f pp o h a ha hl=>?_⟩;exact OU w2.heap.size r P j6.out wr (aV (j:=0) (Xp f (JP.out.below hb) ⟨(cE.out _ (by omega)).1,hKn _ (by omega) (by omega)⟩) rfl) (hq.kept f.size λb hp hl=>f.block b hl hp.1 hp.2).1 pp o h a ha hl
 case start=>exact ⟨[],.slice none 0 0,rfl,Jx.out,World.ownsRow_nil _ _ _ _,λk=>by simp [Value.ownBlock],by simp [Value.ownBlock],by have:=fa.out; have:=ke.out; omega,cE.out,λ_ h=>by cases h⟩
 case stop =>
  intro c V K W _ h;exact h.elim
 case done =>
  rintro K Wd ⟨z,v,hz,hJ⟩ rf hjd htd hsd By vf;obtain ⟨z1,z2,z3⟩:=fa.out;have z0:=ke.out;have S9:=WY dg.out rf hjd htd HI.out HT.out.pos (λk hk=>by omega) dg.out.size;have hcd:=aV (j:=0) hJ.o rfl;have HD:=hid By;have HF:=hid S9;have hN:=(hJ.keep (w':=shut Wd [w6.heap.size]) (by rw [ug]; exact aG) λk hk=>rD [w6.heap.size] Wd k λe=>vf (by rw [<-List.mem_singleton.1 e]; exact hk)).nds;obtain ⟨av,cv,rfl,hN⟩:=hN
  have HNs:=hid (show mZ (shut Wd [w6.heap.size]) av z.length cv (bD t P) by rw [<-show z.map Prod.fst=bD t P from hz.trans S7.out]; exact hN);clear hJ rf hjd htd hsd By S9 vf hz hN z1 z2 z3 z0;simp only [Exit.inBlock];go_wp2;exact Lv HD.out ⟨_,results_tmp (t:=4) rfl _ _ _,av,_,cv,rfl,HNs.out,HF.out⟩
 case round =>
  rintro l V K x args W S hl hlW tw ⟨z,v,hz,hI⟩ kl JS rk pi hpf ⟨pp,hh,na,nn,nc,rfl,htp,hbW,hbN,hok⟩ hgv hS;have HS:=hid hS;have HZ:=hid hz;have hVn:z.length<=1000000:=by
   have h1:=hpf.length_le;have h2:=p7.out;have h3:=congrArg List.length hz;have h4:(Dy V).length<=V.length:=by unfold Dy; rw [List.length_map]; exact List.length_filter_le _ _
   rw [List.length_append] at h1;rw [List.length_map] at h3;omega
  have hsz:=dg.out.size;have Sa:Hid (BsP (λb=>(w.heap.size<=b/\b≠w2.heap.size+1/\v.ownBlock≠some b)/\b≠l/\b<W.heap.size) W (na,nn,nc) (bC x.1).p):=hid ⟨hbN,λad e hn=>by
   have e':na=some ad:=e;subst e';obtain ⟨q1,q2,q3,q4⟩:=hgv ad.block (RD hn);exact ⟨⟨by omega,λe2=>q4 ((hI.k _).2 (.inl (.inl e2))),λe2=>q4 ((hI.k _).2 (.inl (.inr e2)))⟩,q3,q2⟩⟩
  clear kl JS hpf hS hz hbW hbN htp hok hgv hsz;rw [Zz];simp only [List.setIfInBounds_toArray,List.set_cons_zero,List.set_cons_succ];have eV:=al1 W (.cells (ndC nd0 none 0 0) 69);have EQ:=hid (Rg.Own.new W (ndC nd0 none 0 0) 69);have cU:=hid (cu x.1);obtain ⟨N,hN⟩:=ay (bC x.1)
  have rp:=hid hN;rw [hN] at cU Sa ⊢;clear hN;refine rO rfl (λ⟨_,_,h⟩=>h) ?_;go_wp2_with (first
   | (refine aA (aY _ _ _ W.heap.size rfl rfl) ?_)
   | (refine dB EQ.out gq N na nn nc cU.out rfl _ _ rfl rfl rfl rfl ?_; intro W3 hO hu; have r8:=hid hO; have HB3:=hid (hu.below eV aG); clear hO hu))
  refine HS.out _ _ HB3.out (λW5 fl=>?_);have gO:=hid (fl.own r8.out);have hs5:W5.heap.size=W3.heap.size:=fl.u.size;obtain ⟨z1,z2,z3⟩:=fa.out;have z0:=ke.out;have z6:=dg.out.size;have hzz:=HT.out.pos;have JS:=HB3.out.size;have ky:=hid ((rk.below HB3.out).upd fl.u (cE.out l (by omega)).2);have BC:=hid (zR (pi.below HB3.out pi.pos) fl.u (by omega));have rt:=hI.keep (w':=W5) (by omega) (λk hk=>(fl.u.block k λe=>tw (by rw [<-e]; exact hk)).trans (HB3.out.block k (hI.lt k hk).1));have gA:=hid rt
  have HbN:Hid (BsP (λb=>w.heap.size<=b/\b≠w2.heap.size+1/\v.ownBlock≠some b) W5 (na,nn,nc) N.p):=hid (((Sa.out.kept JS λb _ hl=>HB3.out.block b hl).kept (by omega) λb hp _=>fl.u.block b hp.2.1).to λ_ _ hp=>hp.1);have hcb:W5.cell? ⟨w2.heap.size+1,0,none⟩=some v:=aV (j:=0) rt.o rfl;have ed:w.heap.size<=W5.heap.size:=Nat.le_trans rt.bb (Nat.le_of_lt rt.o.1);have hck:W5.cell? ⟨W.heap.size,0,none⟩=some (.int .i64 N.kd):=aV (j:=0) gO.out rfl;obtain ⟨av,cv,rfl⟩:=gY rt.r;clear HS rk pi hI fl rt eV z1 z2 z3 z0 z6;refine wpIn_block ?_
  refine wpIn_seq_k ?_;intro K9 hK9;refine rO rfl (λ⟨_,_,h⟩=>h) ?_;by_cases hx:isNode x.1=true
  .have hkd:(N.kd != 0)=true:=by
    rw [<-rp.out];have:(bC x.1).kd≠0:=λe=>by rw [MO.1 e] at hx; cases hx
    simp [this]
   have HX:=hid hx;have mm:=al1 W5 (.cells (ndC N na nn nc) 69);have dl:=hid (Rg.Own.new W5 (ndC N na nn nc) 69);have cM:Hid (yU w.heap.size (W5.alloc (.cells (ndC N na nn nc) 69)) (.slice av z.length cv) z):=hid (dU gA.out.r λk e=>mm.block k (gA.out.r.lt k e).2);have o7:=hid (gA.out.o.below mm);have cT:=hid mm;have ss:w.heap.size<=(W5.alloc (.cells (ndC N na nn nc) 69)).heap.size:=Nat.le_trans ed mm.size;clear mm hx;go_wp2;refine wpIn_cond_true rfl ?_;refine rO rfl (λ⟨_,_,h⟩=>h) ?_;go_wp2_with (first
    | (refine aA (bU gO.out cU.out ⟨_,rfl,rfl⟩) ?_)
    | (refine aA (JD hcb ⟨_,rfl,rfl⟩) ?_)
    | (refine aA (EK (h:=(na,nn,nc)) cU.out W5.heap.size rfl ⟨_,rfl,rfl⟩) ?_)
    | (refine GZ (h:=(na,nn,nc)) cM.out dl.out cU.out hVn ss rfl ⟨_,_,rfl,rfl,rfl⟩ ?_; intro v4 Se hr4 hg4 hl4; have gC:Rg.Own Se (w2.heap.size+1) #[.slice av z.length cv] 65:=⟨aI o7.out.1 hg4.size,(hg4.block _ o7.out.1 (λe=>gA.out.nb e.symm)).trans o7.out.2⟩; have JT:=hid hr4; have y8:=hid hg4; have DQ:=hid hl4; obtain ⟨s4,c4,e4⟩:=gY hr4; obtain ⟨n4,Sf⟩:=ay ((z++[(N,(na,nn,nc))]).length); rw [Sf] at e4; subst e4; clear Sf; have K4:=hid gC; have c4b:=aV (j:=0) gC rfl; have z4b:=gV (j:=0) gC; clear hr4 hg4 hl4 gC))
   have K5:=hid (dx (o:=0) K4.out (Value.slice s4 n4 c4));have pC:=hid (bO Se (w2.heap.size+1) 0 (Value.slice s4 n4 c4));have hs3:=cT.out.size;have hl5:(Value.slice s4 n4 c4).ownBlock=(Value.slice av z.length cv).ownBlock\/∃ k,W5.heap.size<=k/\(Value.slice s4 n4 c4).ownBlock=some k:=DQ.out.imp id λe=>⟨_,hs3,e⟩
   have hne:∀ k,(Value.slice s4 n4 c4).ownBlock=some k->k≠w2.heap.size+1:=λk e e2=>by
    rcases hl5 with e3 | ⟨k',hk',e3⟩
    .exact gA.out.nb (by rw [<-e3,<-e2]; exact e)
    .rw [e3] at e;have:=Option.some.inj e;have:=gA.out.o.1;omega
   have hbo:Bo2 (λk=>k=w2.heap.size+1\/(Value.slice av z.length cv).ownBlock=some k) W5 _:=(((Bo2.of aH).below cT.out).grown y8.out (λk e=>.inr e)).upd pC.out (.inl rfl);obtain ⟨K',h1,h2,h2f,h3,h4⟩:=Uy gA.out ky.out BC.out HT.out.pos hbo K5.out (dU JT.out λk e=>pC.out.block k (hne k e)) hl5 cU.out HbN.out;refine ⟨K',⟨_,_,by rw [List.map_append,HZ.out,AJ,if_pos HX.out,rp.out]; rfl,h1⟩,λk hk=>(h2 k hk).imp id λh=>h.elim (λh=>.inl (by omega)) λ⟨ad,e,hn,e2⟩=>.inr ?_,h2f,h3,h4⟩;have e':na=some ad:=e;subst e'
   rw [e2];exact RD hn
  .have hkd:(N.kd != 0)=false:=by
    rw [<-rp.out];have:(bC x.1).kd=0:=MO.2 (by cases e:isNode x.1 with
     | true=>exact absurd e hx
     | false=>rfl)
    simp [this]
   have HX:=hid hx;clear hx;go_wp2;refine wpIn_cond_false rfl ?_;refine wpIn_skip ?_;exact ⟨K,⟨z,_,by rw [HZ.out,AJ,if_neg HX.out,List.append_nil],gA.out⟩,λk hk=>.inl hk,FrK.refl _ _ _,ky.out,BC.out⟩
end Tm
end
section
open Go.RowKit
namespace Tm
open Tr Ni Pk Ky No
open Rl (Ay rC oW)
def Jz (w:World) (b o:Nat) (N:Nd) (h:Hdl):Prop:=w.rangeAt b o (ndL N h)
theorem Jz.below {w w':World} {b o:Nat} {N:Nd} {h:Hdl} (g:Jz w b o N h) (hb:Below w.heap.size w w'):Jz w' b o N h:=λj v hv=>aW hb (g j v hv)
theorem yD {o:Oper} {w:World} {b off:Nat} {N:Nd} {h:Hdl} (hl:N.ks.length=16) (g:Jz w b off N h) (ho:∃ y,o.op = .load 69 y/\ev y = .pointer (some ⟨b,off,none⟩)) :
  (execOp ev o).run prog w = .ok (.value (.agg (ndC N h.1 h.2.1 h.2.2))) w:=by
 obtain ⟨y,ho,hx⟩:=ho;have hl2:=run_loadAt_mid (P:=prog) w b off 69 (ndL N h) _ g underlying69 rfl (by rw [pI hl]; exact EI);unfold execOp;simp only [ho,hx,Sem.run_bind,Sem.run_pure,Result.andThen_ok,hl2];rfl
end Tm
end
section
open Go.RowKit
namespace Tm
open Tr Ni Pk Ky No Rf Rl
theorem Gl (l:List Tr.In) (ok:Ok 64 l) (f:qx l) (a:aK) (n c:Nat) (w:World) (h:iq w a n c l) (hn:n<=1000) (q:Pa) (hq:Nib q) (fN:q.length=64) (d:aK) (k:Nat) (nz:aZ w d 64 k q) :
  Calls prog 12 #[.slice a n c,.slice d 64 k] w (CV w (jI (bD (build 64 l) q))):=by
 obtain ⟨i0,hi,hz0,hz1,hz2⟩:=fP;have HI:Hid (_/\_/\_/\_):=hid ⟨hi,hz0,hz1,hz2⟩;have HP:=hid (KF 64 aG l ok f a n c w h hn q hq fN d k nz);have hal:=at_len (build 64 l) 64 q (jc 64 l ok);rw [fN] at hal;have HM:Hid (∀ N∈bD (build 64 l) q,fq bP N=true):=hid (λN hN=>by
  obtain ⟨s,K,rfl,_,h1,h2,h3,h4,h5⟩:=sS _ 64 q (jc 64 l ok) aG (rA 64 l f) N hN;exact (iF h4 h3 h5 h1 h2).1)
 obtain ⟨Z,hZ⟩:=ay (bD (build 64 l) q)
 rw [hZ] at HP hal HM ⊢;clear hi hz0 hz1 hz2 h nz hZ ok f hq fN;go_enter func12,ntmps12;go_wp2_with fail
 refine HP.out.mono ?_;rintro e w1 ⟨b1,m,c1,rfl,hz,hb1⟩;have HZ:=hid hz;have HB1:=hid hb1;have hl:=hz.len;have HL:=hid hl;have hnc:=hz.1;have hcm:=hz.2.1;unfold maxLen at hcm;have K6:m<=65:=by omega
 have hs1:=hb1.size;clear hz hb1 HP hl hal;go_wp2;go_loopw [6,7] (λv i wr=>∃ j:Nat,j<=m/\i = .int .i64 j/\Hid (wr.ownsRow w1.heap.size 9 1 v (jI (Z.take j)).length ((jI (Z.take j)).map Value.string))/\Hid (Below w1.heap.size w1 wr)) (λ_ i _=>m-(intOf i).toNat)
 case atStart=>exact ⟨0,Nat.zero_le _,rfl,hid (World.ownsRow_nil _ _ _ _),hid aH⟩
 case round =>
  obtain ⟨j,hj,rfl,HR,HB⟩:=hrel;by_cases hlt:j<m
  .have HS:=hid (GJ Z (j:=j) (by rw [HL.out]; exact hlt));have hbl:=Gi (Z.take j);rw [List.length_take] at hbl;obtain ⟨bz,oz,gz,rfl,hbz,hpz,hkz,mr⟩:=HZ.out.at' j hlt;have hji:(j:Int)<m:=by omega
   have tI:Hid (Jz wr bz (oz+j*19) (Z.getD j nd0) gz):=hid (Jz.below hpz HB.out);have pD:=hid hkz;have hmem:Z.getD j nd0∈Z:=iy (by rw [HL.out]; exact hlt);have gp:Hid (Calls prog 31 #[.agg (ndC (Z.getD j nd0) gz.1 gz.2.1 gz.2.2)] wr λe w'=>e = .returned (.string (gP (Z.getD j nd0)))/\Below wr.heap.size wr w'):=hid (Mq _ _ _ _ hkz wr (mr.below HB.out) (HM.out _ hmem));have hsz0:=HB.out.size;obtain ⟨L,hL⟩:=ay (jI (Z.take j))
   rw [hL] at HS hbl HR;obtain ⟨N,hN⟩:=ay (Z.getD j nd0)
   rw [hN] at HS tI pD gp;obtain ⟨K,hK⟩:=ay (gP N)
   rw [hK] at HS gp;clear hL hN hK hpz hkz mr hmem hbz;go_wp2_with (first
    | (refine aA (yD pD.out tI.out ⟨_,rfl,rfl⟩) ?_))
   refine gp.out.mono ?_;rintro e w5 ⟨rfl,hb5⟩;have ae:=hid (bst HB.out hb5);have dp:=hid (qA HR.out hb5);have hsz:=ae.out.size;clear hb5 gp tI pD HR HB;by_cases hput:j=0\/32<=K.size
   .have cC:Hid (jI (Z.take (j+1))=L++[K]):=hid (by rw [HS.out,if_pos hput]);clear HS;have K7:j=0\/(j≠0/\32<=K.size):=by omega
    rcases K7 with rfl | ⟨h0,h32⟩
    .have h0:True:=trivial;go_wp2_with (first
      | (at_builtin; refine wpList_append_own _ rfl _ _ 28 rfl w1.heap.size 9 i0 (.string ⟨#[]⟩) 1 16 underlying28 HI.out.1 HI.out.2.1 HI.out.2.2.1 HI.out.2.2.2 rfl (by decide) _ _ _ rfl (dp.out.alloc _) ⟨w5.heap.size,0,none⟩ 1 1 [.string K] rfl rfl ?d1 ?d2 ?d3 ?d4 ?d5 ?_))
     all_goals first
      | exact Bu.cell_one_new' _ _ _ _
      | (intro u hu; simp at hu; subst hu; rfl)
      | rfl
      | (unfold maxLen; omega)
      | omega
      | (simp; omega)
      | skip
     intro v' w6 hown6 hgrow _;have hlt':=dp.out.lt;go_wp2;go_roundw
     case rel=>exact ⟨0+1,by omega,by go_num,hid (by rw [cC.out,List.length_append,List.map_append]; exact hown6),hid ((ae.out.alloc hsz _).grown hgrow (by simp; omega) (λg hg=>(hlt' g hg).1))⟩
     case measure=>simp [intOf]; omega
    .have q0:decide ((j:Int)=0)=false:=decide_eq_false (by omega);have q0n:decide (j=0)=false:=decide_eq_false (by omega);have q1:decide ((32:Int)<=(K.size:Int))=true:=aJ (by omega);have DG:decide (32<=K.size)=true:=aJ (by omega);go_wp2_with (first
      | (at_builtin; refine wpList_append_own _ rfl _ _ 28 rfl w1.heap.size 9 i0 (.string ⟨#[]⟩) 1 16 underlying28 HI.out.1 HI.out.2.1 HI.out.2.2.1 HI.out.2.2.2 rfl (by decide) _ _ _ rfl (dp.out.alloc _) ⟨w5.heap.size,0,none⟩ 1 1 [.string K] rfl rfl ?f1 ?f2 ?f3 ?f4 ?f5 ?_))
     all_goals first
      | exact Bu.cell_one_new' _ _ _ _
      | (intro u hu; simp at hu; subst hu; rfl)
      | rfl
      | (unfold maxLen; omega)
      | omega
      | (simp; omega)
      | skip
     intro v' w6 hown6 hgrow _;have hlt':=dp.out.lt;go_wp2;go_roundw
     case rel=>exact ⟨j+1,by omega,by go_num,hid (by rw [cC.out,List.length_append,List.map_append]; exact hown6),hid ((ae.out.alloc hsz _).grown hgrow (by simp; omega) (λg hg=>(hlt' g hg).1))⟩
     case measure=>simp [intOf]; omega
   .have cC:Hid (jI (Z.take (j+1))=L):=hid (by rw [HS.out,if_neg hput,List.append_nil]);have h0:j≠0:=by omega
    have h32:¬ 32<=K.size:=by omega
    have q0:decide ((j:Int)=0)=false:=decide_eq_false (by omega);have q0n:decide (j=0)=false:=decide_eq_false (by omega);have q1:decide ((32:Int)<=(K.size:Int))=false:=decide_eq_false (by omega);have DG:decide (32<=K.size)=false:=decide_eq_false (by omega);clear HS hput;go_wp2;go_roundw
    case rel=>exact ⟨j+1,by omega,by go_num,by rw [cC.out]; exact dp,ae⟩
    case measure=>simp [intOf]; omega
  .obtain rfl:j=m:=by omega
   have hO:=HR.out;rw [List.take_of_length_le (by rw [HL.out]; exact aG)] at hO;have HE:Hid (∀ v,wr.ownsRow w1.heap.size 9 1 v (jI Z).length ((jI Z).map Value.string)->CV w (jI Z) (.returned v) wr):=hid (λv h=>⟨v,rfl,zL h hs1,HB1.out.trans (HB.out.mono hs1)⟩);have HO:=hid hO;clear hO;go_wp2;go_ret;exact HE.out _ HO.out
theorem JZ (xs:List aL) (hx:∀ s∈xs,s.size<=900000) (a:aK) (n c:Nat) (w:World) (h:fH w a n c xs) (hn:n<=1000000) :
  Calls prog 16 #[.slice a n c] w λe w'=>e = .returned (.int .i64 (eX xs:Nat))/\Below w.heap.size w w':=by
 have hl:=h.len;have hnc:=h.1;have hcm:=h.2.1;unfold maxLen at hcm;have H:=hid h;have HL:=hid hl;have HX:=hid hx;clear hl h hx;go_enter func16,ntmps16;go_wp2;go_loopw [3,4] (λv i wr=>∃ j:Nat,j<=n/\i = .int .i64 j/\v = .int .i64 (eX (xs.take j):Nat)/\Hid (Below w.heap.size w wr)) (λ_ i _=>n-(intOf i).toNat)
 case atStart=>exact ⟨0,Nat.zero_le _,rfl,rfl,hid aH⟩
 case round =>
  obtain ⟨j,hj,rfl,rfl,HB⟩:=hrel;by_cases hlt:j<n
  .have HS:=hid (yS xs j (by rw [HL.out]; exact hlt));have hf:=qV xs HX.out j;have hf2:=qV xs HX.out (j+1);rw [HL.out] at hf hf2;have hf3:n*900000<=1000000*900000:=Nat.mul_le_mul_right _ hn;obtain ⟨b,off,rfl,hblt,hcell⟩:=H.out.at' j hlt;have hc0:=(Below.cell (p:=⟨b,off+j,none⟩) HB.out hblt).trans hcell;rw [HS.out] at hf2;obtain ⟨K,hK⟩:=ay (xs.getD j eB)
   rw [hK] at HS hc0 hf2;obtain ⟨L,hL⟩:=ay (eX (xs.take j))
   rw [hL] at HS hf hf2 ⊢;have hw:IntKind.i64.wrap ((L:Int)+(K.size:Int))=(L:Int)+(K.size:Int):=IntWalk.i64_in _ (by omega);clear hL hK hcell;go_wp2;go_roundw
   case rel=>exact ⟨j+1,by omega,by go_num,by rw [HS.out,Int.natCast_add],HB⟩
   case measure=>simp [intOf]; omega
  .obtain rfl:j=n:=by omega
   have HE:Hid (eX (xs.take j)=eX xs):=hid (by rw [List.take_of_length_le (by rw [HL.out]; exact aG)]);go_wp2;go_ret;exact ⟨by rw [HE.out]; rfl,HB.out⟩
open Sm (Tab)
def Xl (b:Bool) (M:Mp) (w:World) (xs:List aL) (e:Ending) (w':World):Prop:=∃ a n c M' cd,e = .returned (.tuple #[.slice a n c,.int .i64 cd])/\(b=true->cd=0/\fH w' a n c xs/\∀ ad,a=some ad->M'.at_ ad.block=none/\ad.block<w'.heap.size)/\(b=false->n=0/\cd=8)/\Fr M M' w w'/\Inv M' w'/\Tab w'
theorem Xl.yes {M:Mp} {w w':World} {xs:List aL} {e:Ending} (h:Xl true M w xs e w'):XM M w xs e w':=by
 obtain ⟨a,n,c,M',cd,he,h1,_,h3⟩:=h;obtain ⟨rfl,hs,hr⟩:=h1 rfl;exact ⟨a,n,c,M',he,hs,hr,h3⟩
theorem Vn (x:Option (Option aL)) (h:x.isSome=true):∃ s c,RJ x = .tuple #[.string s,.int .i64 c]/\(c==8)=false:=by
 match x,h with
 | some none,_=>exact ⟨_,_,rfl,by decide⟩
 | some (some v),_=>exact ⟨_,_,rfl,by decide⟩
theorem Eh (M:Mp) (p:aK) (t:T) (k:aM) (hk:k.length=32) (hg:Tr.Good t 64) (hf:Fine t) (hc:jO t<=200000) (w:World) (hi:Inv M w) (ht:IsT M p t) (hT:Tab w) :
  Calls prog 8 #[tv p,.agg (kc k)] w (Xl (Tr.get t (cZ k)).isSome M w (jI (bD t (cZ k)))):=by
 obtain ⟨i0,hi0,hz0,hz1,hz2⟩:=fP;have HI:Hid (_/\_/\_/\_):=hid ⟨hi0,hz0,hz1,hz2⟩;obtain ⟨w1,hw1⟩:=au ((w.alloc (.cells #[.pointer p] 35)).alloc (.cells (kc k) 24))
 have hb1:Below w.heap.size w w1:=by rw [hw1]; exact al2 _ _ _
 have hs1:w1.heap.size=w.heap.size+2:=by rw [hw1]; simp
 have hT1:Rg.Own w1 w.heap.size #[.pointer p] 35:=by
  have:=(Rg.Own.new w #[.pointer p] 35).below (al1 _ (.cells (kc k) 24));rw [hw1];exact this
 have hK1:Rg.Own w1 (w.heap.size+1) (kc k) 24:=by
  have:=Rg.Own.new (w.alloc (.cells #[.pointer p] 35)) (kc k) 24;rw [hw1];simpa using this
 have tM:=zB M p t k hk w1 (hi.below hb1) ht hg;rw [show path k=cZ k from rfl] at tM;have tP:Hid (∀ w2,Inv M w2->Tab w2->Calls prog 26 #[tv p] w2 (XY M w2 (bF t))):=hid (λw2 hi hT=>eH M p t 64 hg aG hf w2 hi ht hT);have eR:Hid (∀ w3,Inv M w3->Tab w3->Calls prog 27 #[tv p,.agg (kc k)] w3 (Ya M w3 (bD t (cZ k)))):=hid (λw3 hi hT=>Oo M p t k hk hg hf hc w3 hi ht hT)
 have HB2:Hid (∀ w2,Below w1.heap.size w1 w2->Fr M M w w2/\Inv M w2/\Tab w2/\Rg.Own w2 w.heap.size #[.pointer p] 35/\Rg.Own w2 (w.heap.size+1) (kc k) 24):=hid (λw2 hb=>by
  have hb2:Below w.heap.size w w2:=hb1.trans (hb.mono hb1.size);exact ⟨Fr.below M hb2,hi.below hb2,hT.below hb2 hT.pos,hT1.below hb,hK1.below hb⟩)
 have mt:M.at_ w.heap.size=none:=hi.out aG;have mu:M.at_ (w.heap.size+1)=none:=hi.out (by omega);have ge:Hid (∀ w2 w3,Fr M M w w2->Rg.Own w2 w.heap.size #[.pointer p] 35->Rg.Own w2 (w.heap.size+1) (kc k) 24->Fr M M w2 w3->Fr M M w w3/\Rg.Own w3 w.heap.size #[.pointer p] 35/\Rg.Own w3 (w.heap.size+1) (kc k) 24):=hid (λw2 w3 f h1 h2 g=>⟨f.trans hi g,mq h1 g mt,mq h2 g mu⟩);have cE:Hid (∀ b,w.heap.size<=b->M.at_ b=none):=hid (λb hb=>hi.out hb);have hal:=at_len t 64 (cZ k) hg
 rw [jd k hk] at hal;have HN:Hid (∀ N∈bD t (cZ k),fq bP N=true/\N.v.size<=maxLen/\∀ k∈N.ks,k.size<=100):=hid (λN hN=>by
  obtain ⟨s,K,rfl,_,h1,h2,h3,h4,h5⟩:=sS t 64 (cZ k) hg aG hf N hN;have:=iF h4 h3 h5 h1 h2;exact ⟨this.1,this.2.2.2.1,this.2.2.2.2.2⟩)
 have Kb:Hid (∀ j,j<(bD t (cZ k)).length->((gP ((bD t (cZ k)).getD j nd0)=bF t\/32<=(gP ((bD t (cZ k)).getD j nd0)).size)↔(j=0\/32<=(gP ((bD t (cZ k)).getD j nd0)).size))):=hid (λj hj=>WM hg aG hf hj);have ex:=hid tM;have HW1:=hid hw1;have HT1:=hid hT1;have rv:=hid hK1;have cm:=hid hk;obtain ⟨Z,hZ⟩:=ay (bD t (cZ k))
 rw [hZ] at eR hal HN Kb ⊢;obtain ⟨G,hG⟩:=ay (Tr.get t (cZ k))
 rw [hG] at ex ⊢;obtain ⟨E,hE⟩:=ay (bF t)
 rw [hE] at tP Kb;clear hZ hG hE tM hw1 hT1 hK1 hb1 hg hf hc hi ht hT hi0 hz0 hz1 hz2 mt mu;obtain ⟨C,hC⟩:=ay (kc k)
 have HC:=hid hC;rw [hC] at HW1 rv HB2 ge eR ex ⊢;clear hC hk;by_cases hb:G.isSome=true
 .obtain ⟨sv,cd,hV,hcd⟩:=Vn G hb;rw [hb];rw [hV] at ex;clear hb hV;go_enter func8,ntmps8;go_wp2_with (first
   | ((try rw [<-HW1.out]); refine aA (aU (aV (j:=0) HT1.out rfl) ⟨_,rfl,rfl⟩) ?_)
   | ((try rw [<-HW1.out]); refine Rg.run rfl (.agg C) _ (by rw [<-HC.out]; exact dL cm.out (by rw [HC.out]; exact rv.out.2) ⟨_,rfl,rfl⟩) ?_))
  refine ex.out.mono ?_;rintro e w2 ⟨rfl,hb2⟩;obtain ⟨f2,i2,t2,o2,k2⟩:=HB2.out w2 hb2;have fs:Hid (Fr M M w w2/\Inv M w2/\Tab w2):=hid ⟨f2,i2,t2⟩;have da:=hid o2;have Sp:=hid k2;clear f2 i2 t2 o2 k2 hb2 ex HB2 HT1 rv HW1;go_wp2_with (first
   | (refine aA (aU (aV (j:=0) da.out rfl) ⟨_,rfl,rfl⟩) ?_))
  refine (tP.out w2 fs.out.2.1 fs.out.2.2).mono ?_;rintro e w3 ⟨bt,rfl,Sq,o8,_,f3,i3,t3⟩;obtain ⟨f13,o3,k3⟩:=ge.out w2 w3 fs.out.1 da.out Sp.out f3;have jz:Hid (Fr M M w w3/\Inv M w3/\Tab w3):=hid ⟨f13,i3,t3⟩;have aq:=hid o3;have Kd:=hid k3;have HB3:=hid Sq;have EV:=hid o8;clear f3 i3 t3 o3 k3 f13 Sq o8 fs da Sp tP;go_wp2_with (first
   | (refine aA (aU (aV (j:=0) aq.out rfl) ⟨_,rfl,rfl⟩) ?_)
   | (refine Rg.run rfl (.agg C) _ (by rw [<-HC.out]; exact dL cm.out (by rw [HC.out]; exact Kd.out.2) ⟨_,rfl,rfl⟩) ?_))
  refine (eR.out w3 jz.out.2.1 jz.out.2.2).mono ?_;rintro e w4 ⟨a4,m,c4,rfl,hz,f4,i4,t4⟩;obtain ⟨f14,_,_⟩:=ge.out w3 w4 jz.out.1 aq.out Kd.out f4;have hs4:w.heap.size<=w4.heap.size:=f14.size;have aw:=hid (mq HB3.out f4 EV.out);have HFin:Hid (∀ w5,Below w4.heap.size w4 w5->Fr M M w w5/\Inv M w5/\Tab w5):=hid (λw5 hb=>⟨f14.KW hs4 hb,i4.below hb,t4.below hb t4.pos⟩);have HZ:=hid hz;have hl:=hz.len;have HL:=hid hl;have hnc:=hz.1;have hcm:=hz.2.1;unfold maxLen at hcm;have K6:m<=65:=by omega
  clear hz hl hal f4 i4 t4 f14 jz aq Kd HB3 EV ge eR;go_wp2;go_loopw [9,29] (λv i wr=>∃ j:Nat,j<=m/\i = .int .i64 j/\Hid (wr.ownsRow w4.heap.size 9 1 v (jI (Z.take j)).length ((jI (Z.take j)).map Value.string))/\Hid (Below w4.heap.size w4 wr)) (λ_ i _=>m-(intOf i).toNat)
  case atStart=>exact ⟨0,Nat.zero_le _,rfl,hid (World.ownsRow_nil _ _ _ _),hid aH⟩
  case round =>
   obtain ⟨j,hj,rfl,HR,HB⟩:=hrel;by_cases hlt:j<m
   .have HS:=hid (GJ Z (j:=j) (by rw [HL.out]; exact hlt));have wg:=hid (Kb.out j (by rw [HL.out]; exact hlt));have hbl:=Gi (Z.take j);rw [List.length_take] at hbl;obtain ⟨bz,oz,gz,rfl,hbz,hpz,hkz,mr⟩:=HZ.out.at' j hlt;have hji:(j:Int)<m:=by omega
    have tI:Hid (Jz wr bz (oz+j*19) (Z.getD j nd0) gz):=hid (Jz.below hpz HB.out);have pD:=hid hkz;have hmem:Z.getD j nd0∈Z:=Tm.iy (by rw [HL.out]; exact hlt);obtain ⟨n1,n2,n3⟩:=HN.out _ hmem;have gp:Hid (∀ W,Below wr.heap.size wr W->Calls prog 28 #[.agg (ndC (Z.getD j nd0) gz.1 gz.2.1 gz.2.2)] W λe w'=>e = .returned (.tuple #[.string (gP (Z.getD j nd0)),.int .i64 0])/\Below W.heap.size W w'):=hid (λW hW=>by
     have:=GL _ _ _ _ hkz W ((mr.below HB.out).below hW) n2 n3;unfold Wp at this;rw [n1] at this;exact this)
    have hsz0:=HB.out.size;obtain ⟨L,hL⟩:=ay (jI (Z.take j))
    rw [hL] at HS hbl HR;obtain ⟨N,hN⟩:=ay (Z.getD j nd0)
    rw [hN] at HS tI pD gp wg;obtain ⟨K,hK⟩:=ay (gP N)
    rw [hK] at HS gp wg;have eV:=al1 wr (.cells (ndC nd0 none 0 0) 69);have EQ:=hid (Rg.Own.new wr (ndC nd0 none 0 0) 69);clear hL hN hK hpz hkz mr hmem hbz n1 n2 n3;go_wp2_with (first
     | (refine aA (yD pD.out tI.out ⟨_,rfl,rfl⟩) ?_)
     | (refine aA (aY _ _ _ wr.heap.size rfl rfl) ?_)
     | (refine dB EQ.out gq N _ _ _ pD.out rfl _ _ rfl rfl rfl rfl ?_; intro W3 hO hu; have r8:=hid hO; have HB3:=hid (hu.below eV aG); clear hO hu)
     | (refine aA (bU r8.out pD.out ⟨_,rfl,rfl⟩) ?_))
    refine (gp.out W3 HB3.out).mono ?_;rintro e w5 ⟨rfl,hb5⟩;have ed:=bst HB.out (bst HB3.out hb5);have ae:=hid ed;have dp:=hid (qA HR.out (bst HB3.out hb5));have hsz:=ae.out.size;have Ss:=hid (aV (j:=0) (aw.out.below ed) rfl);clear hb5 ed gp tI pD HR HB r8 HB3 EQ eV;go_wp2_with fail
    refine (kJ bt E K w5 Ss.out).mono ?_;rintro e w6 ⟨rfl,hb6⟩;have ap:=hid (bst ae.out hb6);have el:=hid (qA dp.out hb6);have tf:=ap.out.size;clear hb6 ae dp Ss hsz;by_cases hput:j=0\/32<=K.size
    .have cC:Hid (jI (Z.take (j+1))=L++[K]):=hid (by rw [HS.out,if_pos hput]);rw [aJ (wg.out.2 hput)];clear HS wg hput;go_wp2_with (first
      | (at_builtin; refine wpList_append_own _ rfl _ _ 29 rfl w4.heap.size 9 i0 (.string ⟨#[]⟩) 1 16 underlying29 HI.out.1 HI.out.2.1 HI.out.2.2.1 HI.out.2.2.2 rfl (by decide) _ _ _ rfl (el.out.alloc _) ⟨w6.heap.size,0,none⟩ 1 1 [.string K] rfl rfl ?d1 ?d2 ?d3 ?d4 ?d5 ?_))
     all_goals first
      | exact Bu.cell_one_new' _ _ _ _
      | (intro u hu; simp at hu; subst hu; rfl)
      | rfl
      | (unfold maxLen; omega)
      | omega
      | (simp; omega)
      | skip
     intro v' w7 cD hgrow _;have hlt':=el.out.lt;go_wp2;go_roundw
     case rel=>exact ⟨j+1,by omega,by go_num,hid (by rw [cC.out,List.length_append,List.map_append]; exact cD),hid ((ap.out.alloc tf _).grown hgrow (by simp; omega) (λg hg=>(hlt' g hg).1))⟩
     case measure=>simp [intOf]; omega
    .have cC:Hid (jI (Z.take (j+1))=L):=hid (by rw [HS.out,if_neg hput,List.append_nil]);rw [decide_eq_false (λh=>hput (wg.out.1 h))];clear HS wg hput;go_wp2;go_roundw
     case rel=>exact ⟨j+1,by omega,by go_num,by rw [cC.out]; exact el,ap⟩
     case measure=>simp [intOf]; omega
   .obtain rfl:j=m:=by omega
    have hO:=HR.out;rw [List.take_of_length_le (by rw [HL.out]; exact aG)] at hO;have HE:Hid (∀ v,wr.ownsRow w4.heap.size 9 1 v (jI Z).length ((jI Z).map Value.string)->Xl true M w (jI Z) (.returned (.tuple #[v,.int .i64 0])) wr):=hid (λv h=>by
     have hlt:=h.lt;obtain ⟨a,c,rfl,hst⟩:=fH.mQ h;exact ⟨a,_,c,M,0,rfl,λ_=>⟨rfl,hst,λad e=>⟨cE.out _ (Nat.le_trans hs4 (hlt ad.block (by rw [e]; rfl)).1),(hlt ad.block (by rw [e]; rfl)).2⟩⟩,λe=>(by cases e),HFin.out wr HB.out⟩)
    have HO:=hid hO;clear hO;go_wp2;exact bodyPost_ret (results_tmp2 (t:=4) (u:=5) rfl _ _ _) rfl (HE.out _ HO.out)
 .have hV:G=none:=by
   cases G with
   | none=>rfl
   | some x=>exact absurd rfl hb
  subst hV;have Su:RJ none = .tuple #[.string eB,.int .i64 8]:=rfl;rw [Su] at ex;clear hb Su;go_enter func8,ntmps8;go_wp2_with (first
   | ((try rw [<-HW1.out]); refine aA (aU (aV (j:=0) HT1.out rfl) ⟨_,rfl,rfl⟩) ?_)
   | ((try rw [<-HW1.out]); refine Rg.run rfl (.agg C) _ (by rw [<-HC.out]; exact dL cm.out (by rw [HC.out]; exact rv.out.2) ⟨_,rfl,rfl⟩) ?_))
  refine ex.out.mono ?_;rintro e w2 ⟨rfl,hb2⟩;obtain ⟨f2,i2,t2,_⟩:=HB2.out w2 hb2;have fs:Hid (Fr M M w w2/\Inv M w2/\Tab w2):=hid ⟨f2,i2,t2⟩;clear f2 i2 t2 hb2 ex HB2 HT1 rv HW1;go_wp2;exact bodyPost_ret (results_tmp2 (t:=4) (u:=5) rfl _ _ _) rfl ⟨none,0,0,M,8,rfl,λh=>(by cases h),λ_=>⟨rfl,rfl⟩,fs.out⟩
end Tm
end
section
open Go.RowKit Go.Maps Go.WideMaps Go.WideElems Go.ChangeMaps Go.MapKept
namespace Bd
structure XQ (P:Program) (t k e:TypeId) {κ:Type} (val : κ->Value) (lit : κ->Lit) (G : κ->Prop) (z:Value):Prop where
 K:Keyed P k
 ht:P.underlying t=some (.map k e)
 key:∀ {x},G x->keyOf P k (val x)=some (lit x)
 inj:∀ {x y},G x->G y->lit x=lit y->x=y
 zero:∀ w,(zeroValue e).run P w = .ok z w
def rF (v:Value):Option (DataW Value × List MemPlace):=some (.held v,[])
def MapAt (D:DataW Value) (l:Lit):Option Value->Prop
 | none=>Maps.has D l=false
 | some v=>Maps.has D l=true/\∀ y,D.atKey l y = .held v
def mX {κ:Type} [DecidableEq κ] (f : κ->Option Value) (x : κ) (v:Option Value) : κ->Option Value:=λy=>if y=x then v else f y
structure uy (P:Program) (k:TypeId) {κ:Type} (lit : κ->Lit) (G : κ->Prop) (w:World) (b:Nat) (f : κ->Option Value) (N:Nat) (D:DataW Value):Prop where
 own:w.ownsMap P k rF b N D
 size:Maps.size D=N
 at_:∀ x,G x->MapAt D (lit x) (f x)
def FN (P:Program) (k:TypeId) {κ:Type} (lit : κ->Lit) (G : κ->Prop) (w:World) (o:Option Nat) (f : κ->Option Value) (N:Nat):Prop :=
 match o with
 | none=>(∀ x,G x->f x=none)/\N=0
 | some b=>∃ D,uy P k lit G w b f N D
section
variable {P:Program} {t k e:TypeId} {κ:Type} {val : κ->Value} {lit : κ->Lit} {G : κ->Prop} {z:Value} {w w':World} {b N:Nat} {D:DataW Value} {f : κ->Option Value} {o:Option Nat}
theorem uy.congr (h:uy P k lit G w b f N D) {f' : κ->Option Value} (hf:∀ x,G x->f' x=f x):uy P k lit G w b f' N D:=⟨h.own,h.size,λx hx=>by rw [hf x hx]; exact h.at_ x hx⟩
theorem uy.lt (h:uy P k lit G w b f N D):b<w.heap.size:=h.own.lt
theorem uy.same (h:uy P k lit G w b f N D) (hb:w'.heap[b]? = w.heap[b]?):uy P k lit G w' b f N D:=by
 refine ⟨?_,h.size,h.at_⟩;obtain ⟨es,clock,h1,h2⟩:=h.own;exact ⟨es,clock,hb.trans h1,h2⟩
theorem FN.same (h:FN P k lit G w o f N) (hb:∀ b,o=some b->w'.heap[b]? = w.heap[b]?):FN P k lit G w' o f N:=by
 cases o with
 | none=>exact h
 | some b=>obtain ⟨D,h⟩:=h; exact ⟨D,h.same (hb b rfl)⟩
theorem FN.lt (h:FN P k lit G w o f N) {b:Nat} (hb:o=some b):b<w.heap.size:=by
 subst hb;obtain ⟨D,h⟩:=h;exact h.lt
theorem QL {n:Nat} (h:w.ownsMap P k rF b n D):w.ownsMap P k rF b (Maps.size D) D:=by
 obtain ⟨es,clock,h1,h2,_,h4⟩:=h;exact ⟨es,clock,h1,h2,by rw [h4]; simp [Maps.size,length_sorted],h4⟩
theorem uy.made (w:World):uy P k lit G (w.alloc (.map #[] 0)) w.heap.size (λ_=>none) 0 (.map []):=⟨World.ownsMap_made _ _ _ _,rfl,λ_ _=>rfl⟩
theorem JU (h:w.mapTurned w' b):Rg.Upd w b w':=by
 obtain ⟨es,clock,es',clock',hb,rfl⟩:=h;exact ⟨rfl,rfl,rfl,by simp [setBlock],λk hk=>heap_setBlock_other hb _ hk⟩
theorem sw {x : κ} (K:XQ P t k e val lit G z) (h:FN P k lit G w o f N) (hx:G x) (c:Bool) :
  (Instr.lookup t (.map o) (val x) c).run P w = .ok (if c then .tuple #[(f x).getD z,.bool (f x).isSome] else (f x).getD z) w:=by
 cases o with
 | none =>
  have:=Maps.look_nil (w:=w) c K.K K.ht (K.zero w) (K.key hx);rw [this,h.1 x hx];rfl
 | some b =>
  obtain ⟨D,h⟩:=h;have hat:=h.at_ x hx;obtain ⟨es,clock,hb,F,_,hD⟩:=h.own;rcases Maps.fit_look c K.K K.ht (K.zero w) hb F (K.key hx) with ⟨hrun,_,hz0⟩ | ⟨e0,y,_,_,hrun,hRv,h3,_⟩
  .cases hf:f x with
   | none=>rw [hrun]; cases c <;> rfl
   | some v =>
    rw [hf] at hat;have h1:Maps.has D (lit x)=true:=hat.1;rw [hD] at h1;have h2:Maps.has (DataW.map ((es.toList.map (rg P k rF)).foldr DataW.insert [])) (lit x)=false:=by
     exact Maps.has_false_of_atKey hz0
    rw [h2] at h1;cases h1
  .have hy:y.1 = .held e0.val:=by
    unfold rF at hRv;injection hRv with hRv;rw [<-hRv]
   cases hf:f x with
   | none =>
    rw [hf] at hat;have h1:Maps.has D (lit x)=false:=hat;have h2:Maps.has (DataW.map ((es.toList.map (rg P k rF)).foldr DataW.insert [])) (lit x)=true:=Maps.has_true_of_atKey λz=>h3 z;rw [hD,h2] at h1;cases h1
   | some v =>
    rw [hf] at hat;have h1:=hat.2 (.held z);rw [hD] at h1;have h2:=h3 (.held z);have:DataW.held v = .held e0.val:=by rw [<-h1,<-hy]; exact h2
    injection this with this;subst this;rw [hrun];cases c <;> rfl
variable [DecidableEq κ]
def more (f : κ->Option Value) (x : κ) (N:Nat):Nat:=if (f x).isSome then N else N+1
theorem YB {o:Option Value} {l:Lit} (h:MapAt D l o):Maps.has D l=o.isSome:=by
 cases o with
 | none=>exact h
 | some v=>exact h.1
theorem Yr {x : κ} (K:XQ P t k e val lit G z) (h:uy P k lit G w b f N D) (hx:G x) (v:Value) (hO:w'.ownsMap P k rF b (N+1) (D.put (lit x) (.held v))):uy P k lit G w' b (mX f x (some v)) (more f x N) (D.put (lit x) (.held v)):=by
 have hD:=h.own.isMap;have hkl:=K.K.key (K.key hx);have hs:Maps.size (D.put (lit x) (.held v))=more f x N:=by
  rw [Maps.size_put (h.own.tidy K.K),YB (h.at_ x hx),h.size];rfl
 refine ⟨by rw [<-hs]; exact QL hO,hs,λy hy=>?_⟩;unfold mX;by_cases e:y=x
 .subst e;rw [if_pos rfl];exact ⟨Maps.has_put_same hD hkl _,λu=>Maps.atKey_put_same hD hkl _ u⟩
 .have hne:lit y≠lit x:=λg=>e (K.inj hy hx g);rw [if_neg e];have:=h.at_ y hy;cases hf:f y with
  | none=>rw [hf] at this; exact (Maps.has_put_other hne _).trans this
  | some u=>rw [hf] at this; exact ⟨(Maps.has_put_other hne _).trans this.1,λq=>(Maps.atKey_put_other hne _ q).trans (this.2 q)⟩
theorem WO {x : κ} (K:XQ P t k e val lit G z) (h:uy P k lit G w b f N D) (hN:N<maxLen) (hx:G x) (v:Value) :
  ∃ w',(Instr.mapUpdate t (.map (some b)) (val x) v).run P w = .ok () w'/\uy P k lit G w' b (mX f x (some v)) (more f x N) (D.put (lit x) (.held v))/\Rg.Upd w b w':=by
 obtain ⟨w',h1,h2,h3⟩:=h.own.store K.K K.ht hN (K.key hx) (val:=v) (d:=.held v) (ps:=[]) rfl;exact ⟨w',h1,Yr K h hx v h2,JU h3⟩
end
end Bd
end
section
namespace Tr
open Rf Rl Ni No
theorem Cu:∀ {l:List In},l.Pairwise (λx y=>x.1≠y.1)->∀ (p:Pa) (v:aL),mU l p=some v↔(p,v)∈l
 | [],_,p,v=>by simp [mU]
 | x::r,h,p,v=>by
  obtain ⟨h1,h2⟩:=List.pairwise_cons.1 h;have ih:=Cu h2 p v;unfold mU at ih ⊢;by_cases e:x.1=p
  .rw [List.find?_cons_of_pos (by simpa using e)];constructor
   .intro g;have g':x.2=v:=Option.some.inj g;rw [<-e,<-g'];exact List.mem_cons_self
   .intro g;rcases List.mem_cons.1 g with g | g
    .rw [<-g]; rfl
    .exact absurd e (h1 _ g)
  .rw [List.find?_cons_of_neg (by simpa using e),ih];constructor
   .exact List.mem_cons_of_mem _
   .intro g;rcases List.mem_cons.1 g with g | g
    .exact absurd (by rw [<-g]) e
    .exact g
theorem Fg {l:List (Pa × aL)} (h:xI l):l.Nodup:=h.imp λ{x y} hxy e=>by
 rw [e,AU] at hxy;cases hxy
theorem Qj {l:List In} (ok:Ok L l):(iB (build L l) []).length=l.length:=by
 have g:=jc L l ok;have f:=lT L l;have hn:l.Nodup:=ok.2.imp λ{x y} hxy e=>hxy (by rw [e]);refine ((List.perm_ext_iff_of_nodup (Fg (qI _ L [] g f)) hn).2 λx=>?_).length_eq;obtain ⟨p,v⟩:=x;rw [oh _ L [] g f,<-Cu ok.2];constructor
 .rintro ⟨r,e,hl,hr,hg⟩;have e2:p=r:=e;rw [<-e2] at hl hr hg;rw [wS L l ok p hl hr] at hg;exact Option.some.inj hg
 .intro h;have hm:=ok.1 _ ((Cu ok.2 p v).1 h);refine ⟨p,(List.nil_append p).symm,hm.1,hm.2,?_⟩;rw [wS L l ok p hm.1 hm.2,h]
def lF (n:Nat):Nat:=if n=0 then 0 else if n=1 then 1 else min 65 (2*n+1)
theorem Sk {l:List In} (ok:Ok 64 l) {q:Pa} (hq:q.length=64):(jI (bD (build 64 l) q)).length<=lF l.length:=by
 have h1:=Gi (bD (build 64 l) q);have h2:=at_len (build 64 l) 64 q (jc 64 l ok);rw [hq] at h2;unfold lF;by_cases h0:l.length=0
 .have:l=[]:=List.length_eq_zero_iff.1 h0;subst this;rw [Dz] at h1 ⊢;have:(bD .nil q).length=0:=rfl;omega
 .have hne:l≠[]:=λe=>h0 (by rw [e]; rfl);have h3:=(Fz (build 64 l) 64 q [] (jc 64 l ok) (lT 64 l) (BG ok hne)).1;rw [Qj ok] at h3;rw [if_neg h0];by_cases h4:l.length=1
  .rw [if_pos h4]; omega
  .rw [if_neg h4]; omega
theorem Xc {l:List Nd} {s:aL} (h:s∈jI l):∃ N∈l,s=gP N:=by
 unfold jI Tv at h;rcases List.mem_append.1 h with h | h
 .obtain ⟨N,hN,rfl⟩:=List.mem_map.1 h;exact ⟨N,List.mem_of_mem_take hN,rfl⟩
 .obtain ⟨N,hN,rfl⟩:=List.mem_map.1 (List.mem_filter.1 h).1;exact ⟨N,List.mem_of_mem_drop hN,rfl⟩
theorem Ww {t:T} (g:Good t 64) (f:Fine t) (q:Pa):∀ s∈jI (bD t q),s.size<=900000:=λs hs=>by
 obtain ⟨N,hN,rfl⟩:=Xc hs;obtain ⟨u,K,rfl,e,h1,h2,h3,h4,h5⟩:=sS t 64 q g aG f N hN;rw [<-e];exact (Tm.iF h4 h3 h5 h1 h2).2.2.1
end Tr
end
section
open Go.RowKit
namespace Tm
open Tr Ni Pk Ky No Rf Rl
theorem Bb (n:Nat) (hn:n<=1000) (w:World):Calls prog 14 #[.int .i64 n] w λe w'=>e = .returned (.int .i64 (lF n:Nat))/\Below w.heap.size w w':=by
 by_cases h0:n=0
 .subst h0;go_enter func14,ntmps14;go_wp2;go_ret;exact ⟨rfl,aH⟩
 by_cases h1:n=1
 .subst h1;go_enter func14,ntmps14;go_wp2;go_ret;exact ⟨rfl,aH⟩
 have q0:decide ((n:Int)<1)=false:=decide_eq_false (by omega);have q1:decide ((n:Int)=1)=false:=decide_eq_false (by omega);have DG:decide (n=1)=false:=decide_eq_false (by omega);by_cases h32:32<n
 .have q2:decide ((32:Int)<(n:Int))=true:=aJ (by omega);have q2n:decide (32<n)=true:=aJ h32;have HM:Hid (lF n=65):=hid (by unfold lF; rw [if_neg (by omega),if_neg h1]; omega);go_enter func14,ntmps14;go_wp2;go_ret;exact ⟨by rw [HM.out]; rfl,aH⟩
 .have q2:decide ((32:Int)<(n:Int))=false:=decide_eq_false (by omega);have q2n:decide (32<n)=false:=decide_eq_false h32;have HM:Hid (lF n=2*n+1):=hid (by unfold lF; rw [if_neg (by omega),if_neg h1]; omega);have hw1:IntKind.i64.wrap ((2:Int)*(n:Int))=(2:Int)*(n:Int):=IntWalk.i64_in _ (by omega);have hw2:IntKind.i64.wrap ((2:Int)*(n:Int)+1)=(2:Int)*(n:Int)+1:=IntWalk.i64_in _ (by omega);go_enter func14,ntmps14;go_wp2;go_ret;exact ⟨by rw [HM.out]; simp,aH⟩
theorem Dr (xs:List aL) (hx:∀ s∈xs,s.size<=900000) (a:aK) (n c:Nat) (w:World) (h:fH w a n c xs) (hn:n<=1000000) :
  Calls prog 15 #[.slice a n c] w λe w'=>e = .returned (.int .i64 (eX xs:Nat))/\Below w.heap.size w w':=by
 have hl:=h.len;have hnc:=h.1;have hcm:=h.2.1;unfold maxLen at hcm;have H:=hid h;have HL:=hid hl;have HX:=hid hx;clear hl h hx;go_enter func15,ntmps15;go_wp2;go_loopw [3,8] (λv i wr=>∃ j:Nat,j<=n/\i = .int .i64 j/\v = .int .i64 (eX (xs.take j):Nat)/\Hid (Below w.heap.size w wr)) (λ_ i _=>n-(intOf i).toNat)
 case atStart=>exact ⟨0,Nat.zero_le _,rfl,rfl,hid aH⟩
 case round =>
  obtain ⟨j,hj,rfl,rfl,HB⟩:=hrel;by_cases hlt:j<n
  .have HS:=hid (yS xs j (by rw [HL.out]; exact hlt));have hf:=qV xs HX.out j;have hf2:=qV xs HX.out (j+1);rw [HL.out] at hf hf2;have hf3:n*900000<=1000000*900000:=Nat.mul_le_mul_right _ hn;obtain ⟨b,off,rfl,hblt,hcell⟩:=H.out.at' j hlt;have hc0:=(Below.cell (p:=⟨b,off+j,none⟩) HB.out hblt).trans hcell;rw [HS.out] at hf2;obtain ⟨K,hK⟩:=ay (xs.getD j eB)
   rw [hK] at HS hc0 hf2;obtain ⟨L,hL⟩:=ay (eX (xs.take j))
   rw [hL] at HS hf hf2 ⊢;have hw:IntKind.i64.wrap ((L:Int)+(K.size:Int))=(L:Int)+(K.size:Int):=IntWalk.i64_in _ (by omega);clear hL hK hcell;go_wp2;go_roundw
   case rel=>exact ⟨j+1,by omega,by go_num,by rw [HS.out,Int.natCast_add],HB⟩
   case measure=>simp [intOf]; omega
  .obtain rfl:j=n:=by omega
   have HE:Hid (eX (xs.take j)=eX xs):=hid (by rw [List.take_of_length_le (by rw [HL.out]; exact aG)]);go_wp2;go_ret;exact ⟨by rw [HE.out]; rfl,HB.out⟩
open Go.Maps
theorem KS:Bd.XQ prog 116 9 117 Value.string kV (λs=>s.size<=maxLen) (.agg #[]) :=
 ⟨string_keyed underlying9,underlying116,λh=>kof h,λ_ _ h=>Ca h,λw=>by kernel_rfl⟩
theorem VU {P:Program} {w:World} {rest:List Oper} {o:Oper} {a:Go.Act} {Q:Exit->Go.Act->World->Prop} (hgd:o.guard=none) (hr:∃ w',(execOp a.eval o).run P w = .ok .skip w'/\R w') (h:∀ w',R w'->wpList P ops Q rest (a.put o.dst undef) w'):wpList P ops Q (o::rest) a w:=by
 obtain ⟨w',h1,h2⟩:=hr;exact wpList_plain hgd λK hK=>by
  unfold Oper.wp;rw [h1];exact hK _ _ (h w' h2)
def inB (l:List aL) (s:aL):Bool:=l.any λx=>decide (x=s)
theorem MZ {l:List aL} {s:aL}:inB l s=true↔s∈l:=by
 unfold inB;rw [List.any_eq_true];exact ⟨λ⟨x,hx,e⟩=>by rw [<-of_decide_eq_true e]; exact hx,λh=>⟨s,h,aJ rfl⟩⟩
theorem Wi {l:List aL} {s:aL} (h:s ∉ l):inB l s=false:=by
 cases e:inB l s with
 | false=>rfl
 | true=>exact absurd (MZ.1 e) h
def QS (l:List aL) (s:aL):Option Value:=if inB l s then some (.agg #[]) else none
theorem vU {l:List aL} {s:aL} (h:s ∉ l):QS l s=none:=by unfold QS; rw [Wi h]; rfl
theorem ET {l:List aL} {s:aL} (h:s∈l):QS l s=some (.agg #[]):=by unfold QS; rw [MZ.2 h]; rfl
def uz (w:World) (b:Nat) (l:List aL):Prop:=Bd.FN prog 9 kV (λs=>s.size<=maxLen) w (some b) (QS l) l.length
theorem uz.same {w w':World} {b:Nat} {l:List aL} (h:uz w b l) (hb:w'.heap[b]? = w.heap[b]?):uz w' b l:=Bd.FN.same h λ_ e=>by cases e; exact hb
theorem uz.lt {w:World} {b:Nat} {l:List aL} (h:uz w b l):b<w.heap.size:=Bd.FN.lt h rfl
theorem uz.made (w:World):uz (w.alloc (.map #[] 0)) w.heap.size []:=⟨_,(Bd.uy.made w).congr λs _=>rfl⟩
theorem uz.new {w:World} {b:Nat} {l:List aL} (h:uz w b l) {s:aL} (hs:s.size<=maxLen) (hn:s ∉ l) {o:Oper}
  (ho:∃ m x,o.op = .lookup 116 m x true/\ev m = .map (some b)/\ev x = .string s):(execOp ev o).run prog w = .ok (.value (.tuple #[.agg #[],.bool false])) w:=by
 obtain ⟨m,x,ho,hm,hx⟩:=ho;have h1:=Bd.sw KS h hs true;rw [vU hn] at h1;unfold execOp;simp only [ho,hm,hx,Sem.run_bind,Sem.run_pure,Result.andThen_ok,h1];rfl
theorem uz.put {w:World} {b:Nat} {l:List aL} (h:uz w b l) (hl:l.length<maxLen) {s:aL} (hs:s.size<=maxLen) (hn:s ∉ l) {o:Oper}
  (ho:∃ m x v,o.op = .mapUpdate 116 m x v/\ev m = .map (some b)/\ev x = .string s/\ev v = .agg #[]) :
  ∃ w',(execOp ev o).run prog w = .ok .skip w'/\uz w' b (l++[s])/\Rg.Upd w b w':=by
 obtain ⟨m,x,v,ho,hm,hx,hv⟩:=ho;obtain ⟨D,h⟩:=h;obtain ⟨w',h1,h2,h3⟩:=Bd.WO KS h hl hs (.agg #[]);have hmore:Bd.more (QS l) s l.length=(l++[s]).length:=by
  unfold Bd.more;rw [vU hn,List.length_append];rfl
 rw [hmore] at h2;refine ⟨w',?_,?_,h3⟩
 .unfold execOp;simp only [ho,hm,hx,hv,Sem.run_bind,Sem.run_pure,Result.andThen_ok,h1]
 .refine ⟨_,⟨h2.own,h2.size,λy hy=>?_⟩⟩
  .have:=h2.at_ y hy;unfold Bd.mX at this;by_cases e:y=s
   .subst e;rw [if_pos rfl] at this;rw [ET (by simp)];exact this
   .rw [if_neg e] at this;by_cases hm:y∈l
    .rw [ET (List.mem_append_left _ hm)];rw [ET hm] at this;exact this
    .rw [vU (λg=>(List.mem_append.1 g).elim hm λg=>e (List.mem_singleton.1 g))];rw [vU hm] at this;exact this
theorem Ls (xs:List aL) (hx:∀ s∈xs,s.size<=maxLen) (hnd:xs.Nodup) (g:Nat) (a:aK) (n c:Nat) (w:World) (h:fH w a n c xs) (hn:n<=1000000) (hg:w.cell? ⟨g,0,none⟩=some (.slice a n c)) :
  Calls prog 33 #[.slice (some ⟨g,0,none⟩) 1 1] w λe w'=>∃ a' n' c',e = .returned (.slice a' n' c')/\fH w' a' n' c' xs/\(∀ ad,a'=some ad->w.heap.size<=ad.block)/\Below w.heap.size w w':=by
 obtain ⟨i0,hi0,hz0,hz1,hz2⟩:=fP;have HI:Hid (_/\_/\_/\_):=hid ⟨hi0,hz0,hz1,hz2⟩;have hmm:=@run_makeMap prog;have hl:=h.len;have hnc:=h.1;have hcm:=h.2.1;unfold maxLen at hcm;have H:=hid h;have HL:=hid hl;have HX:=hid hx;have HN:=hid hnd;have hgl:=World.block_lt_of_cell? w _ hg;have Sx:=hid (uz.made w);clear h hl hx hnd hi0 hz0 hz1 hz2;go_enter func33,ntmps33;go_wp2
 go_loopw [4,14] (λv i wr=>∃ j:Nat,j<=1/\i = .int .i64 j/\Hid (wr.ownsRow (w.heap.size+1) 9 1 v (xs.take (j*n)).length ((xs.take (j*n)).map Value.string))/\Hid (uz wr w.heap.size (xs.take (j*n)))/\Hid (Below w.heap.size w wr)) (λ_ i _=>1-(intOf i).toNat)
 case atStart=>exact ⟨0,Nat.zero_le _,rfl,by rw [Nat.zero_mul]; exact hid (World.ownsRow_nil _ _ _ _),by rw [Nat.zero_mul]; exact Sx,hid (al1 _ _)⟩
 case round =>
  obtain ⟨j,hj,rfl,HR,HM,HB⟩:=hrel;clear Sx;by_cases hlt:j<1
  .obtain rfl:j=0:=by omega
   rw [Nat.zero_mul,List.take_zero] at HR HM;have hcg:=(Below.cell (p:=⟨g,0,none⟩) HB.out hgl).trans hg;have Kf:wr.cell? ⟨g,0+0,none⟩=some (.slice a n c):=hcg;go_wp2;go_loopw [4,20] (λv i w5=>∃ q:Nat,q<=n/\i = .int .i64 q/\Hid (w5.ownsRow (w.heap.size+1) 9 1 v q ((xs.take q).map Value.string))/\Hid (uz w5 w.heap.size (xs.take q))/\Hid (Below w.heap.size w w5)) (λ_ i _=>n-(intOf i).toNat)
   case atStart=>exact ⟨0,Nat.zero_le _,rfl,HR,HM,HB⟩
   case round =>
    obtain ⟨q,hq,rfl,HR2,iv,HB2⟩:=hrel;clear HR HM HB hcg Kf;by_cases hlt2:q<n
    .obtain ⟨b,off,rfl,hblt,hcell⟩:=H.out.at' q hlt2;have hc2:=(Below.cell (p:=⟨b,off+q,none⟩) HB2.out hblt).trans hcell;have fN:q<xs.length:=by rw [HL.out]; exact hlt2
     have hsz:=HX.out _ (Rf.BN fN);have hnot:xs.getD q eB ∉ xs.take q:=λhm=>by
      obtain ⟨i,hi,e⟩:=List.getElem_of_mem hm;rw [List.length_take] at hi;rw [List.getElem_take] at e;have e1:xs.getD q eB=xs[q]:=by simp [List.getD,fN]
      rw [e1] at e;exact absurd ((List.getElem_inj HN.out).1 e) (by omega)
     have hst:xs.take (q+1)=xs.take q++[xs.getD q eB]:=by
      rw [List.take_add_one,List.getElem?_eq_getElem fN];simp [List.getD,fN]
     have hlen:(xs.take q).length=q:=by rw [List.length_take]; omega
     obtain ⟨K,hK⟩:=ay (xs.getD q eB)
     rw [hK] at hc2 hsz hnot hst;obtain ⟨Y,hY⟩:=ay (xs.take q)
     rw [hY] at hnot hst hlen HR2 iv;have dr:=hid hst;have vt:=hid hlen;have SD:=hid hnot;have E7:=HB2.out.size;clear hK hY hcell hst hlen hnot fN;have hal:=al1 wr (.cells #[] 117);have EV:=hid (iv.out.same (hal.block _ iv.out.lt));have HR3:Hid (∀ k,(∃ v:Value,wr.ownsRow (w.heap.size+1) 9 1 v q (Y.map Value.string)/\v.ownBlock=some k)->w.heap.size+1<=k/\k<wr.heap.size):=hid (λk ⟨v,h,e⟩=>h.lt k e);have cT:=hid hal;have hyl:Y.length<maxLen:=by rw [vt.out]; unfold maxLen; omega
     clear hal;go_wp2_with (first
      | (refine aA (iv.out.new hsz SD.out ⟨_,_,rfl,rfl,rfl⟩) ?_)
      | (refine VU rfl (EV.out.put hyl hsz SD.out ⟨_,_,_,rfl,rfl,rfl,rfl⟩) ?_; rintro w6 ⟨SJ,d9⟩; have SM:=hid SJ; have OS:=hid d9; have el:=hid (dU (w':=w6) HR2.out λk e=>(d9.block k (by have:=HR3.out k ⟨_,HR2.out,e⟩; omega)).trans (cT.out.block k (HR3.out k ⟨_,HR2.out,e⟩).2)); have ap:=hid (d9.below (HB2.out.alloc E7 _) aG); have SO:=ap.out.size; clear SJ d9)
      | (at_builtin; refine wpList_append_own _ rfl _ _ 28 rfl (w.heap.size+1) 9 i0 (.string ⟨#[]⟩) 1 16 underlying28 HI.out.1 HI.out.2.1 HI.out.2.2.1 HI.out.2.2.2 rfl (by decide) _ _ _ rfl (el.out.alloc _) ⟨w6.heap.size,0,none⟩ 1 1 [.string K] rfl rfl ?d1 ?d2 ?d3 ?d4 ?d5 ?_))
     all_goals first
      | exact Bu.cell_one_new' _ _ _ _
      | (intro u hu; simp at hu; subst hu; rfl)
      | rfl
      | (unfold maxLen; omega)
      | omega
      | (simp; omega)
      | skip
     intro v' w7 cD hgrow _;have hlt':=el.out.lt;have HM7:Hid (uz w7 w.heap.size (xs.take (q+1))):=hid (by
      rw [dr.out];have mw:=SM.out.lt;exact SM.out.same ((hgrow.block _ (aI mw (al1 w6 _).size) (λe=>by first | (have:=(hlt' _ e).1; omega) | (have:=(hlt' _ e.symm).1; omega))).trans ((al1 w6 _).block _ mw)))
     have dl:Hid (w7.ownsRow (w.heap.size+1) 9 1 v' (q+1) ((xs.take (q+1)).map Value.string)):=hid (by rw [dr.out,List.map_append]; exact cD);go_wp2;go_roundw
     case rel=>(repeat apply Exists.intro); exact ⟨⟨q+1,by omega,by go_num,dl,HM7,hid ((ap.out.alloc SO _).grown hgrow (by simp; omega) (λg hg=>by have:=(hlt' g hg).1; omega))⟩,rfl⟩
     case measure=>simp [intOf]; omega
    .obtain rfl:q=n:=by omega
     have hO2:=HR2.out;rw [List.take_of_length_le (by rw [HL.out]; exact aG)] at hO2;have hM2:=iv.out;rw [List.take_of_length_le (by rw [HL.out]; exact aG)] at hM2;have da:=hid hO2;have Kx:=hid hM2;clear hO2 hM2;go_wp2;go_roundw
     case rel=>exact ⟨0+1,by omega,by go_num,by rw [List.take_of_length_le (by rw [HL.out]; omega),HL.out]; exact da,by rw [List.take_of_length_le (by rw [HL.out]; omega)]; exact Kx,HB2⟩
     case measure=>simp [intOf]
  .obtain rfl:j=1:=by omega
   have hO:=HR.out;rw [List.take_of_length_le (by rw [HL.out]; omega)] at hO;have HE:Hid (∀ v,wr.ownsRow (w.heap.size+1) 9 1 v xs.length (xs.map Value.string)->∃ a' n' c',v = .slice a' n' c'/\fH wr a' n' c' xs/\(∀ ad,a'=some ad->w.heap.size<=ad.block)/\Below w.heap.size w wr):=hid (λv h=>by
    have hlt:=h.lt;obtain ⟨a,c,rfl,hst⟩:=fH.mQ h;exact ⟨a,_,c,rfl,hst,λad e=>Nat.le_trans (Nat.le_succ _) (hlt ad.block (by rw [e]; rfl)).1,HB.out⟩)
   have HO:=hid hO;clear hO;go_wp2;go_ret;obtain ⟨a',n',c',rfl,hr⟩:=HE.out _ HO.out;exact ⟨a',n',c',rfl,hr⟩
end Tm
end
section
open Go.RowKit
namespace Tm
open Tr Ni Pk Ky No Rf Rl
open Sm (Tab)
theorem Lj (M:Mp) (w:World) (g:Nat) (a:aK) (n c:Nat) (xs:List aL) (r:aM) (hr:r.length=32) (t:T) (hi:Inv M w) (hT:Tab w) (hB:Rg.Own w g #[.slice a n c] 29) (hS:fH w a n c xs) (hn:n<=1000000) (hnd:xs.Nodup) (hsz:∀ s∈xs,s.size<=maxLen)
  (SR:∀ W a n c,Below w.heap.size w W->fH W a n c xs->(∀ b off,a=some ⟨b,off,none⟩->w.heap.size<=b)->Calls prog 32 #[.agg (Sm.kc r),.slice a n c] W (EF M W t)) :
  Calls prog 17 #[.agg (Sm.kc r),.slice (some ⟨g,0,none⟩) 1 1] w (EF M w t):=by
 obtain ⟨w1,hw1,hO2,hO4,hb1,hs1⟩:=Ct w r;have HJ:Hid (∀ W,Below w1.heap.size w1 W->Calls prog 33 #[.slice (some ⟨g,0,none⟩) 1 1] W λe w'=>∃ a' n' c',e = .returned (.slice a' n' c')/\fH w' a' n' c' xs/\(∀ ad,a'=some ad->W.heap.size<=ad.block)/\Below W.heap.size W w'):=hid (λW hb=>Ls xs hsz hnd g a n c W ((hS.below hb1).below hb) hn (aV (j:=0) ((hB.below hb1).below hb) rfl))
 have HLd:Hid (∀ W a n c,Below w1.heap.size w1 W->fH W a n c xs->(∀ b off,a=some ⟨b,off,none⟩->w.heap.size<=b)->Calls prog 32 #[.agg (Sm.kc r),.slice a n c] W (EF M W t)):=hid (λW a n c hb h1 h2=>SR W a n c (hb1.trans (hb.mono hb1.size)) h1 h2);have mt:M.at_ w.heap.size=none:=hi.out aG;have mu:M.at_ (w.heap.size+1)=none:=hi.out (Nat.le_succ _);have BE:Hid (∀ W,Below w1.heap.size w1 W->Rg.Own W w.heap.size (Sm.kc r) 48):=hid (λW hb=>hO2.below hb)
 have fa:Hid (w.heap.size<=w1.heap.size):=hid hb1.size;have nj:Hid (∀ W M2 W2,Below w1.heap.size w1 W->Fr M M2 W W2->Rg.Own W2 w.heap.size (Sm.kc r) 48/\Fr M M2 w W2/\Rg.Own W2 (w.heap.size+1) #[.pointer none] 35/\¬ M2.ft (w.heap.size+1)):=hid (λW M2 W2 hb f=>⟨mq (hO2.below hb) f mt,(Fr.below M (hb1.trans (hb.mono hb1.size))).trans hi f,mq (hO4.below hb) f mu,f.box (hi.free (Nat.le_succ _)) (hO4.below hb).1 (dH (hO4.below hb) (iY _))⟩)
 have bj:Hid (∀ (M2:Mp) W W',(Fr M M2 w W/\Inv M2 W/\Tab W)->¬ M2.ft (w.heap.size+1)->Rg.Upd W (w.heap.size+1) W'->Fr M M2 w W'/\Inv M2 W'/\Tab W'):=hid (λM2 W W' h hn hu=>⟨h.1.upd hu (Nat.le_succ _),h.2.1.upd hu hn,Tab.upd h.2.2 hu (by have:=hT.pos; omega)⟩);have HB0:Hid (Below w1.heap.size w1 w1.drew):=hid aH.drew;have il:=hid hr;have HW:Hid (_=_):=hid hw1;clear hw1 hO2 hO4 hb1 hs1 hr hi hT hB hS hn hnd hsz SR mt mu;go_enter func17,ntmps17;go_wp2_with (first
  | (refine aA (aX _ _ _ (w.heap.size+1) (by simp) rfl) ?_; rw [<-HW.out]))
 refine aC (S:=λw'=>Rg.Own w' w.heap.size (Sm.kc r) 48) (BE.out _ aH.drew) λhld=>?_;refine ah 0 ?_ (hy:=by intro wz hSw; (refine Sm.qL _ _ _ w.heap.size r il.out ?_ hSw; exact ⟨_,rfl,rfl⟩));try simp only [Act.put,ak]
 refine ah 1 ?_;try simp only [Act.put,ak]
 refine aj 2 λK hK=>?_;go_simp;go_at_call 33
 (with_reducible refine (HJ.out _ HB0.out).mono ?_)
 rintro e y1 ⟨a1,n1,c1,rfl,hst,hge,hbx⟩;have HB1:=hid (bst HB0.out hbx);have my:Hid (∀ b off,a1=some ⟨b,off,none⟩->w.heap.size<=b):=hid (λb off e=>Nat.le_trans fa.out (Nat.le_trans HB0.out.size (hge _ e)));have ke:=hid hst;clear hbx hst hge HB0;refine hK.out _ _ (BE.out _ HB1.out) λhld=>?_;clear hK K;try simp only [Act.put,ak]
 refine aj 3 λK hK=>?_;go_simp;go_at_call 32
 (with_reducible refine (HLd.out _ _ _ _ HB1.out ke.out my.out).mono ?_)
 rintro e y2 ⟨p2,M2,rfl,ht2,f2,i2,t2⟩;obtain ⟨hs2,hf2,ho2,hn2⟩:=nj.out _ _ _ HB1.out f2;have HS2:=hid hs2;have da:=hid ho2;have HN2:=hid hn2;have HT2:=hid ht2;have Hd:Hid (Fr M M2 w y2/\Inv M2 y2/\Tab y2):=hid ⟨hf2,i2,t2⟩;clear ht2 f2 i2 t2 hs2 hf2 ho2 hn2 HB1 ke my;refine hK.out _ _ (HS2.out) λhld=>?_;clear hK K;try simp only [Act.put,ak]
 refine ah 4 ?_;try simp only [Act.put,ak]
 refine ah 5 ?_;try simp only [Act.put,ak]
 refine aj 6 λK hK=>?_;refine Rg.meetStore (by rfl) da.out 35 #[.pointer p2] ⟨_,_,rfl,rfl,rfl⟩ wT rfl (by simp [Value.oneCell']) ?_;intro y3 hO3 hu3;have aq:=hid hO3;have ge:=hid (bj.out _ _ _ Hd.out HN2.out hu3);have r7:=HS2.out.upd hu3 (by omega);clear hO3 hu3;refine hK.out _ _ (r7) λhld=>?_;clear hK K;try simp only [Act.put,ak]
 refine ah 7 ?_;try simp only [Act.put,ak]
 refine aB ?_;go_wp2;exact bodyPost_ret (lX (q:=4) (u:=5) rfl _ rfl aq.out) rfl ⟨p2,M2,rfl,HT2.out,ge.out⟩
end Tm
end
section
namespace Tr
open Rf Rl Ni No
end Tr
namespace Tm
open Tr Ni Pk Ky No
end Tm
end
section
open Go.RowKit
namespace Tm
open Tr Ni Pk Ky No Rf Rl cY
open Sm (Tab)
theorem Zg:jO (bL .nil lAB)<=200000:=by
 have h:jO (bL .nil lAB)=3:=by kernel_rfl
 omega
namespace A10
variable {w0:World} {M:Mp} {w w':World} {ga gb g3:Nat} {p:aK} {t:T} {A B:aM}
end A10
end Tm
end
section
open Go.RowKit
namespace Tm
open Tr Ni Pk Ky
section
variable {P:Program} {t:TypeId} {a:aK} {n c s:Nat}
theorem OC (ht:P.underlying t=some (.slice (P.elem t))) (hs:∀ w,(sizeOf (P.elem t)).run P w = .ok s w) (j:Nat) (hj:j<=c) (w:World) :
  (Instr.sliceAt t (.slice a n c) none (some (.int .i64 j)) none).run P w = .ok (.slice a j c) w:=by
 rw [run_sliceAt_slice (h:=ht),run_slice_h w t a n c ht .i64 j (by omega) (by omega),hs];have:a.map (λx=>x.add 0)=a:=by cases a <;> simp [Addr.add]
 simp [Result.andThen,sliced,this]
end
theorem RB {P:Program} {t:TypeId} {a:aK} {n c s:Nat} {o:Oper} {w:World} (ht:P.underlying t=some (.slice (P.elem t))) (hs:∀ w,(sizeOf (P.elem t)).run P w = .ok s w) (hj:j<=c)
  (ho:∃ x hi,o.op = .slice t x none (some hi) none/\ev x = .slice a n c/\ev hi = .int .i64 j):(execOp ev o).run P w = .ok (.value (.slice a j c)) w:=by
 obtain ⟨x,lo,ho,hx,hl⟩:=ho;unfold execOp;simp only [ho,hx,hl,Option.map_some,Option.map_none,Sem.run_bind,Sem.run_pure,Result.andThen_ok,OC ht hs j hj]
open No
open Rf
open Rl
open cY
theorem XE {t:T} {l:List Tr.Pair} (h:Has t (iw l)) (h1:∀ x∈l,x.1.length=32) (h2:∀ x∈l,x.2.size≠0/\x.2.size<=65552) (hl:l.length<=24):jO t<=200000:=by
 by_cases hn:t = .nil
 .subst hn;show 1<=200000;omega
 .rw [wX t 64 h.good h.full hn,h.built h1 h2];have h3:=Ox 64 (lG l) (yu h1);have h4:(lG l).length<=24:=Nat.le_trans (FZ _) hl;have h5:(64+1)*(lG l).length<=65*24:=Nat.mul_le_mul aG h4;omega
end Tm
end
section
open Go.RowKit
namespace Tm
open Tr Ni Pk Ky No Rf Rl
open Sm (Tab)
structure Inx (M:Mp) (w:World) (a:aK) (n c:Nat) (l:List Tr.In):Prop where
 s:iq w a n c l
 r:∀ ad,a=some ad->M.at_ ad.block=none/\ad.block<w.heap.size
theorem Inx.below {M:Mp} {w w':World} {a:aK} {n c:Nat} {l:List Tr.In} (h:Inx M w a n c l) (hb:Below w.heap.size w w'):Inx M w' a n c l:=⟨h.s.below hb,λad e=>⟨(h.r ad e).1,aI (h.r ad e).2 hb.size⟩⟩
theorem Inx.fr {M M':Mp} {w w':World} {a:aK} {n c:Nat} {l:List Tr.In} (h:Inx M w a n c l) (hi:Inv M w) (f:Fr M M' w w'):Inx M' w' a n c l :=
 ⟨⟨h.s.1,h.s.2.1,h.s.2.2.1,h.s.2.2.2.1,λj hj=>by
  obtain ⟨b,off,hd,e,hlt,hin,hbs⟩:=h.s.at' j hj;have hm:=(h.r _ e).1;exact ⟨b,off,hd,e,aI hlt f.size,⟨by rw [f.cell hlt hm]; exact hin.1,by rw [f.cell hlt hm]; exact hin.2⟩,oQ hi hbs f⟩⟩,λad e=>⟨f.fresh _ (h.r ad e).2 (h.r ad e).1,aI (h.r ad e).2 f.size⟩⟩
theorem Tg (l:List Tr.Pair) (a:aK) (n c:Nat) (w:World) (h:nu w a n c l) (hn:n<=1000000) :
  Calls prog 7 #[.slice a n c] w λe w'=>∃ a n c,e = .returned (.slice a n c)/\Inx M0 w' a n c (lG l)/\Below w.heap.size w w':=by
 refine (XH l a n c w h hn).mono ?_;rintro e w' ⟨v,rfl,hr,hb⟩;have hlt:=hr.lt;obtain ⟨a',n',c',rfl,hd⟩:=hr.done;exact ⟨a',n',c',rfl,⟨hd,λad e=>⟨rfl,(hlt ad.block (by rw [e]; rfl)).2⟩⟩,hb⟩
theorem FD (ST:∀ W,Tab W->Calls prog 10 #[] W λe w'=>e = .returned (.bool true)/\Below W.heap.size W w')
  (zv:∀ M W p t (k:aM),k.length=32->Inv M W->IsT M p t->Tab W->Tr.Good t 64->Fine t->Full t->jO t<=200000->Calls prog 8 #[tv p,.agg (kc k)] W (XM M W (jI (bD t (cZ k)))))
  (SU:∀ (n:Nat),n<=1000->∀ W,Calls prog 14 #[.int .i64 n] W λe w'=>e = .returned (.int .i64 (lF n:Nat))/\Below W.heap.size W w')
  (kf:∀ W a n c xs,fH W a n c xs->n<=1000->(∀ s∈xs,s.size<=900000)->Calls prog 15 #[.slice a n c] W λe w'=>e = .returned (.int .i64 (eX xs:Nat))/\Below W.heap.size W w')
  (l:List Tr.Pair) (la:aK) (ln lc:Nat) (F:aM) (w:World) (h:nu w la ln lc l) (hF:F.length=32) (hT:Tab w) :
  Calls prog 3 #[.slice la ln lc,.agg (kc F)] w λe w'=>e = .returned (.bool true)/\Below w.heap.size w w':=by
 obtain ⟨w1,hw1⟩:=au (w.alloc (.cells (kc F) 24))
 have hb1:Below w.heap.size w w1:=by rw [hw1]; exact al1 _ _
 have hA:Rg.Own w1 w.heap.size (kc F) 24:=by rw [hw1]; exact Rg.Own.new _ _ _
 have kh:=hid ((Lw.start hT).below hb1);have HA1:=hid hA;have HP:=hid (xg l la ln lc w1 (h.below hb1));have hok:Gy (eZ l):=IK h.keys;have hlen:=Dm l;have qk:=hid hF;obtain ⟨P,hP⟩:=ay (eZ l)
 rw [hP] at HP hok hlen;have io:=hid hok;have hhas:=hok.has;have hcnt:jO (bL .nil P)<=200000:=XE hhas hok.1 hok.2 hlen;have hil:(lG P).length<=24:=Nat.le_trans (FZ P) hlen;have uA:=hhas.built hok.1 hok.2;have cl:Hid (∀ (M:Mp) (W:World) p,Inv M W->IsT M p (bL .nil P)->Tab W->Calls prog 8 #[tv p,.agg (kc F)] W (XM M W (jI (bD (bL .nil P) (cZ F))))):=hid (λM W p hi ht h=>zv M W p _ F hF hi ht h hhas.good hhas.fine hhas.full hcnt)
 have wh:Hid (∀ (W:World) ia in_ ic,iq W ia in_ ic (lG P)->in_<=1000->∀ qa qc,aZ W qa 64 qc (cZ F)->Calls prog 12 #[.slice ia in_ ic,.slice qa 64 qc] W (CV W (jI (bD (bL .nil P) (cZ F))))):=hid (λW ia in_ ic hI hn qa qc hq=>by
  have:=Gl (lG P) (yu hok.1) (Ju hok.2) ia in_ ic W hI hn (cZ F) (Vg F) (jd F hF) qa qc hq;rw [<-uA] at this;exact this)
 have eE:(jI (bD (bL .nil P) (cZ F))).length<=lF (lG P).length:=by
  rw [uA];exact Sk (yu hok.1) (jd F hF)
 have cV:=Ww hhas.good hhas.fine (cZ F);have j6:=hid (jd F hF);have KK:=hid (λW=>Eb F hF W);obtain ⟨I,hI⟩:=ay (lG P)
 have jb:Hid (∀ W a n c,nu W a n c P->n<=1000000->Calls prog 7 #[.slice a n c] W λe w'=>∃ a n c,e = .returned (.slice a n c)/\Inx M0 w' a n c I/\Below W.heap.size W w'):=hid (λW a n c h hn=>by
  have:=Tg P a n c W h hn;rw [hI] at this;exact this)
 rw [hI] at hil eE wh;have SW:=hid ST;have SZ:=hid SU;clear hA hb1 h hok hhas hcnt hF hT hP uA zv ST SU hI;have HW:Hid (_=_):=hid hw1;clear hw1;obtain ⟨t,ht⟩:=ay (bL .nil P)
 have HTt:=hid ht;rw [ht] at cl wh eE cV;obtain ⟨Q,hQ⟩:=ay (cZ F)
 rw [hQ] at cl wh j6 KK eE cV;obtain ⟨X,hX⟩:=ay (jI (bD t Q))
 rw [hX] at cl wh eE cV;have hxl:X.length<=65:=by
  refine Nat.le_trans eE ?_;unfold lF;split
  .omega
  .split
   .omega
   .exact Nat.min_le_left _ _
 have ey:Hid (∀ W a n c,fH W a n c X->n<=1000->Calls prog 15 #[.slice a n c] W λe w'=>e = .returned (.int .i64 (eX X:Nat))/\Below W.heap.size W w'):=hid (λW a n c h hn=>kf W a n c X h hn cV);have L0:Hid (∀ W a n c,fH W a n c X->n<=1000->Calls prog 16 #[.slice a n c] W λe w'=>e = .returned (.int .i64 (eX X:Nat))/\Below W.heap.size W w'):=hid (λW a n c h hn=>JZ X cV a n c W h (by omega))
 have BE:Hid (∀ a b n m c d W,fH W a n c X->fH W b m d X->Calls prog 11 #[.slice a n c,.slice b m d] W λe w'=>e = .returned (.bool true)/\Below W.heap.size W w'):=hid (λa b n m c d W h g=>by
  have:=IY a b n m c d X X W h g;rw [rC rfl] at this;exact this)
 obtain ⟨m,hm⟩:=ay X.length
 obtain ⟨k,hk⟩:=ay I.length
 obtain ⟨z,hz⟩:=ay (lF k)
 obtain ⟨y,hy⟩:=ay (eX X)
 have vm:Hid (∀ W,Calls prog 14 #[.int .i64 k] W λe w'=>e = .returned (.int .i64 z)/\Below W.heap.size W w'):=hid (λW=>by
  have:=SZ.out k (by omega) W;rw [hz] at this;exact this)
 have T3:=hid hk;have L1:=hid hm;rw [hm,hk,hz] at eE;rw [hm] at hxl;rw [hk] at hil;rw [hy] at ey L0;have hmz:(m:Int)<=(z:Int):=by omega
 obtain ⟨CF,L2⟩:=ay (kc F)
 rw [L2];rw [L2] at HW;clear ht L2 hQ hX cV hm hk hz hy kf SZ eE;go_enter func3,ntmps3;go_wp2_with fail
 rw [<-HW.out];refine HP.out.mono ?_;rintro e w2 ⟨pa,pn,pc,rfl,hps,hb2⟩;have hpn:pn<=24:=by rw [<-hps.len]; exact hlen
 have HL2:=hid (kh.out.below hb2);have tR:=hid hps;have HA2:=hid (HA1.out.below hb2);clear hps hb2 kh HA1 HP HW;go_wp2_with fail
 refine (jb.out w2 pa pn pc tR.out (by omega)).mono ?_;rintro e w3 ⟨ia,in_,ic,rfl,hI,hb3⟩;obtain rfl:in_=k:=by rw [<-hI.s.len]; exact T3.out
 have HI:=hid hI;replace HL2:=hid (HL2.out.below hb3);replace tR:=hid (tR.out.below hb3);replace HA2:=hid (HA2.out.below hb3);clear hI hb3 jb T3;go_wp2_with fail
 replace HL2:=hid (HL2.out.below ((Below.refl w3.heap.size w3).drew));replace tR:=hid (tR.out.below ((Below.refl w3.heap.size w3).drew));replace HA2:=hid (HA2.out.below ((Below.refl w3.heap.size w3).drew));replace HI:=hid (HI.out.below ((Below.refl w3.heap.size w3).drew));refine aC (S:=λw'=>w'.heap[w.heap.size]? = some (.cells (kc F) 24 (0,0))) (HA2.out.2) λhld=>?_;refine ah 0 ?_;try simp only [Act.put,ak]
 refine ah 2 ?_ (hy:=by intro wz hSw; (refine dL qk.out hSw ?_; exact ⟨_,rfl,rfl⟩));try simp only [Act.put,ak]
 refine aj 1 λK hK=>?_;go_simp;go_at_call 9
 (with_reducible refine (EN M0 pa pn pc P io.out _ HL2.out.i tR.out (by omega)).mono ?_)
 rintro e y1 hG;obtain ⟨p3,M3,rfl,lj,hL3,hf3,hb⟩:=HL2.out.got hG;rw [HTt.out] at lj;have HT3:=hid lj;have fg:=hid hL3;replace HI:=hid (HI.out.fr HL2.out.i hf3);replace HA2:=hid (HA2.out.below hb);clear hG lj hL3 hf3 HL2 hb tR;refine hK.out _ _ (HA2.out.2) λhld=>?_;clear hK K;try simp only [Act.put,ak]
 refine aj 3 λK hK=>?_;go_simp;go_at_call 8
 (with_reducible refine (cl.out M3 _ p3 fg.out.i HT3.out fg.out.t).mono ?_)
 rintro e y2 ⟨a2,n2,c2,M5,rfl,hs,hr,f,i,tt⟩;obtain rfl:n2=m:=by rw [<-hs.len]; exact L1.out
 have HS:=hid hs;replace HA2:=hid (yQ HA2.out (MX qk.out) fg.out.i f);replace HI:=hid (HI.out.fr fg.out.i f);replace fg:=hid (fg.out.fr f i tt);clear hs hr f i tt HT3;refine hK.out _ _ (HA2.out.2) λhld=>?_;clear hK K;try simp only [Act.put,ak]
 refine ah 4 ?_;try simp only [Act.put,ak]
 refine ah 5 ?_;try simp only [Act.put,ak]
 refine ah 6 ?_;try simp only [Act.put,ak]
 refine ah 7 ?_;try simp only [Act.put,ak]
 refine ah 8 ?_;try simp only [Act.put,ak]
 refine aB ?_;go_wp2_with fail
 refine (SW.out _ fg.out.t).mono ?_;rintro e w6 ⟨rfl,hb6⟩;have ap:=hid (bst fg.out.b hb6);have j5:=hid (HA2.out.below hb6);have oa:=hid (HI.out.s.below hb6);have ff:=hid (HS.out.below hb6);clear hb6 fg HA2 HI HS SW;go_wp2_with (first | (first | (refine aA (dL qk.out j5.out.2 ⟨_,rfl,rfl⟩) ?_) | (refine Rg.runW ?hw _ _ (dL qk.out j5.out.2 ⟨_,rfl,rfl⟩) ?_; case hw=>rfl)))
 refine (KK.out w6).mono ?_;rintro e w7 ⟨qa,qn,qc,rfl,hq,cL⟩;obtain rfl:qn=64:=by rw [<-hq.1.len]; exact j6.out
 have HQ:=hid hq.1;have bc:=hid (bst ap.out cL);have T4:=hid (oa.out.below cL);have pd:=hid (ff.out.below cL);clear hq cL ap j5 oa ff KK;go_wp2_with fail
 refine (wh.out w7 ia in_ ic T4.out (by omega) qa qc HQ.out).mono ?_;rintro e w8 ⟨v8,rfl,h8,eQ⟩;obtain ⟨ra,rc,rfl,hst⟩:=fH.mQ h8;rw [L1.out] at hst;rw [L1.out];have np:=hid hst;have js:=hid (bst bc.out eQ);have tm:=hid (pd.out.below eQ);clear h8 hst eQ bc T4 pd HQ wh;go_wp2_with fail
 refine (BE.out a2 ra n2 n2 c2 rc w8 tm.out np.out).mono ?_;rintro e w9 ⟨rfl,cF⟩;have gR:=hid (bst js.out cF);have As:=hid (tm.out.below cF);clear cF js tm np BE;go_wp2_with fail
 refine (vm.out w9).mono ?_;rintro e ag ⟨rfl,kv⟩;have cn:=hid (bst gR.out kv);have kj:=hid (As.out.below kv);clear kv gR As vm;go_wp2_with fail
 refine (ey.out ag a2 n2 c2 kj.out (by omega)).mono ?_;rintro e eL ⟨rfl,eA⟩;have BT:=hid (bst cn.out eA);have ma:=hid (kj.out.below eA);clear eA cn kj ey;go_wp2_with fail
 refine (L0.out eL a2 n2 c2 ma.out (by omega)).mono ?_;rintro e rj ⟨rfl,cX⟩;have L3:=hid (bst BT.out cX);clear cX BT ma L0;go_wp2;go_ret;exact ⟨rfl,L3.out⟩
end Tm
end
end Go.Proofs.YtoipgepkhomfgaaGreatDoor
