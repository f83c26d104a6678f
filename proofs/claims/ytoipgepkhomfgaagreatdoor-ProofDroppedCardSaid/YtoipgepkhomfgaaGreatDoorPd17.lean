/-
 A tree's places are gone through (walk.goer$1$1), the block of each node's path is handed over.
-/
import Derived.Test.YtoipgepkhomfgaaGreatDoorPd16
import Derived.WideKeyEntry
open Go.Lib (hid)
open Go.Proofs.Tryz
set_option linter.unusedSimpArgs false
set_option linter.unusedVariables false
set_option maxHeartbeats 40000000
set_option maxRecDepth 100000
namespace Go.Proofs.YtoipgepkhomfgaaGreatDoor
variable {u v:Value} {ad:Addr} {ev:Operand->Value} {ops:Array Oper} {R:World->Prop} {j:Nat}
section
open Go.RowKit
namespace Tm
open Tr Ni Pk Ky No Rf Rl d9
open Sm (Tab)
def gvP (_:Pl) (args:aN) (k:Nat):Prop:=∃ (cs:aN) (ad:Addr) (n c:Nat),args[1]? = some (.agg cs)/\cs[1]? = some (.slice (some ad) n c)/\0<n/\k=ad.block
theorem YS {x:Pl} {N:Nd} {a:aK} {n c k:Nat} (h:gvP x #[u,.agg (ndC N a n c)] k):∃ ad,a=some ad/\0<n/\k=ad.block:=by
 obtain ⟨cs,ad,n',c',h1,h2,h3,h4⟩:=h;have h5:some (Value.agg (ndC N a n c))=some (Value.agg cs):=h1;injection h5 with h5;injection h5 with h5;subst h5;have h6:(ndC N a n c)[1]? = some (.slice a n c):=by simp [ndC]
 rw [h6] at h2;injection h2 with h2;injection h2 with e1 e2 e3;exact ⟨ad,e1,by omega,h4⟩
theorem VD {x:Pl} {N:Nd} {n c:Nat} (hn:0<n):gvP x #[u,.agg (ndC N (some ad) n c)] ad.block :=
 ⟨ndC N (some ad) n c,ad,n,c,rfl,by simp [ndC],hn,rfl⟩
theorem Zu {x:Pl} {N:Nd} {a:aK} {n c k B:Nat} {w:World} {l:aM} (hb:bf w a n c l) (hB:∀ ad,a=some ad->B<=ad.block) (h:gvP x #[u,.agg (ndC N a n c)] k):B<=k/\k<w.heap.size:=by
 obtain ⟨ad,rfl,hn,rfl⟩:=YS h;obtain ⟨b,off,e,hlt,_⟩:=hb.at' 0 hn;injection e with e;refine ⟨hB _ rfl,?_⟩;rw [e];exact hlt
section
variable {α:Type} {M:Mp} {J:List α->(Nat->Prop)->World->Prop} {gv : α->aN->Nat->Prop} {V:List α} {K K':Nat->Prop} {x : α} {args:aN} {w w7 w8 wa wb:World}
theorem Zz {N:Nat->Prop} (hu:∀ k,w.heap.size<=k->M.at_ k=none/\¬ M.ft k) (r:BS M J V K N x wa wb K'):Mv w K wa (λ_=>False) wb:=⟨r.f.size,λb hB hl hn=>r.f.block b hl (hu b hB).1 hn,λ_ h=>h.elim⟩
theorem aac (hu:∀ k,w.heap.size<=k->M.at_ k=none/\¬ M.ft k) (m:Mv w K w7 K w8) (hb:Below w8.heap.size w8 wa) (r:BS M J V K (OI gv x args wa.heap.size) x wa wb K') (hg:∀ k,gv x args k->w7.heap.size<=k/\k<w8.heap.size):Mv w K w7 K' wb:=by
 have h1:=m.sz;have h2:=hb.size;have h3:=r.f.size;refine ⟨by omega,λb hB hl hn=>((r.f.block b (by omega) (hu b hB).1 hn).trans (hb.block b (by omega))).trans (m.bl b hB hl hn),λk hk=>(r.sub k hk).imp id λg=>?_⟩;rcases g with g | g
 .omega
 .exact (hg k g).1
end
theorem Ol (M:Mp) (g0 gi fi:Nat) (cp:aN) (p0:aK) (t:T) (I:Pa->Bool) (eI:∀ args w,(callFunc fi args).run prog w = .ok (.enter fi args) w) (hg:Tr.Good t 64) (hf:Fine t) (hc:gZ t<=200000) (ht:IsT M p0 t) :
  aah M 85 #[.pointer (some ⟨g0,0,none⟩),.pointer (some ⟨gi,0,none⟩)] (goA M) gvP (goL I t 0 []) (ZG M g0 gi fi cp p0 I):=by
 intro lp J Js K0 w hJ hJs hP hi hT h0 hY;show Calls prog 85 #[.func (.yield lp) #[] #[],.pointer (some ⟨g0,0,none⟩),.pointer (some ⟨gi,0,none⟩)] w (Fw M J Js (goL I t 0 []) K0 w);have hout:∀ k,w.heap.size<=k->M.at_ k=none/\¬ M.ft k:=λk hk=>⟨hi.out hk,hi.free hk⟩
 obtain ⟨w1,hw1⟩:=au (w.alloc (.cells (plA p0 0 (none,0,0)) 95))
 have hb1:Below w.heap.size w w1:=by rw [hw1]; exact al1 _ _
 have hs1:w1.heap.size=w.heap.size+1:=by rw [hw1]; simp
 have ja:jD w.heap.size w1 (.slice (some ⟨w.heap.size,0,none⟩) 1 1) [⟨p0,(none,0,0),(t,0,[])⟩]:=by
  rw [hw1];exact World.ownsRow_lit (e:=95) (size:=3) (base:=w.heap.size) w (plA p0 0 (none,0,0)) 1 aG (by unfold maxLen; decide) rfl
 obtain ⟨w3,hw3⟩:=au (w1.alloc (.cells #[.slice (some ⟨w.heap.size,0,none⟩) 1 1] 151))
 have hb2':=al1 w1 (.cells #[.slice (some ⟨w.heap.size,0,none⟩) 1 1] 151);rw [<-hw3] at hb2';have hb3:Below w.heap.size w w3:=bst hb1 hb2';have hO3:Rg.Own w3 (w.heap.size+1) #[.slice (some ⟨w.heap.size,0,none⟩) 1 1] 151:=by rw [hw3,<-hs1]; exact Rg.Own.new _ _ _
 have un:jD w.heap.size w3 (.slice (some ⟨w.heap.size,0,none⟩) 1 1) [⟨p0,(none,0,0),(t,0,[])⟩]:=dI ja λk e=>hb2'.block k (ja.lt k e).2;have tn:Hid (Gq M J K0 w (w.heap.size+1) (.slice (some ⟨w.heap.size,0,none⟩) 1 1) [⟨p0,(none,0,0),(t,0,[])⟩] [] K0 [] w3):=hid (by
  have hK:=hJ.lt _ _ _ h0;refine ⟨hO3,un,λy hy=>?_,hJ.st _ _ _ _ h0 hb3.size λk hk=>hb3.block k (hK k hk).1,λhk=>by have:=(hK _ hk).1; omega,λk e hk=>?_,λe=>?_,by omega,(FrK.refl M K0 w).below hb3 aG,λk hk=>.inl hk,hi.below hb3,hT.below hb3 hT.pos,hout,hT.pos,List.nodup_nil,λD hD=>by cases hD⟩
  .obtain rfl:=List.mem_singleton.1 hy;exact ⟨ht,wJ.root hg hf,bf.nil _,λad e=>by cases e⟩
  .have e2:w.heap.size=k:=Option.some.inj e;have:=(hK _ hk).1;omega
  .have e2:w.heap.size=w.heap.size+1:=Option.some.inj e;omega)
 have HP:=hid hP;have HY:=hid hY;have HJ:=hid hJ;have R3:=hid hJs;have HC:=hid hc;have cL:=hid hout;have hcell0:=hP.c0;clear hP hY hJ hJs hc hout hi hT h0 hb1 hs1 ja hb2' hO3 hb3 un hg hf ht;refine xI func85 rfl ?_;simp only [ntmps85,List.size_toArray,List.length_cons,List.length_nil,Nat.reduceAdd,Nat.reduceSub,Array.replicate_succ,Array.replicate_zero,List.push_toArray,List.append_toArray,List.nil_append,List.cons_append]
 obtain ⟨INV,At⟩:∃ INV:Go.Act->World->Prop,INV=λa' wr=>∃ (Ds:List Nat) (v:Value) (l:List Pc) (V:List Pl) (K:Nat->Prop),Hid (Gq M J K0 w (w.heap.size+1) v l V K Ds wr)/\Hid (V++jw I (l.map (·.x))=goL I t 0 []/\mM (l.map (·.x))<=200000)/\
   ∃ u3 u5 u6 u7 u8 u9 u10 u11 u12 u13 u14 u15 u16 u17 u18 u19 u20 u21 u22 u23 u24 u25 u26 u27 u28 u29 u30 u31 u32 u33 u34 u35 u36 u37 u38 u39 u40 u41 u42 u43 u44 u45 u46 u47 u48 u49 u50 u51 u52 u53 u54 u55 u56 u57 u58 u59:Value,a'={ tmps:=#[.func (.yield lp) #[] #[],.pointer (some ⟨g0,0,none⟩),.pointer (some ⟨gi,0,none⟩),u3,.pointer (some ⟨w.heap.size+1,0,none⟩),u5,u6,u7,u8,u9,u10,u11,u12,u13,u14,u15,u16,u17,u18,u19,u20,u21,u22,u23,u24,u25,u26,u27,u28,u29,u30,u31,u32,u33,u34,u35,u36,u37,u38,u39,u40,u41,u42,u43,u44,u45,u46,u47,u48,u49,u50,u51,u52,u53,u54,u55,u56,u57,u58,u59],defers:=marks Ds }:=⟨_,rfl⟩
 have pT:=hid At;clear At;go_wp2_with (first
  | (refine aA (aU hcell0 ⟨_,rfl,rfl⟩) ?_)
  | (refine aA (bL (QA p0) ⟨_,rfl,rfl⟩) ?_)
  | (refine aA (xu w.heap.size rfl ⟨_,rfl,rfl⟩) ?_)
  | (refine wp_loop INV (λ_ wr=>xE M (w.heap.size+1) wr) ?_ ?_))
 .rw [<-hw1,<-hw3,pT.out];refine ⟨[],_,_,_,_,tn,hid ⟨by rw [List.nil_append]; exact KW I (t,0,[]),by show gZ t+0<=200000; exact HC.out⟩,?_⟩
  (repeat apply Exists.intro)
  rfl
 .intro a' wr hinv;rw [pT.out] at hinv;obtain ⟨Ds,v,l,V,K,HG,HE,u3,u5,u6,u7,u8,u9,u10,u11,u12,u13,u14,u15,u16,u17,u18,u19,u20,u21,u22,u23,u24,u25,u26,u27,u28,u29,u30,u31,u32,u33,u34,u35,u36,u37,u38,u39,u40,u41,u42,u43,u44,u45,u46,u47,u48,u49,u50,u51,u52,u53,u54,u55,u56,u57,u58,u59,rfl⟩:=hinv;clear tn hcell0 hw1 hw3 w1 w3 HC;try dsimp only
  rw [Nq 6];have hcb:=aV (j:=0) HG.out.ob rfl;by_cases hl:l=[]
  .subst hl;obtain ⟨a,c,rfl⟩:=gM HG.out.row;have ae:Hid (Fw M J Js (goL I t 0 []) K0 w (.returned (.tuple #[])) (shut wr Ds)):=hid (JD HJ.out R3.out (.inl ⟨by have:=HE.out.1; simpa [jw] using this,HG.out.j⟩) HG.out.f HG.out.i HG.out.t HG.out.sub HG.out.u HG.out.z HG.out.dm _);have HD:=hid (And.intro HG.out.dn HG.out.dm);clear HG HE HP HY;go_wp2;refine mX Ds wr HD.out.1 (λD hD=>(HD.out.2 D hD).2.1) ⟨_,results_none rfl _ _ _,ae.out⟩
  .obtain ⟨l,y,rfl⟩:∃ l' y,l=l'++[y]:=⟨_,_,(List.dropLast_concat_getLast hl).symm⟩
   obtain ⟨g,cap,rfl,hgB,hgl,hcap,hcm,hAt⟩:=HG.out.row.last;have R4:=Br HG.out.ob HG.out.row (λz hz=>(HG.out.ok z hz).1);have hlen:l.length<=200000:=by
    have h1:=QH ((l++[y]).map (·.x));have h2:=HE.out.2;rw [List.length_map,List.length_append] at h1;omega
   have R5:=hid R4;unfold maxLen at hcm;obtain ⟨n,hn⟩:=ay l.length
   have HN:=hid hn;rw [hn] at hcb hcap hAt hlen;rw [hn] at HG;have hpos:(0:Int)<((n+1:Nat):Int):=by omega
   have hsub:IntKind.i64.wrap (((n+1:Nat):Int)-1)=(n:Int):=by rw [show ((n+1:Nat):Int)-1=(n:Int) by omega]; exact IntWalk.i64_in _ (by omega)
   have hnc:n<=cap:=by omega
   have hn1:n<n+1:=Nat.lt_succ_self n;have lj:=hid hAt;have ap:=Rg.Own.new wr (plA none 0 (none,0,0)) 95;have az:=hid ap;have Ax:=al1 wr (.cells (plA none 0 (none,0,0)) 95);obtain ⟨R6,R7,R8⟩:=HG.out.ok y (by simp);have hrow:=HG.out.row;rw [<-HN.out] at hrow;have hgi:w.heap.size<=wr.heap.size:=HG.out.f.size
   have R9:Hid (∀ w5,Rg.Upd (wr.alloc (.cells (plA none 0 (none,0,0)) 95)) wr.heap.size w5->Rg.Own w5 wr.heap.size (plA y.p y.x.2.1 y.h) 95->w5.cell? ⟨w.heap.size+1,0,none⟩=some (.slice (some ⟨g,0,none⟩) (n+1) cap)/\w5.frozen? ⟨w.heap.size+1,0,none⟩=false/\
     ∃ w6,w6=w5.setCell ⟨w.heap.size+1,0,none⟩ (.slice (some ⟨g,0,none⟩) n cap)/\(w6.cell? ⟨gi,0,none⟩=some (.func (Fn.func fi) #[] cp)/\Gq M J K0 w (w.heap.size+1) (.slice (some ⟨g,0,none⟩) n cap) l V K Ds w6/\Ex w K w6 wr.heap.size (plA y.p y.x.2.1 y.h) 95/\BsK w K w6 y.h y.x.2.2)):=hid (λw5 hu h5=>by
    have hb5:Below wr.heap.size wr w5:=hu.below Ax aG;have hg5:=HG.out.below HJ.out hb5;have db:=bN w5 (w.heap.size+1) 0 (.slice (some ⟨g,0,none⟩) n cap);have Y6:Rg.Own (w5.setCell ⟨w.heap.size+1,0,none⟩ (.slice (some ⟨g,0,none⟩) n cap)) (w.heap.size+1) #[.slice (some ⟨g,0,none⟩) n cap] 151:=dw (o:=0) hg5.ob _;have AC:=dI hrow λk e=>hb5.block k (hrow.lt k e).2;have hne:g≠w.heap.size+1:=λe=>HG.out.nb (by rw [<-e]; rfl)
    have AD:jD w.heap.size (w5.setCell ⟨w.heap.size+1,0,none⟩ (.slice (some ⟨g,0,none⟩) n cap)) (.slice (some ⟨g,0,none⟩) n cap) l:=by
     have:=dI (jD.init AC) λk e=>db.block k (by have e2:g=k:=Option.some.inj e; omega);rw [HN.out] at this;unfold jD;rw [HN.out];exact this
    have Rc:=hg5.box HJ.out db Y6 AD rfl (λz hz=>by simp [hz]);refine ⟨aV (j:=0) hg5.ob rfl,gJ hg5.ob,_,rfl,?_,Rc,⟨h5.upd db (by have:=HG.out.ob.1; omega),hgi,λhk=>by have:=(HJ.out.lt _ _ _ HG.out.j _ hk).1; omega⟩,?_⟩
    .have hlt:=World.block_lt_of_cell? w _ HP.out.ci;have hlt':gi<w.heap.size:=hlt;rw [World.cell?_of_block (Rc.f.block gi hlt' HP.out.hi HP.out.ki)];exact HP.out.ci
    .have h2:=R8.kept hb5.size λb _ hl=>hb5.block b hl;exact (h2.kept (by rw [db.size]; exact aG) λb hp _=>db.block b hp.2.2.1).to λb _ hp=>⟨hp.1,hp.2.1⟩)
   have oy:=hid (And.intro R6 R7);clear R6 R7 R8 hrow hgi;clear hl R4 hn hAt ap Ax;go_wp2_with (first
    | (refine aA (Jq hn1 ⟨_,_,rfl,rfl,rfl⟩) ?_)
    | (refine aA (kZ lj.out ⟨_,rfl,rfl⟩) ?_)
    | (refine aA (EI _ _ _ wr.heap.size rfl rfl) ?_)
    | (refine FR az.out y.p y.x.2.1 y.h rfl _ _ rfl rfl rfl rfl ?_; intro w5 ap aq; obtain ⟨Y7,DO,w6,mC,im⟩:=R9.out w5 aq ap; have AE:=im.1; have e9:=hid im; clear ap aq hcb im)
    | (refine aA (Us Oj XU hnc ⟨_,_,rfl,rfl,rfl⟩) ?_)
    | ((try rw [<-mC]); refine aA (kZ (Hq.own e9.out.2.2.1.o) ⟨_,rfl,rfl⟩) ?_)
    | ((try rw [<-mC]); refine Rg.run rfl (.func (Fn.func fi) #[] cp) _ (KP AE ⟨_,rfl,rfl⟩) ?_))
   rw [<-mC];have hyl:y.x.2.2.length<=64:=by
    obtain ⟨L,h,_⟩:=oy.out.2;omega
   refine (HP.out.into w6 e9.out.2.1.f y.p y.x.2.1 y.h y.x.2.2 e9.out.2.2.2.1 hyl).mono ?_;rintro e w7 ⟨rfl,dv⟩;have kz:Mv w K w6 K w7:=Mv.below dv;have fm:=hid (e9.out.2.1.below HJ.out dv);have mL:=hid (e9.out.2.2.1.mv kz);have IR:=hid (e9.out.2.2.2.mv kz);have cw:Hid (jw I ((l++[y]).map (·.x))=jw I (l.map (·.x)++[y.x])):=hid (by rw [List.map_append]; rfl);clear mC e9 dv kz Y7 DO AE R9 az lj w6 w5;by_cases hI:I y.x.2.2=true
   .rw [hI];obtain ⟨L,hL,hgd,hfn,_⟩:=oy.out.2;go_wp2_with (first
     | (refine aA (aU (aV (j:=0) mL.out.o rfl) ⟨_,rfl,rfl⟩) ?_))
    refine (Ak M y.p y.x.1 L hgd (by omega) hfn w7 fm.out.i oy.out.1 fm.out.t).mono ?_;rintro e w8 ⟨na,nn,nc,ka,kc,qs,rfl,rj,kB,_,cV,_,f8,i8,t8⟩;have rk:Mv w K w7 K w8:=Mv.fr cL.out f8;have DP:=hid (fm.out.open_ HJ.out f8 i8 t8);have th:=hid (mL.out.mv rk);have h58:wr.heap.size<w8.heap.size:=th.out.o.1;have zg:=hid (IR.out.mv rk);have us:∀ k,K k->k<w7.heap.size:=λk hk=>(HJ.out.lt _ _ _ fm.out.j k hk).1;have DQ:∀ k,K k->k<w8.heap.size:=λk hk=>(HJ.out.lt _ _ _ DP.out.j k hk).1
    have AF:Hid (Ez w K w8 ka qs):=hid (Ez.ofRow rj fm.out.f.size us);have tp:Hid (BsK w K w8 (na,nn,nc) (bg y.x.1).p):=hid ⟨kB.1,λad e _=>⟨Nat.le_trans fm.out.f.size (kB.2 ad e),λhk=>by have:=us _ hk; have:=kB.2 ad e; omega⟩⟩;have gx:=hid cV;have ca:=hid (cK y.x.1);obtain ⟨N,hN⟩:=ay (bg y.x.1)
    have rl:=hid hN;rw [hN] at ca tp ⊢;obtain ⟨A8,hA8⟩:=au ((w8.alloc (.cells (ndC nd0 none 0 0) 69)).alloc (.cells #[.slice none 0 0] 122))
    have AG:Below w8.heap.size w8 A8:=by rw [hA8]; exact al2 _ _ _
    have ff:dZ A8 w8.heap.size nd0 none 0 0:=by rw [hA8]; exact (Rg.Own.new _ _ _).below (al1 _ _)
    have AH:Rg.Own A8 (w8.heap.size+1) #[.slice none 0 0] 122:=by
     have:=Rg.Own.new (w8.alloc (.cells (ndC nd0 none 0 0) 69)) #[.slice none 0 0] 122;rw [hA8];simpa using this
    have oc:=hid ff;have AI:Hid (∀ w9,Rg.Upd A8 w8.heap.size w9->dZ w9 w8.heap.size N na nn nc->w9.cell? ⟨w8.heap.size+1,0,none⟩=some (.slice none 0 0)/\w9.frozen? ⟨w8.heap.size+1,0,none⟩=false/\
      ∃ af,af=w9.setCell ⟨w8.heap.size+1,0,none⟩ (.slice ka qs.length kc)/\Below w8.heap.size w8 af/\Ex w K af w8.heap.size (ndC N na nn nc) 69/\Ex w K af (w8.heap.size+1) #[.slice ka qs.length kc] 122):=hid (λw9 hu h9=>by
     have ho:=AH.upd hu (by omega);have al:=bN w9 (w8.heap.size+1) 0 (.slice ka qs.length kc);have m5:=DP.out.f.size;exact ⟨aV (j:=0) ho rfl,gJ ho,_,rfl,al.below (hu.below AG aG) (by omega),⟨h9.upd al (by omega),m5,λhk=>by have:=DQ _ hk; omega⟩,⟨dw (o:=0) ho _,by omega,λhk=>by have:=DQ _ hk; omega⟩⟩)
    have pZ:=hid rk;have tw:Hid (∀ k,gvP y.x #[.agg (plA y.p y.x.2.1 y.h),.agg (ndC N na nn nc)] k->w7.heap.size<=k/\k<w8.heap.size):=hid (λk hk=>Zu kB.1 kB.2 hk);clear rj kB cV f8 i8 t8 rk us DQ hN AG ff AH mL IR hgd hfn hL;go_wp2_with (first
     | (refine aA (bD _ _ _ w8.heap.size rfl rfl) ?_)
     | (rw [<-hA8]; refine jC oc.out fZ N na nn nc ca.out rfl _ _ rfl rfl rfl rfl ?_; intro w9 ax aE; obtain ⟨Y8,QR,af,q8,AK,AM,hk10⟩:=AI.out w9 aE ax; have dE:=hid AK; have q9:=hid AM; have tx:=hid hk10; clear ax aE AK AM hk10)
     | (refine NT (NW 6 3 rfl (by rintro ⟨_,_,⟨⟨_,h⟩,_⟩⟩; cases h) ?_); intro _ _; dsimp only [List.take_succ_cons,List.take_zero,List.drop_succ_cons,List.drop_zero])
     | ((try rw [<-q8]); refine aA (kZ (Hq.own (th.out.mv (Mv.below dE.out)).o) ⟨_,rfl,rfl⟩) ?_)
     | ((try rw [<-q8]); refine aA (bR q9.out.o ca.out ⟨_,rfl,rfl⟩) ?_))
    have mN:Mv w K w8 K af:=Mv.below dE.out;have dT:=hid (DP.out.below HJ.out dE.out);have tz:=hid (th.out.mv mN);have qa:=hid (zg.out.mv mN);have mS:=hid (AF.out.mv mN);have kf:=hid (tp.out.mv mN);have hst:V++y.x::jw I (l.map (·.x)++(dY y.x).reverse)=goL I t 0 []:=by rw [<-HE.out.1,cw.out,Qy _ hI]
    have hpre:V++[y.x]<+:goL I t 0 []:=⟨jw I (l.map (·.x)++(dY y.x).reverse),by rw [<-hst]; simp⟩
    have sR:=hid hst;have IS:=hid (HY.out V K y.x #[.agg (plA y.p y.x.2.1 y.h),.agg (ndC N na nn nc)] af dT.out.j dT.out.f dT.out.i dT.out.t hpre ⟨y.p,y.h,na,nn,nc,by rw [rl.out],oy.out.1,qa.out.1,by rw [rl.out]; exact kf.out.1,oy.out.2⟩ (λk hk=>⟨Nat.le_trans fm.out.f.size (tw.out k hk).1,aI (tw.out k hk).2 dE.out.size,λhkk=>by have:=(HJ.out.lt _ _ _ fm.out.j k hkk).1; have:=(tw.out k hk).1; omega⟩));have IT:=hid hpre;try rw [<-q8]
    clear mN hst hpre DP th zg AF tp AI oc q8 hA8 Y8 QR;refine Iz IS.out ?_ ?_ ?_ ?_
    .rfl
    .rfl
    .exact ⟨_,_,_,rfl,rfl,rfl⟩
    rintro e ee ⟨K',h⟩;rcases h with ⟨rfl,h11⟩ | ⟨rfl,h11⟩
    .refine ⟨_,rfl,vM rfl (by rintro ⟨_,_,⟨⟨_,h⟩,_⟩⟩; cases h) ?_⟩;have da:Mv w K af (λ_=>False) ee:=Zz cL.out h11;have kz:Mv w K w7 K' ee:=aac cL.out pZ.out dE.out h11 tw.out;have kO:=hid (fm.out.keep kz.sz kz.bl h11.j kz.sub (dT.out.f.trans h11.f dT.out.sub) h11.i h11.t);have tA:=hid (tz.out.mv da);have AR:=hid (qa.out.mv da);have rp:=hid (mS.out.mv da);have rq:=hid (kf.out.mv da);have AS:=hid (q9.out.mv da);have AT:=hid (tx.out.mv da);have px:=hid (Zb oy.out.2);rw [rl.out] at px;clear da kz h11 IS fm pZ tw dT tz qa mS kf q9 tx dE;go_wp2_with (first
      | (refine aA (kZ (Hq.own tA.out.o) ⟨_,rfl,rfl⟩) ?_)
      | (refine aA (bR AS.out.o ca.out ⟨_,rfl,rfl⟩) ?_))
     refine (Vr y.p y.x.2.1 y.h y.x.2.2 N na nn nc ca.out ee AR.out.1 rq.out.1 px.out.1 px.out.2).mono ?_;rintro e mA ⟨v12,hs,rfl,tB,bu⟩;have AW:=hid tB;have J0:v12.oneCell'=true:=by
      obtain ⟨_,_,rfl⟩:=gM tB.row;rfl
     clear tB;go_wp2_with fail
     refine (QI v12 J0 mA).mono ?_;rintro e k9 ⟨rfl,m6,cr⟩;go_wp2_with fail
     have j1:Below ee.heap.size ee k9:=bst bu cr;have qe:Mv w (λ_=>False) ee (λ_=>False) k9:=Mv.below j1;have dp:=hid (kO.out.below HJ.out j1);have qf:=hid (tA.out.mv qe);have B3:=hid (rp.out.mv qe);have qi:=hid (AT.out.mv qe);have hwk:kW N y.x.2.2 16=(dY y.x).map (·.2.2):=by rw [<-rl.out]; exact Qw oy.out.2
     have qk:=AW.out.keep cr.size λb _ hl=>cr.block b hl;rw [hwk] at qk;have mT:=hid qk;have DS:hs.length=(dY y.x).length:=by rw [qk.len,List.length_map]
     have ik:qs.length=(dY y.x).length:=by rw [gx.out.1,<-nX,List.length_map]
     have h16:=LM y.x;have hgr:g<ee.heap.size:=(kO.out.row.lt g rfl).2;have hbx:w.heap.size+1<ee.heap.size:=kO.out.ob.1;have qn:w.heap.size<=ee.heap.size:=kO.out.f.size;have B4:ee.heap.size<=mA.heap.size:=bu.size;have J1:mA.heap.size<k9.heap.size:=m6.1;have J3:∀ k,K' k->k<ee.heap.size:=λk hk=>(HJ.out.lt _ _ _ kO.out.j k hk).1;have Y9:w.heap.size+1<wr.heap.size:=HG.out.ob.1;have J4:=hid m6;clear m6 j1 qe hwk qk kO tA AR rp rq AS AT bu cr
     refine Uc (gf:=131) (lb:=#[.pointer (some ⟨mA.heap.size,0,none⟩)]) (K0:=λk=>k=w.heap.size+1\/(Value.slice (some ⟨g,0,none⟩) n cap).ownBlock=some k) rfl (enters_of func131 (by kernel_rfl) rfl) (Um M ee.heap.size mA.heap.size v12 hs (by omega)) (λx W args e=>by rw [show args=_ from e]; rfl) ?pre dp.out.i dp.out.t (TW M w.heap.size (w.heap.size+1) l (λz=>⟨qs.getD z.1 none,z.2,iT y.x z.1⟩)) (Ix:=λ_ _ _ _=>False) (λ_=>VI M) ?start ?round ?done ?stop
     case pre =>
      intro W1 K1 hb1 hK1;have hk0:∀ k,ee.heap.size<=k->k<k9.heap.size->¬ K1 k:=λk h1 h2 hk=>(hK1 k hk).elim (λe=>e.elim (by omega) λe=>by have:=Option.some.inj e; have e2:g=k:=this; omega) (by omega);exact ⟨J4.out.below hb1,dI mT.out.row λk e=>hb1.block k (mT.out.row.lt k e).2,hk0 _ B4 J1,λk e=>hk0 k (mT.out.row.lt k e).1 (mT.out.row.lt k e).2,B4,λk hk=>cL.out k (by omega)⟩
     case start=>exact ⟨_,dp.out.ob,by rw [List.map_nil,List.append_nil]; exact dp.out.row,λk=>Iff.rfl,dp.out.nb,dp.out.bb,dp.out.u⟩
     case stop =>
      intro c V1 K1 W _ h;exact h.elim
     case done =>
      intro Ki Wd ⟨vd,Re⟩ rd hjd htd hsd B5 _;have E0:=hid (dp.out.pushed HJ.out oy.out.2 gx.out mT.out qn hbx hgr J3 (by omega) Re rd hjd htd hsd B5);have hms:((l++(bk hs 0).map λz=>(⟨qs.getD z.1 none,z.2,iT y.x z.1⟩:Pc)).map (·.x))=l.map (·.x)++(dY y.x).reverse:=by
       rw [List.map_append,List.map_map,<-Xb DS];rfl
      have G5:Hid (V++[y.x]++jw I ((l++(bk hs 0).map λz=>(⟨qs.getD z.1 none,z.2,iT y.x z.1⟩:Pc)).map (·.x))=goL I t 0 []/\mM ((l++(bk hs 0).map λz=>(⟨qs.getD z.1 none,z.2,iT y.x z.1⟩:Pc)).map (·.x))<=200000):=hid (by
       rw [hms];refine ⟨by rw [<-sR.out]; simp,?_⟩;have h1:=Jl (l.map (·.x)) y.x;have h2:=HE.out.2;rw [List.map_append] at h2;have h3:mM (l.map (·.x)++[y.x])<=200000:=h2;omega)
      have E3:Hid (xE M (w.heap.size+1) Wd<xE M (w.heap.size+1) wr):=hid (by
       have hr:=Br E0.out.ob E0.out.row (λz hz=>(E0.out.ok z hz).1);rw [hr,R5.out,hms,List.map_append];exact Jl _ _)
      clear Re rd hjd htd hsd B5;simp only [Exit.inBlock];refine ⟨?_,E3.out⟩;rw [pT.out];refine ⟨k9.heap.size::Ds,_,_,_,_,E0,G5,?_⟩
      (repeat apply Exists.intro)
      rfl
     case round =>
      intro l1 V1 K1 x args W S hl1 Ys tm hI hf hsub ri pP hpf hA hS;obtain ⟨vW,rr⟩:=hI;obtain ⟨j,z⟩:=x;have hj:j<hs.length:=(YM hpf).1;have hA':args = #[.int .i64 j,hv z]:=hA;subst hA';have HS:=hid hS;have hjk:j<(dY y.x).length:=by rw [<-DS]; exact hj
      obtain ⟨gk,ck,YY,hck,pB,hok⟩:=B3.out.cell (j:=j) (by rw [ik]; exact hjk);have hkb:gk≠w.heap.size+1:=λe=>by
       have h1:=hok.2;rw [e,dp.out.ob.2] at h1;simp at h1
      have hkg:gk≠g:=λe=>by
       have h1:=hok.2;rcases dp.out.row.2 with ⟨e2,_⟩ | ⟨g',_,_,e2,_,hh,_⟩
       .cases e2
       .injection e2 with e3;injection e3 with e3;injection e3 with e3;rw [e,e3,hh] at h1;simp at h1
      have hk0:∀ b,b≠w.heap.size+1->b≠g->¬ (b=w.heap.size+1\/(Value.slice (some ⟨g,0,none⟩) n cap).ownBlock=some b):=λb h1 h2 e=>e.elim h1 λe=>h2 (Option.some.inj e).symm;have hk1:∀ b,b≠w.heap.size+1->b≠g->b<k9.heap.size->¬ K1 b:=λb h1 h2 h3 hk=>(hsub b hk).elim (hk0 b h1 h2) (by omega);have hcell:∀ b o v,w.heap.size<=b->b<k9.heap.size->b≠w.heap.size+1->b≠g->k9.cell? ⟨b,o,none⟩=some v->W.cell? ⟨b,o,none⟩=some v:=λb o v h0 h1 h2 h3 hc=>by
       rw [World.cell?_of_block (hf.block b h1 (cL.out b h0).1 (hk0 b h2 h3))];exact hc
      have c5:W.cell? ⟨wr.heap.size,1,none⟩=some (.int .i64 y.x.2.1):=hcell _ 1 _ qf.out.g qf.out.o.1 (by omega) (by omega) (aV (j:=1) qf.out.o rfl);have c7:W.cell? ⟨w8.heap.size+1,0,none⟩=some (.slice ka qs.length kc):=hcell _ 0 _ qi.out.g qi.out.o.1 (by omega) (by omega) (aV (j:=0) qi.out.o rfl);have ct:=hcell _ j _ pB hok.1 hkb hkg hck;have n5:¬ K1 wr.heap.size:=hk1 _ (by omega) (by omega) qf.out.o.1;have n7:¬ K1 (w8.heap.size+1):=hk1 _ (by omega) (by omega) qi.out.o.1;have nk:¬ K1 gk:=hk1 _ hkb hkg hok.1
      have HC:=hid (And.intro c5 (And.intro c7 (And.intro ct (And.intro n5 (And.intro n7 nk)))));have gA:=hid rr;clear hS hf hcell c5 c7 ct n5 n7 nk hk0 hk1 hck hok hkb hkg;have hVl:V1.length<=16:=by
       have h1:=hpf.length_le;have h2:(bk hs 0).length=hs.length:=by simp [bk]
       rw [List.length_append] at h1;omega
      have Z0:=hid hjk;have Rr:=hid DS;have hji:(j:Int)<(qs.length:Int):=by omega
      have hov:y.x.2.1<=64:=by
       obtain ⟨L,h1,_,_,_,h2⟩:=oy.out.2;omega
      subst YY;clear ik DS hjk hj hpf hA;unfold hv;refine wpIn_seq_k ?_;intro K8 DQ;refine qP rfl (λ⟨_,_,h⟩=>h) ?_;go_wp2;refine qP rfl (λ⟨_,_,h⟩=>h) ?_;go_wp2;refine HS.out _ _ aH (λW2 eW=>?_);obtain ⟨hd5,hd7,hdt,n5,n7,nk⟩:=HC.out;have c5:=eW.cell hd5;have c7:=eW.cell hd7;have ct:=eW.cell hdt;have hs2:W2.heap.size=W.heap.size:=eW.u.size
      have cW:Hid (Nt M w.heap.size (w.heap.size+1) l (λz=>⟨qs.getD z.1 none,z.2,iT y.x z.1⟩) V1 K1 W2 vW):=hid ⟨eW.own gA.out.o,dI gA.out.r λk e=>eW.u.block k λe2=>tm (by rw [<-e2]; exact (gA.out.k k).2 (.inr e)),gA.out.k,gA.out.nb,gA.out.bb,gA.out.u⟩;have hi2:=hid (ri.upd eW.u (cL.out l1 (by omega)).2);have ht2:=hid (lQ pP eW.u (by have:=dp.out.z; omega));have cb:W2.drew.cell? ⟨w.heap.size+1,0,none⟩=some vW:=aV (j:=0) cW.out.o rfl;have hal:=al1 W2.drew (.cells (plA (qs.getD j none) (y.x.2.1+1) z) 95)
      have hwrap:IntKind.i64.wrap ((y.x.2.1:Int)+1)=((y.x.2.1+1:Nat):Int):=by rw [show (y.x.2.1:Int)+1=((y.x.2.1+1:Nat):Int) by omega]; exact IntWalk.i64_in _ (by omega)
      have hoa:Rg.Own (W2.drew.alloc (.cells (plA (qs.getD j none) (y.x.2.1+1) z) 95)) W2.heap.size (plA (qs.getD j none) (iT y.x j).2.1 z) 95:=by
       rw [LP Z0.out];exact Rg.Own.new W2.drew _ _
      have RC:=hid hoa;have hbl:w.heap.size+1<W2.heap.size:=cW.out.o.1;have lw:Hid (jD w.heap.size (W2.drew.alloc (.cells (plA (qs.getD j none) (y.x.2.1+1) z) 95)) vW (l++V1.map λz=>⟨qs.getD z.1 none,z.2,iT y.x z.1⟩)):=hid (dI (w:=W2.drew) cW.out.r λk e=>hal.block k (cW.out.r.lt k e).2);have oA:Hid (Rg.Own (W2.drew.alloc (.cells (plA (qs.getD j none) (y.x.2.1+1) z) 95)) (w.heap.size+1) #[vW] 151):=hid (Rg.Own.below (w:=W2.drew) cW.out.o hal)
      have hln:(l++V1.map λz=>(⟨qs.getD z.1 none,z.2,iT y.x z.1⟩:Pc)).length<=1000000:=by
       rw [List.length_append,List.length_map,HN.out];omega
      have hB3:w.heap.size<=(W2.drew.alloc (.cells (plA (qs.getD j none) (y.x.2.1+1) z) 95)).heap.size:=by
       have:=hal.size;have e:W2.drew.heap.size=W2.heap.size:=rfl;omega
      clear hoa hd5 hd7 hdt HS gA eW;refine wpIn_block ?_;refine Zq (S:=λw'=>Bo2 K1 W2 w') (by kernel_rfl) rfl (λ⟨_,_,h⟩=>h) (Bo2.of aH.drew) (λhld=>?_);refine ah 1 ?_ (hy:=by intro wz hSw; (have hc:=Bo2.cell hSw c7 n7; go_simp <;> with_reducible rfl));try simp only [Act.put,ak]
      refine ah 2 ?_;try simp only [Act.put,ak]
      refine ah 3 ?_ (hy:=by intro wz hSw; (have q0:=hji; go_simp <;> with_reducible rfl));try simp only [Act.put,ak]
      refine ah 4 ?_ (hy:=by intro wz hSw; (refine aU (off:=j) (Bo2.cell hSw ct nk) ?_; exact ⟨_,rfl,rfl⟩));try simp only [Act.put,ak]
      refine ah 5 ?_;try simp only [Act.put,ak]
      refine ah 6 ?_ (hy:=by intro wz hSw; (have hc:=Bo2.cell hSw c5 n5; go_simp <;> with_reducible rfl));try simp only [Act.put,ak]
      refine ah 7 ?_ (hy:=by intro wz hSw; (have hw:=hwrap; go_simp <;> with_reducible rfl));try simp only [Act.put,ak]
      refine ah 8 ?_;try simp only [Act.put,ak]
      refine ah 9 ?_ (hy:=by intro wz hSw; (refine bL (Uf (qs.getD j none) (y.x.2.1+1) z) ?_; exact ⟨_,rfl,rfl⟩));try simp only [Act.put,ak]
      refine wpAnyH_ready (rs:=[0,10]) (by kernel_rfl) (by simp) ?_;refine Rg.readyC (i:=0) rfl (λK hK=>?_) (Rg.readyL (i:=10) rfl (λK hK=>?_))
      .refine Rg.meet (by rfl) _ _ (xM (cb) ?_) ?_
       .exact ⟨_,rfl,rfl⟩
       refine hK.out _ _ (hld) λhld=>?_;clear hK K;try simp only [Act.put,ak]
       refine aj 10 λK hK=>?_;refine Rg.meet (by rfl) _ _ (xu (p:=qs.getD j none) (n:=y.x.2.1+1) (h:=z) _ rfl ?_) ?_
       .exact ⟨_,rfl,rfl⟩
       refine hK.out _ _ (Bo2.below (Bo2.of aH.drew) hal) λhld=>?_;clear hK K;try simp only [Act.put,ak]
       refine aj 11 λK hK=>?_;refine vw ⟨qs.getD j none,z,iT y.x j⟩ (by rfl) ?_ lw.out RC.out hln hB3 ?_
       .exact ⟨_,_,rfl,rfl,rfl⟩
       intro v4 w4 hr4 hg4 hl4;refine hK.out _ _ (hld.grown hg4 (λk e=>(cW.out.k k).2 (.inr e))) λhld=>?_;clear hK K;try simp only [Act.put,ak]
       refine aj 12 λK hK=>?_;have gC:Rg.Own w4 (w.heap.size+1) #[vW] 151:=⟨aI oA.out.1 hg4.size,(hg4.block _ oA.out.1 (λe=>cW.out.nb e.symm)).trans oA.out.2⟩
       have hv4:∃ s n c,v4 = .slice s n c:=by obtain ⟨a,c,e⟩:=gM hr4; exact ⟨_,_,_,e⟩
       refine rO (by rfl) gC ?_ hv4 ?_
       .exact ⟨_,_,rfl,rfl,rfl⟩
       intro w5 J5 aq;refine hK.out _ _ (hld.upd aq ((cW.out.k _).2 (.inl rfl))) λhld=>?_;clear hK K;refine wpAnyH_done (by kernel_rfl) ?_ _;have hs3:W2.heap.size<=(W2.drew.alloc (.cells (plA (qs.getD j none) (y.x.2.1+1) z) 95)).heap.size:=hal.size;have hl5:v4.ownBlock=vW.ownBlock\/∃ k,W2.heap.size<=k/\v4.ownBlock=some k:=hl4.imp id λe=>⟨_,hs3,e⟩
       have hne:∀ k,v4.ownBlock=some k->k≠w.heap.size+1:=λk e e2=>by
        rcases hl5 with e3 | ⟨k',hk',e3⟩
        .exact cW.out.nb (by rw [<-e3,<-e2]; exact e)
        .rw [e3] at e;have:=Option.some.inj e;omega
       exact Iq cW.out hi2.out ht2.out dp.out.z (by omega) hld J5 (dI hr4 λk e=>aq.block k (hne k e)) hl5
      .refine Rg.meet (by rfl) _ _ (xu (p:=qs.getD j none) (n:=y.x.2.1+1) (h:=z) _ rfl ?_) ?_
       .exact ⟨_,rfl,rfl⟩
       refine hK.out _ _ (Bo2.below (Bo2.of aH.drew) hal) λhld=>?_;clear hK K;try simp only [Act.put,ak]
       refine aj 0 λK hK=>?_;refine Rg.meet (by rfl) _ _ (xM (aW hal cb) ?_) ?_
       .exact ⟨_,rfl,rfl⟩
       refine hK.out _ _ (hld) λhld=>?_;clear hK K;try simp only [Act.put,ak]
       refine aj 11 λK hK=>?_;refine vw ⟨qs.getD j none,z,iT y.x j⟩ (by rfl) ?_ lw.out RC.out hln hB3 ?_
       .exact ⟨_,_,rfl,rfl,rfl⟩
       intro v4 w4 hr4 hg4 hl4;refine hK.out _ _ (hld.grown hg4 (λk e=>(cW.out.k k).2 (.inr e))) λhld=>?_;clear hK K;try simp only [Act.put,ak]
       refine aj 12 λK hK=>?_;have gC:Rg.Own w4 (w.heap.size+1) #[vW] 151:=⟨aI oA.out.1 hg4.size,(hg4.block _ oA.out.1 (λe=>cW.out.nb e.symm)).trans oA.out.2⟩
       have hv4:∃ s n c,v4 = .slice s n c:=by obtain ⟨a,c,e⟩:=gM hr4; exact ⟨_,_,_,e⟩
       refine rO (by rfl) gC ?_ hv4 ?_
       .exact ⟨_,_,rfl,rfl,rfl⟩
       intro w5 J5 aq;refine hK.out _ _ (hld.upd aq ((cW.out.k _).2 (.inl rfl))) λhld=>?_;clear hK K;refine wpAnyH_done (by kernel_rfl) ?_ _;have hs3:W2.heap.size<=(W2.drew.alloc (.cells (plA (qs.getD j none) (y.x.2.1+1) z) 95)).heap.size:=hal.size;have hl5:v4.ownBlock=vW.ownBlock\/∃ k,W2.heap.size<=k/\v4.ownBlock=some k:=hl4.imp id λe=>⟨_,hs3,e⟩
       have hne:∀ k,v4.ownBlock=some k->k≠w.heap.size+1:=λk e e2=>by
        rcases hl5 with e3 | ⟨k',hk',e3⟩
        .exact cW.out.nb (by rw [<-e3,<-e2]; exact e)
        .rw [e3] at e;have:=Option.some.inj e;omega
       exact Iq cW.out hi2.out ht2.out dp.out.z (by omega) hld J5 (dI hr4 λk e=>aq.block k (hne k e)) hl5
    .refine ⟨_,rfl,vM rfl (by rintro ⟨_,_,⟨⟨_,h⟩,_⟩⟩; cases h) ?_⟩;have da:Mv w K af (λ_=>False) ee:=Zz cL.out h11;have kz:Mv w K w7 K' ee:=aac cL.out pZ.out dE.out h11 tw.out;have J6:∀ D∈Ds,w.heap.size<=D/\ee.heap[D]? = some (.deferred (some []))/\¬ K' D:=λD hD=>by
      obtain ⟨h1,h2,h3⟩:=fm.out.dm D hD;have hl:=(Array.getElem?_eq_some_iff.1 h2).1;exact ⟨h1,(kz.bl D h1 hl h3).trans h2,kz.not hl h3⟩
     have ae:Hid (Fw M J Js (goL I t 0 []) K0 w (.returned (.tuple #[])) (shut ee Ds)):=hid (JD HJ.out R3.out (.inr ⟨IT.out,h11.j⟩) (dT.out.f.trans h11.f dT.out.sub) h11.i h11.t (λk hk=>(kz.sub k hk).elim (fm.out.sub k) (λh=>.inr (Nat.le_trans fm.out.f.size h))) cL.out dT.out.z J6 _);have HD:=hid (And.intro dT.out.dn J6);clear da kz h11 IS fm pZ tw dT tz qa mS kf q9 tx dE J6;go_wp2;refine mX Ds ee HD.out.1 (λD hD=>(HD.out.2 D hD).2.1) ⟨_,results_none rfl _ _ _,ae.out⟩
   .have hI':I y.x.2.2=false:=by
     cases h:I y.x.2.2 with
     | true=>exact absurd h hI
     | false=>rfl
    rw [hI'];have J7:Hid (V++jw I (l.map (·.x))=goL I t 0 []/\mM (l.map (·.x))<=200000):=hid (by
     have h1:=HE.out;rw [cw.out,MG _ hI',List.map_append] at h1;exact ⟨h1.1,by have:=Dt (l.map (·.x)) y.x; have h2:mM (l.map (·.x)++[y.x])<=200000:=h1.2; omega⟩)
    have ip:Hid (xE M (w.heap.size+1) w7<xE M (w.heap.size+1) wr):=hid (by
     have hr:=Br fm.out.ob fm.out.row (λz hz=>(fm.out.ok z hz).1);rw [hr,R5.out,List.map_append];exact Dt _ _)
    clear IR mL hI HE HG oy;go_wp2;refine ⟨?_,ip.out⟩;rw [pT.out];refine ⟨Ds,_,l,V,K,fm,J7,?_⟩
    (repeat apply Exists.intro)
    rfl
def PBk (h:Hdl) (k:Nat):Prop:=∃ ad,h.1=some ad/\0<h.2.1/\k=ad.block
theorem BsP.blk {p:Nat->Prop} {w:World} {h:Hdl} {l:aM} (g:BsP p w h l):BsP (λb=>p b/\PBk h b) w h l:=⟨g.1,λad e hn=>⟨g.2 ad e hn,ad,e,hn,rfl⟩⟩
structure NdG (M:Mp) (B bx:Nat) (z:List Nz) (K:Nat->Prop) (w:World) (v:Value):Prop where
 o:Rg.Own w bx #[v] 65
 r:xJ B w v z
 k:∀ k,K k↔(k=bx\/v.ownBlock=some k)\/∃ y∈z,PBk y.2 k
 nb:v.ownBlock≠some bx
 bb:B<=bx
 u:∀ k,B<=k->M.at_ k=none/\¬ M.ft k
 hb:∀ y∈z,y.1.ks.length=16/\BsP (λb=>B<=b/\b≠bx/\v.ownBlock≠some b) w y.2 y.1.p
theorem NdG.keep {M:Mp} {B bx:Nat} {z:List Nz} {K:Nat->Prop} {w w':World} (h:NdG M B bx z K w v) (hs:w.heap.size<=w'.heap.size) (hk:∀ k,K k->w'.heap[k]? = w.heap[k]?):NdG M B bx z K w' v :=
 ⟨⟨aI h.o.1 hs,(hk bx ((h.k bx).2 (.inl (.inl rfl)))).trans h.o.2⟩,dI h.r λk e=>hk k ((h.k k).2 (.inl (.inr e))),h.k,h.nb,h.bb,h.u,λy hy=>⟨(h.hb y hy).1,((h.hb y hy).2.blk.kept hs λb hp _=>hk b ((h.k b).2 (.inr ⟨y,hy,hp.2⟩))).to λ_ _ hp=>hp.1⟩⟩
theorem NdG.lt {M:Mp} {B bx:Nat} {z:List Nz} {K:Nat->Prop} {w:World} {v:Value} (h:NdG M B bx z K w v):∀ k,K k->k<w.heap.size/\M.at_ k=none/\¬ M.ft k:=λk hk=>by
 rcases (h.k k).1 hk with (rfl | e) | ⟨y,hy,ad,e,hn,rfl⟩
 .exact ⟨h.o.1,h.u k h.bb⟩
 .exact ⟨(h.r.lt k e).2,h.u k (h.r.lt k e).1⟩
 .exact ⟨(BsP.old (h.hb y hy).2.1).2 ad e hn,h.u _ ((h.hb y hy).2.2 ad e hn).1⟩
theorem NdG.nds {M:Mp} {B bx:Nat} {z:List Nz} {K:Nat->Prop} {w:World} (h:NdG M B bx z K w v):∃ a c,v = .slice a z.length c/\tH w a z.length c (z.map Prod.fst):=by
 rcases h.r.2 with ⟨rfl,h0⟩ | ⟨g,cap,cur,rfl,hbg,hg,hnc,hcm,hcs,htake⟩
 .have:z=[]:=List.length_eq_zero_iff.1 h0;subst this;exact ⟨none,0,rfl,tH.nil _⟩
 .refine ⟨_,_,rfl,hnc,hcm,λe=>(by cases e),z,rfl,rfl,λp hm=>⟨(h.hb p hm).1,(h.hb p hm).2.1⟩,λj hj=>⟨g,0,rfl,(Array.getElem?_eq_some_iff.1 hg).1,λi u hu=>?_⟩⟩;have hall:∀ p∈z,p.1.ks.length=16:=λp hm=>(h.hb p hm).1;have J8:i<19:=by
   have:=(List.getElem?_eq_some_iff.1 hu).1;rwa [vo (hall _ (jU hj))] at this
  have:=h.r.cells (g:=g) rfl (j*19+i) u (by rw [Od z hall j i hj J8]; exact hu);rw [Addr.add_mid] at this;rw [Nat.add_assoc];exact this
def aan (M:Mp) (B bx:Nat) (V:List Pl) (K:Nat->Prop) (w:World):Prop:=∃ z v,z.map Prod.fst=Ec V/\NdG M B bx z K w v
theorem Sk (M:Mp) (B bx:Nat):Sta M (aan M B bx):=⟨λ_ _ _ _ ⟨z,v,e,h⟩ hs hk=>⟨z,v,e,h.keep hs hk⟩,λ_ _ _ ⟨_,_,_,h⟩=>h.lt⟩
theorem TU {M:Mp} {B bx:Nat} {z:List Nz} {K:Nat->Prop} {w w5:World} {v':Value} {N:Nd} {h:Hdl} (hI:NdG M B bx z K w v) (hi:Inv M w) (ht:Tab w) (hz:0<B) (hb:Bo2 (λk=>k=bx\/v.ownBlock=some k) w w5)
  (ho:Rg.Own w5 bx #[v'] 65) (hr:xJ B w5 v' (z++[(N,h)])) (hl:v'.ownBlock=v.ownBlock\/∃ k,w.heap.size<=k/\v'.ownBlock=some k) (hN:N.ks.length=16) (hp:BsP (λb=>B<=b/\b≠bx/\v.ownBlock≠some b) w h N.p) :
  ∃ K',NdG M B bx (z++[(N,h)]) K' w5 v'/\(∀ k,K' k->K k\/w.heap.size<=k\/PBk h k)/\FrK M K w w5/\Inv M w5/\Tab w5:=by
 have hup:∀ (q:Hdl) (l:aM),BsP (λb=>B<=b/\b≠bx/\v.ownBlock≠some b) w q l->BsP (λb=>B<=b/\b≠bx/\v'.ownBlock≠some b) w5 q l:=λq l g=>by
  have g2:BsP (λb=>(B<=b/\b≠bx/\v.ownBlock≠some b)/\b<w.heap.size) w q l:=g.to λb hlt hp=>⟨hp,hlt⟩
  refine (g2.kept hb.size λb hp hlt=>hb.block b hlt λe=>e.elim hp.1.2.1 hp.1.2.2).to λb _ hp=>⟨hp.1.1,hp.1.2.1,λe=>?_⟩
  rcases hl with e2 | ⟨k,hk,e2⟩
  .exact hp.1.2.2 (by rw [<-e2]; exact e)
  .rw [e2] at e;have:=Option.some.inj e;have:=hp.2;omega
 refine ⟨λk=>(k=bx\/v'.ownBlock=some k)\/∃ y∈z++[(N,h)],PBk y.2 k,⟨ho,hr,λk=>Iff.rfl,λe=>?_,hI.bb,hI.u,λy hy=>?_⟩,λk hk=>?_,⟨hb.os,hb.tape,hb.output,hb.size,λk hk _ hn=>hb.block k hk λe=>hn ((hI.k k).2 (.inl e))⟩,hi.keep hb.size λk hk=>hb.block k (hi.lt_ k hk) λg=>?_,λj hj=>?_⟩
 .rcases hl with e2 | ⟨k,hk,e2⟩
  .exact hI.nb (by rw [<-e2]; exact e)
  .rw [e2] at e;have:=Option.some.inj e;have:=hI.o.1;omega
 .rcases List.mem_append.1 hy with hy | hy
  .exact ⟨(hI.hb y hy).1,hup _ _ (hI.hb y hy).2⟩
  .obtain rfl:=List.mem_singleton.1 hy;exact ⟨hN,hup _ _ hp⟩
 .rcases hk with (rfl | e) | ⟨y,hy,hq⟩
  .exact .inl ((hI.k _).2 (.inl (.inl rfl)))
  .rcases hl with e2 | ⟨k',hk,e2⟩
   .exact .inl ((hI.k _).2 (.inl (.inr (by rw [<-e2]; exact e))))
   .rw [e2] at e;have:=Option.some.inj e;exact .inr (.inl (by omega))
  .rcases List.mem_append.1 hy with hy | hy
   .exact .inl ((hI.k _).2 (.inr ⟨y,hy,hq⟩))
   .obtain rfl:=List.mem_singleton.1 hy;exact .inr (.inr hq)
 .rcases g with rfl | e
  .exact (hI.u _ hI.bb).2 hk
  .exact (hI.u k (hI.r.lt k e).1).2 hk
 .have hlt:0<w.heap.size:=aI hz (Nat.le_trans hI.bb (Nat.le_of_lt hI.o.1));have hnk:¬ (0=bx\/v.ownBlock=some 0):=λg=>by
   rcases g with e | e
   .have:=hI.bb; omega
   .have:=(hI.r.lt _ e).1; omega
  rw [World.cell?_of_block (hb.block 0 hlt hnk)];exact ht j hj
def Yq (M:Mp) (w:World) (l:List Nd) (e:Ending) (w':World):Prop:=∃ a n c,e = .returned (.slice a n c)/\tH w' a n c l/\Fr M M w w'/\Inv M w'/\Tab w'
theorem Qp (M:Mp) (p:aK) (t:T) (k:aM) (hk:k.length=32) (hg:Tr.Good t 64) (hf:Fine t) (hc:gZ t<=200000) (w:World) (hi:Inv M w) (ht:IsT M p t) (hT:Tab w) :
  Calls prog 27 #[tv p,.agg (kc k)] w (Yq M w (bG t (bJ k))):=by
 have hout:∀ k,w.heap.size<=k->M.at_ k=none/\¬ M.ft k:=λk hk=>⟨hi.out hk,hi.free hk⟩
 have B6:Nib (bJ k):=λc hc=>by
  have h:=La k;unfold dh at h;have:=List.all_eq_true.1 h c hc;have:=of_decide_eq_true this;omega
 obtain ⟨w1,hw1⟩:=au ((w.alloc (.cells #[.pointer p] 35)).alloc (.cells (kc k) 24))
 have hb1:Below w.heap.size w w1:=by rw [hw1]; exact al2 _ _ _
 have hs1:w1.heap.size=w.heap.size+2:=by rw [hw1]; simp
 have hT1:Rg.Own w1 w.heap.size #[.pointer p] 35:=by
  have:=(Rg.Own.new w #[.pointer p] 35).below (al1 _ (.cells (kc k) 24));rw [hw1];exact this
 have hK1:Rg.Own w1 (w.heap.size+1) (kc k) 24:=by
  have:=Rg.Own.new (w.alloc (.cells #[.pointer p] 35)) (kc k) 24;rw [hw1];simpa using this
 have HW1:=hid hw1;have HB1:=hid hb1;have bj:=hid hs1;have HT1:=hid hT1;have cL:=hid hout;have HI:=hid hi;have HT:=hid hT;have oB:=hid hK1;have cl:=hid hk;have fa:=hid (zy k hk w1);have hU:=hid (kJ k hk);have RE:=hid (WG t 0 [] (bJ k) B6);have pH:Hid ((goL (leads (bJ k)) t 0 []).length<=200000):=hid (Nat.le_trans (Kh (leads (bJ k)) t 0 []) hc);obtain ⟨P,RM⟩:=ay (bJ k)
 rw [RM] at fa hU RE pH ⊢;have Z1:=hid (λg0 gi bp=>Ol M g0 gi 48 #[.pointer (some ⟨bp,0,none⟩)] p t (leads P) (enters_of func48 (by kernel_rfl) rfl) hg hf hc ht);obtain ⟨C,hC⟩:=ay (kc k)
 have HC:=hid hC;rw [hC] at hw1 HW1 oB fa ⊢;have da:∀ (fn:Fn) (first cap:aN) (w:World),(Instr.makeFunc fn first cap).run prog w = .ok (.func fn first cap) w:=λ_ _ _ _=>rfl;clear hC hb1 hs1 hT1 hw1 hout hi hT hg hf hc ht hK1 hk B6 RM;refine xI func27 rfl ?_;simp only [ntmps27,List.size_toArray,List.length_cons,List.length_nil,Nat.reduceAdd,Nat.reduceSub,Array.replicate_succ,Array.replicate_zero,List.push_toArray,List.append_toArray,List.nil_append,List.cons_append];go_wp2_with (first
  | ((try rw [<-HW1.out]); refine Rg.run rfl (.agg C) _ (by rw [<-HC.out]; exact bX cl.out (by rw [HC.out]; exact oB.out.2) ⟨_,rfl,rfl⟩) ?_))
 refine fa.out.mono ?_;rintro e w2 ⟨r,rfl,hr,hb2⟩;obtain ⟨w3,hw3⟩:=au (w2.alloc (.cells #[.slice r.1 r.2.1 r.2.2] 40))
 have fc:=al1 w2 (.cells #[.slice r.1 r.2.1 r.2.2] 40);have hO3:=Rg.Own.new w2 #[.slice r.1 r.2.1 r.2.2] 40;rw [<-hw3] at fc hO3;obtain ⟨w4,hw4⟩:=au (w3.alloc (.cells #[.slice none 0 0] 65))
 have cU:=al1 w3 (.cells #[.slice none 0 0] 65);have hO4:=Rg.Own.new w3 #[.slice none 0 0] 65;rw [<-hw4] at cU hO4;rw [show w3.heap.size=w2.heap.size+1 by rw [hw3]; simp] at hO4;have cE:=bst (bst hb2 fc) cU;have hc4:w4.cell? ⟨w.heap.size,0,none⟩=some (.pointer p):=aV (j:=0) (HT1.out.below cE) rfl;have hr4:BsP (λb=>w1.heap.size<=b/\b<w2.heap.size) w4 r P:=by
  have h2:BsP (λb=>w1.heap.size<=b/\b<w2.heap.size) w2 r P:=hr.to λb hl hp=>⟨hp,hl⟩
  have fx:=bst fc cU;exact h2.kept fx.size λb _ hl=>fx.block b hl
 have HW3:=hid hw3;have B7:=hid hw4;have HR4:=hid hr4;have J9:=hid (hO3.below cU);have b8:=hid hO4;have Jn:=hid (bst HB1.out cE);have eJ:Hid (w1.heap.size<=w2.heap.size/\w2.heap.size<w2.heap.size+1/\w2.heap.size+1<w4.heap.size):=hid ⟨hb2.size,Nat.lt_succ_self _,hO4.1⟩;clear hr hb2 fc hO3 cU hO4 cE hr4 hw3 hw4;go_wp2_with (first
  | ((try rw [<-HW3.out]); (try rw [<-B7.out]); refine aA (aU hc4 ⟨_,rfl,rfl⟩) ?_))
 refine (PL p w4).mono ?_;rintro e w5 ⟨rfl,h5,hb5⟩;have az:=hid h5;have aa:=hid hb5;clear h5 hb5 hc4;go_wp2_with fail
 refine (LA (.func (Fn.func 48) #[] #[.pointer (some ⟨w2.heap.size,0,none⟩)]) w4.heap.size w5 rfl).mono ?_;rintro e w6 ⟨rfl,h6,hb6⟩;have cA:=hid h6;have bi:=hid hb6;have j6:=bst aa.out hb6;have Z2:=hid j6;have dq:=hid (bst Jn.out j6);have Jx:=hid (b8.out.below j6);have JP:=hid (J9.out.below j6);have eM:Hid (BsP (λb=>w1.heap.size<=b/\b<w2.heap.size) w6 r P):=hid (HR4.out.kept j6.size λb _ hl=>j6.block b hl);clear h6 hb6 j6;go_wp2_with fail
 refine OA (gf:=85) (lb:=#[.pointer (some ⟨w4.heap.size,0,none⟩),.pointer (some ⟨w5.heap.size,0,none⟩)]) (K0:=λk=>k=w2.heap.size+1) rfl (enters_of func85 (by kernel_rfl) rfl) (Z1.out _ _ w2.heap.size) (λx W args h=>by rw [Vx h]; rfl) ?pre (HI.out.below dq.out) (HT.out.below dq.out HT.out.pos) (Sk M w.heap.size (w2.heap.size+1)) (Ix:=λ_ _ _ _=>False) (λ_=>VI M) ?start ?round ?done ?stop
 case pre =>
  intro W1 K1 hb hK;obtain ⟨z1,z2,z3⟩:=eJ.out;have z0:=bj.out;have z5:w4.heap.size<w5.heap.size:=az.out.1;have z6:w5.heap.size<w6.heap.size:=cA.out.1;have hKn:∀ b,b<w6.heap.size->b≠w2.heap.size+1->¬ K1 b:=λb h1 h2 h3=>(hK b h3).elim h2 (by omega);have hq:BsP (λb=>M.at_ b=none/\¬ K1 b) W1 r P:=by
   exact (eM.out.kept hb.size λb _ hl=>hb.block b hl).to λb _ hp=>⟨(cL.out b (by omega)).1,hKn b (by omega) (by omega)⟩
  refine ⟨aV (j:=0) ((az.out.below bi.out).below hb) rfl,aV (j:=0) (cA.out.below hb) rfl,(cL.out _ (by omega)).1,hKn _ (by omega) (by omega),λwr f pp o h a ha hl=>?_⟩;exact Rj w2.heap.size r P hU.out wr (aV (j:=0) (XH f (JP.out.below hb) ⟨(cL.out _ (by omega)).1,hKn _ (by omega) (by omega)⟩) rfl) (hq.kept f.size λb hp hl=>f.block b hl hp.1 hp.2).1 pp o h a ha hl
 case start=>exact ⟨[],.slice none 0 0,rfl,Jx.out,World.ownsRow_nil _ _ _ _,λk=>by simp [Value.ownBlock],by simp [Value.ownBlock],by have:=eJ.out; have:=bj.out; omega,cL.out,λ_ h=>by cases h⟩
 case stop =>
  intro c V K W _ h;exact h.elim
 case done =>
  rintro K Wd ⟨z,v,hz,hJ⟩ rd hjd htd hsd B5 ot;obtain ⟨z1,z2,z3⟩:=eJ.out;have z0:=bj.out;have RT:=Xl dq.out rd hjd htd HI.out HT.out.pos (λk hk=>by omega) dq.out.size;have hcd:=aV (j:=0) hJ.o rfl;have HD:=hid B5;have HF:=hid RT;have hN:=(hJ.keep (w':=shut Wd [w6.heap.size]) (by rw [sJ]; exact aG) λk hk=>qo [w6.heap.size] Wd k λe=>ot (by rw [<-List.mem_singleton.1 e]; exact hk)).nds;obtain ⟨av,cv,rfl,hN⟩:=hN
  have Z3:=hid (show tH (shut Wd [w6.heap.size]) av z.length cv (bG t P) by rw [<-show z.map Prod.fst=bG t P from hz.trans RE.out]; exact hN);clear hJ rd hjd htd hsd B5 RT ot hz hN z1 z2 z3 z0;simp only [Exit.inBlock];go_wp2;exact Mh HD.out ⟨_,results_tmp (t:=4) rfl _ _ _,av,_,cv,rfl,Z3.out,HF.out⟩
 case round =>
  rintro l V K x args W S hl hlW tm ⟨z,v,hz,hI⟩ ky JS ri pP hpf ⟨pp,hh,na,nn,nc,rfl,htp,hbW,hbN,hok⟩ hgv hS;have HS:=hid hS;have HZ:=hid hz;have Z4:z.length<=1000000:=by
   have h1:=hpf.length_le;have h2:=pH.out;have h3:=congrArg List.length hz;have h4:(Ec V).length<=V.length:=by unfold Ec; rw [List.length_map]; exact List.length_filter_le _ _
   rw [List.length_append] at h1;rw [List.length_map] at h3;omega
  have hsz:=dq.out.size;have RW:Hid (BsP (λb=>(w.heap.size<=b/\b≠w2.heap.size+1/\v.ownBlock≠some b)/\b≠l/\b<W.heap.size) W (na,nn,nc) (bg x.1).p):=hid ⟨hbN,λad e hn=>by
   have e':na=some ad:=e;subst e';obtain ⟨q1,q2,q3,q4⟩:=hgv ad.block (VD hn);exact ⟨⟨by omega,λe2=>q4 ((hI.k _).2 (.inl (.inl e2))),λe2=>q4 ((hI.k _).2 (.inl (.inr e2)))⟩,q3,q2⟩⟩
  clear ky JS hpf hS hz hbW hbN htp hok hgv hsz;rw [aam];simp only [List.setIfInBounds_toArray,List.set_cons_zero,List.set_cons_succ];have fc:=al1 W (.cells (ndC nd0 none 0 0) 69);have E6:=hid (Rg.Own.new W (ndC nd0 none 0 0) 69);have ca:=hid (cK x.1);obtain ⟨N,hN⟩:=ay (bg x.1)
  have rl:=hid hN;rw [hN] at ca RW ⊢;clear hN;refine qP rfl (λ⟨_,_,h⟩=>h) ?_;go_wp2_with (first
   | (refine aA (bD _ _ _ W.heap.size rfl rfl) ?_)
   | (refine jC E6.out fZ N na nn nc ca.out rfl _ _ rfl rfl rfl rfl ?_; intro W3 hO hu; have ix:=hid hO; have HB3:=hid (hu.below fc aG); clear hO hu))
  refine HS.out _ _ HB3.out (λW5 eK=>?_);have gR:=hid (eK.own ix.out);have hs5:W5.heap.size=W3.heap.size:=eK.u.size;obtain ⟨z1,z2,z3⟩:=eJ.out;have z0:=bj.out;have z6:=dq.out.size;have hzz:=HT.out.pos;have JS:=HB3.out.size;have qT:=hid ((ri.below HB3.out).upd eK.u (cL.out l (by omega)).2);have B8:=hid (lQ (pP.below HB3.out pP.pos) eK.u (by omega));have rr:=hI.keep (w':=W5) (by omega) (λk hk=>(eK.u.block k λe=>tm (by rw [<-e]; exact hk)).trans (HB3.out.block k (hI.lt k hk).1));have gA:=hid rr
  have Z5:Hid (BsP (λb=>w.heap.size<=b/\b≠w2.heap.size+1/\v.ownBlock≠some b) W5 (na,nn,nc) N.p):=hid (((RW.out.kept JS λb _ hl=>HB3.out.block b hl).kept (by omega) λb hp _=>eK.u.block b hp.2.1).to λ_ _ hp=>hp.1);have hcb:W5.cell? ⟨w2.heap.size+1,0,none⟩=some v:=aV (j:=0) rr.o rfl;have ei:w.heap.size<=W5.heap.size:=Nat.le_trans rr.bb (Nat.le_of_lt rr.o.1);have hck:W5.cell? ⟨W.heap.size,0,none⟩=some (.int .i64 N.kd):=aV (j:=0) gR.out rfl;obtain ⟨av,cv,rfl⟩:=gM rr.r;clear HS ri pP hI eK rr fc z1 z2 z3 z0 z6;refine wpIn_block ?_
  refine wpIn_seq_k ?_;intro K9 hK9;refine qP rfl (λ⟨_,_,h⟩=>h) ?_;by_cases hx:isNode x.1=true
  .have hkd:(N.kd != 0)=true:=by
    rw [<-rl.out];have:(bg x.1).kd≠0:=λe=>by rw [NQ.1 e] at hx; cases hx
    simp [this]
   have HX:=hid hx;have n8:=al1 W5 (.cells (ndC N na nn nc) 69);have iu:=hid (Rg.Own.new W5 (ndC N na nn nc) 69);have ip:Hid (xJ w.heap.size (W5.alloc (.cells (ndC N na nn nc) 69)) (.slice av z.length cv) z):=hid (dI gA.out.r λk e=>n8.block k (gA.out.r.lt k e).2);have oA:=hid (gA.out.o.below n8);have cX:=hid n8;have oj:w.heap.size<=(W5.alloc (.cells (ndC N na nn nc) 69)).heap.size:=Nat.le_trans ei n8.size;clear n8 hx;go_wp2;refine wpIn_cond_true rfl ?_;refine qP rfl (λ⟨_,_,h⟩=>h) ?_;go_wp2_with (first
    | (refine aA (bR gR.out ca.out ⟨_,rfl,rfl⟩) ?_)
    | (refine aA (Ie hcb ⟨_,rfl,rfl⟩) ?_)
    | (refine aA (Rn (h:=(na,nn,nc)) ca.out W5.heap.size rfl ⟨_,rfl,rfl⟩) ?_)
    | (refine GU (h:=(na,nn,nc)) ip.out iu.out ca.out Z4 oj rfl ⟨_,_,rfl,rfl,rfl⟩ ?_; intro v4 S0 hr4 hg4 hl4; have gC:Rg.Own S0 (w2.heap.size+1) #[.slice av z.length cv] 65:=⟨aI oA.out.1 hg4.size,(hg4.block _ oA.out.1 (λe=>gA.out.nb e.symm)).trans oA.out.2⟩; have JT:=hid hr4; have r5:=hid hg4; have DH:=hid hl4; obtain ⟨s4,c4,e4⟩:=gM hr4; obtain ⟨n4,B9⟩:=ay ((z++[(N,(na,nn,nc))]).length); rw [B9] at e4; subst e4; clear B9; have K4:=hid gC; have c4b:=aV (j:=0) gC rfl; have z4b:=gJ (j:=0) gC; clear hr4 hg4 hl4 gC))
   have K5:=hid (dw (o:=0) K4.out (Value.slice s4 n4 c4));have n9:=hid (bN S0 (w2.heap.size+1) 0 (Value.slice s4 n4 c4));have hs3:=cX.out.size;have hl5:(Value.slice s4 n4 c4).ownBlock=(Value.slice av z.length cv).ownBlock\/∃ k,W5.heap.size<=k/\(Value.slice s4 n4 c4).ownBlock=some k:=DH.out.imp id λe=>⟨_,hs3,e⟩
   have hne:∀ k,(Value.slice s4 n4 c4).ownBlock=some k->k≠w2.heap.size+1:=λk e e2=>by
    rcases hl5 with e3 | ⟨k',hk',e3⟩
    .exact gA.out.nb (by rw [<-e3,<-e2]; exact e)
    .rw [e3] at e;have:=Option.some.inj e;have:=gA.out.o.1;omega
   have Z6:Bo2 (λk=>k=w2.heap.size+1\/(Value.slice av z.length cv).ownBlock=some k) W5 _:=(((Bo2.of aH).below cX.out).grown r5.out (λk e=>.inr e)).upd n9.out (.inl rfl);obtain ⟨K',h1,h2,Z7,h3,h4⟩:=TU gA.out qT.out B8.out HT.out.pos Z6 K5.out (dI JT.out λk e=>n9.out.block k (hne k e)) hl5 ca.out Z5.out;refine ⟨K',⟨_,_,by rw [List.map_append,HZ.out,Ae,if_pos HX.out,rl.out]; rfl,h1⟩,λk hk=>(h2 k hk).imp id λh=>h.elim (λh=>.inl (by omega)) λ⟨ad,e,hn,e2⟩=>.inr ?_,Z7,h3,h4⟩;have e':na=some ad:=e;subst e'
   rw [e2];exact VD hn
  .have hkd:(N.kd != 0)=false:=by
    rw [<-rl.out];have:(bg x.1).kd=0:=NQ.2 (by cases e:isNode x.1 with
     | true=>exact absurd e hx
     | false=>rfl)
    simp [this]
   have HX:=hid hx;clear hx;go_wp2;refine wpIn_cond_false rfl ?_;refine wpIn_skip ?_;exact ⟨K,⟨z,_,by rw [HZ.out,Ae,if_neg HX.out,List.append_nil],gA.out⟩,λk hk=>.inl hk,FrK.refl _ _ _,qT.out,B8.out⟩
end Tm
end
section
open Go.RowKit
namespace Tm
open Tr Ni Pk Ky No
open Rl (yj qm oo)
def QD (w:World) (b o:Nat) (N:Nd) (h:Hdl):Prop:=w.rangeAt b o (ndL N h)
theorem QD.below {w w':World} {b o:Nat} {N:Nd} {h:Hdl} (g:QD w b o N h) (hb:Below w.heap.size w w'):QD w' b o N h:=λj v hv=>aW hb (g j v hv)
theorem Gs {o:Oper} {w:World} {b off:Nat} {N:Nd} {h:Hdl} (hl:N.ks.length=16) (g:QD w b off N h) (ho:∃ y,o.op = .load 69 y/\ev y = .pointer (some ⟨b,off,none⟩)) :
  (execOp ev o).run prog w = .ok (.value (.agg (ndC N h.1 h.2.1 h.2.2))) w:=by
 obtain ⟨y,ho,hx⟩:=ho;have hl2:=run_loadAt_mid (P:=prog) w b off 69 (ndL N h) _ g underlying69 rfl (by rw [vo hl]; exact Dl);unfold execOp;simp only [ho,hx,Sem.run_bind,Sem.run_pure,Result.andThen_ok,hl2];rfl
end Tm
end
section
open Go.RowKit
namespace Tm
open Tr Ni Pk Ky No Rf Rl
open Sm (Tab)
def Pd (b:Bool) (M:Mp) (w:World) (xs:List aL) (e:Ending) (w':World):Prop:=∃ a n c M' cd,e = .returned (.tuple #[.slice a n c,.int .i64 cd])/\(b=true->cd=0/\fO w' a n c xs/\∀ ad,a=some ad->M'.at_ ad.block=none/\ad.block<w'.heap.size)/\(b=false->n=0/\cd=8)/\Fr M M' w w'/\Inv M' w'/\Tab w'
theorem Pd.yes {M:Mp} {w w':World} {xs:List aL} {e:Ending} (h:Pd true M w xs e w'):VX M w xs e w':=by
 obtain ⟨a,n,c,M',cd,he,h1,_,h3⟩:=h;obtain ⟨rfl,hs,hr⟩:=h1 rfl;exact ⟨a,n,c,M',he,hs,hr,h3⟩
theorem RX (x:Option (Option aL)) (h:x.isSome=true):∃ s c,Ov x = .tuple #[.string s,.int .i64 c]/\(c==8)=false:=by
 match x,h with
 | some none,_=>exact ⟨_,_,rfl,by decide⟩
 | some (some v),_=>exact ⟨_,_,rfl,by decide⟩
theorem Dh (M:Mp) (p:aK) (t:T) (k:aM) (hk:k.length=32) (hg:Tr.Good t 64) (hf:Fine t) (hc:gZ t<=200000) (w:World) (hi:Inv M w) (ht:IsT M p t) (hT:Tab w) :
  Calls prog 8 #[tv p,.agg (kc k)] w (Pd (Tr.get t (bJ k)).isSome M w (mG (bG t (bJ k)))):=by
 obtain ⟨i0,hi0,hz0,hz1,hz2⟩:=gQ;have HI:Hid (_/\_/\_/\_):=hid ⟨hi0,hz0,hz1,hz2⟩;obtain ⟨w1,hw1⟩:=au ((w.alloc (.cells #[.pointer p] 35)).alloc (.cells (kc k) 24))
 have hb1:Below w.heap.size w w1:=by rw [hw1]; exact al2 _ _ _
 have hs1:w1.heap.size=w.heap.size+2:=by rw [hw1]; simp
 have hT1:Rg.Own w1 w.heap.size #[.pointer p] 35:=by
  have:=(Rg.Own.new w #[.pointer p] 35).below (al1 _ (.cells (kc k) 24));rw [hw1];exact this
 have hK1:Rg.Own w1 (w.heap.size+1) (kc k) 24:=by
  have:=Rg.Own.new (w.alloc (.cells #[.pointer p] 35)) (kc k) 24;rw [hw1];simpa using this
 have tD:=vY M p t k hk w1 (hi.below hb1) ht hg;rw [show path k=bJ k from rfl] at tD;have K6:Hid (∀ w2,Inv M w2->Tab w2->Calls prog 26 #[tv p] w2 (Yt M w2 (bE t))):=hid (λw2 hi hT=>dX M p t 64 hg aG hf w2 hi ht hT);have fa:Hid (∀ w3,Inv M w3->Tab w3->Calls prog 27 #[tv p,.agg (kc k)] w3 (Yq M w3 (bG t (bJ k)))):=hid (λw3 hi hT=>Qp M p t k hk hg hf hc w3 hi ht hT)
 have HB2:Hid (∀ w2,Below w1.heap.size w1 w2->Fr M M w w2/\Inv M w2/\Tab w2/\Rg.Own w2 w.heap.size #[.pointer p] 35/\Rg.Own w2 (w.heap.size+1) (kc k) 24):=hid (λw2 hb=>by
  have hb2:Below w.heap.size w w2:=hb1.trans (hb.mono hb1.size);exact ⟨Fr.below M hb2,hi.below hb2,hT.below hb2 hT.pos,hT1.below hb,hK1.below hb⟩)
 have nd:M.at_ w.heap.size=none:=hi.out aG;have nh:M.at_ (w.heap.size+1)=none:=hi.out (by omega);have eL:Hid (∀ w2 w3,Fr M M w w2->Rg.Own w2 w.heap.size #[.pointer p] 35->Rg.Own w2 (w.heap.size+1) (kc k) 24->Fr M M w2 w3->Fr M M w w3/\Rg.Own w3 w.heap.size #[.pointer p] 35/\Rg.Own w3 (w.heap.size+1) (kc k) 24):=hid (λw2 w3 f h1 h2 g=>⟨f.trans hi g,jM h1 g nd,jM h2 g nh⟩);have cL:Hid (∀ b,w.heap.size<=b->M.at_ b=none):=hid (λb hb=>hi.out hb);have hal:=at_len t 64 (bJ k) hg
 rw [kJ k hk] at hal;have HN:Hid (∀ N∈bG t (bJ k),gB bW N=true/\N.v.size<=maxLen/\∀ k∈N.ks,k.size<=100):=hid (λN hN=>by
  obtain ⟨s,K,rfl,_,h1,h2,h3,h4,h5⟩:=zX t 64 (bJ k) hg aG hf N hN;have:=jl h4 h3 h5 h1 h2;exact ⟨this.1,this.2.2.2.1,this.2.2.2.2.2⟩)
 have K7:Hid (∀ j,j<(bG t (bJ k)).length->((fU ((bG t (bJ k)).getD j nd0)=bE t\/32<=(fU ((bG t (bJ k)).getD j nd0)).size)↔(j=0\/32<=(fU ((bG t (bJ k)).getD j nd0)).size))):=hid (λj hj=>Xr hg aG hf hj);have ex:=hid tD;have HW1:=hid hw1;have HT1:=hid hT1;have oB:=hid hK1;have cl:=hid hk;obtain ⟨Z,hZ⟩:=ay (bG t (bJ k))
 rw [hZ] at fa hal HN K7 ⊢;obtain ⟨G,hG⟩:=ay (Tr.get t (bJ k))
 rw [hG] at ex ⊢;obtain ⟨E,hE⟩:=ay (bE t)
 rw [hE] at K6 K7;clear hZ hG hE tD hw1 hT1 hK1 hb1 hg hf hc hi ht hT hi0 hz0 hz1 hz2 nd nh;obtain ⟨C,hC⟩:=ay (kc k)
 have HC:=hid hC;rw [hC] at HW1 oB HB2 eL fa ex ⊢;clear hC hk;by_cases hb:G.isSome=true
 .obtain ⟨sv,cd,hV,hcd⟩:=RX G hb;rw [hb];rw [hV] at ex;clear hb hV;go_enter func8,ntmps8;go_wp2_with (first
   | ((try rw [<-HW1.out]); refine aA (aU (aV (j:=0) HT1.out rfl) ⟨_,rfl,rfl⟩) ?_)
   | ((try rw [<-HW1.out]); refine Rg.run rfl (.agg C) _ (by rw [<-HC.out]; exact bX cl.out (by rw [HC.out]; exact oB.out.2) ⟨_,rfl,rfl⟩) ?_))
  refine ex.out.mono ?_;rintro e w2 ⟨rfl,hb2⟩;obtain ⟨f2,i2,t2,o2,k2⟩:=HB2.out w2 hb2;have cF:Hid (Fr M M w w2/\Inv M w2/\Tab w2):=hid ⟨f2,i2,t2⟩;have c8:=hid o2;have S2:=hid k2;clear f2 i2 t2 o2 k2 hb2 ex HB2 HT1 oB HW1;go_wp2_with (first
   | (refine aA (aU (aV (j:=0) c8.out rfl) ⟨_,rfl,rfl⟩) ?_))
  refine (K6.out w2 cF.out.2.1 cF.out.2.2).mono ?_;rintro e w3 ⟨bt,rfl,S3,oE,_,f3,i3,t3⟩;obtain ⟨f13,o3,k3⟩:=eL.out w2 w3 cF.out.1 c8.out S2.out f3;have cN:Hid (Fr M M w w3/\Inv M w3/\Tab w3):=hid ⟨f13,i3,t3⟩;have ag:=hid o3;have Kb:=hid k3;have HB3:=hid S3;have E7:=hid oE;clear f3 i3 t3 o3 k3 f13 S3 oE cF c8 S2 K6;go_wp2_with (first
   | (refine aA (aU (aV (j:=0) ag.out rfl) ⟨_,rfl,rfl⟩) ?_)
   | (refine Rg.run rfl (.agg C) _ (by rw [<-HC.out]; exact bX cl.out (by rw [HC.out]; exact Kb.out.2) ⟨_,rfl,rfl⟩) ?_))
  refine (fa.out w3 cN.out.2.1 cN.out.2.2).mono ?_;rintro e w4 ⟨a4,m,c4,rfl,hz,f4,i4,t4⟩;obtain ⟨f14,_,_⟩:=eL.out w3 w4 cN.out.1 ag.out Kb.out f4;have hs4:w.heap.size<=w4.heap.size:=f14.size;have bc:=hid (jM HB3.out f4 E7.out);have HFin:Hid (∀ w5,Below w4.heap.size w4 w5->Fr M M w w5/\Inv M w5/\Tab w5):=hid (λw5 hb=>⟨f14.LQ hs4 hb,i4.below hb,t4.below hb t4.pos⟩);have HZ:=hid hz;have hl:=hz.len;have HL:=hid hl;have hnc:=hz.1;have hcm:=hz.2.1;unfold maxLen at hcm;have Z8:m<=65:=by omega
  clear hz hl hal f4 i4 t4 f14 cN ag Kb HB3 E7 eL fa;go_wp2;go_loopw [9,29] (λv i wr=>∃ j:Nat,j<=m/\i = .int .i64 j/\Hid (wr.ownsRow w4.heap.size 9 1 v (mG (Z.take j)).length ((mG (Z.take j)).map Value.string))/\Hid (Below w4.heap.size w4 wr)) (λ_ i _=>m-(intOf i).toNat)
  case atStart=>exact ⟨0,Nat.zero_le _,rfl,hid (World.ownsRow_nil _ _ _ _),hid aH⟩
  case round =>
   obtain ⟨j,hj,rfl,HR,HB⟩:=hrel;by_cases hlt:j<m
   .have HS:=hid (UO Z (j:=j) (by rw [HL.out]; exact hlt));have vp:=hid (K7.out j (by rw [HL.out]; exact hlt));have hbl:=ES (Z.take j);rw [List.length_take] at hbl;obtain ⟨bz,oz,gz,rfl,hbz,hpz,hkz,Be⟩:=HZ.out.at' j hlt;have hji:(j:Int)<m:=by omega
    have Kd:Hid (QD wr bz (oz+j*19) (Z.getD j nd0) gz):=hid (QD.below hpz HB.out);have Bi:=hid hkz;have hmem:Z.getD j nd0∈Z:=Tm.jU (by rw [HL.out]; exact hlt);obtain ⟨n1,n2,n3⟩:=HN.out _ hmem;have gp:Hid (∀ W,Below wr.heap.size wr W->Calls prog 28 #[.agg (ndC (Z.getD j nd0) gz.1 gz.2.1 gz.2.2)] W λe w'=>e = .returned (.tuple #[.string (fU (Z.getD j nd0)),.int .i64 0])/\Below W.heap.size W w'):=hid (λW hW=>by
     have:=Gv _ _ _ _ hkz W ((Be.below HB.out).below hW) n2 n3;unfold Wo at this;rw [n1] at this;exact this)
    have hsz0:=HB.out.size;obtain ⟨L,hL⟩:=ay (mG (Z.take j))
    rw [hL] at HS hbl HR;obtain ⟨N,hN⟩:=ay (Z.getD j nd0)
    rw [hN] at HS Kd Bi gp vp;obtain ⟨K,hK⟩:=ay (fU N)
    rw [hK] at HS gp vp;have fc:=al1 wr (.cells (ndC nd0 none 0 0) 69);have E6:=hid (Rg.Own.new wr (ndC nd0 none 0 0) 69);clear hL hN hK hpz hkz Be hmem hbz n1 n2 n3;go_wp2_with (first
     | (refine aA (Gs Bi.out Kd.out ⟨_,rfl,rfl⟩) ?_)
     | (refine aA (bD _ _ _ wr.heap.size rfl rfl) ?_)
     | (refine jC E6.out fZ N _ _ _ Bi.out rfl _ _ rfl rfl rfl rfl ?_; intro W3 hO hu; have ix:=hid hO; have HB3:=hid (hu.below fc aG); clear hO hu)
     | (refine aA (bR ix.out Bi.out ⟨_,rfl,rfl⟩) ?_))
    refine (gp.out W3 HB3.out).mono ?_;rintro e w5 ⟨rfl,hb5⟩;have ei:=bst HB.out (bst HB3.out hb5);have aa:=hid ei;have dc:=hid (qY HR.out (bst HB3.out hb5));have hsz:=aa.out.size;have S4:=hid (aV (j:=0) (bc.out.below ei) rfl);clear hb5 ei gp Kd Bi HR HB ix HB3 E6 fc;go_wp2_with fail
    refine (jc bt E K w5 S4.out).mono ?_;rintro e w6 ⟨rfl,hb6⟩;have bi:=hid (bst aa.out hb6);have eM:=hid (qY dc.out hb6);have t1:=bi.out.size;clear hb6 aa dc S4 hsz;by_cases hput:j=0\/32<=K.size
    .have dr:Hid (mG (Z.take (j+1))=L++[K]):=hid (by rw [HS.out,if_pos hput]);rw [aJ (vp.out.2 hput)];clear HS vp hput;go_wp2_with (first
      | (at_builtin; refine wpList_append_own _ rfl _ _ 29 rfl w4.heap.size 9 i0 (.string ⟨#[]⟩) 1 16 underlying29 HI.out.1 HI.out.2.1 HI.out.2.2.1 HI.out.2.2.2 rfl (by decide) _ _ _ rfl (eM.out.alloc _) ⟨w6.heap.size,0,none⟩ 1 1 [.string K] rfl rfl ?d1 ?d2 ?d3 ?d4 ?d5 ?_))
     all_goals first
      | exact Bu.cell_one_new' _ _ _ _
      | (intro u hu; simp at hu; subst hu; rfl)
      | rfl
      | (unfold maxLen; omega)
      | omega
      | (simp; omega)
      | skip
     intro v' w7 cJ hgrow _;have hlt':=eM.out.lt;go_wp2;go_roundw
     case rel=>exact ⟨j+1,by omega,by go_num,hid (by rw [dr.out,List.length_append,List.map_append]; exact cJ),hid ((bi.out.alloc t1 _).grown hgrow (by simp; omega) (λg hg=>(hlt' g hg).1))⟩
     case measure=>simp [intOf]; omega
    .have dr:Hid (mG (Z.take (j+1))=L):=hid (by rw [HS.out,if_neg hput,List.append_nil]);rw [decide_eq_false (λh=>hput (vp.out.1 h))];clear HS vp hput;go_wp2;go_roundw
     case rel=>exact ⟨j+1,by omega,by go_num,by rw [dr.out]; exact eM,bi⟩
     case measure=>simp [intOf]; omega
   .obtain rfl:j=m:=by omega
    have hO:=HR.out;rw [List.take_of_length_le (by rw [HL.out]; exact aG)] at hO;have HE:Hid (∀ v,wr.ownsRow w4.heap.size 9 1 v (mG Z).length ((mG Z).map Value.string)->Pd true M w (mG Z) (.returned (.tuple #[v,.int .i64 0])) wr):=hid (λv h=>by
     have hlt:=h.lt;obtain ⟨a,c,rfl,hst⟩:=fO.oF h;exact ⟨a,_,c,M,0,rfl,λ_=>⟨rfl,hst,λad e=>⟨cL.out _ (Nat.le_trans hs4 (hlt ad.block (by rw [e]; rfl)).1),(hlt ad.block (by rw [e]; rfl)).2⟩⟩,λe=>(by cases e),HFin.out wr HB.out⟩)
    have HO:=hid hO;clear hO;go_wp2;exact bodyPost_ret (results_tmp2 (t:=4) (u:=5) rfl _ _ _) rfl (HE.out _ HO.out)
 .have hV:G=none:=by
   cases G with
   | none=>rfl
   | some x=>exact absurd rfl hb
  subst hV;have S5:Ov none = .tuple #[.string eB,.int .i64 8]:=rfl;rw [S5] at ex;clear hb S5;go_enter func8,ntmps8;go_wp2_with (first
   | ((try rw [<-HW1.out]); refine aA (aU (aV (j:=0) HT1.out rfl) ⟨_,rfl,rfl⟩) ?_)
   | ((try rw [<-HW1.out]); refine Rg.run rfl (.agg C) _ (by rw [<-HC.out]; exact bX cl.out (by rw [HC.out]; exact oB.out.2) ⟨_,rfl,rfl⟩) ?_))
  refine ex.out.mono ?_;rintro e w2 ⟨rfl,hb2⟩;obtain ⟨f2,i2,t2,_⟩:=HB2.out w2 hb2;have cF:Hid (Fr M M w w2/\Inv M w2/\Tab w2):=hid ⟨f2,i2,t2⟩;clear f2 i2 t2 hb2 ex HB2 HT1 oB HW1;go_wp2;exact bodyPost_ret (results_tmp2 (t:=4) (u:=5) rfl _ _ _) rfl ⟨none,0,0,M,8,rfl,λh=>(by cases h),λ_=>⟨rfl,rfl⟩,cF.out⟩
end Tm
end
section
open Go.RowKit Go.Maps Go.WideMaps Go.WideElems Go.ChangeMaps Go.MapKept
namespace Bd
structure Yg (P:Program) (t k e:TypeId) {κ:Type} (val : κ->Value) (lit : κ->Lit) (G : κ->Prop) (z:Value):Prop where
 K:Keyed P k
 ht:P.underlying t=some (.map k e)
 key:∀ {x},G x->keyOf P k (val x)=some (lit x)
 inj:∀ {x y},G x->G y->lit x=lit y->x=y
 zero:∀ w,(zeroValue e).run P w = .ok z w
def qC (v:Value):Option (DataW Value × List MemPlace):=some (.held v,[])
def MapAt (D:DataW Value) (l:Lit):Option Value->Prop
 | none=>Maps.has D l=false
 | some v=>Maps.has D l=true/\∀ y,D.atKey l y = .held v
def mg {κ:Type} [DecidableEq κ] (f : κ->Option Value) (x : κ) (v:Option Value) : κ->Option Value:=λy=>if y=x then v else f y
structure sU (P:Program) (k:TypeId) {κ:Type} (lit : κ->Lit) (G : κ->Prop) (w:World) (b:Nat) (f : κ->Option Value) (N:Nat) (D:DataW Value):Prop where
 own:w.ownsMap P k qC b N D
 size:Maps.size D=N
 at_:∀ x,G x->MapAt D (lit x) (f x)
def EB (P:Program) (k:TypeId) {κ:Type} (lit : κ->Lit) (G : κ->Prop) (w:World) (o:Option Nat) (f : κ->Option Value) (N:Nat):Prop :=
 match o with
 | none=>(∀ x,G x->f x=none)/\N=0
 | some b=>∃ D,sU P k lit G w b f N D
section
variable {P:Program} {t k e:TypeId} {κ:Type} {val : κ->Value} {lit : κ->Lit} {G : κ->Prop} {z:Value} {w w':World} {b N:Nat} {D:DataW Value} {f : κ->Option Value} {o:Option Nat}
theorem sU.congr (h:sU P k lit G w b f N D) {f' : κ->Option Value} (hf:∀ x,G x->f' x=f x):sU P k lit G w b f' N D:=⟨h.own,h.size,λx hx=>by rw [hf x hx]; exact h.at_ x hx⟩
theorem sU.lt (h:sU P k lit G w b f N D):b<w.heap.size:=h.own.lt
theorem sU.same (h:sU P k lit G w b f N D) (hb:w'.heap[b]? = w.heap[b]?):sU P k lit G w' b f N D:=by
 refine ⟨?_,h.size,h.at_⟩;obtain ⟨es,clock,h1,h2⟩:=h.own;exact ⟨es,clock,hb.trans h1,h2⟩
theorem EB.same (h:EB P k lit G w o f N) (hb:∀ b,o=some b->w'.heap[b]? = w.heap[b]?):EB P k lit G w' o f N:=by
 cases o with
 | none=>exact h
 | some b=>obtain ⟨D,h⟩:=h; exact ⟨D,h.same (hb b rfl)⟩
theorem EB.lt (h:EB P k lit G w o f N) {b:Nat} (hb:o=some b):b<w.heap.size:=by
 subst hb;obtain ⟨D,h⟩:=h;exact h.lt
theorem Ru {n:Nat} (h:w.ownsMap P k qC b n D):w.ownsMap P k qC b (Maps.size D) D:=by
 obtain ⟨es,clock,h1,h2,_,h4⟩:=h;exact ⟨es,clock,h1,h2,by rw [h4]; simp [Maps.size,length_sorted],h4⟩
theorem sU.made (w:World):sU P k lit G (w.alloc (.map #[] 0)) w.heap.size (λ_=>none) 0 (.map []):=⟨World.ownsMap_made _ _ _ _,rfl,λ_ _=>rfl⟩
theorem KG (h:w.mapTurned w' b):Rg.Upd w b w':=by
 obtain ⟨es,clock,es',clock',hb,rfl⟩:=h;exact ⟨rfl,rfl,rfl,by simp [setBlock],λk hk=>heap_setBlock_other hb _ hk⟩
theorem qU {x : κ} (K:Yg P t k e val lit G z) (h:EB P k lit G w o f N) (hx:G x) (c:Bool) :
  (Instr.lookup t (.map o) (val x) c).run P w = .ok (if c then .tuple #[(f x).getD z,.bool (f x).isSome] else (f x).getD z) w:=by
 cases o with
 | none =>
  have:=Maps.look_nil (w:=w) c K.K K.ht (K.zero w) (K.key hx);rw [this,h.1 x hx];rfl
 | some b =>
  obtain ⟨D,h⟩:=h;have hat:=h.at_ x hx;obtain ⟨es,clock,hb,F,_,hD⟩:=h.own;rcases Maps.fit_look c K.K K.ht (K.zero w) hb F (K.key hx) with ⟨hrun,_,hz0⟩ | ⟨e0,y,_,_,hrun,hRv,h3,_⟩
  .cases hf:f x with
   | none=>rw [hrun]; cases c <;> rfl
   | some v =>
    rw [hf] at hat;have h1:Maps.has D (lit x)=true:=hat.1;rw [hD] at h1;have h2:Maps.has (DataW.map ((es.toList.map (rg P k qC)).foldr DataW.insert [])) (lit x)=false:=by
     exact Maps.has_false_of_atKey hz0
    rw [h2] at h1;cases h1
  .have hy:y.1 = .held e0.val:=by
    unfold qC at hRv;injection hRv with hRv;rw [<-hRv]
   cases hf:f x with
   | none =>
    rw [hf] at hat;have h1:Maps.has D (lit x)=false:=hat;have h2:Maps.has (DataW.map ((es.toList.map (rg P k qC)).foldr DataW.insert [])) (lit x)=true:=Maps.has_true_of_atKey λz=>h3 z;rw [hD,h2] at h1;cases h1
   | some v =>
    rw [hf] at hat;have h1:=hat.2 (.held z);rw [hD] at h1;have h2:=h3 (.held z);have:DataW.held v = .held e0.val:=by rw [<-h1,<-hy]; exact h2
    injection this with this;subst this;rw [hrun];cases c <;> rfl
variable [DecidableEq κ]
def more (f : κ->Option Value) (x : κ) (N:Nat):Nat:=if (f x).isSome then N else N+1
theorem YL {o:Option Value} {l:Lit} (h:MapAt D l o):Maps.has D l=o.isSome:=by
 cases o with
 | none=>exact h
 | some v=>exact h.1
theorem Zt {x : κ} (K:Yg P t k e val lit G z) (h:sU P k lit G w b f N D) (hx:G x) (v:Value) (hO:w'.ownsMap P k qC b (N+1) (D.put (lit x) (.held v))):sU P k lit G w' b (mg f x (some v)) (more f x N) (D.put (lit x) (.held v)):=by
 have hD:=h.own.isMap;have hkl:=K.K.key (K.key hx);have hs:Maps.size (D.put (lit x) (.held v))=more f x N:=by
  rw [Maps.size_put (h.own.tidy K.K),YL (h.at_ x hx),h.size];rfl
 refine ⟨by rw [<-hs]; exact Ru hO,hs,λy hy=>?_⟩;unfold mg;by_cases e:y=x
 .subst e;rw [if_pos rfl];exact ⟨Maps.has_put_same hD hkl _,λu=>Maps.atKey_put_same hD hkl _ u⟩
 .have hne:lit y≠lit x:=λg=>e (K.inj hy hx g);rw [if_neg e];have:=h.at_ y hy;cases hf:f y with
  | none=>rw [hf] at this; exact (Maps.has_put_other hne _).trans this
  | some u=>rw [hf] at this; exact ⟨(Maps.has_put_other hne _).trans this.1,λq=>(Maps.atKey_put_other hne _ q).trans (this.2 q)⟩
theorem XV {x : κ} (K:Yg P t k e val lit G z) (h:sU P k lit G w b f N D) (hN:N<maxLen) (hx:G x) (v:Value) :
  ∃ w',(Instr.mapUpdate t (.map (some b)) (val x) v).run P w = .ok () w'/\sU P k lit G w' b (mg f x (some v)) (more f x N) (D.put (lit x) (.held v))/\Rg.Upd w b w':=by
 obtain ⟨w',h1,h2,h3⟩:=h.own.store K.K K.ht hN (K.key hx) (val:=v) (d:=.held v) (ps:=[]) rfl;exact ⟨w',h1,Zt K h hx v h2,KG h3⟩
end
end Bd
end
section
namespace Tr
open Rf Rl Ni No
def rJ (n:Nat):Nat:=if n=0 then 0 else if n=1 then 1 else min 65 (2*n+1)
end Tr
end
section
open Go.RowKit
namespace Tm
open Tr Ni Pk Ky No Rf Rl
theorem Iy (n:Nat) (hn:n<=1000) (w:World):Calls prog 14 #[.int .i64 n] w λe w'=>e = .returned (.int .i64 (rJ n:Nat))/\Below w.heap.size w w':=by
 by_cases h0:n=0
 .subst h0;go_enter func14,ntmps14;go_wp2;go_ret;exact ⟨rfl,aH⟩
 by_cases h1:n=1
 .subst h1;go_enter func14,ntmps14;go_wp2;go_ret;exact ⟨rfl,aH⟩
 have q0:decide ((n:Int)<1)=false:=decide_eq_false (by omega);have q1:decide ((n:Int)=1)=false:=decide_eq_false (by omega);have P5:decide (n=1)=false:=decide_eq_false (by omega);by_cases h32:32<n
 .have q2:decide ((32:Int)<(n:Int))=true:=aJ (by omega);have Z9:decide (32<n)=true:=aJ h32;have HM:Hid (rJ n=65):=hid (by unfold rJ; rw [if_neg (by omega),if_neg h1]; omega);go_enter func14,ntmps14;go_wp2;go_ret;exact ⟨by rw [HM.out]; rfl,aH⟩
 .have q2:decide ((32:Int)<(n:Int))=false:=decide_eq_false (by omega);have Z9:decide (32<n)=false:=decide_eq_false h32;have HM:Hid (rJ n=2*n+1):=hid (by unfold rJ; rw [if_neg (by omega),if_neg h1]; omega);have hw1:IntKind.i64.wrap ((2:Int)*(n:Int))=(2:Int)*(n:Int):=IntWalk.i64_in _ (by omega);have hw2:IntKind.i64.wrap ((2:Int)*(n:Int)+1)=(2:Int)*(n:Int)+1:=IntWalk.i64_in _ (by omega);go_enter func14,ntmps14;go_wp2;go_ret;exact ⟨by rw [HM.out]; simp,aH⟩
theorem PE (xs:List aL) (hx:∀ s∈xs,s.size<=900000) (a:aK) (n c:Nat) (w:World) (h:fO w a n c xs) (hn:n<=1000000) :
  Calls prog 15 #[.slice a n c] w λe w'=>e = .returned (.int .i64 (jI xs:Nat))/\Below w.heap.size w w':=by
 have hl:=h.len;have hnc:=h.1;have hcm:=h.2.1;unfold maxLen at hcm;have H:=hid h;have HL:=hid hl;have HX:=hid hx;clear hl h hx;go_enter func15,ntmps15;go_wp2;go_loopw [3,8] (λv i wr=>∃ j:Nat,j<=n/\i = .int .i64 j/\v = .int .i64 (jI (xs.take j):Nat)/\Hid (Below w.heap.size w wr)) (λ_ i _=>n-(intOf i).toNat)
 case atStart=>exact ⟨0,Nat.zero_le _,rfl,rfl,hid aH⟩
 case round =>
  obtain ⟨j,hj,rfl,rfl,HB⟩:=hrel;by_cases hlt:j<n
  .have HS:=hid (JE xs j (by rw [HL.out]; exact hlt));have hf:=zw xs HX.out j;have hf2:=zw xs HX.out (j+1);rw [HL.out] at hf hf2;have hf3:n*900000<=1000000*900000:=Nat.mul_le_mul_right _ hn;obtain ⟨b,off,rfl,hblt,hcell⟩:=H.out.at' j hlt;have hc0:=(Below.cell (p:=⟨b,off+j,none⟩) HB.out hblt).trans hcell;rw [HS.out] at hf2;obtain ⟨K,hK⟩:=ay (xs.getD j eB)
   rw [hK] at HS hc0 hf2;obtain ⟨L,hL⟩:=ay (jI (xs.take j))
   rw [hL] at HS hf hf2 ⊢;have hw:IntKind.i64.wrap ((L:Int)+(K.size:Int))=(L:Int)+(K.size:Int):=IntWalk.i64_in _ (by omega);clear hL hK hcell;go_wp2;go_roundw
   case rel=>exact ⟨j+1,by omega,by go_num,by rw [HS.out,Int.natCast_add],HB⟩
   case measure=>simp [intOf]; omega
  .obtain rfl:j=n:=by omega
   have HE:Hid (jI (xs.take j)=jI xs):=hid (by rw [List.take_of_length_le (by rw [HL.out]; exact aG)]);go_wp2;go_ret;exact ⟨by rw [HE.out]; rfl,HB.out⟩
theorem Ji (a b:aK) (n m c d:Nat) (x y:List aL) (w:World) (hx:fO w a n c x) (hy:fO w b m d y) :
  Calls prog 45 #[.slice a n c,.slice b m d] w λe w'=>e = .returned (.bool (yj x y))/\Below w.heap.size w w':=by
 have hm:=hx.2.1;have hnc:=hx.1;have hm2:=hy.2.1;have Zs:=hy.1;unfold maxLen at hm hm2;have H1:=hid hx;have H2:=hid hy;clear hx hy;by_cases hnm:n=m
 .subst hnm;go_enter func45,ntmps45;go_wp2;go_loopw [13] (λi wr=>∃ (q:Nat),q<=n/\i = .int .i64 q/\Hid (∀ j,j<q->x.getD j eB=y.getD j eB)/\Below w.heap.size w wr) (λi _=>n-(intOf i).toNat)
  case atStart=>exact ⟨0,Nat.zero_le _,rfl,hid (λj hj=>absurd hj (Nat.not_lt_zero _)),aH⟩
  case round =>
   obtain ⟨q,hq,rfl,HK,hB⟩:=hrel;have HB:=hid hB;clear hB;by_cases hlt:q<n
   .obtain ⟨b1,off1,rfl,hb1,hc1⟩:=H1.out.at' q hlt;obtain ⟨b2,off2,rfl,hb2,hc2⟩:=H2.out.at' q hlt;have e1:wr.cell? ⟨b1,off1+q,none⟩=some (.string (x.getD q eB)):=by rw [HB.out.cell (p:=⟨b1,off1+q,none⟩) hb1]; exact hc1
    have e2:wr.cell? ⟨b2,off2+q,none⟩=some (.string (y.getD q eB)):=by rw [HB.out.cell (p:=⟨b2,off2+q,none⟩) hb2]; exact hc2
    obtain ⟨u,hu⟩:=ay (x.getD q eB)
    obtain ⟨v,hv⟩:=ay (y.getD q eB)
    have HU:=hid hu;have HV:=hid hv;rw [hu] at e1;rw [hv] at e2;clear hc1 hc2 hu hv;by_cases huv:u=v
    .have ZD:Hid (∀ j,j<q+1->x.getD j eB=y.getD j eB):=hid (λj hj=>by
      by_cases e:j=q
      .subst e; rw [HU.out,HV.out,huv]
      .exact HK.out j (by omega))
     subst huv;go_wp2_with (go_quiet (fail))
     go_roundw
     case rel=>exact ⟨q+1,by omega,by go_num,hid ZD.out,below_drewN HB.out _⟩
     case measure=>simp [intOf]; omega
    .have hne:=FB huv;have HN:Hid (x≠y):=hid (by
      rintro rfl;exact huv (HU.out.symm.trans HV.out))
     go_wp2_with (go_quiet (fail))
     go_ret;exact ⟨by rw [oo HN.out]; rfl,below_drewN HB.out _⟩
   .obtain rfl:q=n:=by omega
    have HE:Hid (x=y):=hid (by
     apply List.ext_getElem (by rw [H1.out.len,H2.out.len]);intro j h1 h2;have:=HK.out j (by rw [<-H1.out.len]; exact h1);simpa [List.getD,h1,h2] using this)
    go_wp2;go_ret;exact ⟨by rw [qm HE.out]; rfl,HB.out⟩
 .have HE:Hid (x≠y):=hid (by
   rintro rfl;exact hnm (H1.out.len.symm.trans H2.out.len))
  have hd:((n:Int) != (m:Int))=true:=by simp; omega
  go_enter func45,ntmps45;go_wp2;go_ret;exact ⟨by rw [oo HE.out]; rfl,aH⟩
theorem UR (a b:aK) (n m c d:Nat) (x y:List aL) (w:World) (hx:fO w a n c x) (hy:fO w b m d y) :
  Calls prog 25 #[.slice a n c,.slice b m d] w λe w'=>e = .returned (.bool (yj x y))/\Below w.heap.size w w':=by
 have HE:=hid (Ji a b n m c d x y w hx hy);clear hx hy;go_enter func25,ntmps25;go_wp2_with fail
 refine HE.out.mono ?_;rintro e w1 ⟨rfl,hb⟩;go_wp2;go_ret;exact ⟨rfl,hb⟩
open Go.Maps
theorem KS:Bd.Yg prog 116 9 117 Value.string kK (λs=>s.size<=maxLen) (.agg #[]) :=
 ⟨string_keyed underlying9,underlying116,λh=>kof h,λ_ _ h=>zh h,λw=>by kernel_rfl⟩
theorem Yl {P:Program} {w:World} {rest:List Oper} {o:Oper} {a:Go.Act} {Q:Exit->Go.Act->World->Prop} (hgd:o.guard=none) (hr:∃ w',(execOp a.eval o).run P w = .ok .skip w'/\R w') (h:∀ w',R w'->wpList P ops Q rest (a.put o.dst undef) w'):wpList P ops Q (o::rest) a w:=by
 obtain ⟨w',h1,h2⟩:=hr;exact wpList_plain hgd λK hK=>by
  unfold Oper.wp;rw [h1];exact hK _ _ (h w' h2)
def inB (l:List aL) (s:aL):Bool:=l.any λx=>decide (x=s)
theorem Ob {l:List aL} {s:aL}:inB l s=true↔s∈l:=by
 unfold inB;rw [List.any_eq_true];exact ⟨λ⟨x,hx,e⟩=>by rw [<-of_decide_eq_true e]; exact hx,λh=>⟨s,h,aJ rfl⟩⟩
theorem Xq {l:List aL} {s:aL} (h:s ∉ l):inB l s=false:=by
 cases e:inB l s with
 | false=>rfl
 | true=>exact absurd (Ob.1 e) h
def Oo (l:List aL) (s:aL):Option Value:=if inB l s then some (.agg #[]) else none
theorem vB {l:List aL} {s:aL} (h:s ∉ l):Oo l s=none:=by unfold Oo; rw [Xq h]; rfl
theorem FV {l:List aL} {s:aL} (h:s∈l):Oo l s=some (.agg #[]):=by unfold Oo; rw [Ob.2 h]; rfl
def sV (w:World) (b:Nat) (l:List aL):Prop:=Bd.EB prog 9 kK (λs=>s.size<=maxLen) w (some b) (Oo l) l.length
theorem sV.same {w w':World} {b:Nat} {l:List aL} (h:sV w b l) (hb:w'.heap[b]? = w.heap[b]?):sV w' b l:=Bd.EB.same h λ_ e=>by cases e; exact hb
theorem sV.lt {w:World} {b:Nat} {l:List aL} (h:sV w b l):b<w.heap.size:=Bd.EB.lt h rfl
theorem sV.made (w:World):sV (w.alloc (.map #[] 0)) w.heap.size []:=⟨_,(Bd.sU.made w).congr λs _=>rfl⟩
theorem sV.new {w:World} {b:Nat} {l:List aL} (h:sV w b l) {s:aL} (hs:s.size<=maxLen) (hn:s ∉ l) {o:Oper}
  (ho:∃ m x,o.op = .lookup 116 m x true/\ev m = .map (some b)/\ev x = .string s):(execOp ev o).run prog w = .ok (.value (.tuple #[.agg #[],.bool false])) w:=by
 obtain ⟨m,x,ho,hm,hx⟩:=ho;have h1:=Bd.qU KS h hs true;rw [vB hn] at h1;unfold execOp;simp only [ho,hm,hx,Sem.run_bind,Sem.run_pure,Result.andThen_ok,h1];rfl
theorem sV.put {w:World} {b:Nat} {l:List aL} (h:sV w b l) (hl:l.length<maxLen) {s:aL} (hs:s.size<=maxLen) (hn:s ∉ l) {o:Oper}
  (ho:∃ m x v,o.op = .mapUpdate 116 m x v/\ev m = .map (some b)/\ev x = .string s/\ev v = .agg #[]) :
  ∃ w',(execOp ev o).run prog w = .ok .skip w'/\sV w' b (l++[s])/\Rg.Upd w b w':=by
 obtain ⟨m,x,v,ho,hm,hx,hv⟩:=ho;obtain ⟨D,h⟩:=h;obtain ⟨w',h1,h2,h3⟩:=Bd.XV KS h hl hs (.agg #[]);have hmore:Bd.more (Oo l) s l.length=(l++[s]).length:=by
  unfold Bd.more;rw [vB hn,List.length_append];rfl
 rw [hmore] at h2;refine ⟨w',?_,?_,h3⟩
 .unfold execOp;simp only [ho,hm,hx,hv,Sem.run_bind,Sem.run_pure,Result.andThen_ok,h1]
 .refine ⟨_,⟨h2.own,h2.size,λy hy=>?_⟩⟩
  .have:=h2.at_ y hy;unfold Bd.mg at this;by_cases e:y=s
   .subst e;rw [if_pos rfl] at this;rw [FV (by simp)];exact this
   .rw [if_neg e] at this;by_cases hm:y∈l
    .rw [FV (List.mem_append_left _ hm)];rw [FV hm] at this;exact this
    .rw [vB (λg=>(List.mem_append.1 g).elim hm λg=>e (List.mem_singleton.1 g))];rw [vB hm] at this;exact this
theorem Mw (xs:List aL) (hx:∀ s∈xs,s.size<=maxLen) (hnd:xs.Nodup) (g:Nat) (a:aK) (n c:Nat) (w:World) (h:fO w a n c xs) (hn:n<=1000000) (hg:w.cell? ⟨g,0,none⟩=some (.slice a n c)) :
  Calls prog 33 #[.slice (some ⟨g,0,none⟩) 1 1] w λe w'=>∃ a' n' c',e = .returned (.slice a' n' c')/\fO w' a' n' c' xs/\(∀ ad,a'=some ad->w.heap.size<=ad.block)/\Below w.heap.size w w':=by
 obtain ⟨i0,hi0,hz0,hz1,hz2⟩:=gQ;have HI:Hid (_/\_/\_/\_):=hid ⟨hi0,hz0,hz1,hz2⟩;have hmm:=@run_makeMap prog;have hl:=h.len;have hnc:=h.1;have hcm:=h.2.1;unfold maxLen at hcm;have H:=hid h;have HL:=hid hl;have HX:=hid hx;have HN:=hid hnd;have hgl:=World.block_lt_of_cell? w _ hg;have S6:=hid (sV.made w);clear h hl hx hnd hi0 hz0 hz1 hz2;go_enter func33,ntmps33;go_wp2
 go_loopw [4,14] (λv i wr=>∃ j:Nat,j<=1/\i = .int .i64 j/\Hid (wr.ownsRow (w.heap.size+1) 9 1 v (xs.take (j*n)).length ((xs.take (j*n)).map Value.string))/\Hid (sV wr w.heap.size (xs.take (j*n)))/\Hid (Below w.heap.size w wr)) (λ_ i _=>1-(intOf i).toNat)
 case atStart=>exact ⟨0,Nat.zero_le _,rfl,by rw [Nat.zero_mul]; exact hid (World.ownsRow_nil _ _ _ _),by rw [Nat.zero_mul]; exact S6,hid (al1 _ _)⟩
 case round =>
  obtain ⟨j,hj,rfl,HR,HM,HB⟩:=hrel;clear S6;by_cases hlt:j<1
  .obtain rfl:j=0:=by omega
   rw [Nat.zero_mul,List.take_zero] at HR HM;have hcg:=(Below.cell (p:=⟨g,0,none⟩) HB.out hgl).trans hg;have Kf:wr.cell? ⟨g,0+0,none⟩=some (.slice a n c):=hcg;go_wp2;go_loopw [4,20] (λv i w5=>∃ q:Nat,q<=n/\i = .int .i64 q/\Hid (w5.ownsRow (w.heap.size+1) 9 1 v q ((xs.take q).map Value.string))/\Hid (sV w5 w.heap.size (xs.take q))/\Hid (Below w.heap.size w w5)) (λ_ i _=>n-(intOf i).toNat)
   case atStart=>exact ⟨0,Nat.zero_le _,rfl,HR,HM,HB⟩
   case round =>
    obtain ⟨q,hq,rfl,HR2,j0,HB2⟩:=hrel;clear HR HM HB hcg Kf;by_cases hlt2:q<n
    .obtain ⟨b,off,rfl,hblt,hcell⟩:=H.out.at' q hlt2;have hc2:=(Below.cell (p:=⟨b,off+q,none⟩) HB2.out hblt).trans hcell;have lR:q<xs.length:=by rw [HL.out]; exact hlt2
     have hsz:=HX.out _ (Rf.zB lR);have hnot:xs.getD q eB ∉ xs.take q:=λhm=>by
      obtain ⟨i,hi,e⟩:=List.getElem_of_mem hm;rw [List.length_take] at hi;rw [List.getElem_take] at e;have e1:xs.getD q eB=xs[q]:=by simp [List.getD,lR]
      rw [e1] at e;exact absurd ((List.getElem_inj HN.out).1 e) (by omega)
     have hst:xs.take (q+1)=xs.take q++[xs.getD q eB]:=by
      rw [List.take_add_one,List.getElem?_eq_getElem lR];simp [List.getD,lR]
     have hlen:(xs.take q).length=q:=by rw [List.length_take]; omega
     obtain ⟨K,hK⟩:=ay (xs.getD q eB)
     rw [hK] at hc2 hsz hnot hst;obtain ⟨Y,hY⟩:=ay (xs.take q)
     rw [hY] at hnot hst hlen HR2 j0;have cw:=hid hst;have ib:=hid hlen;have vq:=hid hnot;have DO:=HB2.out.size;clear hK hY hcell hst hlen hnot lR;have hal:=al1 wr (.cells #[] 117);have E7:=hid (j0.out.same (hal.block _ j0.out.lt));have HR3:Hid (∀ k,(∃ v:Value,wr.ownsRow (w.heap.size+1) 9 1 v q (Y.map Value.string)/\v.ownBlock=some k)->w.heap.size+1<=k/\k<wr.heap.size):=hid (λk ⟨v,h,e⟩=>h.lt k e);have cX:=hid hal;have hyl:Y.length<maxLen:=by rw [ib.out]; unfold maxLen; omega
     clear hal;go_wp2_with (first
      | (refine aA (j0.out.new hsz vq.out ⟨_,_,rfl,rfl,rfl⟩) ?_)
      | (refine Yl rfl (E7.out.put hyl hsz vq.out ⟨_,_,_,rfl,rfl,rfl,rfl⟩) ?_; rintro w6 ⟨S7,db⟩; have S8:=hid S7; have OF:=hid db; have eM:=hid (dI (w':=w6) HR2.out λk e=>(db.block k (by have:=HR3.out k ⟨_,HR2.out,e⟩; omega)).trans (cX.out.block k (HR3.out k ⟨_,HR2.out,e⟩).2)); have bi:=hid (db.below (HB2.out.alloc DO _) aG); have S9:=bi.out.size; clear S7 db)
      | (at_builtin; refine wpList_append_own _ rfl _ _ 28 rfl (w.heap.size+1) 9 i0 (.string ⟨#[]⟩) 1 16 underlying28 HI.out.1 HI.out.2.1 HI.out.2.2.1 HI.out.2.2.2 rfl (by decide) _ _ _ rfl (eM.out.alloc _) ⟨w6.heap.size,0,none⟩ 1 1 [.string K] rfl rfl ?d1 ?d2 ?d3 ?d4 ?d5 ?_))
     all_goals first
      | exact Bu.cell_one_new' _ _ _ _
      | (intro u hu; simp at hu; subst hu; rfl)
      | rfl
      | (unfold maxLen; omega)
      | omega
      | (simp; omega)
      | skip
     intro v' w7 cJ hgrow _;have hlt':=eM.out.lt;have ZS:Hid (sV w7 w.heap.size (xs.take (q+1))):=hid (by
      rw [cw.out];have nj:=S8.out.lt;exact S8.out.same ((hgrow.block _ (aI nj (al1 w6 _).size) (λe=>by first | (have:=(hlt' _ e).1; omega) | (have:=(hlt' _ e.symm).1; omega))).trans ((al1 w6 _).block _ nj)))
     have iu:Hid (w7.ownsRow (w.heap.size+1) 9 1 v' (q+1) ((xs.take (q+1)).map Value.string)):=hid (by rw [cw.out,List.map_append]; exact cJ);go_wp2;go_roundw
     case rel=>(repeat apply Exists.intro); exact ⟨⟨q+1,by omega,by go_num,iu,ZS,hid ((bi.out.alloc S9 _).grown hgrow (by simp; omega) (λg hg=>by have:=(hlt' g hg).1; omega))⟩,rfl⟩
     case measure=>simp [intOf]; omega
    .obtain rfl:q=n:=by omega
     have hO2:=HR2.out;rw [List.take_of_length_le (by rw [HL.out]; exact aG)] at hO2;have hM2:=j0.out;rw [List.take_of_length_le (by rw [HL.out]; exact aG)] at hM2;have c8:=hid hO2;have Kx:=hid hM2;clear hO2 hM2;go_wp2;go_roundw
     case rel=>exact ⟨0+1,by omega,by go_num,by rw [List.take_of_length_le (by rw [HL.out]; omega),HL.out]; exact c8,by rw [List.take_of_length_le (by rw [HL.out]; omega)]; exact Kx,HB2⟩
     case measure=>simp [intOf]
  .obtain rfl:j=1:=by omega
   have hO:=HR.out;rw [List.take_of_length_le (by rw [HL.out]; omega)] at hO;have HE:Hid (∀ v,wr.ownsRow (w.heap.size+1) 9 1 v xs.length (xs.map Value.string)->∃ a' n' c',v = .slice a' n' c'/\fO wr a' n' c' xs/\(∀ ad,a'=some ad->w.heap.size<=ad.block)/\Below w.heap.size w wr):=hid (λv h=>by
    have hlt:=h.lt;obtain ⟨a,c,rfl,hst⟩:=fO.oF h;exact ⟨a,_,c,rfl,hst,λad e=>Nat.le_trans (Nat.le_succ _) (hlt ad.block (by rw [e]; rfl)).1,HB.out⟩)
   have HO:=hid hO;clear hO;go_wp2;go_ret;obtain ⟨a',n',c',rfl,hr⟩:=HE.out _ HO.out;exact ⟨a',n',c',rfl,hr⟩
end Tm
end
section
open Go.RowKit
namespace Tm
open Tr Ni Pk Ky No Rf Rl
open Sm (Tab)
theorem Ls (M:Mp) (w:World) (g:Nat) (a:aK) (n c:Nat) (xs:List aL) (r:aM) (hr:r.length=32) (t:T) (hi:Inv M w) (hT:Tab w) (hB:Rg.Own w g #[.slice a n c] 29) (hS:fO w a n c xs) (hn:n<=1000000) (hnd:xs.Nodup) (hsz:∀ s∈xs,s.size<=maxLen)
  (Sa:∀ W a n c,Below w.heap.size w W->fO W a n c xs->(∀ b off,a=some ⟨b,off,none⟩->w.heap.size<=b)->Calls prog 32 #[.agg (Sm.kc r),.slice a n c] W (Dy M W t)) :
  Calls prog 17 #[.agg (Sm.kc r),.slice (some ⟨g,0,none⟩) 1 1] w (Dy M w t):=by
 obtain ⟨w1,hw1,hO2,hO4,hb1,hs1⟩:=Al w r;have HJ:Hid (∀ W,Below w1.heap.size w1 W->Calls prog 33 #[.slice (some ⟨g,0,none⟩) 1 1] W λe w'=>∃ a' n' c',e = .returned (.slice a' n' c')/\fO w' a' n' c' xs/\(∀ ad,a'=some ad->W.heap.size<=ad.block)/\Below W.heap.size W w'):=hid (λW hb=>Mw xs hsz hnd g a n c W ((hS.below hb1).below hb) hn (aV (j:=0) ((hB.below hb1).below hb) rfl))
 have ZZ:Hid (∀ W a n c,Below w1.heap.size w1 W->fO W a n c xs->(∀ b off,a=some ⟨b,off,none⟩->w.heap.size<=b)->Calls prog 32 #[.agg (Sm.kc r),.slice a n c] W (Dy M W t)):=hid (λW a n c hb h1 h2=>Sa W a n c (hb1.trans (hb.mono hb1.size)) h1 h2);have nd:M.at_ w.heap.size=none:=hi.out aG;have nh:M.at_ (w.heap.size+1)=none:=hi.out (Nat.le_succ _);have oR:Hid (∀ W,Below w1.heap.size w1 W->Rg.Own W w.heap.size (Sm.kc r) 48):=hid (λW hb=>hO2.below hb)
 have eJ:Hid (w.heap.size<=w1.heap.size):=hid hb1.size;have vr:Hid (∀ W M2 W2,Below w1.heap.size w1 W->Fr M M2 W W2->Rg.Own W2 w.heap.size (Sm.kc r) 48/\Fr M M2 w W2/\Rg.Own W2 (w.heap.size+1) #[.pointer none] 35/\¬ M2.ft (w.heap.size+1)):=hid (λW M2 W2 hb f=>⟨jM (hO2.below hb) f nd,(Fr.below M (hb1.trans (hb.mono hb1.size))).trans hi f,jM (hO4.below hb) f nh,f.box (hi.free (Nat.le_succ _)) (hO4.below hb).1 (cZ (hO4.below hb) (eH _))⟩)
 have ae:Hid (∀ (M2:Mp) W W',(Fr M M2 w W/\Inv M2 W/\Tab W)->¬ M2.ft (w.heap.size+1)->Rg.Upd W (w.heap.size+1) W'->Fr M M2 w W'/\Inv M2 W'/\Tab W'):=hid (λM2 W W' h hn hu=>⟨h.1.upd hu (Nat.le_succ _),h.2.1.upd hu hn,Tab.upd h.2.2 hu (by have:=hT.pos; omega)⟩);have HB0:Hid (Below w1.heap.size w1 w1.drew):=hid aH.drew;have mw:=hid hr;have HW:Hid (_=_):=hid hw1;clear hw1 hO2 hO4 hb1 hs1 hr hi hT hB hS hn hnd hsz Sa nd nh;go_enter func17,ntmps17;go_wp2_with (first
  | (refine aA (aX _ _ _ (w.heap.size+1) (by simp) rfl) ?_; rw [<-HW.out]))
 refine aC (S:=λw'=>Rg.Own w' w.heap.size (Sm.kc r) 48) (oR.out _ aH.drew) λhld=>?_;refine ah 0 ?_ (hy:=by intro wz hSw; (refine Sm.qj _ _ _ w.heap.size r mw.out ?_ hSw; exact ⟨_,rfl,rfl⟩));try simp only [Act.put,ak]
 refine ah 1 ?_;try simp only [Act.put,ak]
 refine aj 2 λK hK=>?_;go_simp;go_at_call 33
 (with_reducible refine (HJ.out _ HB0.out).mono ?_)
 rintro e y1 ⟨a1,n1,c1,rfl,hst,hge,hbx⟩;have HB1:=hid (bst HB0.out hbx);have lz:Hid (∀ b off,a1=some ⟨b,off,none⟩->w.heap.size<=b):=hid (λb off e=>Nat.le_trans eJ.out (Nat.le_trans HB0.out.size (hge _ e)));have bj:=hid hst;clear hbx hst hge HB0;refine hK.out _ _ (oR.out _ HB1.out) λhld=>?_;clear hK K;try simp only [Act.put,ak]
 refine aj 3 λK hK=>?_;go_simp;go_at_call 32
 (with_reducible refine (ZZ.out _ _ _ _ HB1.out bj.out lz.out).mono ?_)
 rintro e y2 ⟨p2,M2,rfl,ht2,f2,i2,t2⟩;obtain ⟨hs2,hf2,ho2,hn2⟩:=vr.out _ _ _ HB1.out f2;have HS2:=hid hs2;have c8:=hid ho2;have HN2:=hid hn2;have HT2:=hid ht2;have fb:Hid (Fr M M2 w y2/\Inv M2 y2/\Tab y2):=hid ⟨hf2,i2,t2⟩;clear ht2 f2 i2 t2 hs2 hf2 ho2 hn2 HB1 bj lz;refine hK.out _ _ (HS2.out) λhld=>?_;clear hK K;try simp only [Act.put,ak]
 refine ah 4 ?_;try simp only [Act.put,ak]
 refine ah 5 ?_;try simp only [Act.put,ak]
 refine aj 6 λK hK=>?_;refine Rg.meetStore (by rfl) c8.out 35 #[.pointer p2] ⟨_,_,rfl,rfl,rfl⟩ xA rfl (by simp [Value.oneCell']) ?_;intro y3 hO3 hu3;have ag:=hid hO3;have eL:=hid (ae.out _ _ _ fb.out HN2.out hu3);have ll:=HS2.out.upd hu3 (by omega);clear hO3 hu3;refine hK.out _ _ (ll) λhld=>?_;clear hK K;try simp only [Act.put,ak]
 refine ah 7 ?_;try simp only [Act.put,ak]
 refine aB ?_;go_wp2;exact bodyPost_ret (jq (q:=4) (u:=5) rfl _ rfl ag.out) rfl ⟨p2,M2,rfl,HT2.out,eL.out⟩
end Tm
end
section
namespace Tr
open Rf Rl Ni No
end Tr
namespace Tm
open Tr Ni Pk Ky No
end Tm
end
section
open Go.RowKit
namespace Tm
open Tr Ni Pk Ky No Rf Rl d9
open Sm (Tab)
theorem ZE:gZ (bq .nil lAB)<=200000:=by
 have h:gZ (bq .nil lAB)=3:=by kernel_rfl
 omega
namespace A10
variable {w0:World} {M:Mp} {w w':World} {ga gb g3:Nat} {p:aK} {t:T} {A B:aM}
end A10
end Tm
end
section
open Go.RowKit
namespace Tm
open Tr Ni Pk Ky
section
variable {P:Program} {t:TypeId} {a:aK} {n c s:Nat}
theorem Py (ht:P.underlying t=some (.slice (P.elem t))) (hs:∀ w,(sizeOf (P.elem t)).run P w = .ok s w) (j:Nat) (hj:j<=c) (w:World) :
  (Instr.sliceAt t (.slice a n c) none (some (.int .i64 j)) none).run P w = .ok (.slice a j c) w:=by
 rw [run_sliceAt_slice (h:=ht),run_slice_h w t a n c ht .i64 j (by omega) (by omega),hs];have:a.map (λx=>x.add 0)=a:=by cases a <;> simp [Addr.add]
 simp [Result.andThen,sliced,this]
end
theorem Us {P:Program} {t:TypeId} {a:aK} {n c s:Nat} {o:Oper} {w:World} (ht:P.underlying t=some (.slice (P.elem t))) (hs:∀ w,(sizeOf (P.elem t)).run P w = .ok s w) (hj:j<=c)
  (ho:∃ x hi,o.op = .slice t x none (some hi) none/\ev x = .slice a n c/\ev hi = .int .i64 j):(execOp ev o).run P w = .ok (.value (.slice a j c)) w:=by
 obtain ⟨x,lo,ho,hx,hl⟩:=ho;unfold execOp;simp only [ho,hx,hl,Option.map_some,Option.map_none,Sem.run_bind,Sem.run_pure,Result.andThen_ok,Py ht hs j hj]
open No
open Rf
open Rl
open d9
theorem Xi {t:T} {l:List Tr.Pair} (h:Has t (gW l)) (h1:∀ x∈l,x.1.length=32) (h2:∀ x∈l,x.2.size≠0/\x.2.size<=65552) (hl:l.length<=24):gZ t<=200000:=by
 by_cases hn:t = .nil
 .subst hn;show 1<=200000;omega
 .rw [wV t 64 h.good h.full hn,h.built h1 h2];have h3:=QV 64 (sP l) (Fa h1);have h4:(sP l).length<=24:=Nat.le_trans (NV _) hl;have h5:(64+1)*(sP l).length<=65*24:=Nat.mul_le_mul aG h4;omega
end Tm
end
section
open Go.RowKit
namespace Tm
open Tr Ni Pk Ky No Rf Rl
open Sm (Tab)
end Tm
end
end Go.Proofs.YtoipgepkhomfgaaGreatDoor
