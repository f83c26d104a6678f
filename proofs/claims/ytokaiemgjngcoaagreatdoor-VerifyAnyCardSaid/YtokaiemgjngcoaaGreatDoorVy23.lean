/-
 The contract of walk.Count.
-/
import Derived.Test.YtokaiemgjngcoaaGreatDoorVy22
open Go.Lib (hid)
open Go.Proofs.Tryz
set_option linter.unusedSimpArgs false
set_option linter.unusedVariables false
set_option maxHeartbeats 40000000
set_option maxRecDepth 100000
namespace Go.Proofs.YtokaiemgjngcoaaGreatDoor
variable {ty:TypeId} {B b2 bx c n:Nat} {u v:Value} {ops:Array Oper} {ev:Operand->Value} {a:aL} {ad:Addr} {p:Nat->Prop} {E R:aM}
section
open Go.RowKit
namespace Tm
open Tr Ni Pk Ky No Rf Rl ew
open Sm (Tab)
theorem Jh (s:aM) (hs:s.size<=1000) (w:World) :
  Calls prog 74 #[.string s] w (Qi w (fJ s)):=by
 obtain ⟨m,hm⟩:=aA (2*s.size)
 have hmk:=run_make_row' (P:=prog) 35 5 (.int .u8 0) 1 underlying35 Ni.jS rfl .i64 .i64 m (by omega) (by omega);have e:((m:Nat):Int)=2*(s.size:Int):=by omega
 rw [e] at hmk;have HS:=hid (Spr.start w s);rw [hm] at HS;have HM:=hid hm;have hm2:m<=2*s.size:=by omega
 clear e hm;go_enter func74,ntmps74;go_wp2_with fail
 refine (gI _ _).mono ?_;rintro e w1 ⟨rfl,rfl⟩;go_wp2;clear hmk;go_loopw [14] (λi wr=>∃ k:Nat,k<=m/\i = .int .i64 k/\Spr w s k wr) (λi _=>m-(intOf i).toNat)
 case atStart=>exact ⟨0,Nat.zero_le _,rfl,HS.out⟩
 case round =>
  obtain ⟨k,hk,rfl,hS⟩:=hrel;by_cases hlt:k<m
  .have hc:=hS.2.1;have hz:=hS.1.lt;have hcell:wr.cell? ⟨w.heap.size+1,k,none⟩=some (.int .u8 0):=by
    rw [hS.1.cell (by rw [HM.out]; exact hlt)]; simp
   have hfr:=hS.1.frozen k;go_wp2_with fail
   refine (oM _ s k (by unfold maxLen; omega) (by omega) _ hc).mono ?_;rintro e w2 ⟨rfl,rfl⟩;go_wp2;go_roundw
   case rel=>exact ⟨k+1,by omega,by go_num,hS.next (by rw [HM.out]; exact hlt)⟩
   case measure=>simp [intOf]; omega
  .obtain rfl:k=m:=by omega
   have HG:Hid (bf wr (some ⟨w.heap.size+1,0,none⟩) k k (fJ s)):=hid (by
    refine bf.ofRow (fJ s) (by unfold maxLen; omega) (by have:=hS.1; rw [HM.out] at this; exact this) (by rw [dW,HM.out]) (λj hj=>?_);rw [if_pos hj,iB s j (by rw [HM.out]; exact hj)])
   have hB:=hS.2.2;go_wp2;go_ret;exact ⟨(some ⟨w.heap.size+1,0,none⟩,k,k),rfl,⟨HG.out,λad e _=>by obtain rfl:=(Option.some.inj e).symm; exact Nat.le_succ _⟩,hB⟩
theorem GU (k:aN) (hk:k.length=32) (w:World) :
  Calls prog 42 #[.agg (kc k)] w (Qi w (bO k)):=by
 have h0:bf (w.alloc (.cells (kc k) 24)) (some ⟨w.heap.size,0,none⟩) k.length k.length k:=bf.new w k (by unfold maxLen; omega) _ _ rfl;rw [hk] at h0;have hcv:=gY h0;obtain ⟨s,hs⟩:=aA (⟨k.toArray⟩:aM)
 have hsz:s.size=32:=by rw [<-hs]; show k.toArray.size=32; simp [hk]
 have HP:Hid (bO k=Ni.fJ s):=hid (by unfold bO; rw [hs]);have IT:=hid (λwx=>Jh s (by omega) wx);rw [hs] at hcv;obtain ⟨C,hC⟩:=aA (kc k)
 rw [hC] at hcv ⊢;clear h0 hs hC hsz hk;go_enter func42,ntmps42;go_wp2_with fail
 refine (IT.out _).mono ?_;rintro e w1 ⟨r,rfl,hx,hb⟩;go_wp2;go_ret;exact ⟨r,rfl,by rw [HP.out]; exact hx.to λb _ hp=>Nat.le_trans (by simp) hp,((Below.refl w.heap.size w).alloc aH _).trans (hb.mono (by simp))⟩
theorem Uk {M:Mp} {K:Nat->Prop} {w w':World} (f:FrK M K w w') {b:Nat} {cs:aO} {T:TypeId} (h:Rg.Own w b cs T) (hm:M.at_ b=none/\¬ K b):Rg.Own w' b cs T :=
 ⟨aJ h.1 f.size,(f.block b h.1 hm.1 hm.2).trans h.2⟩
theorem Ng (z:List Nz) (N:Nd) (h:Hdl):IU (z++[(N,h)])=IU z++ndL N h:=by simp [IU]
def xG (B:Nat) (w:World) (v:Value) (z:List Nz):Prop:=w.ownsRow B 67 19 v z.length (IU z)
theorem Gx {w:World} {z:List Nz} {N:Nd} {h:Hdl} (hR:xG B w v z) (h2:Rg.Own w b2 (ndC N h.1 h.2.1 h.2.2) 67) (hl:N.ks.length=16) (hn:z.length<=1000000) (hB:B<=w.heap.size) :
  ∃ v' w',(Builtin.append_ #[77,77] ty #[v,.slice (some ⟨b2,0,none⟩) 1 1]).run prog w = .ok v' w'/\xG B w' v' (z++[(N,h)])/\w.grownBy w' v.ownBlock/\(v'.ownBlock=v.ownBlock\/v'.ownBlock=some w.heap.size):=by
 obtain ⟨i0,z0,hi,hz,hsz,hby,hzc⟩:=BD;obtain ⟨v',w',hr,h3,h4,_,h5⟩:=run_append_own_at (P:=prog) w B 77 ty 67 i0 z0 19 304 underlying77 hi hz hsz hby hzc (by decide) v z.length _ hR ⟨b2,0,none⟩ 1 1 (ndL N h) (vg hl)
  (λj u hu=>by
   rw [Addr.add_mid,Nat.zero_add];have:(ndC N h.1 h.2.1 h.2.2)[j]? = some u:=by
    rw [<-hu];unfold ndC ndL;simp
   exact aV h2 this)
  (Uy N h) (by unfold maxLen; omega) (by omega) hB
 exact ⟨v',w',hr,by unfold xG; rw [List.length_append,Ng]; exact h3,h4,h5⟩
theorem Hl {rest:List Oper} {o:Oper} {a:Go.Act} {w:World} {Q:Exit->Go.Act->World->Prop} {z:List Nz} {N:Nd} {h:Hdl} (hR:xG B w v z) (h2:Rg.Own w b2 (ndC N h.1 h.2.1 h.2.2) 67) (hl:N.ks.length=16) (hn:z.length<=1000000) (hB:B<=w.heap.size) (hgd:o.guard=none)
  (ho:∃ s y,o.op = .call { callee:=.builtin .append,args:=#[s,y],argTypes:=#[77,77] }/\a.eval s=v/\a.eval y = .slice (some ⟨b2,0,none⟩) 1 1)
  (H:∀ v' w',xG B w' v' (z++[(N,h)])->w.grownBy w' v.ownBlock->(v'.ownBlock=v.ownBlock\/v'.ownBlock=some w.heap.size)->wpList prog ops Q rest (a.put o.dst v') w'):wpList prog ops Q (o::rest) a w:=by
 obtain ⟨s,y',ho,hs,hy⟩:=ho;obtain ⟨v',w',hr,h3,h4,h5⟩:=Gx (ty:=o.type) hR h2 hl hn hB;refine eH hgd v' w' ?_ (H v' w' h3 h4 h5);unfold execOp;simp only [ho,resolve,invoke,builtin,Sem.run_bind,Sem.run_pure,Result.andThen_ok,List.map_toArray,List.map_cons,List.map_nil,hs,hy,hr]
theorem FE {o:Oper} {w:World} {b off:Nat} (hc:w.cell? ⟨b,off,none⟩=some v) (ho:∃ x,o.op = .load 77 x/\ev x = .pointer (some ⟨b,off,none⟩)) :
  (execOp ev o).run prog w = .ok (.value v) w:=by
 obtain ⟨x,ho,hx⟩:=ho;unfold execOp;simp [ho,hx,go_sem,hc]
def Dt (V:List Pl):List Nd:=(V.filter λx=>isNode x.1).map λx=>bV x.1
theorem Bq (V:List Pl) (x:Pl):Dt (V++[x])=Dt V++if isNode x.1 then [bV x.1] else []:=by
 unfold Dt;rw [List.filter_append,List.map_append];cases h:isNode x.1 <;> simp [h]
theorem JJ (I:Pa->Bool):∀ (t:T) (o:Nat) (a:Pa),(goL I t o a).length<=lH t
 | .nil,_,a=>by unfold goL; split <;> simp [lH]
 | .leaf _ _,_,a=>by unfold goL; split <;> simp [lH]
 | .stub _,_,a=>by unfold goL; split <;> simp [lH]
 | .ext q s,o,a=>by
  have ih:=JJ I s (o+1) (a++q);unfold goL;split
  .show (goL I s (o+1) (a++q)).length+1<=1+lH s;omega
  .exact Nat.zero_le _
 | .br ks,o,a=>by
  unfold goL;split
  .show (((fD ks).map λi=>goL I (ks i) (o+1) (a++[iL i])).flatten).length+1<=1+((fD ks).map λi=>lH (ks i)).sum;have e:((fD ks).map λi=>goL I (ks i) (o+1) (a++[iL i])).map List.length=(fD ks).map λi=>(goL I (ks i) (o+1) (a++[iL i])).length:=by
    rw [List.map_map];rfl
   rw [List.length_flatten,e];have:=vQ (f:=λi=>(goL I (ks i) (o+1) (a++[iL i])).length) (g:=λi=>lH (ks i)) (fD ks) λi _=>JJ I (ks i) (o+1) (a++[iL i]);omega
  .exact Nat.zero_le _
structure BI {α:Type} (M:Mp) (J:List α->(Nat->Prop)->World->Prop) (V:List α) (K:Nat->Prop) (N:Nat->Prop) (x : α) (w w':World) (K':Nat->Prop):Prop where
 j:J (V++[x]) K' w'
 sub:∀ k,K' k->K k\/N k
 f:FrK M K w w'
 i:Inv M w'
 t:Tab w'
def MK {α:Type} (gv : α->aO->Nat->Prop) (x : α) (args:aO) (n:Nat) (k:Nat):Prop:=n<=k\/gv x args k
def Xf {α:Type} (M:Mp) (gf:Nat) (lb:aO) (A : α->World->aO->Prop) (gv : α->aO->Nat->Prop) (G:List α) (Pre:World->(Nat->Prop)->Prop):Prop :=
 ∀ (l:Nat) (J Js:List α->(Nat->Prop)->World->Prop) (K0:Nat->Prop) (w:World),Sta M J->Sta M Js->Pre w K0->Inv M w->Tab w->J [] K0 w->
  (∀ V K x args wx,J V K wx->FrK M K0 w wx->Inv M wx->Tab wx->V++[x]<+:G->A x wx args->(∀ k,gv x args k->w.heap.size<=k/\k<wx.heap.size/\¬ K k)->YieldAt Fence.wide 0 prog l args wx λe w'=>∃ K',(e = .returned (.bool true)/\BI M J V K (MK gv x args wx.heap.size) x wx w' K')\/(e = .returned (.bool false)/\BI M Js V K (MK gv x args wx.heap.size) x wx w' K'))->
  Calls prog gf (#[.func (.yield l) #[] #[]]++lb) w λe w'=>(∃ v,e = .returned v)/\∃ V K,(V=G/\J V K w'\/V<+:G/\Js V K w')/\FrK M K0 w w'/\Inv M w'/\Tab w'/\∀ k,K k->K0 k\/w.heap.size<=k
def SB {α:Type} (M:Mp) (I:List α->(Nat->Prop)->World->Prop) (Ix:Code->List α->(Nat->Prop)->World->Prop) (V:List α) (K:Nat->Prop) (n:Nat->Prop) (x : α) (w:World):Exit->Go.Act->World->Prop
 | .normal,_,w3=>∃ K',BI M I V K n x w w3 K'
 | .ret,_,w3=>∃ K',BI M (Ix .ret) V K n x w w3 K'
 | .exit id,_,w3=>∃ K',BI M (Ix (.exit id)) V K n x w w3 K'
 | .goto t,_,w3=>∃ K',BI M (Ix (.goto t)) V K n x w w3 K'
 | .panic _,_,_=>False
 | .outgrown,_,_=>False
theorem OO {α:Type} {M:Mp} {g:Operand} {ps:Array Tmp} {assign body:Code} {Q:Exit->Go.Act->World->Prop} {a:Go.Act} {w:World} {gf:Nat} {lb:aO} (hg:a.eval g = .func (.func gf) #[] lb) (eg:∀ args w,(callFunc gf args).run prog w = .ok (.enter gf args) w)
  {A : α->World->aO->Prop} {gv : α->aO->Nat->Prop} {G:List α} {Pre:World->(Nat->Prop)->Prop} (hseq:Xf M gf lb A gv G Pre) (hps:∀ x W args,A x W args->args.size=ps.size) {K0:Nat->Prop} (hpre:∀ W1 K1,Below w.heap.size w W1->(∀ k,K1 k->K0 k\/w.heap.size<=k)->Pre W1 K1) (hi:Inv M w) (hT:Tab w)
  {I:List α->(Nat->Prop)->World->Prop} (hI:Sta M I) {Ix:Code->List α->(Nat->Prop)->World->Prop} (hIx:∀ c,Sta M (Ix c)) (h0:I [] K0 w)
  (fy:∀ (l:Nat) (V:List α) (K:Nat->Prop) (x : α) (args:aO) (W:World) (S:Go.Act->World->Prop),w.heap.size<=l->l<W.heap.size->¬ K l->I V K W->FrK M K0 w W->(∀ k,K k->K0 k\/w.heap.size<=k)->Inv M W->Tab W->V++[x]<+:G->A x W args->(∀ k,gv x args k->w.heap.size<k/\k<W.heap.size/\k≠l/\¬ K k)->
   (∀ a' W',Below W.heap.size W W'->(∀ W2,Turn l W' W2->body.wpIn (FW (some l)) 0 prog (SB M I Ix V K (MK gv x args W.heap.size) x W2) a' W2)->S a' W')->
   assign.wpIn (FW (some l)) 0 prog (Exit.then S (λ_ _ _=>False)) { tmps:=(ps.zip args).foldl (λt (p,v)=>t.setIfInBounds p v) a.tmps,defers:=[] } W)
  (hdone:∀ K W,I G K W->FrK M K0 w W->Inv M W->Tab W->(∀ k,K k->K0 k\/w.heap.size<=k)->W.heap[w.heap.size]? = some (.deferred (some []))->¬ K w.heap.size->Q .normal { a with defers:={ target:=.collected w.heap.size,args:=#[] }::a.defers } W)
  (hstop:∀ c V K W,V<+:G->Ix c V K W->FrK M K0 w W->Inv M W->Tab W->(∀ k,K k->K0 k\/w.heap.size<=k)->W.heap[w.heap.size]? = some (.deferred (some []))->¬ K w.heap.size->c.wp prog Q { a with defers:={ target:=.collected w.heap.size,args:=#[] }::a.defers } W) :
  (Code.rangeFunc g ps assign body).wp prog Q a w:=by
 refine (wpIn_wide (n:=0)).1 (wpIn_rangeFunc λfn hfn=>?_);obtain ⟨rec,hrec⟩:∃ rec:LoopState->Option Code->Loop,rec=λst pe=>{ state:=st,pending:=pe,fn,tmps:=a.tmps,params:=ps,assign,body,defers:=w.heap.size }:=⟨_,rfl⟩
 obtain ⟨W1,hW1⟩:=aA ((w.alloc (.deferred (some []))).alloc (.loop (rec .ready none)))
 have hL1:W1.heap[w.heap.size+1]? = some (.loop (rec .ready none)):=by
  rw [<-hW1]; have:=World.alloc_heap_new (w.alloc (.deferred (some []))) (.loop (rec .ready none)); rwa [World.size_alloc] at this
 have hK1:W1.heap[w.heap.size]? = some (.deferred (some [])):=by
  rw [<-hW1]; exact (Below.heap_alloc _ _ _ (by simp)).trans (World.alloc_heap_new w _)
 have hb1:Below w.heap.size w W1:=by rw [<-hW1]; exact ((Below.refl _ w).alloc aH _).alloc (by simp) _
 have hs1:W1.heap.size=w.heap.size+2:=by rw [<-hW1]; simp
 obtain ⟨D,hD⟩:=aA w.heap.size
 have hout:∀ k,D<=k->M.at_ k=none/\¬ M.ft k:=λk hk=>⟨hi.out (by omega),hi.free (by omega)⟩
 have hz:0<D:=by rw [<-hD]; exact hT.pos
 have vn:=hI.lt _ _ _ h0;refine ⟨w.heap.size+1,[{ target:=.collected w.heap.size,args:=#[] }],W1,{ target:=.fn (.func gf) lb,args:=#[.func (.yield (w.heap.size+1)) #[] #[]] },W1,gf,
  #[.func (.yield (w.heap.size+1)) #[] #[]]++lb,W1,?_,?_,λ_ _=>trivial,?_,λhh=>(by cases hh),?_⟩
 .rw [<-hW1,hrec]; exact run_enterLoop_outer _ _ _ _ _
 .simp only [resolve,hg];simp [go_sem]
 .simp [invoke,go_sem,eg]
 .rw [hD] at hL1 hK1 hb1 hs1 ⊢;simp only [hD] at fy hdone hstop hpre hrec hT;have vq:∀ (I:List α->(Nat->Prop)->World->Prop) (st:LoopState) (pe:Option Code),Sta M I->Sta M (λV K' W=>∃ K,I V K W/\(∀ k,K' k↔K k\/k=D\/k=D+1)/\¬ K D/\¬ K (D+1)/\(∀ k,K k->K0 k\/D<=k)/\W.heap[D+1]? = some (.loop (rec st pe))/\W.heap[D]? = some (.deferred (some []))):=λI st pe hI=>by
   refine ⟨λV K' W W' ⟨K,h1,h2,h3,h4,h5,h6,h7⟩ hs hk=>⟨K,hI.st _ _ _ _ h1 hs λk hk'=>hk k ((h2 k).2 (.inl hk')),h2,h3,h4,h5,(hk _ ((h2 _).2 (.inr (.inr rfl)))).trans h6,(hk _ ((h2 _).2 (.inr (.inl rfl)))).trans h7⟩,λV K' W ⟨K,h1,h2,h3,h4,h5,h6,h7⟩ k hk=>?_⟩;rcases (h2 k).1 hk with h | rfl | rfl
   .exact hI.lt _ _ _ h1 k h
   .exact ⟨(Array.getElem?_eq_some_iff.1 h7).1,hout _ aH⟩
   .exact ⟨(Array.getElem?_eq_some_iff.1 h6).1,hout _ (Nat.le_succ _)⟩
  have Mu:Sta M (λV K' W=>∃ c K,Ix c V K W/\(∀ k,K' k↔K k\/k=D\/k=D+1)/\¬ K D/\¬ K (D+1)/\(∀ k,K k->K0 k\/D<=k)/\W.heap[D+1]? = some (.loop (rec .done (some c)))/\W.heap[D]? = some (.deferred (some []))) :=
   ⟨λV K' W W' ⟨c,h⟩ hs hk=>⟨c,(vq (Ix c) .done (some c) (hIx c)).st V K' W W' h hs hk⟩,λV K' W ⟨c,h⟩=>(vq (Ix c) .done (some c) (hIx c)).lt V K' W h⟩
  have hi1:Inv M W1:=hi.keep hb1.size λk hk=>hb1.block k (by rw [<-hD]; exact hi.lt_ k hk);have hT1:Tab W1:=hT.below hb1 hz;refine callsIn_wide.2 ((hseq (D+1) _ _ (λk=>K0 k\/k=D\/k=D+1) W1 (vq I .ready none hI) Mu (hpre W1 _ hb1 λk hk=>hk.elim Or.inl λh=>.inr (by omega)) hi1 hT1
   ⟨K0,hI.st _ _ _ _ h0 hb1.size λk hk=>hb1.block k (by have:=(vn k hk).1; omega),λk=>Iff.rfl,λh=>by have:=(vn _ h).1; omega,λh=>by have:=(vn _ h).1; omega,λk hk=>.inl hk,hL1,hK1⟩ ?_).mono ?_)
  .-- one round
   rintro V K' x args W ⟨K,hj,mA,rh,lw,hKs,hl,hd⟩ mf sq ri hpf hA hgv;have vr:∀ k,gv x args k->D+2<=k:=λk hk=>by have:=(hgv k hk).1; omega
   have hf0:FrK M K0 w W:=⟨mf.os.trans hb1.os,mf.tape.trans hb1.tape,mf.output.trans hb1.output,by have:=mf.size; omega,λk hk hm hn=>by
    have My:k<D:=by omega
    rw [mf.block k (by omega) hm (λg=>g.elim hn (by omega)),hb1.block k (by omega)]⟩
   have hlt:D+1<W.heap.size:=(Array.getElem?_eq_some_iff.1 hl).1;have hy:=run_yield (P:=prog) (args:=args) hl (by rw [hrec]; exact hps x W args hA);rw [hrec] at hy;refine ⟨fn,_,assign,body,hy,roundIn_of_wpIn trivial (fy (D+1) V K x args W _ (Nat.le_succ _) hlt lw hj hf0 hKs sq ri hpf hA (λk hk=>⟨by have:=vr k hk; omega,(hgv k hk).2.1,by have:=vr k hk; omega,λhkk=>(hgv k hk).2.2 ((mA k).2 (.inl hkk))⟩) λa' W' hb' hbody=>?_)⟩;have hl':W'.heap[D+1]? = some (.loop (rec .ready none)):=(hb'.block _ hlt).trans hl
   have hd':W'.heap[D]? = some (.deferred (some [])):=(hb'.block _ (by omega)).trans hd;refine ⟨_,run_beginRound hl' (by rw [hrec]),?_⟩;have hu2:Rg.Upd W' (D+1) (W'.putObj (D+1) (.loop { rec .ready none with state:=.busy })):=⟨rfl,rfl,rfl,World.putObj_size,λk hk=>World.putObj_heap_other hk⟩
   have hl2:(W'.putObj (D+1) (.loop { rec .ready none with state:=.busy })).heap[D+1]? = some (.loop { rec .ready none with state:=.busy }):=World.putObj_heap_same (Array.getElem?_eq_some_iff.1 hl').1;have hd2:=(hu2.block D (by omega)).trans hd';refine wpIn_mono (hbody _ ⟨hu2,_,hl'⟩) ?_;generalize hW2:W'.putObj (D+1) (.loop { rec .ready none with state:=.busy })=W2 at hu2 hl2 hd2;have fin:∀ (c:Option Code) (I':List α->(Nat->Prop)->World->Prop) (W3:World) (K3:Nat->Prop),Sta M I'->BI M I' V K (MK gv x args W.heap.size) x W2 W3 K3->
     (Instr.endRound (D+1) c).run prog W3 = .ok (.bool c.isNone) (W3.putObj (D+1) (.loop (rec (if c.isNone then .ready else .done) c)))/\
     BI M (λV K' W=>∃ K,I' V K W/\(∀ k,K' k↔K k\/k=D\/k=D+1)/\¬ K D/\¬ K (D+1)/\(∀ k,K k->K0 k\/D<=k)/\W.heap[D+1]? = some (.loop (rec (if c.isNone then .ready else .done) c))/\W.heap[D]? = some (.deferred (some []))) V K' (MK gv x args W.heap.size) x W (W3.putObj (D+1) (.loop (rec (if c.isNone then .ready else .done) c))) (λk=>K3 k\/k=D\/k=D+1):=λc I' W3 K3 hI' h=>by
    have hs2:W2.heap.size=W'.heap.size:=hu2.size;have hs':=hb'.size;have hl3:W3.heap[D+1]? = some (.loop { rec .ready none with state:=.busy }):=(h.f.block _ (by omega) (hout _ (by omega)).1 lw).trans hl2;have hd3:W3.heap[D]? = some (.deferred (some [])):=(h.f.block _ (by omega) (hout _ (by omega)).1 rh).trans hd2;have hr:=run_endRound (P:=prog) c hl3;rw [hrec] at hr ⊢
    have hu3:Rg.Upd W3 (D+1) (W3.putObj (D+1) (.loop { state:=(if c.isNone then .ready else .done),pending:=c,fn,tmps:=a.tmps,params:=ps,assign,body,defers:=D })):=⟨rfl,rfl,rfl,World.putObj_size,λk hk=>World.putObj_heap_other hk⟩
    have hnD:¬ K3 D:=λhk=>(h.sub _ hk).elim rh λg=>g.elim (by omega) λg=>by have:=vr _ g; omega
    have D0:¬ K3 (D+1):=λhk=>(h.sub _ hk).elim lw λg=>g.elim (by omega) λg=>by have:=vr _ g; omega
    refine ⟨hr,⟨⟨K3,hI'.st _ _ _ _ h.j (by rw [hu3.size]; exact aH) λk hk=>hu3.block k λe=>D0 (by rw [<-e]; exact hk),λk=>Iff.rfl,hnD,D0,λk hk=>(h.sub k hk).elim (hKs k) λg=>g.elim (by omega) λg=>.inr (by have:=vr _ g; omega),World.putObj_heap_same (Array.getElem?_eq_some_iff.1 hl3).1,(hu3.block D (by omega)).trans hd3⟩,λk hk=>?_,?_,h.i.upd hu3 (hout _ (by omega)).2,λj hj=>?_⟩⟩
    .rcases hk with hk | hk
     .exact (h.sub k hk).elim (λg=>.inl ((mA k).2 (.inl g))) .inr
     .exact .inl ((mA k).2 (.inr hk))
    .refine ⟨hu3.os.trans (h.f.os.trans (hu2.os.trans hb'.os)),hu3.tape.trans (h.f.tape.trans (hu2.tape.trans hb'.tape)),hu3.output.trans (h.f.output.trans (hu2.output.trans hb'.output)),by rw [hu3.size]; exact Nat.le_trans (by omega) h.f.size,λk hk hm hn=>?_⟩;have hne:k≠D+1:=λe=>hn ((mA k).2 (.inr (.inr e)));rw [hu3.block k hne,h.f.block k (by omega) hm (λg=>hn ((mA k).2 (.inl g))),hu2.block k hne,hb'.block k hk]
    .rw [World.cell?_of_block (hu3.block 0 (by omega))];exact h.t j hj
   rintro e a3 W3 hp;cases e with
   | normal =>
    obtain ⟨K3,hp⟩:=hp;obtain ⟨h1,h2⟩:=fin none I W3 K3 hI hp;exact ⟨_,_,h1,_,.inl ⟨rfl,h2⟩⟩
   | ret =>
    obtain ⟨K3,hp⟩:=hp;obtain ⟨h1,h2⟩:=fin (some .ret) (Ix .ret) W3 K3 (hIx _) hp;exact ⟨_,_,h1,_,.inr ⟨rfl,⟨_,h2.j⟩,h2.sub,h2.f,h2.i,h2.t⟩⟩
   | exit id =>
    obtain ⟨K3,hp⟩:=hp;obtain ⟨h1,h2⟩:=fin (some (.exit id)) (Ix (.exit id)) W3 K3 (hIx _) hp;exact ⟨_,_,h1,_,.inr ⟨rfl,⟨_,h2.j⟩,h2.sub,h2.f,h2.i,h2.t⟩⟩
   | goto t =>
    obtain ⟨K3,hp⟩:=hp;obtain ⟨h1,h2⟩:=fin (some (.goto t)) (Ix (.goto t)) W3 K3 (hIx _) hp;exact ⟨_,_,h1,_,.inr ⟨rfl,⟨_,h2.j⟩,h2.sub,h2.f,h2.i,h2.t⟩⟩
   | panic ch=>exact hp.elim
   | outgrown=>exact hp.elim
  .-- behind the iterator
   rintro e W2 ⟨⟨v,rfl⟩,V,K',hV,f2,i2,t2,hsub⟩;have key:∀ (c:Option Code) (st:LoopState) (I':List α->(Nat->Prop)->World->Prop),Sta M I'->st ≠ .busy->(∃ K,I' V K W2/\(∀ k,K' k↔K k\/k=D\/k=D+1)/\¬ K D/\¬ K (D+1)/\(∀ k,K k->K0 k\/D<=k)/\W2.heap[D+1]? = some (.loop (rec st c))/\W2.heap[D]? = some (.deferred (some [])))->
     ∃ W4 K,(Instr.endLoop (D+1)).run prog W2 = .ok c W4/\I' V K W4/\FrK M K0 w W4/\Inv M W4/\Tab W4/\(∀ k,K k->K0 k\/D<=k)/\W4.heap[D]? = some (.deferred (some []))/\¬ K D:=λc st I' hI' hst ⟨K,hj,mA,rh,lw,hKs,hl,hd⟩=>by
    have hr:=run_endLoop (P:=prog) hl (by rw [hrec]; exact hst);rw [hrec] at hr;have hu3:Rg.Upd W2 (D+1) (W2.putObj (D+1) (.loop { state:=.exhausted,pending:=c,fn,tmps:=a.tmps,params:=ps,assign,body,defers:=D })):=⟨rfl,rfl,rfl,World.putObj_size,λk hk=>World.putObj_heap_other hk⟩
    refine ⟨_,K,hr,hI'.st _ _ _ _ hj (by rw [hu3.size]; exact aH) (λk hk=>hu3.block k λe=>lw (by rw [<-e]; exact hk)),?_,i2.upd hu3 (hout _ (by omega)).2,λj hj=>?_,hKs,(hu3.block D (by omega)).trans hd,rh⟩
    .have hs2:=f2.size;refine ⟨hu3.os.trans (f2.os.trans hb1.os),hu3.tape.trans (f2.tape.trans hb1.tape),hu3.output.trans (f2.output.trans hb1.output),by rw [hu3.size]; omega,λk hk hm hn=>?_⟩;have My:k<D:=by omega
     rw [hu3.block k (by omega),f2.block k (by omega) hm (λg=>g.elim hn (by omega)),hb1.block k (by omega)]
    .rw [World.cell?_of_block (hu3.block 0 (by omega))];exact t2 j hj
   rcases hV with ⟨rfl,h⟩ | ⟨hpf,c,h⟩
   .obtain ⟨W4,K,hr,g1,g2,g3,g4,g5,g6,g7⟩:=key none .ready I hI (by simp) h;exact ⟨none,W4,hr,hdone K W4 g1 g2 g3 g4 g5 g6 g7⟩
   .obtain ⟨W4,K,hr,g1,g2,g3,g4,g5,g6,g7⟩:=key (some c) .done (Ix c) (hIx c) (by simp) h;exact ⟨some c,W4,hr,(wpIn_wide (n:=0)).2 (hstop c V K W4 hpf g1 g2 g3 g4 g5 g6 g7)⟩
def gvP (_:Pl) (args:aO) (k:Nat):Prop:=∃ (cs:aO) (ad:Addr) (n c:Nat),args[1]? = some (.agg cs)/\cs[1]? = some (.slice (some ad) n c)/\0<n/\k=ad.block
theorem Wq {x:Pl} {N:Nd} {k:Nat} (h:gvP x #[u,.agg (ndC N a n c)] k):∃ ad,a=some ad/\0<n/\k=ad.block:=by
 obtain ⟨cs,ad,n',c',h1,h2,h3,h4⟩:=h;have h5:some (Value.agg (ndC N a n c))=some (Value.agg cs):=h1;injection h5 with h5;injection h5 with h5;subst h5;have h6:(ndC N a n c)[1]? = some (.slice a n c):=by simp [ndC]
 rw [h6] at h2;injection h2 with h2;injection h2 with e1 e2 e3;exact ⟨ad,e1,by omega,h4⟩
theorem RS {x:Pl} {N:Nd} (hn:0<n):gvP x #[u,.agg (ndC N (some ad) n c)] ad.block :=
 ⟨ndC N (some ad) n c,ad,n,c,rfl,by simp [ndC],hn,rfl⟩
theorem Wz {x:Pl} {N:Nd} {k:Nat} {w:World} {l:aN} (hb:bf w a n c l) (hB:∀ ad,a=some ad->B<=ad.block) (h:gvP x #[u,.agg (ndC N a n c)] k):B<=k/\k<w.heap.size:=by
 obtain ⟨ad,rfl,hn,rfl⟩:=Wq h;obtain ⟨b,off,e,hlt,_⟩:=hb.at' 0 hn;injection e with e;refine ⟨hB _ rfl,?_⟩;rw [e];exact hlt
section
variable {α:Type} {M:Mp} {J:List α->(Nat->Prop)->World->Prop} {gv : α->aO->Nat->Prop} {V:List α} {K K':Nat->Prop} {x : α} {args:aO} {w w7 w8 wa wb:World}
theorem Xi {N:Nat->Prop} (hu:∀ k,w.heap.size<=k->M.at_ k=none/\¬ M.ft k) (r:BI M J V K N x wa wb K'):Mv w K wa (λ_=>False) wb:=⟨r.f.size,λb hB hl hn=>r.f.block b hl (hu b hB).1 hn,λ_ h=>h.elim⟩
theorem WO (hu:∀ k,w.heap.size<=k->M.at_ k=none/\¬ M.ft k) (m:Mv w K w7 K w8) (hb:Below w8.heap.size w8 wa) (r:BI M J V K (MK gv x args wa.heap.size) x wa wb K') (hg:∀ k,gv x args k->w7.heap.size<=k/\k<w8.heap.size):Mv w K w7 K' wb:=by
 have h1:=m.sz;have h2:=hb.size;have h3:=r.f.size;refine ⟨by omega,λb hB hl hn=>((r.f.block b (by omega) (hu b hB).1 hn).trans (hb.block b (by omega))).trans (m.bl b hB hl hn),λk hk=>(r.sub k hk).imp id λg=>?_⟩;rcases g with g | g
 .omega
 .exact (hg k g).1
end
theorem OD (M:Mp) (g0 gi fi:Nat) (cp:aO) (p0:aL) (t:T) (I:Pa->Bool) (eI:∀ args w,(callFunc fi args).run prog w = .ok (.enter fi args) w) (hg:Tr.Good t 64) (hf:Fine t) (hc:lH t<=200000) (ht:IsT M p0 t) :
  Xf M 91 #[.pointer (some ⟨g0,0,none⟩),.pointer (some ⟨gi,0,none⟩)] (goA M) gvP (goL I t 0 []) (WS M g0 gi fi cp p0 I):=by
 intro lp J Js K0 w hJ hJs hP hi hT h0 hY;show Calls prog 91 #[.func (.yield lp) #[] #[],.pointer (some ⟨g0,0,none⟩),.pointer (some ⟨gi,0,none⟩)] w (ED M J Js (goL I t 0 []) K0 w);have hout:∀ k,w.heap.size<=k->M.at_ k=none/\¬ M.ft k:=λk hk=>⟨hi.out hk,hi.free hk⟩
 obtain ⟨w1,hw1⟩:=ay (w.alloc (.cells (plA p0 0 (none,0,0)) 111))
 have hb1:Below w.heap.size w w1:=by rw [hw1]; exact al1 _ _
 have hs1:w1.heap.size=w.heap.size+1:=by rw [hw1]; simp
 have gm:jN w.heap.size w1 (.slice (some ⟨w.heap.size,0,none⟩) 1 1) [⟨p0,(none,0,0),(t,0,[])⟩]:=by
  rw [hw1];exact World.ownsRow_lit (e:=111) (size:=3) (base:=w.heap.size) w (plA p0 0 (none,0,0)) 1 aH (by unfold maxLen; decide) rfl
 obtain ⟨w3,hw3⟩:=ay (w1.alloc (.cells #[.slice (some ⟨w.heap.size,0,none⟩) 1 1] 154))
 have hb2':=al1 w1 (.cells #[.slice (some ⟨w.heap.size,0,none⟩) 1 1] 154);rw [<-hw3] at hb2';have hb3:Below w.heap.size w w3:=bst hb1 hb2';have hO3:Rg.Own w3 (w.heap.size+1) #[.slice (some ⟨w.heap.size,0,none⟩) 1 1] 154:=by rw [hw3,<-hs1]; exact Rg.Own.new _ _ _
 have ym:jN w.heap.size w3 (.slice (some ⟨w.heap.size,0,none⟩) 1 1) [⟨p0,(none,0,0),(t,0,[])⟩]:=fC gm λk e=>hb2'.block k (gm.lt k e).2;have dc:Hid (Gq M J K0 w (w.heap.size+1) (.slice (some ⟨w.heap.size,0,none⟩) 1 1) [⟨p0,(none,0,0),(t,0,[])⟩] [] K0 [] w3):=hid (by
  have hK:=hJ.lt _ _ _ h0;refine ⟨hO3,ym,λy hy=>?_,hJ.st _ _ _ _ h0 hb3.size λk hk=>hb3.block k (hK k hk).1,λhk=>by have:=(hK _ hk).1; omega,λk e hk=>?_,λe=>?_,by omega,(FrK.refl M K0 w).below hb3 aH,λk hk=>.inl hk,hi.below hb3,hT.below hb3 hT.pos,hout,hT.pos,List.nodup_nil,λD hD=>by cases hD⟩
  .obtain rfl:=List.mem_singleton.1 hy;exact ⟨ht,xk.root hg hf,bf.nil _,λad e=>by cases e⟩
  .have e2:w.heap.size=k:=Option.some.inj e;have:=(hK _ hk).1;omega
  .have e2:w.heap.size=w.heap.size+1:=Option.some.inj e;omega)
 have HP:=hid hP;have HY:=hid hY;have HJ:=hid hJ;have Tb:=hid hJs;have HC:=hid hc;have db:=hid hout;have hcell0:=hP.c0;clear hP hY hJ hJs hc hout hi hT h0 hb1 hs1 gm hb2' hO3 hb3 ym hg hf ht;refine xB func91 rfl ?_;simp only [ntmps91,List.size_toArray,List.length_cons,List.length_nil,Nat.reduceAdd,Nat.reduceSub,Array.replicate_succ,Array.replicate_zero,List.push_toArray,List.append_toArray,List.nil_append,List.cons_append]
 obtain ⟨INV,D3⟩:∃ INV:Go.Act->World->Prop,INV=λa' wr=>∃ (Ds:List Nat) (v:Value) (l:List Pc) (V:List Pl) (K:Nat->Prop),Hid (Gq M J K0 w (w.heap.size+1) v l V K Ds wr)/\Hid (V++jM I (l.map (·.x))=goL I t 0 []/\ng (l.map (·.x))<=200000)/\
   ∃ u3 u5 u6 u7 u8 u9 u10 u11 u12 u13 u14 u15 u16 u17 u18 u19 u20 u21 u22 u23 u24 u25 u26 u27 u28 u29 u30 u31 u32 u33 u34 u35 u36 u37 u38 u39 u40 u41 u42 u43 u44 u45 u46 u47 u48 u49 u50 u51 u52 u53 u54 u55 u56 u57 u58 u59:Value,a'={ tmps:=#[.func (.yield lp) #[] #[],.pointer (some ⟨g0,0,none⟩),.pointer (some ⟨gi,0,none⟩),u3,.pointer (some ⟨w.heap.size+1,0,none⟩),u5,u6,u7,u8,u9,u10,u11,u12,u13,u14,u15,u16,u17,u18,u19,u20,u21,u22,u23,u24,u25,u26,u27,u28,u29,u30,u31,u32,u33,u34,u35,u36,u37,u38,u39,u40,u41,u42,u43,u44,u45,u46,u47,u48,u49,u50,u51,u52,u53,u54,u55,u56,u57,u58,u59],defers:=marks Ds }:=⟨_,rfl⟩
 have rk:=hid D3;clear D3;go_wp2_with (first
  | (refine aB (aW hcell0 ⟨_,rfl,rfl⟩) ?_)
  | (refine aB (bC (NV p0) ⟨_,rfl,rfl⟩) ?_)
  | (refine aB (wJ w.heap.size rfl ⟨_,rfl,rfl⟩) ?_)
  | (refine wp_loop INV (λ_ wr=>xR M (w.heap.size+1) wr) ?_ ?_))
 .rw [<-hw1,<-hw3,rk.out];refine ⟨[],_,_,_,_,dc,hid ⟨by rw [List.nil_append]; exact JL I (t,0,[]),by show lH t+0<=200000; exact HC.out⟩,?_⟩
  (repeat apply Exists.intro)
  rfl
 .intro a' wr hinv;rw [rk.out] at hinv;obtain ⟨Ds,v,l,V,K,HG,HE,u3,u5,u6,u7,u8,u9,u10,u11,u12,u13,u14,u15,u16,u17,u18,u19,u20,u21,u22,u23,u24,u25,u26,u27,u28,u29,u30,u31,u32,u33,u34,u35,u36,u37,u38,u39,u40,u41,u42,u43,u44,u45,u46,u47,u48,u49,u50,u51,u52,u53,u54,u55,u56,u57,u58,u59,rfl⟩:=hinv;clear dc hcell0 hw1 hw3 w1 w3 HC;try dsimp only
  rw [Lv 6];have hcb:=aV (j:=0) HG.out.ob rfl;by_cases hl:l=[]
  .subst hl;obtain ⟨a,c,rfl⟩:=jW HG.out.row;have dT:Hid (ED M J Js (goL I t 0 []) K0 w (.returned (.tuple #[])) (shut wr Ds)):=hid (Fb HJ.out Tb.out (.inl ⟨by have:=HE.out.1; simpa [jM] using this,HG.out.j⟩) HG.out.f HG.out.i HG.out.t HG.out.sub HG.out.u HG.out.z HG.out.dm _);have HD:=hid (And.intro HG.out.dn HG.out.dm);clear HG HE HP HY;go_wp2;refine nE Ds wr HD.out.1 (λD hD=>(HD.out.2 D hD).2.1) ⟨_,results_none rfl _ _ _,dT.out⟩
  .obtain ⟨l,y,rfl⟩:∃ l' y,l=l'++[y]:=⟨_,_,(List.dropLast_concat_getLast hl).symm⟩
   obtain ⟨g,cap,rfl,hgB,hgl,hcap,hcm,hAt⟩:=HG.out.row.last;have Th:=Bb HG.out.ob HG.out.row (λz hz=>(HG.out.ok z hz).1);have hlen:l.length<=200000:=by
    have h1:=MN ((l++[y]).map (·.x));have h2:=HE.out.2;rw [List.length_map,List.length_append] at h1;omega
   have gr:=hid Th;unfold maxLen at hcm;obtain ⟨n,hn⟩:=aA l.length
   have HN:=hid hn;rw [hn] at hcb hcap hAt hlen;rw [hn] at HG;have hpos:(0:Int)<((n+1:Nat):Int):=by omega
   have hsub:IntKind.i64.wrap (((n+1:Nat):Int)-1)=(n:Int):=by rw [show ((n+1:Nat):Int)-1=(n:Int) by omega]; exact IntWalk.i64_in _ (by omega)
   have hnc:n<=cap:=by omega
   have hn1:n<n+1:=Nat.lt_succ_self n;have Tl:=hid hAt;have c8:=Rg.Own.new wr (plA none 0 (none,0,0)) 111;have cf:=hid c8;have D4:=al1 wr (.cells (plA none 0 (none,0,0)) 111);obtain ⟨To,Ts,Tu⟩:=HG.out.ok y (by simp);have hrow:=HG.out.row;rw [<-HN.out] at hrow;have hgi:w.heap.size<=wr.heap.size:=HG.out.f.size
   have Ty:Hid (∀ w5,Rg.Upd (wr.alloc (.cells (plA none 0 (none,0,0)) 111)) wr.heap.size w5->Rg.Own w5 wr.heap.size (plA y.p y.x.2.1 y.h) 111->w5.cell? ⟨w.heap.size+1,0,none⟩=some (.slice (some ⟨g,0,none⟩) (n+1) cap)/\w5.frozen? ⟨w.heap.size+1,0,none⟩=false/\
     ∃ w6,w6=w5.setCell ⟨w.heap.size+1,0,none⟩ (.slice (some ⟨g,0,none⟩) n cap)/\(w6.cell? ⟨gi,0,none⟩=some (.func (Fn.func fi) #[] cp)/\Gq M J K0 w (w.heap.size+1) (.slice (some ⟨g,0,none⟩) n cap) l V K Ds w6/\Ex w K w6 wr.heap.size (plA y.p y.x.2.1 y.h) 111/\BsK w K w6 y.h y.x.2.2)):=hid (λw5 hu h5=>by
    have hb5:Below wr.heap.size wr w5:=hu.below D4 aH;have hg5:=HG.out.below HJ.out hb5;have bh:=bQ w5 (w.heap.size+1) 0 (.slice (some ⟨g,0,none⟩) n cap);have YB:Rg.Own (w5.setCell ⟨w.heap.size+1,0,none⟩ (.slice (some ⟨g,0,none⟩) n cap)) (w.heap.size+1) #[.slice (some ⟨g,0,none⟩) n cap] 154:=cO (o:=0) hg5.ob _;have D5:=fC hrow λk e=>hb5.block k (hrow.lt k e).2;have hne:g≠w.heap.size+1:=λe=>HG.out.nb (by rw [<-e]; rfl)
    have D6:jN w.heap.size (w5.setCell ⟨w.heap.size+1,0,none⟩ (.slice (some ⟨g,0,none⟩) n cap)) (.slice (some ⟨g,0,none⟩) n cap) l:=by
     have:=fC (jN.init D5) λk e=>bh.block k (by have e2:g=k:=Option.some.inj e; omega);rw [HN.out] at this;unfold jN;rw [HN.out];exact this
    have TC:=hg5.box HJ.out bh YB D6 rfl (λz hz=>by simp [hz]);refine ⟨aV (j:=0) hg5.ob rfl,fB hg5.ob,_,rfl,?_,TC,⟨h5.upd bh (by have:=HG.out.ob.1; omega),hgi,λhk=>by have:=(HJ.out.lt _ _ _ HG.out.j _ hk).1; omega⟩,?_⟩
    .have hlt:=World.block_lt_of_cell? w _ HP.out.ci;have hlt':gi<w.heap.size:=hlt;rw [World.cell?_of_block (TC.f.block gi hlt' HP.out.hi HP.out.ki)];exact HP.out.ci
    .have h2:=Tu.kept hb5.size λb _ hl=>hb5.block b hl;exact (h2.kept (by rw [bh.size]; exact aH) λb hp _=>bh.block b hp.2.2.1).to λb _ hp=>⟨hp.1,hp.2.1⟩)
   have kz:=hid (And.intro To Ts);clear To Ts Tu hrow hgi;clear hl Th hn hAt c8 D4;go_wp2_with (first
    | (refine aB (FU hn1 ⟨_,_,rfl,rfl,rfl⟩) ?_)
    | (refine aB (lT Tl.out ⟨_,rfl,rfl⟩) ?_)
    | (refine aB (DX _ _ _ wr.heap.size rfl rfl) ?_)
    | (refine Ep cf.out y.p y.x.2.1 y.h rfl _ _ rfl rfl rfl rfl ?_; intro w5 c8 cq; obtain ⟨m5,G8,w6,y0,ke⟩:=Ty.out w5 cq c8; have D7:=ke.1; have rg:=hid ke; clear c8 cq hcb ke)
    | (refine aB (D8 NZ UA hnc ⟨_,_,rfl,rfl,rfl⟩) ?_)
    | ((try rw [<-y0]); refine aB (lT (GV.own rg.out.2.2.1.o) ⟨_,rfl,rfl⟩) ?_)
    | ((try rw [<-y0]); refine Rg.run rfl (.func (Fn.func fi) #[] cp) _ (Kw D7 ⟨_,rfl,rfl⟩) ?_))
   rw [<-y0];have hyl:y.x.2.2.length<=64:=by
    obtain ⟨L,h,_⟩:=kz.out.2;omega
   refine (HP.out.into w6 rg.out.2.1.f y.p y.x.2.1 y.h y.x.2.2 rg.out.2.2.2.1 hyl).mono ?_;rintro e w7 ⟨rfl,cH⟩;have ml:Mv w K w6 K w7:=Mv.below cH;have ip:=hid (rg.out.2.1.below HJ.out cH);have mS:=hid (rg.out.2.2.1.mv ml);have D1:=hid (rg.out.2.2.2.mv ml);have e9:Hid (jM I ((l++[y]).map (·.x))=jM I (l.map (·.x)++[y.x])):=hid (by rw [List.map_append]; rfl);clear y0 rg cH ml m5 G8 D7 Ty cf Tl w6 w5;by_cases hI:I y.x.2.2=true
   .rw [hI];obtain ⟨L,hL,hgd,hfn,_⟩:=kz.out.2;go_wp2_with (first
     | (refine aB (aW (aV (j:=0) mS.out.o rfl) ⟨_,rfl,rfl⟩) ?_))
    refine (Tp M y.p y.x.1 L hgd (by omega) hfn w7 ip.out.i kz.out.1 ip.out.t).mono ?_;rintro e w8 ⟨na,nn,nc,ka,kc,qs,rfl,sr,mm,_,D9,_,f8,i8,t8⟩;have sA:Mv w K w7 K w8:=Mv.fr db.out f8;have Hj:=hid (ip.out.open_ HJ.out f8 i8 t8);have li:=hid (mS.out.mv sA);have Zp:wr.heap.size<w8.heap.size:=li.out.o.1;have yk:=hid (D1.out.mv sA);have yn:∀ k,K k->k<w7.heap.size:=λk hk=>(HJ.out.lt _ _ _ ip.out.j k hk).1;have Hm:∀ k,K k->k<w8.heap.size:=λk hk=>(HJ.out.lt _ _ _ Hj.out.j k hk).1
    have Dd:Hid (Ew w K w8 ka qs):=hid (Ew.ofRow sr ip.out.f.size yn);have vt:Hid (BsK w K w8 (na,nn,nc) (bV y.x.1).p):=hid ⟨mm.1,λad e _=>⟨Nat.le_trans ip.out.f.size (mm.2 ad e),λhk=>by have:=yn _ hk; have:=mm.2 ad e; omega⟩⟩;have De:=hid D9;have gh:=hid (ig y.x.1);obtain ⟨N,hN⟩:=aA (bV y.x.1)
    have sB:=hid hN;rw [hN] at gh vt ⊢;obtain ⟨A8,hA8⟩:=ay ((w8.alloc (.cells (ndC nd0 none 0 0) 67)).alloc (.cells #[.slice none 0 0] 136))
    have Dg:Below w8.heap.size w8 A8:=by rw [hA8]; exact al2 _ _ _
    have ll:dL A8 w8.heap.size nd0 none 0 0:=by rw [hA8]; exact (Rg.Own.new _ _ _).below (al1 _ _)
    have DA:Rg.Own A8 (w8.heap.size+1) #[.slice none 0 0] 136:=by
     have:=Rg.Own.new (w8.alloc (.cells (ndC nd0 none 0 0) 67)) #[.slice none 0 0] 136;rw [hA8];simpa using this
    have cU:=hid ll;have DB:Hid (∀ w9,Rg.Upd A8 w8.heap.size w9->dL w9 w8.heap.size N na nn nc->w9.cell? ⟨w8.heap.size+1,0,none⟩=some (.slice none 0 0)/\w9.frozen? ⟨w8.heap.size+1,0,none⟩=false/\
      ∃ ai,ai=w9.setCell ⟨w8.heap.size+1,0,none⟩ (.slice ka qs.length kc)/\Below w8.heap.size w8 ai/\Ex w K ai w8.heap.size (ndC N na nn nc) 67/\Ex w K ai (w8.heap.size+1) #[.slice ka qs.length kc] 136):=hid (λw9 hu h9=>by
     have ho:=DA.upd hu (by omega);have ax:=bQ w9 (w8.heap.size+1) 0 (.slice ka qs.length kc);have C3:=Hj.out.f.size;exact ⟨aV (j:=0) ho rfl,fB ho,_,rfl,ax.below (hu.below Dg aH) (by omega),⟨h9.upd ax (by omega),C3,λhk=>by have:=Hm _ hk; omega⟩,⟨cO (o:=0) ho _,by omega,λhk=>by have:=Hm _ hk; omega⟩⟩)
    have rl:=hid sA;have vy:Hid (∀ k,gvP y.x #[.agg (plA y.p y.x.2.1 y.h),.agg (ndC N na nn nc)] k->w7.heap.size<=k/\k<w8.heap.size):=hid (λk hk=>Wz mm.1 mm.2 hk);clear sr mm D9 f8 i8 t8 sA yn Hm hN Dg ll DA mS D1 hgd hfn hL;go_wp2_with (first
     | (refine aB (aY _ _ _ w8.heap.size rfl rfl) ?_)
     | (rw [<-hA8]; refine bS cU.out bK N na nn nc gh.out rfl _ _ rfl rfl rfl rfl ?_; intro w9 ae af; obtain ⟨YC,YD,ai,rm,DD,DE,hk10⟩:=DB.out w9 af ae; have j8:=hid DD; have rn:=hid DE; have vz:=hid hk10; clear ae af DD DE hk10)
     | (refine KT (KZ 6 3 rfl (by rintro ⟨_,_,⟨⟨_,h⟩,_⟩⟩; cases h) ?_); intro _ _; dsimp only [List.take_succ_cons,List.take_zero,List.drop_succ_cons,List.drop_zero])
     | ((try rw [<-rm]); refine aB (lT (GV.own (li.out.mv (Mv.below j8.out)).o) ⟨_,rfl,rfl⟩) ?_)
     | ((try rw [<-rm]); refine aB (bH rn.out.o gh.out ⟨_,rfl,rfl⟩) ?_))
    have oS:Mv w K w8 K ai:=Mv.below j8.out;have eE:=hid (Hj.out.below HJ.out j8.out);have vA:=hid (li.out.mv oS);have ro:=hid (yk.out.mv oS);have oT:=hid (Dd.out.mv oS);have lx:=hid (vt.out.mv oS);have hst:V++y.x::jM I (l.map (·.x)++(fq y.x).reverse)=goL I t 0 []:=by rw [<-HE.out.1,e9.out,NC _ hI]
    have hpre:V++[y.x]<+:goL I t 0 []:=⟨jM I (l.map (·.x)++(fq y.x).reverse),by rw [<-hst]; simp⟩
    have N5:=hid hst;have N6:=hid (HY.out V K y.x #[.agg (plA y.p y.x.2.1 y.h),.agg (ndC N na nn nc)] ai eE.out.j eE.out.f eE.out.i eE.out.t hpre ⟨y.p,y.h,na,nn,nc,by rw [sB.out],kz.out.1,ro.out.1,by rw [sB.out]; exact lx.out.1,kz.out.2⟩ (λk hk=>⟨Nat.le_trans ip.out.f.size (vy.out k hk).1,aJ (vy.out k hk).2 j8.out.size,λhkk=>by have:=(HJ.out.lt _ _ _ ip.out.j k hkk).1; have:=(vy.out k hk).1; omega⟩));have N7:=hid hpre;try rw [<-rm]
    clear oS hst hpre Hj li yk Dd vt DB cU rm hA8 YC YD;refine EU N6.out ?_ ?_ ?_ ?_
    .rfl
    .rfl
    .exact ⟨_,_,_,rfl,rfl,rfl⟩
    rintro e ir ⟨K',h⟩;rcases h with ⟨rfl,h11⟩ | ⟨rfl,h11⟩
    .refine ⟨_,rfl,uN rfl (by rintro ⟨_,_,⟨⟨_,h⟩,_⟩⟩; cases h) ?_⟩;have eK:Mv w K ai (λ_=>False) ir:=Xi db.out h11;have ml:Mv w K w7 K' ir:=WO db.out rl.out j8.out h11 vy.out;have mn:=hid (ip.out.keep ml.sz ml.bl h11.j ml.sub (eE.out.f.trans h11.f eE.out.sub) h11.i h11.t);have we:=hid (vA.out.mv eK);have DG:=hid (ro.out.mv eK);have sC:=hid (oT.out.mv eK);have sE:=hid (lx.out.mv eK);have DH:=hid (rn.out.mv eK);have DM:=hid (vz.out.mv eK);have N8:=hid (Ww kz.out.2);rw [sB.out] at N8;clear eK ml h11 N6 ip rl vy eE vA ro oT lx rn vz j8;go_wp2_with (first
      | (refine aB (lT (GV.own we.out.o) ⟨_,rfl,rfl⟩) ?_)
      | (refine aB (bH DH.out.o gh.out ⟨_,rfl,rfl⟩) ?_))
     refine (TG y.p y.x.2.1 y.h y.x.2.2 N na nn nc gh.out ir DG.out.1 sE.out.1 N8.out.1 N8.out.2).mono ?_;rintro e DO ⟨v12,hs,rfl,wg,wh⟩;have DP:=hid wg;have N9:v12.oneCell'=true:=by
      obtain ⟨_,_,rfl⟩:=jW wg.row;rfl
     clear wg;go_wp2_with fail
     refine (Ms v12 N9 DO).mono ?_;rintro e sL ⟨rfl,ol,rp⟩;go_wp2_with fail
     have wi:Below ir.heap.size ir sL:=bst wh rp;have rq:Mv w (λ_=>False) ir (λ_=>False) sL:=Mv.below wi;have ex:=hid (mn.out.below HJ.out wi);have rr:=hid (we.out.mv rq);have DQ:=hid (sC.out.mv rq);have rv:=hid (DM.out.mv rq);have hwk:lN N y.x.2.2 16=(fq y.x).map (·.2.2):=by rw [<-sB.out]; exact NG kz.out.2
     have rx:=DP.out.keep rp.size λb _ hl=>rp.block b hl;rw [hwk] at rx;have oX:=hid rx;have Hn:hs.length=(fq y.x).length:=by rw [rx.len,List.length_map]
     have de:qs.length=(fq y.x).length:=by rw [De.out.1,<-nU,List.length_map]
     have h16:=II y.x;have hgr:g<ir.heap.size:=(mn.out.row.lt g rfl).2;have hbx:w.heap.size+1<ir.heap.size:=mn.out.ob.1;have Nm:w.heap.size<=ir.heap.size:=mn.out.f.size;have DS:ir.heap.size<=DO.heap.size:=wh.size;have Nx:DO.heap.size<sL.heap.size:=ol.1;have NB:∀ k,K' k->k<ir.heap.size:=λk hk=>(HJ.out.lt _ _ _ mn.out.j k hk).1;have YE:w.heap.size+1<wr.heap.size:=HG.out.ob.1;have NE:=hid ol;clear ol wi rq hwk rx mn we DG sC sE DH DM wh rp
     refine TB (gf:=131) (lb:=#[.pointer (some ⟨DO.heap.size,0,none⟩)]) (K0:=λk=>k=w.heap.size+1\/(Value.slice (some ⟨g,0,none⟩) n cap).ownBlock=some k) rfl (enters_of func131 (by kernel_rfl) rfl) (PY M ir.heap.size DO.heap.size v12 hs (by omega)) (λx W args e=>by rw [show args=_ from e]; rfl) ?pre ex.out.i ex.out.t (RF M w.heap.size (w.heap.size+1) l (λz=>⟨qs.getD z.1 none,z.2,jg y.x z.1⟩)) (Ix:=λ_ _ _ _=>False) (λ_=>SF M) ?start ?round ?done ?stop
     case pre =>
      intro W1 K1 hb1 hK1;have hk0:∀ k,ir.heap.size<=k->k<sL.heap.size->¬ K1 k:=λk h1 h2 hk=>(hK1 k hk).elim (λe=>e.elim (by omega) λe=>by have:=Option.some.inj e; have e2:g=k:=this; omega) (by omega);exact ⟨NE.out.below hb1,fC oX.out.row λk e=>hb1.block k (oX.out.row.lt k e).2,hk0 _ DS Nx,λk e=>hk0 k (oX.out.row.lt k e).1 (oX.out.row.lt k e).2,DS,λk hk=>db.out k (by omega)⟩
     case start=>exact ⟨_,ex.out.ob,by rw [List.map_nil,List.append_nil]; exact ex.out.row,λk=>Iff.rfl,ex.out.nb,ex.out.bb,ex.out.u⟩
     case stop =>
      intro c V1 K1 W _ h;exact h.elim
     case done =>
      intro Ki Wd ⟨vd,TE⟩ E3 hjd htd hsd E6 _;have yh:=hid (ex.out.pushed HJ.out kz.out.2 De.out oX.out Nm hbx hgr NB (by omega) TE E3 hjd htd hsd E6);have hms:((l++(bk hs 0).map λz=>(⟨qs.getD z.1 none,z.2,jg y.x z.1⟩:Pc)).map (·.x))=l.map (·.x)++(fq y.x).reverse:=by
       rw [List.map_append,List.map_map,<-Ur Hn];rfl
      have J9:Hid (V++[y.x]++jM I ((l++(bk hs 0).map λz=>(⟨qs.getD z.1 none,z.2,jg y.x z.1⟩:Pc)).map (·.x))=goL I t 0 []/\ng ((l++(bk hs 0).map λz=>(⟨qs.getD z.1 none,z.2,jg y.x z.1⟩:Pc)).map (·.x))<=200000):=hid (by
       rw [hms];refine ⟨by rw [<-N5.out]; simp,?_⟩;have h1:=Fv (l.map (·.x)) y.x;have h2:=HE.out.2;rw [List.map_append] at h2;have h3:ng (l.map (·.x)++[y.x])<=200000:=h2;omega)
      have Hp:Hid (xR M (w.heap.size+1) Wd<xR M (w.heap.size+1) wr):=hid (by
       have hr:=Bb yh.out.ob yh.out.row (λz hz=>(yh.out.ok z hz).1);rw [hr,gr.out,hms,List.map_append];exact Fv _ _)
      clear TE E3 hjd htd hsd E6;simp only [Exit.inBlock];refine ⟨?_,Hp.out⟩;rw [rk.out];refine ⟨sL.heap.size::Ds,_,_,_,_,yh,J9,?_⟩
      (repeat apply Exists.intro)
      rfl
     case round =>
      intro l1 V1 K1 x args W S hl1 YF mB hI hf hsub sq ri hpf hA hS;obtain ⟨vW,sR⟩:=hI;obtain ⟨j,z⟩:=x;have hj:j<hs.length:=(Wn hpf).1;have hA':args = #[.int .i64 j,hv z]:=hA;subst hA';have HS:=hid hS;have hjk:j<(fq y.x).length:=by rw [<-Hn]; exact hj
      obtain ⟨gk,ck,YG,hck,vr,hok⟩:=DQ.out.cell (j:=j) (by rw [de]; exact hjk);have hkb:gk≠w.heap.size+1:=λe=>by
       have h1:=hok.2;rw [e,ex.out.ob.2] at h1;simp at h1
      have hkg:gk≠g:=λe=>by
       have h1:=hok.2;rcases ex.out.row.2 with ⟨e2,_⟩ | ⟨g',_,_,e2,_,hh,_⟩
       .cases e2
       .injection e2 with e3;injection e3 with e3;injection e3 with e3;rw [e,e3,hh] at h1;simp at h1
      have hk0:∀ b,b≠w.heap.size+1->b≠g->¬ (b=w.heap.size+1\/(Value.slice (some ⟨g,0,none⟩) n cap).ownBlock=some b):=λb h1 h2 e=>e.elim h1 λe=>h2 (Option.some.inj e).symm;have hk1:∀ b,b≠w.heap.size+1->b≠g->b<sL.heap.size->¬ K1 b:=λb h1 h2 h3 hk=>(hsub b hk).elim (hk0 b h1 h2) (by omega);have hcell:∀ b o v,w.heap.size<=b->b<sL.heap.size->b≠w.heap.size+1->b≠g->sL.cell? ⟨b,o,none⟩=some v->W.cell? ⟨b,o,none⟩=some v:=λb o v h0 h1 h2 h3 hc=>by
       rw [World.cell?_of_block (hf.block b h1 (db.out b h0).1 (hk0 b h2 h3))];exact hc
      have c5:W.cell? ⟨wr.heap.size,1,none⟩=some (.int .i64 y.x.2.1):=hcell _ 1 _ rr.out.g rr.out.o.1 (by omega) (by omega) (aV (j:=1) rr.out.o rfl);have c7:W.cell? ⟨w8.heap.size+1,0,none⟩=some (.slice ka qs.length kc):=hcell _ 0 _ rv.out.g rv.out.o.1 (by omega) (by omega) (aV (j:=0) rv.out.o rfl);have ct:=hcell _ j _ vr hok.1 hkb hkg hck;have n5:¬ K1 wr.heap.size:=hk1 _ (by omega) (by omega) rr.out.o.1;have n7:¬ K1 (w8.heap.size+1):=hk1 _ (by omega) (by omega) rv.out.o.1;have nk:¬ K1 gk:=hk1 _ hkb hkg hok.1
      have HC:=hid (And.intro c5 (And.intro c7 (And.intro ct (And.intro n5 (And.intro n7 nk)))));have j9:=hid sR;clear hS hf hcell c5 c7 ct n5 n7 nk hk0 hk1 hck hok hkb hkg;have oY:V1.length<=16:=by
       have h1:=hpf.length_le;have h2:(bk hs 0).length=hs.length:=by simp [bk]
       rw [List.length_append] at h1;omega
      have YH:=hid hjk;have sT:=hid Hn;have hji:(j:Int)<(qs.length:Int):=by omega
      have hov:y.x.2.1<=64:=by
       obtain ⟨L,h1,_,_,_,h2⟩:=kz.out.2;omega
      subst YG;clear de Hn hjk hj hpf hA;unfold hv;refine wpIn_seq_k ?_;intro K8 Hm;refine rP rfl (λ⟨_,_,h⟩=>h) ?_;go_wp2;refine rP rfl (λ⟨_,_,h⟩=>h) ?_;go_wp2;refine HS.out _ _ aI (λW2 fR=>?_);obtain ⟨hd5,hd7,hdt,n5,n7,nk⟩:=HC.out;have c5:=fR.cell hd5;have c7:=fR.cell hd7;have ct:=fR.cell hdt;have hs2:W2.heap.size=W.heap.size:=fR.u.size
      have dC:Hid (LX M w.heap.size (w.heap.size+1) l (λz=>⟨qs.getD z.1 none,z.2,jg y.x z.1⟩) V1 K1 W2 vW):=hid ⟨fR.own j9.out.o,fC j9.out.r λk e=>fR.u.block k λe2=>mB (by rw [<-e2]; exact (j9.out.k k).2 (.inr e)),j9.out.k,j9.out.nb,j9.out.bb,j9.out.u⟩;have hi2:=hid (sq.upd fR.u (db.out l1 (by omega)).2);have ht2:=hid (yM ri fR.u (by have:=ex.out.z; omega));have cb:W2.drew.cell? ⟨w.heap.size+1,0,none⟩=some vW:=aV (j:=0) dC.out.o rfl;have hal:=al1 W2.drew (.cells (plA (qs.getD j none) (y.x.2.1+1) z) 111)
      have hwrap:IntKind.i64.wrap ((y.x.2.1:Int)+1)=((y.x.2.1+1:Nat):Int):=by rw [show (y.x.2.1:Int)+1=((y.x.2.1+1:Nat):Int) by omega]; exact IntWalk.i64_in _ (by omega)
      have hoa:Rg.Own (W2.drew.alloc (.cells (plA (qs.getD j none) (y.x.2.1+1) z) 111)) W2.heap.size (plA (qs.getD j none) (jg y.x j).2.1 z) 111:=by
       rw [Jj YH.out];exact Rg.Own.new W2.drew _ _
      have E7:=hid hoa;have hbl:w.heap.size+1<W2.heap.size:=dC.out.o.1;have TO:Hid (jN w.heap.size (W2.drew.alloc (.cells (plA (qs.getD j none) (y.x.2.1+1) z) 111)) vW (l++V1.map λz=>⟨qs.getD z.1 none,z.2,jg y.x z.1⟩)):=hid (fC (w:=W2.drew) dC.out.r λk e=>hal.block k (dC.out.r.lt k e).2);have pC:Hid (Rg.Own (W2.drew.alloc (.cells (plA (qs.getD j none) (y.x.2.1+1) z) 111)) (w.heap.size+1) #[vW] 154):=hid (Rg.Own.below (w:=W2.drew) dC.out.o hal)
      have hln:(l++V1.map λz=>(⟨qs.getD z.1 none,z.2,jg y.x z.1⟩:Pc)).length<=1000000:=by
       rw [List.length_append,List.length_map,HN.out];omega
      have hB3:w.heap.size<=(W2.drew.alloc (.cells (plA (qs.getD j none) (y.x.2.1+1) z) 111)).heap.size:=by
       have:=hal.size;have e:W2.drew.heap.size=W2.heap.size:=rfl;omega
      clear hoa hd5 hd7 hdt HS j9 fR;refine wpIn_block ?_;refine WL (S:=λw'=>Bo2 K1 W2 w') (by kernel_rfl) rfl (λ⟨_,_,h⟩=>h) (Bo2.of aI.drew) (λhld=>?_);refine aj 1 ?_ (hy:=by intro wz hSw; (have hc:=Bo2.cell hSw c7 n7; go_simp <;> with_reducible rfl));try simp only [Act.put,au]
      refine aj 2 ?_;try simp only [Act.put,au]
      refine aj 3 ?_ (hy:=by intro wz hSw; (have q0:=hji; go_simp <;> with_reducible rfl));try simp only [Act.put,au]
      refine aj 4 ?_ (hy:=by intro wz hSw; (refine aW (off:=j) (Bo2.cell hSw ct nk) ?_; exact ⟨_,rfl,rfl⟩));try simp only [Act.put,au]
      refine aj 5 ?_;try simp only [Act.put,au]
      refine aj 6 ?_ (hy:=by intro wz hSw; (have hc:=Bo2.cell hSw c5 n5; go_simp <;> with_reducible rfl));try simp only [Act.put,au]
      refine aj 7 ?_ (hy:=by intro wz hSw; (have hw:=hwrap; go_simp <;> with_reducible rfl));try simp only [Act.put,au]
      refine aj 8 ?_;try simp only [Act.put,au]
      refine aj 9 ?_ (hy:=by intro wz hSw; (refine bC (Sl (qs.getD j none) (y.x.2.1+1) z) ?_; exact ⟨_,rfl,rfl⟩));try simp only [Act.put,au]
      refine wpAnyH_ready (rs:=[0,10]) (by kernel_rfl) (by simp) ?_;refine Rg.readyC (i:=0) rfl (λK hK=>?_) (Rg.readyL (i:=10) rfl (λK hK=>?_))
      .refine Rg.meet (by rfl) _ _ (xu (cb) ?_) ?_
       .exact ⟨_,rfl,rfl⟩
       refine hK.out _ _ (hld) λhld=>?_;clear hK K;try simp only [Act.put,au]
       refine ak 10 λK hK=>?_;refine Rg.meet (by rfl) _ _ (wJ (p:=qs.getD j none) (n:=y.x.2.1+1) (h:=z) _ rfl ?_) ?_
       .exact ⟨_,rfl,rfl⟩
       refine hK.out _ _ (Bo2.below (Bo2.of aI.drew) hal) λhld=>?_;clear hK K;try simp only [Act.put,au]
       refine ak 11 λK hK=>?_;refine vE ⟨qs.getD j none,z,jg y.x j⟩ (by rfl) ?_ TO.out E7.out hln hB3 ?_
       .exact ⟨_,_,rfl,rfl,rfl⟩
       intro v4 w4 hr4 hg4 hl4;refine hK.out _ _ (hld.grown hg4 (λk e=>(dC.out.k k).2 (.inr e))) λhld=>?_;clear hK K;try simp only [Act.put,au]
       refine ak 12 λK hK=>?_;have ja:Rg.Own w4 (w.heap.size+1) #[vW] 154:=⟨aJ pC.out.1 hg4.size,(hg4.block _ pC.out.1 (λe=>dC.out.nb e.symm)).trans pC.out.2⟩
       have hv4:∃ s n c,v4 = .slice s n c:=by obtain ⟨a,c,e⟩:=jW hr4; exact ⟨_,_,_,e⟩
       refine rV (by rfl) ja ?_ hv4 ?_
       .exact ⟨_,_,rfl,rfl,rfl⟩
       intro w5 NF cq;refine hK.out _ _ (hld.upd cq ((dC.out.k _).2 (.inl rfl))) λhld=>?_;clear hK K;refine wpAnyH_done (by kernel_rfl) ?_ _;have hs3:W2.heap.size<=(W2.drew.alloc (.cells (plA (qs.getD j none) (y.x.2.1+1) z) 111)).heap.size:=hal.size;have hl5:v4.ownBlock=vW.ownBlock\/∃ k,W2.heap.size<=k/\v4.ownBlock=some k:=hl4.imp id λe=>⟨_,hs3,e⟩
       have hne:∀ k,v4.ownBlock=some k->k≠w.heap.size+1:=λk e e2=>by
        rcases hl5 with e3 | ⟨k',hk',e3⟩
        .exact dC.out.nb (by rw [<-e3,<-e2]; exact e)
        .rw [e3] at e;have:=Option.some.inj e;omega
       exact Ga dC.out hi2.out ht2.out ex.out.z (by omega) hld NF (fC hr4 λk e=>cq.block k (hne k e)) hl5
      .refine Rg.meet (by rfl) _ _ (wJ (p:=qs.getD j none) (n:=y.x.2.1+1) (h:=z) _ rfl ?_) ?_
       .exact ⟨_,rfl,rfl⟩
       refine hK.out _ _ (Bo2.below (Bo2.of aI.drew) hal) λhld=>?_;clear hK K;try simp only [Act.put,au]
       refine ak 0 λK hK=>?_;refine Rg.meet (by rfl) _ _ (xu (aX hal cb) ?_) ?_
       .exact ⟨_,rfl,rfl⟩
       refine hK.out _ _ (hld) λhld=>?_;clear hK K;try simp only [Act.put,au]
       refine ak 11 λK hK=>?_;refine vE ⟨qs.getD j none,z,jg y.x j⟩ (by rfl) ?_ TO.out E7.out hln hB3 ?_
       .exact ⟨_,_,rfl,rfl,rfl⟩
       intro v4 w4 hr4 hg4 hl4;refine hK.out _ _ (hld.grown hg4 (λk e=>(dC.out.k k).2 (.inr e))) λhld=>?_;clear hK K;try simp only [Act.put,au]
       refine ak 12 λK hK=>?_;have ja:Rg.Own w4 (w.heap.size+1) #[vW] 154:=⟨aJ pC.out.1 hg4.size,(hg4.block _ pC.out.1 (λe=>dC.out.nb e.symm)).trans pC.out.2⟩
       have hv4:∃ s n c,v4 = .slice s n c:=by obtain ⟨a,c,e⟩:=jW hr4; exact ⟨_,_,_,e⟩
       refine rV (by rfl) ja ?_ hv4 ?_
       .exact ⟨_,_,rfl,rfl,rfl⟩
       intro w5 NF cq;refine hK.out _ _ (hld.upd cq ((dC.out.k _).2 (.inl rfl))) λhld=>?_;clear hK K;refine wpAnyH_done (by kernel_rfl) ?_ _;have hs3:W2.heap.size<=(W2.drew.alloc (.cells (plA (qs.getD j none) (y.x.2.1+1) z) 111)).heap.size:=hal.size;have hl5:v4.ownBlock=vW.ownBlock\/∃ k,W2.heap.size<=k/\v4.ownBlock=some k:=hl4.imp id λe=>⟨_,hs3,e⟩
       have hne:∀ k,v4.ownBlock=some k->k≠w.heap.size+1:=λk e e2=>by
        rcases hl5 with e3 | ⟨k',hk',e3⟩
        .exact dC.out.nb (by rw [<-e3,<-e2]; exact e)
        .rw [e3] at e;have:=Option.some.inj e;omega
       exact Ga dC.out hi2.out ht2.out ex.out.z (by omega) hld NF (fC hr4 λk e=>cq.block k (hne k e)) hl5
    .refine ⟨_,rfl,uN rfl (by rintro ⟨_,_,⟨⟨_,h⟩,_⟩⟩; cases h) ?_⟩;have eK:Mv w K ai (λ_=>False) ir:=Xi db.out h11;have ml:Mv w K w7 K' ir:=WO db.out rl.out j8.out h11 vy.out;have NL:∀ D∈Ds,w.heap.size<=D/\ir.heap[D]? = some (.deferred (some []))/\¬ K' D:=λD hD=>by
      obtain ⟨h1,h2,h3⟩:=ip.out.dm D hD;have hl:=(Array.getElem?_eq_some_iff.1 h2).1;exact ⟨h1,(ml.bl D h1 hl h3).trans h2,ml.not hl h3⟩
     have dT:Hid (ED M J Js (goL I t 0 []) K0 w (.returned (.tuple #[])) (shut ir Ds)):=hid (Fb HJ.out Tb.out (.inr ⟨N7.out,h11.j⟩) (eE.out.f.trans h11.f eE.out.sub) h11.i h11.t (λk hk=>(ml.sub k hk).elim (ip.out.sub k) (λh=>.inr (Nat.le_trans ip.out.f.size h))) db.out eE.out.z NL _);have HD:=hid (And.intro eE.out.dn NL);clear eK ml h11 N6 ip rl vy eE vA ro oT lx rn vz j8 NL;go_wp2;refine nE Ds ir HD.out.1 (λD hD=>(HD.out.2 D hD).2.1) ⟨_,results_none rfl _ _ _,dT.out⟩
   .have hI':I y.x.2.2=false:=by
     cases h:I y.x.2.2 with
     | true=>exact absurd h hI
     | false=>rfl
    rw [hI'];have YI:Hid (V++jM I (l.map (·.x))=goL I t 0 []/\ng (l.map (·.x))<=200000):=hid (by
     have h1:=HE.out;rw [e9.out,IX _ hI',List.map_append] at h1;exact ⟨h1.1,by have:=Ch (l.map (·.x)) y.x; have h2:ng (l.map (·.x)++[y.x])<=200000:=h1.2; omega⟩)
    have BY:Hid (xR M (w.heap.size+1) w7<xR M (w.heap.size+1) wr):=hid (by
     have hr:=Bb ip.out.ob ip.out.row (λz hz=>(ip.out.ok z hz).1);rw [hr,gr.out,List.map_append];exact Ch _ _)
    clear D1 mS hI HE HG kz;go_wp2;refine ⟨?_,BY.out⟩;rw [rk.out];refine ⟨Ds,_,l,V,K,ip,YI,?_⟩
    (repeat apply Exists.intro)
    rfl
def PBk (h:Hdl) (k:Nat):Prop:=∃ ad,h.1=some ad/\0<h.2.1/\k=ad.block
theorem BsP.blk {w:World} {h:Hdl} {l:aN} (g:BsP p w h l):BsP (λb=>p b/\PBk h b) w h l:=⟨g.1,λad e hn=>⟨g.2 ad e hn,ad,e,hn,rfl⟩⟩
structure NdG (M:Mp) (B bx:Nat) (z:List Nz) (K:Nat->Prop) (w:World) (v:Value):Prop where
 o:Rg.Own w bx #[v] 77
 r:xG B w v z
 k:∀ k,K k↔(k=bx\/v.ownBlock=some k)\/∃ y∈z,PBk y.2 k
 nb:v.ownBlock≠some bx
 bb:B<=bx
 u:∀ k,B<=k->M.at_ k=none/\¬ M.ft k
 hb:∀ y∈z,y.1.ks.length=16/\BsP (λb=>B<=b/\b≠bx/\v.ownBlock≠some b) w y.2 y.1.p
theorem NdG.keep {M:Mp} {z:List Nz} {K:Nat->Prop} {w w':World} (h:NdG M B bx z K w v) (hs:w.heap.size<=w'.heap.size) (hk:∀ k,K k->w'.heap[k]? = w.heap[k]?):NdG M B bx z K w' v :=
 ⟨⟨aJ h.o.1 hs,(hk bx ((h.k bx).2 (.inl (.inl rfl)))).trans h.o.2⟩,fC h.r λk e=>hk k ((h.k k).2 (.inl (.inr e))),h.k,h.nb,h.bb,h.u,λy hy=>⟨(h.hb y hy).1,((h.hb y hy).2.blk.kept hs λb hp _=>hk b ((h.k b).2 (.inr ⟨y,hy,hp.2⟩))).to λ_ _ hp=>hp.1⟩⟩
theorem NdG.lt {M:Mp} {B bx:Nat} {z:List Nz} {K:Nat->Prop} {w:World} {v:Value} (h:NdG M B bx z K w v):∀ k,K k->k<w.heap.size/\M.at_ k=none/\¬ M.ft k:=λk hk=>by
 rcases (h.k k).1 hk with (rfl | e) | ⟨y,hy,ad,e,hn,rfl⟩
 .exact ⟨h.o.1,h.u k h.bb⟩
 .exact ⟨(h.r.lt k e).2,h.u k (h.r.lt k e).1⟩
 .exact ⟨(BsP.old (h.hb y hy).2.1).2 ad e hn,h.u _ ((h.hb y hy).2.2 ad e hn).1⟩
theorem NdG.nds {M:Mp} {z:List Nz} {K:Nat->Prop} {w:World} (h:NdG M B bx z K w v):∃ a c,v = .slice a z.length c/\tq w a z.length c (z.map Prod.fst):=by
 rcases h.r.2 with ⟨rfl,h0⟩ | ⟨g,cap,cur,rfl,hbg,hg,hnc,hcm,hcs,htake⟩
 .have:z=[]:=List.length_eq_zero_iff.1 h0;subst this;exact ⟨none,0,rfl,tq.nil _⟩
 .refine ⟨_,_,rfl,hnc,hcm,λe=>(by cases e),z,rfl,rfl,λp hm=>⟨(h.hb p hm).1,(h.hb p hm).2.1⟩,λj hj=>⟨g,0,rfl,(Array.getElem?_eq_some_iff.1 hg).1,λi u hu=>?_⟩⟩;have hall:∀ p∈z,p.1.ks.length=16:=λp hm=>(h.hb p hm).1;have NN:i<19:=by
   have:=(List.getElem?_eq_some_iff.1 hu).1;rwa [vg (hall _ (kR hj))] at this
  have:=h.r.cells (g:=g) rfl (j*19+i) u (by rw [KU z hall j i hj NN]; exact hu);rw [Addr.add_mid] at this;rw [Nat.add_assoc];exact this
def Xw (M:Mp) (B bx:Nat) (V:List Pl) (K:Nat->Prop) (w:World):Prop:=∃ z v,z.map Prod.fst=Dt V/\NdG M B bx z K w v
theorem QZ (M:Mp) (B bx:Nat):Sta M (Xw M B bx):=⟨λ_ _ _ _ ⟨z,v,e,h⟩ hs hk=>⟨z,v,e,h.keep hs hk⟩,λ_ _ _ ⟨_,_,_,h⟩=>h.lt⟩
theorem Tz {M:Mp} {z:List Nz} {K:Nat->Prop} {w w5:World} {v':Value} {N:Nd} {h:Hdl} (hI:NdG M B bx z K w v) (hi:Inv M w) (ht:Tab w) (hz:0<B) (hb:Bo2 (λk=>k=bx\/v.ownBlock=some k) w w5)
  (ho:Rg.Own w5 bx #[v'] 77) (hr:xG B w5 v' (z++[(N,h)])) (hl:v'.ownBlock=v.ownBlock\/∃ k,w.heap.size<=k/\v'.ownBlock=some k) (hN:N.ks.length=16) (hp:BsP (λb=>B<=b/\b≠bx/\v.ownBlock≠some b) w h N.p) :
  ∃ K',NdG M B bx (z++[(N,h)]) K' w5 v'/\(∀ k,K' k->K k\/w.heap.size<=k\/PBk h k)/\FrK M K w w5/\Inv M w5/\Tab w5:=by
 have hup:∀ (q:Hdl) (l:aN),BsP (λb=>B<=b/\b≠bx/\v.ownBlock≠some b) w q l->BsP (λb=>B<=b/\b≠bx/\v'.ownBlock≠some b) w5 q l:=λq l g=>by
  have g2:BsP (λb=>(B<=b/\b≠bx/\v.ownBlock≠some b)/\b<w.heap.size) w q l:=g.to λb hlt hp=>⟨hp,hlt⟩
  refine (g2.kept hb.size λb hp hlt=>hb.block b hlt λe=>e.elim hp.1.2.1 hp.1.2.2).to λb _ hp=>⟨hp.1.1,hp.1.2.1,λe=>?_⟩
  rcases hl with e2 | ⟨k,hk,e2⟩
  .exact hp.1.2.2 (by rw [<-e2]; exact e)
  .rw [e2] at e;have:=Option.some.inj e;have:=hp.2;omega
 refine ⟨λk=>(k=bx\/v'.ownBlock=some k)\/∃ y∈z++[(N,h)],PBk y.2 k,⟨ho,hr,λk=>Iff.rfl,λe=>?_,hI.bb,hI.u,λy hy=>?_⟩,λk hk=>?_,⟨hb.os,hb.tape,hb.output,hb.size,λk hk _ hn=>hb.block k hk λe=>hn ((hI.k k).2 (.inl e))⟩,hi.keep hb.size λk hk=>hb.block k (hi.lt_ k hk) λg=>?_,λj hj=>?_⟩
 .rcases hl with e2 | ⟨k,hk,e2⟩
  .exact hI.nb (by rw [<-e2]; exact e)
  .rw [e2] at e;have:=Option.some.inj e;have:=hI.o.1;omega
 .rcases List.mem_append.1 hy with hy | hy
  .exact ⟨(hI.hb y hy).1,hup _ _ (hI.hb y hy).2⟩
  .obtain rfl:=List.mem_singleton.1 hy;exact ⟨hN,hup _ _ hp⟩
 .rcases hk with (rfl | e) | ⟨y,hy,hq⟩
  .exact .inl ((hI.k _).2 (.inl (.inl rfl)))
  .rcases hl with e2 | ⟨k',hk,e2⟩
   .exact .inl ((hI.k _).2 (.inl (.inr (by rw [<-e2]; exact e))))
   .rw [e2] at e;have:=Option.some.inj e;exact .inr (.inl (by omega))
  .rcases List.mem_append.1 hy with hy | hy
   .exact .inl ((hI.k _).2 (.inr ⟨y,hy,hq⟩))
   .obtain rfl:=List.mem_singleton.1 hy;exact .inr (.inr hq)
 .rcases g with rfl | e
  .exact (hI.u _ hI.bb).2 hk
  .exact (hI.u k (hI.r.lt k e).1).2 hk
 .have hlt:0<w.heap.size:=aJ hz (Nat.le_trans hI.bb (Nat.le_of_lt hI.o.1));have hnk:¬ (0=bx\/v.ownBlock=some 0):=λg=>by
   rcases g with e | e
   .have:=hI.bb; omega
   .have:=(hI.r.lt _ e).1; omega
  rw [World.cell?_of_block (hb.block 0 hlt hnk)];exact ht j hj
theorem zI (k:aN):Nib (bO k):=λc hc=>by
 have h:=mE k;unfold dx at h;have:=List.all_eq_true.1 h c hc;have:=of_decide_eq_true this;omega
def Wh (M:Mp) (w:World) (l:List Nd) (e:Ending) (w':World):Prop:=∃ a n c,e = .returned (.slice a n c)/\tq w' a n c l/\Fr M M w w'/\Inv M w'/\Tab w'
theorem OY (M:Mp) (p:aL) (t:T) (k:aN) (hk:k.length=32) (hg:Tr.Good t 64) (hf:Fine t) (hc:lH t<=200000) (w:World) (hi:Inv M w) (ht:IsT M p t) (hT:Tab w) :
  Calls prog 31 #[tv p,.agg (kc k)] w (Wh M w (bM t (bO k))):=by
 have hout:∀ k,w.heap.size<=k->M.at_ k=none/\¬ M.ft k:=λk hk=>⟨hi.out hk,hi.free hk⟩
 have E8:Nib (bO k):=λc hc=>by
  have h:=mE k;unfold dx at h;have:=List.all_eq_true.1 h c hc;have:=of_decide_eq_true this;omega
 obtain ⟨w1,hw1⟩:=ay ((w.alloc (.cells #[.pointer p] 46)).alloc (.cells (kc k) 24))
 have hb1:Below w.heap.size w w1:=by rw [hw1]; exact al2 _ _ _
 have hs1:w1.heap.size=w.heap.size+2:=by rw [hw1]; simp
 have hT1:Rg.Own w1 w.heap.size #[.pointer p] 46:=by
  have:=(Rg.Own.new w #[.pointer p] 46).below (al1 _ (.cells (kc k) 24));rw [hw1];exact this
 have hK1:Rg.Own w1 (w.heap.size+1) (kc k) 24:=by
  have:=Rg.Own.new (w.alloc (.cells #[.pointer p] 46)) (kc k) 24;rw [hw1];simpa using this
 have HW1:=hid hw1;have HB1:=hid hb1;have cJ:=hid hs1;have HT1:=hid hT1;have db:=hid hout;have HI:=hid hi;have HT:=hid hT;have dp:=hid hK1;have bj:=hid hk;have jx:=hid (GU k hk w1);have pS:=hid (fZ k hk);have TX:=hid (Vu t 0 [] (bO k) E8);have E9:Hid ((goL (leads (bO k)) t 0 []).length<=200000):=hid (Nat.le_trans (JJ (leads (bO k)) t 0 []) hc);obtain ⟨P,TZ⟩:=aA (bO k)
 rw [TZ] at jx pS TX E9 ⊢;have YJ:=hid (λg0 gi bp=>OD M g0 gi 58 #[.pointer (some ⟨bp,0,none⟩)] p t (leads P) (enters_of func58 (by kernel_rfl) rfl) hg hf hc ht);obtain ⟨C,hC⟩:=aA (kc k)
 have HC:=hid hC;rw [hC] at hw1 HW1 dp jx ⊢;have eK:∀ (fn:Fn) (first cap:aO) (w:World),(Instr.makeFunc fn first cap).run prog w = .ok (.func fn first cap) w:=λ_ _ _ _=>rfl;clear hC hb1 hs1 hT1 hw1 hout hi hT hg hf hc ht hK1 hk E8 TZ;refine xB func31 rfl ?_;simp only [ntmps31,List.size_toArray,List.length_cons,List.length_nil,Nat.reduceAdd,Nat.reduceSub,Array.replicate_succ,Array.replicate_zero,List.push_toArray,List.append_toArray,List.nil_append,List.cons_append];go_wp2_with (first
  | ((try rw [<-HW1.out]); refine Rg.run rfl (.agg C) _ (by rw [<-HC.out]; exact bE bj.out (by rw [HC.out]; exact dp.out.2) ⟨_,rfl,rfl⟩) ?_))
 refine jx.out.mono ?_;rintro e w2 ⟨r,rfl,hr,hb2⟩;obtain ⟨w3,hw3⟩:=ay (w2.alloc (.cells #[.slice r.1 r.2.1 r.2.2] 35))
 have gj:=al1 w2 (.cells #[.slice r.1 r.2.1 r.2.2] 35);have hO3:=Rg.Own.new w2 #[.slice r.1 r.2.1 r.2.2] 35;rw [<-hw3] at gj hO3;obtain ⟨w4,hw4⟩:=ay (w3.alloc (.cells #[.slice none 0 0] 77))
 have dy:=al1 w3 (.cells #[.slice none 0 0] 77);have hO4:=Rg.Own.new w3 #[.slice none 0 0] 77;rw [<-hw4] at dy hO4;rw [show w3.heap.size=w2.heap.size+1 by rw [hw3]; simp] at hO4;have wj:=bst (bst hb2 gj) dy;have hc4:w4.cell? ⟨w.heap.size,0,none⟩=some (.pointer p):=aV (j:=0) (HT1.out.below wj) rfl;have hr4:BsP (λb=>w1.heap.size<=b/\b<w2.heap.size) w4 r P:=by
  have h2:BsP (λb=>w1.heap.size<=b/\b<w2.heap.size) w2 r P:=hr.to λb hl hp=>⟨hp,hl⟩
  have gR:=bst gj dy;exact h2.kept gR.size λb _ hl=>gR.block b hl
 have HW3:=hid hw3;have MA:=hid hw4;have HR4:=hid hr4;have NO:=hid (hO3.below dy);have cS:=hid hO4;have NX:=hid (bst HB1.out wj);have eb:Hid (w1.heap.size<=w2.heap.size/\w2.heap.size<w2.heap.size+1/\w2.heap.size+1<w4.heap.size):=hid ⟨hb2.size,Nat.lt_succ_self _,hO4.1⟩;clear hr hb2 gj hO3 dy hO4 wj hr4 hw3 hw4;go_wp2_with (first
  | ((try rw [<-HW3.out]); (try rw [<-MA.out]); refine aB (aW hc4 ⟨_,rfl,rfl⟩) ?_))
 refine (Pq p w4).mono ?_;rintro e w5 ⟨rfl,h5,hb5⟩;have cf:=hid h5;have al:=hid hb5;clear h5 hb5 hc4;go_wp2_with fail
 refine (JF (.func (Fn.func 58) #[] #[.pointer (some ⟨w2.heap.size,0,none⟩)]) w4.heap.size w5 rfl).mono ?_;rintro e w6 ⟨rfl,h6,hb6⟩;have cG:=hid h6;have bd:=hid hb6;have kB:=bst al.out hb6;have YK:=hid kB;have ey:=hid (bst NX.out kB);have O0:=hid (cS.out.below kB);have O4:=hid (NO.out.below kB);have mw:Hid (BsP (λb=>w1.heap.size<=b/\b<w2.heap.size) w6 r P):=hid (HR4.out.kept kB.size λb _ hl=>kB.block b hl);clear h6 hb6 kB;go_wp2_with fail
 refine OO (gf:=91) (lb:=#[.pointer (some ⟨w4.heap.size,0,none⟩),.pointer (some ⟨w5.heap.size,0,none⟩)]) (K0:=λk=>k=w2.heap.size+1) rfl (enters_of func91 (by kernel_rfl) rfl) (YJ.out _ _ w2.heap.size) (λx W args h=>by rw [Ql h]; rfl) ?pre (HI.out.below ey.out) (HT.out.below ey.out HT.out.pos) (QZ M w.heap.size (w2.heap.size+1)) (Ix:=λ_ _ _ _=>False) (λ_=>SF M) ?start ?round ?done ?stop
 case pre =>
  intro W1 K1 hb hK;obtain ⟨z1,z2,z3⟩:=eb.out;have z0:=cJ.out;have z5:w4.heap.size<w5.heap.size:=cf.out.1;have z6:w5.heap.size<w6.heap.size:=cG.out.1;have hKn:∀ b,b<w6.heap.size->b≠w2.heap.size+1->¬ K1 b:=λb h1 h2 h3=>(hK b h3).elim h2 (by omega);have hq:BsP (λb=>M.at_ b=none/\¬ K1 b) W1 r P:=by
   exact (mw.out.kept hb.size λb _ hl=>hb.block b hl).to λb _ hp=>⟨(db.out b (by omega)).1,hKn b (by omega) (by omega)⟩
  refine ⟨aV (j:=0) ((cf.out.below bd.out).below hb) rfl,aV (j:=0) (cG.out.below hb) rfl,(db.out _ (by omega)).1,hKn _ (by omega) (by omega),λwr f pp o h a ha hl=>?_⟩;exact Nh w2.heap.size r P pS.out wr (aV (j:=0) (Uk f (O4.out.below hb) ⟨(db.out _ (by omega)).1,hKn _ (by omega) (by omega)⟩) rfl) (hq.kept f.size λb hp hl=>f.block b hl hp.1 hp.2).1 pp o h a ha hl
 case start=>exact ⟨[],.slice none 0 0,rfl,O0.out,World.ownsRow_nil _ _ _ _,λk=>by simp [Value.ownBlock],by simp [Value.ownBlock],by have:=eb.out; have:=cJ.out; omega,db.out,λ_ h=>by cases h⟩
 case stop =>
  intro c V K W _ h;exact h.elim
 case done =>
  rintro K Wd ⟨z,v,hz,hJ⟩ E3 hjd htd hsd E6 my;obtain ⟨z1,z2,z3⟩:=eb.out;have z0:=cJ.out;have U0:=Ud ey.out E3 hjd htd HI.out HT.out.pos (λk hk=>by omega) ey.out.size;have hcd:=aV (j:=0) hJ.o rfl;have HD:=hid E6;have HF:=hid U0;have hN:=(hJ.keep (w':=shut Wd [w6.heap.size]) (by rw [sF]; exact aH) λk hk=>qC [w6.heap.size] Wd k λe=>my (by rw [<-List.mem_singleton.1 e]; exact hk)).nds;obtain ⟨av,cv,rfl,hN⟩:=hN
  have YL:=hid (show tq (shut Wd [w6.heap.size]) av z.length cv (bM t P) by rw [<-show z.map Prod.fst=bM t P from hz.trans TX.out]; exact hN);clear hJ E3 hjd htd hsd E6 U0 my hz hN z1 z2 z3 z0;simp only [Exit.inBlock];go_wp2;exact IQ HD.out ⟨_,results_tmp (t:=4) rfl _ _ _,av,_,cv,rfl,YL.out,HF.out⟩
 case round =>
  rintro l V K x args W S hl Zq mB ⟨z,v,hz,hI⟩ mf O5 sq ri hpf ⟨pp,hh,na,nn,nc,rfl,htp,hbW,hbN,hok⟩ hgv hS;have HS:=hid hS;have HZ:=hid hz;have YM:z.length<=1000000:=by
   have h1:=hpf.length_le;have h2:=E9.out;have h3:=congrArg List.length hz;have h4:(Dt V).length<=V.length:=by unfold Dt; rw [List.length_map]; exact List.length_filter_le _ _
   rw [List.length_append] at h1;rw [List.length_map] at h3;omega
  have hsz:=ey.out.size;have U1:Hid (BsP (λb=>(w.heap.size<=b/\b≠w2.heap.size+1/\v.ownBlock≠some b)/\b≠l/\b<W.heap.size) W (na,nn,nc) (bV x.1).p):=hid ⟨hbN,λad e hn=>by
   have e':na=some ad:=e;subst e';obtain ⟨q1,q2,q3,q4⟩:=hgv ad.block (RS hn);exact ⟨⟨by omega,λe2=>q4 ((hI.k _).2 (.inl (.inl e2))),λe2=>q4 ((hI.k _).2 (.inl (.inr e2)))⟩,q3,q2⟩⟩
  clear mf O5 hpf hS hz hbW hbN htp hok hgv hsz;rw [Xp];simp only [List.setIfInBounds_toArray,List.set_cons_zero,List.set_cons_succ];have gj:=al1 W (.cells (ndC nd0 none 0 0) 67);have wq:=hid (Rg.Own.new W (ndC nd0 none 0 0) 67);have gh:=hid (ig x.1);obtain ⟨N,hN⟩:=aA (bV x.1)
  have sB:=hid hN;rw [hN] at gh U1 ⊢;clear hN;refine rP rfl (λ⟨_,_,h⟩=>h) ?_;go_wp2_with (first
   | (refine aB (aY _ _ _ W.heap.size rfl rfl) ?_)
   | (refine bS wq.out bK N na nn nc gh.out rfl _ _ rfl rfl rfl rfl ?_; intro W3 hO hu; have i5:=hid hO; have HB3:=hid (hu.below gj aH); clear hO hu))
  refine HS.out _ _ HB3.out (λW5 ju=>?_);have iv:=hid (ju.own i5.out);have hs5:W5.heap.size=W3.heap.size:=ju.u.size;obtain ⟨z1,z2,z3⟩:=eb.out;have z0:=cJ.out;have z6:=ey.out.size;have hzz:=HT.out.pos;have O5:=HB3.out.size;have G4:=hid ((sq.below HB3.out).upd ju.u (db.out l (by omega)).2);have Eg:=hid (yM (ri.below HB3.out ri.pos) ju.u (by omega));have sR:=hI.keep (w':=W5) (by omega) (λk hk=>(ju.u.block k λe=>mB (by rw [<-e]; exact hk)).trans (HB3.out.block k (hI.lt k hk).1));have j9:=hid sR
  have YN:Hid (BsP (λb=>w.heap.size<=b/\b≠w2.heap.size+1/\v.ownBlock≠some b) W5 (na,nn,nc) N.p):=hid (((U1.out.kept O5 λb _ hl=>HB3.out.block b hl).kept (by omega) λb hp _=>ju.u.block b hp.2.1).to λ_ _ hp=>hp.1);have hcb:W5.cell? ⟨w2.heap.size+1,0,none⟩=some v:=aV (j:=0) sR.o rfl;have eV:w.heap.size<=W5.heap.size:=Nat.le_trans sR.bb (Nat.le_of_lt sR.o.1);have hck:W5.cell? ⟨W.heap.size,0,none⟩=some (.int .i64 N.kd):=aV (j:=0) iv.out rfl;obtain ⟨av,cv,rfl⟩:=jW sR.r;clear HS sq ri hI ju sR gj z1 z2 z3 z0 z6;refine wpIn_block ?_
  refine wpIn_seq_k ?_;intro K9 Zr;refine rP rfl (λ⟨_,_,h⟩=>h) ?_;by_cases hx:isNode x.1=true
  .have hkd:(N.kd != 0)=true:=by
    rw [<-sB.out];have:(bV x.1).kd≠0:=λe=>by rw [KR.1 e] at hx; cases hx
    simp [this]
   have HX:=hid hx;have p7:=al1 W5 (.cells (ndC N na nn nc) 67);have cN:=hid (Rg.Own.new W5 (ndC N na nn nc) 67);have BY:Hid (xG w.heap.size (W5.alloc (.cells (ndC N na nn nc) 67)) (.slice av z.length cv) z):=hid (fC j9.out.r λk e=>p7.block k (j9.out.r.lt k e).2);have pC:=hid (j9.out.o.below p7);have ec:=hid p7;have Hd:w.heap.size<=(W5.alloc (.cells (ndC N na nn nc) 67)).heap.size:=Nat.le_trans eV p7.size;clear p7 hx;go_wp2;refine wpIn_cond_true rfl ?_;refine rP rfl (λ⟨_,_,h⟩=>h) ?_;go_wp2_with (first
    | (refine aB (bH iv.out gh.out ⟨_,rfl,rfl⟩) ?_)
    | (refine aB (FE hcb ⟨_,rfl,rfl⟩) ?_)
    | (refine aB (MV (h:=(na,nn,nc)) gh.out W5.heap.size rfl ⟨_,rfl,rfl⟩) ?_)
    | (refine Hl (h:=(na,nn,nc)) BY.out cN.out gh.out YM Hd rfl ⟨_,_,rfl,rfl,rfl⟩ ?_; intro v4 U2 hr4 hg4 hl4; have ja:Rg.Own U2 (w2.heap.size+1) #[.slice av z.length cv] 77:=⟨aJ pC.out.1 hg4.size,(hg4.block _ pC.out.1 (λe=>j9.out.nb e.symm)).trans pC.out.2⟩; have O6:=hid hr4; have Cf:=hid hg4; have Hs:=hid hl4; obtain ⟨s4,c4,e4⟩:=jW hr4; obtain ⟨n4,U3⟩:=aA ((z++[(N,(na,nn,nc))]).length); rw [U3] at e4; subst e4; clear U3; have O7:=hid ja; have Zs:=aV (j:=0) ja rfl; have Zt:=fB (j:=0) ja; clear hr4 hg4 hl4 ja))
   have O8:=hid (cO (o:=0) O7.out (Value.slice s4 n4 c4));have pP:=hid (bQ U2 (w2.heap.size+1) 0 (Value.slice s4 n4 c4));have hs3:=ec.out.size;have hl5:(Value.slice s4 n4 c4).ownBlock=(Value.slice av z.length cv).ownBlock\/∃ k,W5.heap.size<=k/\(Value.slice s4 n4 c4).ownBlock=some k:=Hs.out.imp id λe=>⟨_,hs3,e⟩
   have hne:∀ k,(Value.slice s4 n4 c4).ownBlock=some k->k≠w2.heap.size+1:=λk e e2=>by
    rcases hl5 with e3 | ⟨k',hk',e3⟩
    .exact j9.out.nb (by rw [<-e3,<-e2]; exact e)
    .rw [e3] at e;have:=Option.some.inj e;have:=j9.out.o.1;omega
   have YO:Bo2 (λk=>k=w2.heap.size+1\/(Value.slice av z.length cv).ownBlock=some k) W5 _:=(((Bo2.of aI).below ec.out).grown Cf.out (λk e=>.inr e)).upd pP.out (.inl rfl);obtain ⟨K',h1,h2,YP,h3,h4⟩:=Tz j9.out G4.out Eg.out HT.out.pos YO O8.out (fC O6.out λk e=>pP.out.block k (hne k e)) hl5 gh.out YN.out;refine ⟨K',⟨_,_,by rw [List.map_append,HZ.out,Bq,if_pos HX.out,sB.out]; rfl,h1⟩,λk hk=>(h2 k hk).imp id λh=>h.elim (λh=>.inl (by omega)) λ⟨ad,e,hn,e2⟩=>.inr ?_,YP,h3,h4⟩;have e':na=some ad:=e;subst e'
   rw [e2];exact RS hn
  .have hkd:(N.kd != 0)=false:=by
    rw [<-sB.out];have:(bV x.1).kd=0:=KR.2 (by cases e:isNode x.1 with
     | true=>exact absurd e hx
     | false=>rfl)
    simp [this]
   have HX:=hid hx;clear hx;go_wp2;refine wpIn_cond_false rfl ?_;refine wpIn_skip ?_;exact ⟨K,⟨z,_,by rw [HZ.out,Bq,if_neg HX.out,List.append_nil],j9.out⟩,λk hk=>.inl hk,FrK.refl _ _ _,G4.out,Eg.out⟩
end Tm
end
section
open Go.RowKit
namespace Tm
open Tr Ni Pk Ky No Rf Rl
open Sm (Tab)
def Says:pX->aO->Prop
 | (none,u),cs=>∃ v h,cs=vdC v h u false
 | (some none,u),cs=>cs=vdC eB false u true
 | (some (some v),u),cs=>cs=vdC v true u true
def Xu (w:World) (s:pX) (e:Ending) (w':World):Prop:=∃ cs,e = .returned (.agg cs)/\Says s cs/\Below w.heap.size w w'
theorem add_block (a:Addr) (i:Nat):(a.add i).block=a.block:=by unfold Addr.add; split <;> rfl
theorem Eh {o:Oper} {w:World} {k l:aN} {g:Bool} (hk:k.length=32) (hl:l.length=32) (hd:decide (k=l)=g) (ho:∃ x y tt,o.op = .binOp .eql 23 x y tt/\ev x = .agg (Sm.kc k)/\ev y = .agg (Sm.kc l)) :
  (execOp ev o).run prog w = .ok (.value (.bool g)) w:=by
 subst hd;exact Ir hk hl ho
theorem Oo (a b:aL) (n m c d:Nat) (x y:aN) (hn:m<n) (w:World) (ha:bf w a n c x) (hb:bf w b m d y) :
  Calls prog 44 #[.slice b m d,.slice a n c] w λe w'=>e = .returned (.bool (decide (x<+:y)))/\w=w':=by
 have HR:Hid (decide (x<+:y)=false):=hid (decide_eq_false λh=>by
  have h1:=h.length_le;have h2:=ha.len;have h3:=hb.len;omega)
 have hi:¬ (n:Int)<=(m:Int):=by omega
 have hi2:decide ((n:Int)<=(m:Int))=false:=decide_eq_false hi;rw [HR.out];clear ha hb HR;go_enter func44,ntmps44;go_wp2;go_ret;exact ⟨rfl,rfl⟩
theorem Fj (a b:aL) (n m c d:Nat) (x y:aN) (hm:m<=1000000) (w:World) (ha:bf w a n c x) (hb:bf w b m d y) :
  Calls prog 44 #[.slice b m d,.slice a n c] w λe w'=>e = .returned (.bool (decide (x<+:y)))/\w=w':=by
 by_cases h:n<=m
 .exact zH a b n m c d x y h hm w ha hb
 .exact Oo a b n m c d x y (by omega) w ha hb
theorem Al {B:Nat} {w:World} {r:Hdl} {l:aN} (h:BsP (λb=>B<=b) w r l) (i:Nat) (hi:i<=r.2.1):BsP (λb=>B<=b) w (eX r.1 r.2.2 i,r.2.1-i,r.2.2-i) (l.drop i):=by
 refine ⟨sJ h.1 i hi,λad e hn=>?_⟩;have hn':0<r.2.1-i:=hn;have e':eX r.1 r.2.2 i=some ad:=e;unfold eX at e';split at e'
 .exact h.2 ad e' (by omega)
 .cases hr:r.1 with
  | none=>rw [hr] at e'; cases e'
  | some a =>
   rw [hr] at e';rw [<-Option.some.inj e',add_block];exact h.2 a hr (by omega)
theorem eP {w w':World} {r:Hdl} {l:aN} (h:BsP (λb=>B<=b) w r l) (hb:Below w.heap.size w w'):BsP (λb=>B<=b) w' r l:=h.kept hb.size λb _ hl=>hb.block b hl
theorem Vf {g:Nat} {w w':World} {r:Hdl} {l:aN} (h:BsP (λb=>B<=b) w r l) (hu:Rg.Upd w g w') (hg:g<B):BsP (λb=>B<=b) w' r l:=h.kept (Nat.le_of_eq hu.size.symm) λb hp _=>hu.block b (λe=>by
 have:B<=b:=hp;omega)
structure Fol (w0:World) (la:aL) (ln lc o g bu bp us:Nat) (w:World):Prop where
 b:Below w0.heap.size w0 w
 fo:Rg.Own w o (vdC eB false 0 false) 62
 fg:Rg.Own w g #[.int .i64 us] 3
 fu:Rg.Own w bu #[.pointer (some ⟨g,0,none⟩)] 89
 fp:Rg.Own w bp #[.slice la ln lc] 26
 lo:w0.heap.size<=o
 og:o<g
 gu:g<bu
 gp:g<bp
namespace Fol
variable {w0 w w':World} {la:aL} {ln lc o g bu bp us us':Nat}
theorem below (h:Fol w0 la ln lc o g bu bp us w) (hb:Below w.heap.size w w'):Fol w0 la ln lc o g bu bp us w':=⟨bst h.b hb,h.fo.below hb,h.fg.below hb,h.fu.below hb,h.fp.below hb,h.lo,h.og,h.gu,h.gp⟩
theorem upd (h:Fol w0 la ln lc o g bu bp us w) (hu:Rg.Upd w g w') (hg:Rg.Own w' g #[.int .i64 us'] 3):Fol w0 la ln lc o g bu bp us' w':=⟨hu.below h.b (by have:=h.lo; have:=h.og; omega),h.fo.upd hu (by have:=h.og; omega),hg,h.fu.upd hu (by have:=h.gu; omega),h.fp.upd hu (by have:=h.gp; omega),h.lo,h.og,h.gu,h.gp⟩
theorem next {l:List aM} {e:Ending} (h:Fol w0 la ln lc o g bu bp us w) (n:VT l g us R w e w'):∃ X th us',e = .returned (.tuple #[.string X,.bool th])/\(th=true->nxP l us R=some (X,us'))/\(th=false->nxP l us R=none/\us'=us)/\Fol w0 la ln lc o g bu bp us' w'/\∀ B r q,g<B->BsP (λb=>B<=b) w r q->BsP (λb=>B<=b) w' r q:=by
 obtain ⟨X,th,us',w2,w3,he,h1,h2,h3,h4,h5,h6⟩:=n;have h6':Rg.Own w3 g #[.int .i64 us'] 3:=by
  have hg2:=(h.below h3).fg.1;have:g<w3.heap.size:=by rw [h4.size]; exact hg2
  exact ⟨this,(h5.block g this).symm.trans h6.2⟩
 exact ⟨X,th,us',he,h1,h2,((h.below h3).upd h4 h6').below h5,λB r q hB hq=>eP (Vf (eP hq h3) h4 hB) h5⟩
end Fol
def Uh:Value->Nat
 | .slice _ n _=>n
 | _=>0
def thV:Value->Nat
 | .bool true=>1
 | _=>0
theorem Ka {l:List aM} (hx:∀ s∈l,s.size<=900000) {us us':Nat} {X:aM} (hR:R.size<=900000) (hu:us<=l.length) (h:nxP l us R=some (X,us')):X.size<=900000/\us'<=l.length:=by
 unfold nxP at h;split at h
 .obtain ⟨rfl,rfl⟩:=Prod.mk.inj (Option.some.inj h);exact ⟨hR,hu⟩
 .split at h
  .rename_i h2;obtain ⟨rfl,rfl⟩:=Prod.mk.inj (Option.some.inj h);exact ⟨hx _ (Rf.gW h2.1),h2.1⟩
  .cases h
theorem SY {l:List aM} {q:Pa} {us:Nat} {b:Bool} {N:Nd} {s:Nat} (hg:fE E.data.toList=some N) (hr:¬ (b=true/\N.kd≠3)) {q2:Pa} (ho:onward N q=(eB,q2)) (hq:N.kd=1->q2=q):Says (jc l (s+1) E q us b) (yC N q us l.length):=by
 rw [mM hg hr ho,if_pos (show eB.size=0 from rfl)];unfold yC;by_cases hu:us=l.length
 .rw [if_neg (λh=>h hu),aK hu];by_cases hk:N.kd=1/\N.p=q
  .rw [if_pos hk,if_pos ⟨hk.1,by rw [hq hk.1]; exact hk.2⟩];rfl
  .rw [if_neg hk,if_neg (λh=>hk ⟨h.1,by rw [<-hq h.1]; exact h.2⟩)];rfl
 .rw [if_pos hu,decide_eq_false hu];split
  .exact ⟨_,_,rfl⟩
  .exact ⟨_,_,rfl⟩
end Tm
end
end Go.Proofs.YtokaiemgjngcoaaGreatDoor
