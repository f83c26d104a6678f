/-
 References in a row: contracts of node.Kids, of the plain answers' kids, of Light; of the plain Same over texts.
-/
import Derived.Test.YtokaiemgjngcoaaGreatDoorVy3
open Go.Lib (hid)
open Go.Proofs.Tryz
set_option linter.unusedSimpArgs false
set_option linter.unusedVariables false
set_option maxHeartbeats 40000000
set_option maxRecDepth 100000
namespace Go.Proofs.YtokaiemgjngcoaaGreatDoor
variable {ev:Operand->Value} {o:Oper} {w w1:World} {B d g i j n q:Nat} {a:Int} {k:aM} {P:Program} {ops:Array Oper} {Q:Exit->Act->World->Prop} {t:TypeId}
section
open Go.RowKit
def dF (ks:List aM):List aM:=ks.filter λk=>decide (k.size≠0)
theorem zO (ks:List aM) (q:Nat) (h:q<ks.length):dF (ks.take (q+1))=dF (ks.take q)++(if (ks.getD q eB).size≠0 then [ks.getD q eB] else []):=by
 unfold dF;have e:ks.getD q eB=ks[q]:=by simp [List.getD,h]
 rw [List.take_succ_eq_append_getElem h,e,List.filter_append];congr 1;by_cases hz:ks[q].size=0
 .simp only [ne_eq,hz,not_true_eq_false,decide_false,Bool.false_eq_true,not_false_eq_true,List.filter_cons_of_neg,List.filter_nil,if_false]
 .simp only [ne_eq,hz,not_false_eq_true,decide_true,List.filter_cons_of_pos,List.filter_nil,if_true]
theorem wQ (ks:List aM) (q:Nat):(dF (ks.take q)).length<=q:=Nat.le_trans (List.length_filter_le _ _) (by rw [List.length_take]; exact Nat.min_le_left _ _)
theorem Ut (ks:List aM) (q:Nat) (h:q<ks.length) (w:World):(part 9 (iN ks) q).run prog w = .ok (.string (ks.getD q eB)) w:=by
 have hagg:(isAgg 9).run prog w = .ok false w:=by kernel_rfl
 have hg:(iN ks)[q]? = some (.string (ks.getD q eB)):=by simp [iN,List.getD,h]
 unfold part;rw [Sem.run_bind,hagg];simp [hg]
theorem kS {ks:List aM} (hl:ks.length=16) (hq:q<16) (ho:∃ x y,o.op = .index 65 x y/\ev x = .agg (iN ks)/\ev y = .int .i64 q) :
  (execOp ev o).run prog w = .ok (.value (.string (ks.getD q eB))) w:=by
 obtain ⟨x,y,ho,hx,hy⟩:=ho;obtain ⟨i0,hi,_,hs,_⟩:=pq;have hp:=Ut ks q (by omega) w;have h1:(Instr.index 65 (.agg (iN ks)) (.int .i64 q)).run prog w = .ok (.string (ks.getD q eB)) w:=by
  have hq2:(0:Int)<=q/\(q:Int)<((16:Nat):Int):=⟨by omega,by omega⟩
  simp only [Instr.index,Sem.run_bind,asIntOf,Sem.run_pure,Result.andThen_ok,run_underlying underlying65];rw [if_pos hq2];simp only [sizeOf,typeInfo,Sem.run_bind];simp [hi,hs,hp]
 unfold execOp;simp only [ho,hx,hy,Sem.run_bind,Sem.run_pure,Result.andThen_ok,h1]
namespace No
def WV (w:World) (xs:List aM) (e:Ending) (w':World):Prop:=∃ a n cap,e = .returned (.slice a n cap)/\lK w' a n cap xs/\Below w.heap.size w w'
theorem Ru (N:Nd) (a:aL) (n c:Nat) (hl:N.ks.length=16) (w:World):Calls prog 133 #[.agg (ndC N a n c)] w (WV w (dF N.ks)):=by
 obtain ⟨i0,hi,hz0,hz1,hz2⟩:=pq;have HI:Hid (_/\_/\_/\_):=hid ⟨hi,hz0,hz1,hz2⟩;have HO:Hid (dL (w.alloc (.cells (ndC N a n c) 67)) w.heap.size N a n c):=hid (Rg.Own.new _ _ _);have HL:=hid hl;clear hi hz0 hz1 hz2 hl;go_enter func133,ntmps133;go_wp2_with (refine aB (uG HO.out HL.out ⟨_,rfl,rfl⟩) ?_)
 go_loopw [3,8] (λv i wr=>∃ j:Nat,j<=16/\i = .int .i64 j/\Hid (wr.ownsRow (w.heap.size+1) 9 1 v (dF (N.ks.take j)).length ((dF (N.ks.take j)).map Value.string))/\Below (w.heap.size+1) (w.alloc (.cells (ndC N a n c) 67)) wr) (λ_ i _=>16-(intOf i).toNat)
 case atStart=>exact ⟨0,Nat.zero_le _,rfl,hid (World.ownsRow_nil _ _ _ _),aI⟩
 case round =>
  obtain ⟨j,hj,rfl,HR,hB⟩:=hrel;have hsz:w.heap.size+1<=wr.heap.size:=by have:=hB.size; simp at this; omega
  by_cases hlt:j<16
  .have HS:=hid (zO N.ks j (by rw [HL.out]; exact hlt));have hkl:=wQ N.ks j;obtain ⟨L,hL⟩:=aA (dF (N.ks.take j))
   rw [hL] at HS hkl HR;clear hL;by_cases hk:(N.ks.getD j eB).size=0
   .have jz:Hid (dF (N.ks.take (j+1))=L):=hid (by rw [HS.out,if_neg (by simpa using hk),List.append_nil]);have HE:Hid (N.ks.getD j eB=eB):=hid (cZ hk);clear hk;go_wp2_with (refine Rg.run rfl (.string (N.ks.getD j eB)) _ (kS HL.out hlt ⟨_,_,rfl,rfl,rfl⟩) ?_; rw [HE.out])
    go_roundw
    case rel=>exact ⟨j+1,by omega,by go_num,by rw [jz.out]; exact HR,hB⟩
    case measure=>simp [intOf]; omega
   .have jz:Hid (dF (N.ks.take (j+1))=L++[N.ks.getD j eB]):=hid (by rw [HS.out,if_pos hk]);have hne:=Ni.bZ (s:=N.ks.getD j eB) (by omega);obtain ⟨K,hK⟩:=aA (N.ks.getD j eB)
    have HK:=hid hK;rw [hK] at hne jz;clear hK hk HS;go_wp2_with (first
     | (refine Rg.run rfl (.string (N.ks.getD j eB)) _ (kS HL.out hlt ⟨_,_,rfl,rfl,rfl⟩) ?_; rw [HK.out])
     | (at_builtin; refine wpList_append_own _ rfl _ _ 25 rfl (w.heap.size+1) 9 i0 (.string ⟨#[]⟩) 1 16 underlying25 HI.out.1 HI.out.2.1 HI.out.2.2.1 HI.out.2.2.2 rfl (by decide) _ _ _ rfl (HR.out.alloc _) ⟨wr.heap.size,0,none⟩ 1 1 [.string K] rfl rfl ?d1 ?d2 ?d3 ?d4 ?d5 ?_))
    case d1=>exact Bu.cell_one_new' _ _ _ _
    case d2=>intro u hu; simp at hu; subst hu; rfl
    case d3=>unfold maxLen; omega
    case d4=>omega
    case d5=>simp; omega
    intro v' w2 hown2 hgrow _;have hlt':=HR.out.lt;go_wp2;go_roundw
    case rel=>exact ⟨j+1,by omega,by go_num,hid (by rw [jz.out,List.length_append,List.map_append]; exact hown2),(hB.alloc hsz _).grown hgrow (by simp; omega) (λg hg=>(hlt' g hg).1)⟩
    case measure=>simp [intOf]; omega
  .obtain rfl:j=16:=by omega
   have hO:=HR.out;rw [List.take_of_length_le (by rw [HL.out]; exact aH)] at hO;obtain ⟨a',cap',rfl,hb⟩:=lK.sS hO;have HB:=hid hb;have iz:Hid (Below w.heap.size w wr):=hid (nY hB);clear hO hb;go_wp2;go_ret;exact ⟨a',_,cap',rfl,HB.out,iz.out⟩
theorem OA (N:Nd) (a:aL) (n c:Nat) (hl:N.ks.length=16) (w:World):Calls prog 80 #[.agg (ndC N a n c)] w λe w'=>e = .returned (.int .i64 (dF N.ks).length)/\Below w.heap.size w w':=by
 have HO:Hid (dL (w.alloc (.cells (ndC N a n c) 67)) w.heap.size N a n c):=hid (Rg.Own.new _ _ _);have HL:=hid hl;clear hl;go_enter func80,ntmps80;go_wp2;go_loop [3,4] (λv i=>∃ j:Nat,j<=16/\i = .int .i64 j/\v = .int .i64 (dF (N.ks.take j)).length) (λ_ i=>16-(intOf i).toNat)
 case atStart=>exact ⟨0,Nat.zero_le _,rfl,rfl⟩
 case round =>
  obtain ⟨j,hj,rfl,rfl⟩:=hrel;by_cases hlt:j<16
  .have HS:=hid (zO N.ks j (by rw [HL.out]; exact hlt));have hkl:=wQ N.ks j;have hc:=mG HO.out HL.out j hlt;obtain ⟨L,hL⟩:=aA ((dF (N.ks.take j)).length)
   have HS2:Hid ((dF (N.ks.take (j+1))).length=L+if (N.ks.getD j eB).size≠0 then 1 else 0):=hid (by
    rw [HS.out,List.length_append,hL];split <;> rfl)
   rw [hL] at hkl ⊢;clear hL HS;obtain ⟨K,hK⟩:=aA (N.ks.getD j eB)
   rw [hK] at hc HS2;clear hK;by_cases hk:K.size=0
   .obtain rfl:=cZ hk;go_wp2;go_round
    case rel=>exact ⟨j+1,by omega,by go_num,by rw [HS2.out]; rfl⟩
    case measure=>simp [intOf]; omega
   .have hne:=Ni.bZ (s:=K) (by omega);have mu:Hid ((dF (N.ks.take (j+1))).length=L+1):=hid (by rw [HS2.out,if_pos hk]);clear hk HS2;go_wp2;go_round
    case rel=>exact ⟨j+1,by omega,by go_num,by rw [mu.out]; go_num⟩
    case measure=>simp [intOf]; omega
  .obtain rfl:j=16:=by omega
   have e:N.ks.take 16=N.ks:=List.take_of_length_le (by rw [HL.out]; exact aH);rw [e];obtain ⟨L,hL⟩:=aA ((dF N.ks).length)
   have J6:=hid hL;rw [hL];clear hL e;go_wp2;go_ret;exact ⟨by rw [J6.out]; rfl,al1 _ _⟩
end No
end
section
open Go.RowKit
namespace Ni
theorem Jd (a:aL) (n cap:Nat) (l:aN) (w:World) (h:bf w a n cap l) :
  Calls prog 78 #[.slice a n cap] w λe w'=>e = .returned (.bool (dx l))/\w=w':=by
 have hm:=h.2.1;have hnc:=h.1;unfold maxLen at hm;have H:=hid h;clear h;go_enter func78,ntmps78;go_wp2;go_loop [3] (λi=>∃ k:Nat,k<=n/\i = .int .i64 k/\Hid (dx (l.take k)=true)) (λi=>n-(intOf i).toNat)
 case atStart=>exact ⟨0,Nat.zero_le _,rfl,hid rfl⟩
 case round =>
  obtain ⟨k,hk,rfl,HR⟩:=hrel;by_cases hlt:k<n
  .obtain ⟨b,off,rfl,hb,hc⟩:=H.out.at' k hlt;have hl:k<l.length:=by rw [H.out.len]; exact hlt
   have HT:=hid (xE l k hl);obtain ⟨x,hx⟩:=aA ((l.getD k 0).toNat)
   rw [hx] at hc HT;by_cases YX:15<x
   .have HN:=hid (Cv l k hl (by omega));clear hx hl;go_wp2;go_ret;exact ⟨by rw [HN.out]; rfl,rfl⟩
   .clear hx hl;go_wp2;go_round
    case rel=>exact ⟨k+1,by omega,by go_num,hid (by rw [HT.out,HR.out]; simp; omega)⟩
    case measure=>simp [intOf]; omega
  .obtain rfl:k=n:=by omega
   have HE:Hid (dx l=true):=hid (by
    have:=HR.out;rwa [List.take_of_length_le (by rw [H.out.len]; exact aH)] at this)
   go_wp2;go_ret;exact ⟨by rw [HE.out]; rfl,rfl⟩
def sU (l:aN) (leaf:Bool):Nat:=16*gT l.length leaf+if l.length%2=1 then (l.getD 0 0).toNat else 0
def fQ (l:aN) (leaf:Bool) (k:Nat):aN:=UInt8.ofNat (sU l leaf)::(List.range k).map λj=>UInt8.ofNat (16*(l.getD (l.length%2+2*j) 0).toNat+(l.getD (l.length%2+(2*j+1)) 0).toNat)
theorem oF (l:aN) (leaf:Bool) (k:Nat):fQ l leaf (k+1)=fQ l leaf k++[UInt8.ofNat (16*(l.getD (l.length%2+2*k) 0).toNat+(l.getD (l.length%2+(2*k+1)) 0).toNat)]:=by
 simp [fQ,List.range_succ]
theorem EF (l:aN) (leaf:Bool):((iY l leaf).getD 0 0).toNat=gT l.length leaf:=by
 have:gT l.length leaf<=3:=by unfold gT; cases leaf <;> simp <;> omega
 simp [iY]; omega
theorem Ro (l:aN) (leaf:Bool):((iY l leaf).getD 1 0).toNat=if l.length%2=1 then (l.getD 0 0).toNat else 0:=by
 unfold iY;by_cases h:l.length%2=1
 .cases l with
  | nil=>simp at h
  | cons x r =>
   have h':(r.length+1)%2=1:=by simpa using h
   simp [h']
 .simp [h]
theorem Qk (l:aN) (leaf:Bool) (q:Nat):(iY l leaf).getD (2+q) 0=l.getD (l.length%2+q) 0:=by
 unfold iY;by_cases h:l.length%2=1
 .cases l with
  | nil=>simp at h
  | cons x r =>
   rw [if_pos h,h];have e:(2+q)=q+1+1:=by omega
   rw [e,show 1+q=q+1 by omega];simp [List.getD]
 .have h0:l.length%2=0:=by omega
  rw [if_neg h,h0];have e:(2+q)=q+1+1:=by omega
  rw [e];simp [List.getD]
theorem RV (l:aN) (leaf:Bool):fG l leaf=fQ l leaf (l.length/2):=by
 unfold fG iw fQ sU;rw [List.range_succ_eq_map,List.map_cons,List.map_map];have e0:=EF l leaf;have e1:=Ro l leaf;congr 1
 .simp only [Nat.mul_zero,Nat.zero_add];rw [e0,e1]
 .apply List.map_congr_left;intro j _;have f0:=Qk l leaf (2*j);have f1:=Qk l leaf (2*j+1);simp only [Function.comp];rw [show 2*(j.succ)=2+2*j by omega,show 2+2*j+1=2+(2*j+1) by omega,f0,f1]
theorem jA (v:Int) (x:Nat) (hx:x<256) (hv:v=x) (w:World) :
  Sem.run prog (convert 35 9 (Value.slice (some ⟨w.heap.size,0,none⟩) 1 1)) (w.alloc (.cells #[.int .u8 v] 5)) = .ok (.string ⟨#[UInt8.ofNat x]⟩) (w.alloc (.cells #[.int .u8 v] 5)):=by
 subst hv;have h:=run_convert_bytes_back (P:=prog) (w.alloc (.cells #[.int .u8 x] 5)) 35 9 5 ⟨w.heap.size,0,none⟩ 1 [UInt8.ofNat x] underlying35 underlying5 underlying9
  (λj hj=>by
   obtain rfl:j=0:=by simpa using hj
   have e:(UInt8.ofNat x).toNat=x:=by simp; omega
   simp [Addr.add,e])
 exact h
theorem yL (l:aN) (x:UInt8):(⟨l.toArray⟩:aM)++⟨#[x]⟩=⟨(l++[x]).toArray⟩:=by
 have h:((⟨l.toArray⟩:aM)++⟨#[x]⟩).data=(l++[x]).toArray:=by
  rw [ByteArray.data_append]; simp
 cases e:((⟨l.toArray⟩:aM)++⟨#[x]⟩) with
 | mk d=>rw [e] at h; simp only at h; rw [h]
theorem pR (a:aL) (n cap:Nat) (l:aN) (leaf:Bool) (hr:dx l=true) (hn:n<=64) (w:World) (h:bf w a n cap l) :
  Calls prog 67 #[.slice a n cap,.bool leaf] w λe w'=>e = .returned (.string ⟨(fG l leaf).toArray⟩)/\Below w.heap.size w w':=by
 rw [RV];have H:=hid h;have HL:=hid h.len;have HR:=hid (kP l hr);have hmk:sU l leaf=16*(l.length%2)+32*(if leaf then 1 else 0)+if l.length%2=1 then (l.getD 0 0).toNat else 0:=by
  unfold sU gT; cases leaf <;> simp <;> omega
 have hnc:=h.1;have hcm:=h.2.1;unfold maxLen at hcm;rw [h.len] at hmk;clear h hr;by_cases hp:n%2=1
 .have hp0:(n:Int)%2=1:=by omega
  have hn1:1<=n:=by omega
  rw [if_pos hp,hp] at hmk;have HP:=hid hp;clear hp;obtain ⟨b0,rI,rfl,hb0,hc0⟩:=H.out.at' 0 (by omega);have hx0:=HR.out 0;obtain ⟨z,hz⟩:=aA ((l.getD 0 0).toNat)
  rw [hz] at hc0 hx0 hmk;rw [Nat.add_zero] at hc0;clear hz;cases leaf
  .have hm2:sU l false=16+z:=by rw [hmk]; simp
   have hcv:=jA (16+(z:Int)) (sU l false) (by omega) (by omega);clear hmk hm2;go_enter func67,ntmps67;go_wp2;clear hcv;go_loopw [7,8] (λs i wr=>∃ k q:Nat,Hid (q=1+2*k)/\q<=n/\i = .int .i64 q/\s = .string ⟨(fQ l false k).toArray⟩/\Below w.heap.size w wr) (λ_ i _=>n-(intOf i).toNat)
   case atStart=>exact ⟨0,1,hid rfl,by omega,rfl,rfl,aI.alloc aH _⟩
   case round =>
    obtain ⟨k,q,HQ,hq,rfl,rfl,hB⟩:=hrel;by_cases hlt:q<n
    .have hlt1:q+1<n:=by have:=HP.out; have:=HQ.out; omega
     obtain ⟨b,off,h0,hb,hc⟩:=H.out.at' q hlt;simp at h0;obtain ⟨rfl,rfl⟩:=h0;obtain ⟨b',off',h1,_,hc'⟩:=H.out.at' (q+1) hlt1;simp at h1;obtain ⟨rfl,rfl⟩:=h1;have hx:=HR.out q;have hy:=HR.out (q+1);obtain ⟨x,hxe⟩:=aA ((l.getD q 0).toNat)
     obtain ⟨y,hye⟩:=aA ((l.getD (q+1) 0).toNat)
     rw [hxe] at hc hx;rw [hye] at hc' hy;rw [<-hB.cell (p:=⟨b0,rI+q,none⟩) hb] at hc;rw [<-hB.cell (p:=⟨b0,rI+(q+1),none⟩) hb] at hc';have hcv:Sem.run prog (convert 35 9 (Value.slice (some ⟨wr.heap.size,0,none⟩) 1 1)) (wr.alloc (.cells #[.int .u8 (16*(x:Int)+(y:Int))] 5)).drew = .ok (.string ⟨#[UInt8.ofNat (16*x+y)]⟩) (wr.alloc (.cells #[.int .u8 (16*(x:Int)+(y:Int))] 5)).drew :=
      jA (16*x+y) (16*x+y) (by omega) (by omega) wr.drew
     obtain ⟨S,hS⟩:=aA (⟨(fQ l false k).toArray⟩:aM)
     obtain ⟨C,hC⟩:=aA (⟨#[UInt8.ofNat (16*x+y)]⟩:aM)
     have hSz:S.size<=100:=by
      rw [<-hS]; show (fQ l false k).toArray.size<=100; have:=HQ.out; simp [fQ]; omega
     have Pu:C.size<=1:=by rw [<-hC]; exact aH
     have HN:Hid (S++C=⟨(fQ l false (k+1)).toArray⟩):=hid (by
      rw [<-hS,<-hC,yL,oF,HL.out,HP.out,<-HQ.out,show 1+(2*k+1)=q+1 by have:=HQ.out; omega,hxe,hye])
     rw [hC] at hcv;rw [hS];clear hxe hye hS hC;go_wp2_with fail
     go_region
     all_goals clear hcv
     all_goals go_wp2
     all_goals
      go_roundw
      case rel=>exact ⟨k+1,q+2,hid (by have:=HQ.out; omega),by omega,by go_num,by rw [HN.out],hB.drew.alloc hB.size _⟩
      case measure=>simp [intOf]; omega
    .have HE:Hid (k=l.length/2):=hid (by rw [HL.out]; have:=HP.out; have:=HQ.out; omega);go_wp2;go_ret;exact ⟨by rw [<-HE.out]; rfl,hB⟩
  .have hm2:sU l true=48+z:=by rw [hmk]; simp
   have hcv:=jA (48+(z:Int)) (sU l true) (by omega) (by omega);clear hmk hm2;go_enter func67,ntmps67;go_wp2;clear hcv;go_loopw [7,8] (λs i wr=>∃ k q:Nat,Hid (q=1+2*k)/\q<=n/\i = .int .i64 q/\s = .string ⟨(fQ l true k).toArray⟩/\Below w.heap.size w wr) (λ_ i _=>n-(intOf i).toNat)
   case atStart=>exact ⟨0,1,hid rfl,by omega,rfl,rfl,aI.alloc aH _⟩
   case round =>
    obtain ⟨k,q,HQ,hq,rfl,rfl,hB⟩:=hrel;by_cases hlt:q<n
    .have hlt1:q+1<n:=by have:=HP.out; have:=HQ.out; omega
     obtain ⟨b,off,h0,hb,hc⟩:=H.out.at' q hlt;simp at h0;obtain ⟨rfl,rfl⟩:=h0;obtain ⟨b',off',h1,_,hc'⟩:=H.out.at' (q+1) hlt1;simp at h1;obtain ⟨rfl,rfl⟩:=h1;have hx:=HR.out q;have hy:=HR.out (q+1);obtain ⟨x,hxe⟩:=aA ((l.getD q 0).toNat)
     obtain ⟨y,hye⟩:=aA ((l.getD (q+1) 0).toNat)
     rw [hxe] at hc hx;rw [hye] at hc' hy;rw [<-hB.cell (p:=⟨b0,rI+q,none⟩) hb] at hc;rw [<-hB.cell (p:=⟨b0,rI+(q+1),none⟩) hb] at hc';have hcv:Sem.run prog (convert 35 9 (Value.slice (some ⟨wr.heap.size,0,none⟩) 1 1)) (wr.alloc (.cells #[.int .u8 (16*(x:Int)+(y:Int))] 5)).drew = .ok (.string ⟨#[UInt8.ofNat (16*x+y)]⟩) (wr.alloc (.cells #[.int .u8 (16*(x:Int)+(y:Int))] 5)).drew :=
      jA (16*x+y) (16*x+y) (by omega) (by omega) wr.drew
     obtain ⟨S,hS⟩:=aA (⟨(fQ l true k).toArray⟩:aM)
     obtain ⟨C,hC⟩:=aA (⟨#[UInt8.ofNat (16*x+y)]⟩:aM)
     have hSz:S.size<=100:=by
      rw [<-hS]; show (fQ l true k).toArray.size<=100; have:=HQ.out; simp [fQ]; omega
     have Pu:C.size<=1:=by rw [<-hC]; exact aH
     have HN:Hid (S++C=⟨(fQ l true (k+1)).toArray⟩):=hid (by
      rw [<-hS,<-hC,yL,oF,HL.out,HP.out,<-HQ.out,show 1+(2*k+1)=q+1 by have:=HQ.out; omega,hxe,hye])
     rw [hC] at hcv;rw [hS];clear hxe hye hS hC;go_wp2_with fail
     go_region
     all_goals clear hcv
     all_goals go_wp2
     all_goals
      go_roundw
      case rel=>exact ⟨k+1,q+2,hid (by have:=HQ.out; omega),by omega,by go_num,by rw [HN.out],hB.drew.alloc hB.size _⟩
      case measure=>simp [intOf]; omega
    .have HE:Hid (k=l.length/2):=hid (by rw [HL.out]; have:=HP.out; have:=HQ.out; omega);go_wp2;go_ret;exact ⟨by rw [<-HE.out]; rfl,hB⟩
 .have hp0:(n:Int)%2=0:=by omega
  have hpn:n%2=0:=by omega
  rw [if_neg hp,hpn] at hmk;have HP:=hid hpn;clear hp hpn;cases leaf
  .have hcv:=jA 0 (sU l false) (by rw [hmk]; decide) (by rw [hmk]; rfl);clear hmk;go_enter func67,ntmps67;go_wp2;clear hcv;go_loopw [7,8] (λs i wr=>∃ k q:Nat,Hid (q=0+2*k)/\q<=n/\i = .int .i64 q/\s = .string ⟨(fQ l false k).toArray⟩/\Below w.heap.size w wr) (λ_ i _=>n-(intOf i).toNat)
   case atStart=>exact ⟨0,0,hid rfl,by omega,rfl,rfl,aI.alloc aH _⟩
   case round =>
    obtain ⟨k,q,HQ,hq,rfl,rfl,hB⟩:=hrel;by_cases hlt:q<n
    .have hlt1:q+1<n:=by have:=HP.out; have:=HQ.out; omega
     obtain ⟨b,off,rfl,hb,hc⟩:=H.out.at' q hlt;obtain ⟨b',off',h1,_,hc'⟩:=H.out.at' (q+1) hlt1;simp at h1;obtain ⟨rfl,rfl⟩:=h1;have hx:=HR.out q;have hy:=HR.out (q+1);obtain ⟨x,hxe⟩:=aA ((l.getD q 0).toNat)
     obtain ⟨y,hye⟩:=aA ((l.getD (q+1) 0).toNat)
     rw [hxe] at hc hx;rw [hye] at hc' hy;rw [<-hB.cell (p:=⟨b,off+q,none⟩) hb] at hc;rw [<-hB.cell (p:=⟨b,off+(q+1),none⟩) hb] at hc';have hcv:Sem.run prog (convert 35 9 (Value.slice (some ⟨wr.heap.size,0,none⟩) 1 1)) (wr.alloc (.cells #[.int .u8 (16*(x:Int)+(y:Int))] 5)).drew = .ok (.string ⟨#[UInt8.ofNat (16*x+y)]⟩) (wr.alloc (.cells #[.int .u8 (16*(x:Int)+(y:Int))] 5)).drew :=
      jA (16*x+y) (16*x+y) (by omega) (by omega) wr.drew
     obtain ⟨S,hS⟩:=aA (⟨(fQ l false k).toArray⟩:aM)
     obtain ⟨C,hC⟩:=aA (⟨#[UInt8.ofNat (16*x+y)]⟩:aM)
     have hSz:S.size<=100:=by
      rw [<-hS]; show (fQ l false k).toArray.size<=100; have:=HQ.out; simp [fQ]; omega
     have Pu:C.size<=1:=by rw [<-hC]; exact aH
     have HN:Hid (S++C=⟨(fQ l false (k+1)).toArray⟩):=hid (by
      rw [<-hS,<-hC,yL,oF,HL.out,HP.out,<-HQ.out,show 0+(2*k+1)=q+1 by have:=HQ.out; omega,hxe,hye])
     rw [hC] at hcv;rw [hS];clear hxe hye hS hC;go_wp2_with fail
     go_region
     all_goals clear hcv
     all_goals go_wp2
     all_goals
      go_roundw
      case rel=>exact ⟨k+1,q+2,hid (by have:=HQ.out; omega),by omega,by go_num,by rw [HN.out],hB.drew.alloc hB.size _⟩
      case measure=>simp [intOf]; omega
    .have HE:Hid (k=l.length/2):=hid (by rw [HL.out]; have:=HP.out; have:=HQ.out; omega);go_wp2;go_ret;exact ⟨by rw [<-HE.out]; rfl,hB⟩
  .have hcv:=jA 32 (sU l true) (by rw [hmk]; decide) (by rw [hmk]; rfl);clear hmk;go_enter func67,ntmps67;go_wp2;clear hcv;go_loopw [7,8] (λs i wr=>∃ k q:Nat,Hid (q=0+2*k)/\q<=n/\i = .int .i64 q/\s = .string ⟨(fQ l true k).toArray⟩/\Below w.heap.size w wr) (λ_ i _=>n-(intOf i).toNat)
   case atStart=>exact ⟨0,0,hid rfl,by omega,rfl,rfl,aI.alloc aH _⟩
   case round =>
    obtain ⟨k,q,HQ,hq,rfl,rfl,hB⟩:=hrel;by_cases hlt:q<n
    .have hlt1:q+1<n:=by have:=HP.out; have:=HQ.out; omega
     obtain ⟨b,off,rfl,hb,hc⟩:=H.out.at' q hlt;obtain ⟨b',off',h1,_,hc'⟩:=H.out.at' (q+1) hlt1;simp at h1;obtain ⟨rfl,rfl⟩:=h1;have hx:=HR.out q;have hy:=HR.out (q+1);obtain ⟨x,hxe⟩:=aA ((l.getD q 0).toNat)
     obtain ⟨y,hye⟩:=aA ((l.getD (q+1) 0).toNat)
     rw [hxe] at hc hx;rw [hye] at hc' hy;rw [<-hB.cell (p:=⟨b,off+q,none⟩) hb] at hc;rw [<-hB.cell (p:=⟨b,off+(q+1),none⟩) hb] at hc';have hcv:Sem.run prog (convert 35 9 (Value.slice (some ⟨wr.heap.size,0,none⟩) 1 1)) (wr.alloc (.cells #[.int .u8 (16*(x:Int)+(y:Int))] 5)).drew = .ok (.string ⟨#[UInt8.ofNat (16*x+y)]⟩) (wr.alloc (.cells #[.int .u8 (16*(x:Int)+(y:Int))] 5)).drew :=
      jA (16*x+y) (16*x+y) (by omega) (by omega) wr.drew
     obtain ⟨S,hS⟩:=aA (⟨(fQ l true k).toArray⟩:aM)
     obtain ⟨C,hC⟩:=aA (⟨#[UInt8.ofNat (16*x+y)]⟩:aM)
     have hSz:S.size<=100:=by
      rw [<-hS]; show (fQ l true k).toArray.size<=100; have:=HQ.out; simp [fQ]; omega
     have Pu:C.size<=1:=by rw [<-hC]; exact aH
     have HN:Hid (S++C=⟨(fQ l true (k+1)).toArray⟩):=hid (by
      rw [<-hS,<-hC,yL,oF,HL.out,HP.out,<-HQ.out,show 0+(2*k+1)=q+1 by have:=HQ.out; omega,hxe,hye])
     rw [hC] at hcv;rw [hS];clear hxe hye hS hC;go_wp2_with fail
     go_region
     all_goals clear hcv
     all_goals go_wp2
     all_goals
      go_roundw
      case rel=>exact ⟨k+1,q+2,hid (by have:=HQ.out; omega),by omega,by go_num,by rw [HN.out],hB.drew.alloc hB.size _⟩
      case measure=>simp [intOf]; omega
    .have HE:Hid (k=l.length/2):=hid (by rw [HL.out]; have:=HP.out; have:=HQ.out; omega);go_wp2;go_ret;exact ⟨by rw [<-HE.out]; rfl,hB⟩
theorem xL (f:aN) (hf:dx f=true) (k j:Nat) (hj:j<k):((iw f k).getD j 0).toNat=16*(f.getD (2*j) 0).toNat+(f.getD (2*j+1) 0).toNat:=by
 have h1:=kP f hf (2*j);have h2:=kP f hf (2*j+1);have e:(iw f k).getD j 0=UInt8.ofNat (16*(f.getD (2*j) 0).toNat+(f.getD (2*j+1) 0).toNat):=by
  simp [iw,List.getD,hj]
 rw [e];simp only [UInt8.toNat_ofNat'];omega
theorem Cy (f:aN) (hf:dx f=true) (k i:Nat) (hi:i<2*k):cK ⟨(iw f k).toArray⟩ i=(f.getD i 0).toNat:=by
 have h1:=kP f hf (2*(i/2));have h2:=kP f hf (2*(i/2)+1);have e:=xL f hf k (i/2) (by omega);unfold cK;show (if i%2=0 then ((iw f k).getD (i/2) 0).toNat/16 else ((iw f k).getD (i/2) 0).toNat%16)=_;rw [e];by_cases h:i%2=0
 .rw [if_pos h];have e2:2*(i/2)=i:=by omega
  rw [e2] at h1 h2 ⊢;omega
 .rw [if_neg h];have e2:2*(i/2)+1=i:=by omega
  rw [e2] at h2 ⊢;omega
theorem qP {a b:aN} (hl:a.length=b.length) (h:∀ i,i<a.length->(a.getD i 0).toNat=(b.getD i 0).toNat):a=b:=by
 apply List.ext_getElem hl;intro i h1 h2;have:=h i h1;simp only [List.getD,List.getElem?_eq_getElem h1,List.getElem?_eq_getElem h2,Option.getD_some] at this;exact UInt8.toNat_inj.1 this
theorem JY (f:aN) (hf:dx f=true) (k:Nat) (hk:f.length=2*k):fJ ⟨(iw f k).toArray⟩=f:=by
 have hs:(⟨(iw f k).toArray⟩:aM).size=k:=by show (iw f k).toArray.size=k; simp [iw]
 apply qP
 .rw [dW,hs,hk]
 .intro i hi;rw [dW,hs] at hi;rw [iB _ _ (by rw [hs]; exact hi),Cy f hf k i hi]
theorem tV (s:aM):iw (fJ s) s.size=s.data.toList:=by
 apply qP
 .rw [oW]; simp
 .intro j hj;rw [oW] at hj;rw [xL _ (ow s) _ _ hj,iB s _ (by omega),iB s _ (by omega)];unfold cK;rw [if_pos (by omega),if_neg (by omega),show 2*j/2=j by omega,show (2*j+1)/2=j by omega];omega
theorem nW (l:aN) (leaf:Bool):(⟨(fG l leaf).toArray⟩:aM).size=l.length/2+1:=by
 show (fG l leaf).toArray.size=_;simp [fG,iw]
theorem Pe (l:aN) (leaf:Bool) (hr:dx l=true):fJ ⟨(fG l leaf).toArray⟩=iY l leaf :=
 JY _ (qM l leaf hr) _ (qD l leaf)
theorem qE (l:aN) (leaf:Bool) (hr:dx l=true) (i:Nat) (hi:i<2):cK ⟨(fG l leaf).toArray⟩ i=((iY l leaf).getD i 0).toNat :=
 Cy _ (qM l leaf hr) _ _ (by omega)
theorem CQ (l:aN) (leaf:Bool) (hr:dx l=true) (hl:l.length<=64):¬ Bad ⟨(fG l leaf).toArray⟩:=by
 unfold Bad;rw [qE l leaf hr 0 (by omega),qE l leaf hr 1 (by omega),EF,Ro,nW];unfold gT;cases leaf <;> simp only [if_true,if_false,Bool.false_eq_true] <;> split <;> omega
theorem Nr (l:aN) (leaf:Bool) (hr:dx l=true):iC ⟨(fG l leaf).toArray⟩=leaf:=by
 unfold iC;rw [qE l leaf hr 0 (by omega),EF];unfold gT;cases leaf <;> simp <;> omega
theorem Pn (l:aN) (leaf:Bool) (hr:dx l=true):bW ⟨(fG l leaf).toArray⟩=l:=by
 unfold bW;rw [qE l leaf hr 0 (by omega),EF,Pe l leaf hr];have hm:gT l.length leaf%2=l.length%2:=by unfold gT; cases leaf <;> simp
 rw [hm];unfold iY;by_cases h:l.length%2=1
 .rw [if_pos h,h];cases l with
  | nil=>simp at h
  | cons x r=>simp
 .rw [if_neg h,show l.length%2=0 by omega];simp
theorem zY (s:aM) (h:0<s.size):∃ a b r,fJ s=a::b::r/\a.toNat=cK s 0/\b.toNat=cK s 1:=by
 have h1:=dW s;have h2:=iB s 0 (by omega);have h3:=iB s 1 (by omega);cases e:fJ s with
 | nil=>rw [e] at h1; simp at h1; omega
 | cons a t =>
  cases t with
  | nil=>rw [e] at h1; simp at h1; omega
  | cons b r =>
   rw [e] at h2 h3;exact ⟨a,b,r,rfl,by simpa using h2,by simpa using h3⟩
theorem mE (s:aM):dx (bW s)=true:=by
 have h:=ow s;unfold dx at h ⊢;rw [List.all_eq_true] at h ⊢;exact λx hx=>h x (List.mem_of_mem_drop hx)
theorem iR (s:aM):(bW s).length=2*s.size-(2-cK s 0%2):=by
 unfold bW; rw [List.length_drop,dW]
theorem EL (s:aM) (hb:¬ Bad s):(bW s).length<=64:=by
 rw [iR]; unfold Bad at hb; omega
theorem Hw (s:aM) (h:0<s.size) (hb:¬ Bad s):iY (bW s) (iC s)=fJ s:=by
 obtain ⟨a,b,r,e,ha,hb'⟩:=zY s h;have hl:=iR s;have pi:cK s 0<=3:=by unfold Bad at hb; omega
 have hmk:gT (bW s).length (iC s)=cK s 0:=by
  unfold gT iC;rw [hl];by_cases h2:cK s 0/2%2=1
  .simp only [h2,decide_true,if_true]; omega
  .simp only [h2,decide_false,Bool.false_eq_true,if_false]; omega
 have ea:UInt8.ofNat (cK s 0)=a:=by rw [<-ha]; simp
 unfold iY;rw [hmk,ea,e];by_cases hp:cK s 0%2=1
 .have ho:(bW s).length%2=1:=by rw [hl]; omega
  rw [if_pos ho,ho,List.take_append_drop];unfold bW;rw [hp,e]; rfl
 .have ho:(bW s).length%2=0:=by rw [hl]; omega
  have hb0:b=0:=by
   apply UInt8.toNat_inj.1;rw [hb']; unfold Bad at hb; show cK s 1=0; omega
  rw [if_neg (by omega),ho];unfold bW;rw [show cK s 0%2=0 by omega,e,hb0];simp
theorem unpack_pack (s:aM) (h:0<s.size) (hb:¬ Bad s):(⟨(fG (bW s) (iC s)).toArray⟩:aM)=s:=by
 have e:fG (bW s) (iC s)=s.data.toList:=by
  unfold fG;rw [Hw s h hb,<-tV s];congr 1;rw [iR]; omega
 rw [e]
theorem LP (s:aM) (h:0<s.size):cK s 0=s[0].toNat/16/\cK s 1=s[0].toNat%16:=by
 unfold cK;rw [if_pos (by omega),if_neg (by omega)];exact ⟨by rw [nN s _ (by omega)],by rw [nN s _ (by omega)]⟩
end Ni
end
section
open Go.RowKit
namespace No
open Rl Ni
def jL (x:It):Option aM:=if x.l then (if x.bytes.length<32 then some ⟨x.bytes.toArray⟩ else none) else (if dH x.s then some x.s else none)
def kU:List It->Option (List aM)
 | []=>some []
 | x::xs=>match jL x with
  | none=>none
  | some k=>match kU xs with
   | none=>none
   | some ks=>some (k::ks)
def dR (k:aM):List aM:=k::List.replicate 15 eB
instance (s : aM) : Decidable (Bad s) := by unfold Bad; infer_instance
def fA (x0 x1:It):Option Nd :=
 if x0.s.size=0\/Bad x0.s then none else
 if iC x0.s then some ⟨1,bW x0.s,x1.s,zks⟩ else (jL x1).map λk=>⟨2,bW x0.s,eB,dR k⟩
def dK (xs:List It):Option Nd :=
 match kU (xs.take 16) with
 | none=>none
 | some ks=>if (xs.getD 16 it0).l=false/\(xs.getD 16 it0).s.size=0 then some ⟨3,[],eB,ks⟩ else none
def dO (xs:List It):Option Nd:=if xs.length=2 then fA (xs.getD 0 it0) (xs.getD 1 it0) else if xs.length=17 then dK xs else none
def kK (R:aM->Bool) (n:Nd):Bool :=
 if n.kd=1 then decide (n.v.size≠0)&&decide (n.v.size<=65552)&&decide ((dF n.ks).length=0) else
 if n.kd=2 then decide (0<n.p.length)&&decide (n.v.size=0)&&decide ((dF n.ks).length=1)&&decide ((n.ks.getD 0 eB).size≠0)&&R (n.ks.getD 0 eB) else
 if n.kd=3 then decide (n.p.length=0)&&decide (n.v.size=0)&&decide (2<=(dF n.ks).length)&&(dF n.ks).all R else false
def dN (R:aM->Bool) (n:Nd):Bool:=decide (n.p.length<=64)&&dx n.p&&kK R n
theorem EW {R R':aM->Bool} {n:Nd} (h:∀ k∈n.ks,R k=R' k) (hl:n.ks.length=16):kK R n=kK R' n:=by
 unfold kK;have h0:R (n.ks.getD 0 eB)=R' (n.ks.getD 0 eB):=by
  apply h;rw [List.getD_eq_getElem?_getD,List.getElem?_eq_getElem (by omega)];exact List.getElem_mem _
 have h1:(dF n.ks).all R=(dF n.ks).all R':=by
  rw [Bool.eq_iff_iff,List.all_eq_true,List.all_eq_true];constructor
  .intro g k hk; rw [<-h k (List.mem_filter.1 hk).1]; exact g k hk
  .intro g k hk; rw [h k (List.mem_filter.1 hk).1]; exact g k hk
 rw [h0,h1]
theorem IB {R R':aM->Bool} {n:Nd} (h:∀ k∈n.ks,R k=R' k) (hl:n.ks.length=16):dN R n=dN R' n:=by
 unfold dN;rw [EW h hl]
def fE (s:aN):Option Nd :=
 match dJ s with
 | .error _=>none
 | .ok x=>match dO x.xs with
  | none=>none
  | some n=>if dN (λk=>dH k||(if _h:k.size<32/\k.size<s.length then (fE k.data.toList).isSome else false)) n then some n else none
termination_by s.length
decreasing_by
 rw [dZ];exact _h.2
def bJ (k:aM):Bool:=dH k||(decide (k.size<32)&&(fE k.data.toList).isSome)
theorem jy {s:aN} {x:It} (hs:s.length<=4294967296) (h:dJ s = .ok x):x.bytes=s/\Fits 0 x/\x.size<=4096:=by
 unfold dJ at h;cases hr:bR s 0 0 with
 | error c=>rw [hr] at h; cases h
 | ok q =>
  obtain ⟨y,n,k⟩:=q;rw [hr] at h;dsimp only at h;by_cases hn:n<s.length
  .rw [if_pos hn] at h; cases h
  .rw [if_neg hn] at h;obtain rfl:=iG h;obtain ⟨g1,g2,g3⟩:=(back s.length hs).1 _ _ _ _ _ _ aH hr;obtain ⟨p1,p2,p3,p4⟩:=(props s.length).1 _ _ _ _ _ _ aH hr;refine ⟨?_,g2,by omega⟩;rw [g1,List.take_of_length_le (by omega)]
theorem zK {xs:List It} {x:It} (h:x∈xs):x.bytes.length<=((xs.map It.bytes).flatten).length:=by
 induction xs with
 | nil=>cases h
 | cons y ys ih =>
  rw [List.map_cons,List.flatten_cons,List.length_append];rcases List.mem_cons.1 h with rfl | h
  .omega
  .have:=ih h; omega
theorem wZ {d:Nat} {x:It} (h:Fits d x) (hb:x.bytes.length<=4294967296):x.l=true->x.bytes.length=(jI ((x.xs.map It.bytes).flatten).length true).length+((x.xs.map It.bytes).flatten).length:=by
 intro hl;cases h with
 | mk ha hs hx hy =>
  rename_i l s xs;obtain rfl:l=true:=hl;obtain rfl:=hs rfl;have hi:=kX (.mk true ⟨#[]⟩ xs);rw [inner_mk] at hi;rw [jB xs (Nat.le_trans hi hb),List.length_append];rfl
theorem vJ {d:Nat} {x:It} (h:Fits d x) (hx:x.xs≠[]):x.l=true:=by
 cases h with
 | mk ha hs hx' hy =>
  rename_i l s xs;cases l with
  | true=>rfl
  | false=>exact absurd (hx' rfl) hx
theorem qx {x y:It} (h:Fits d x) (hb:x.bytes.length<=4294967296) (hy:y∈x.xs):y.bytes.length<x.bytes.length:=by
 have hl:=vJ h (by intro e; rw [e] at hy; cases hy);have h1:=wZ h hb hl;have h2:=zK hy;have h3:=iU ((x.xs.map It.bytes).flatten).length true;omega
theorem EC {d:Nat} {x y:It} (h:Fits d x) (hy:y∈x.xs):Fits (d+1) y:=by
 cases h with
 | mk ha hs hx h=>exact h y hy
theorem DJ {x:It} (h:jL x=some k):dH k=true\/k.size=x.bytes.length/\k.size<32:=by
 unfold jL at h;split at h
 .split at h
  .rename_i h1;obtain rfl:=Option.some.inj h;exact .inr ⟨dM _,by rw [dM]; exact h1⟩
  .cases h
 .split at h
  .rename_i h1;obtain rfl:=Option.some.inj h;exact .inl h1
  .cases h
theorem vC:∀ {xs:List It} {ks:List aM},kU xs=some ks->ks.length=xs.length/\∀ k∈ks,∃ x∈xs,jL x=some k
 | [],ks,h=>by
  obtain rfl:=Option.some.inj h;exact ⟨rfl,λk hk=>by cases hk⟩
 | x::xs,ks,h=>by
  unfold kU at h;split at h
  .cases h
  .rename_i k hk;split at h
   .cases h
   .rename_i ks' hks;obtain rfl:=Option.some.inj h;obtain ⟨h1,h2⟩:=vC hks;refine ⟨by simp [h1],λj hj=>?_⟩;rcases List.mem_cons.1 hj with rfl | hj
    .exact ⟨x,List.mem_cons_self ..,hk⟩
    .obtain ⟨y,hy,e⟩:=h2 j hj;exact ⟨y,List.mem_cons_of_mem _ hy,e⟩
theorem qU:dH eB=true:=aK (.inl rfl)
theorem gB (k:aM):(dR k).length=16:=by simp [dR]
theorem kR {xs:List It} (h:i<xs.length):xs.getD i it0∈xs:=by
 rw [List.getD_eq_getElem?_getD,List.getElem?_eq_getElem h];exact List.getElem_mem _
theorem Bg {xs:List It} {n:Nd} (h:dO xs=some n):n.ks.length=16/\∀ k∈n.ks,dH k=true\/∃ x∈xs,jL x=some k:=by
 have hz:∀ k∈zks,dH k=true:=λk hk=>by
  rw [List.eq_of_mem_replicate hk]; exact qU
 unfold dO at h;by_cases h2:xs.length=2
 .rw [if_pos h2] at h;unfold fA at h;split at h
  .cases h
  .split at h
   .obtain rfl:=Option.some.inj h;exact ⟨rfl,λk hk=>.inl (hz k hk)⟩
   .obtain ⟨k,hk,rfl⟩:=Option.map_eq_some_iff.1 h;refine ⟨gB k,λj hj=>?_⟩;rcases List.mem_cons.1 hj with rfl | hj
    .exact .inr ⟨_,kR (by omega),hk⟩
    .rw [List.eq_of_mem_replicate hj]; exact .inl qU
 .rw [if_neg h2] at h;by_cases cY:xs.length=17
  .rw [if_pos cY] at h;unfold dK at h;split at h
   .cases h
   .rename_i ks hks;split at h
    .obtain rfl:=Option.some.inj h;obtain ⟨g1,g2⟩:=vC hks;refine ⟨by rw [g1,List.length_take]; omega,λk hk=>?_⟩;obtain ⟨x,hx,e⟩:=g2 k hk;exact .inr ⟨x,List.mem_of_mem_take hx,e⟩
    .cases h
  .rw [if_neg cY] at h; cases h
theorem Ad {s:aN} {x:It} {n:Nd} (hs:s.length<=4294967296) (h:dJ s = .ok x) (hn:dO x.xs=some n):n.ks.length=16/\∀ k∈n.ks,dH k=true\/(k.size<32/\k.size<s.length):=by
 obtain ⟨g1,g2,g3⟩:=jy hs h;obtain ⟨h1,h2⟩:=Bg hn;refine ⟨h1,λk hk=>?_⟩;rcases h2 k hk with hp | ⟨y,hy,e⟩
 .exact .inl hp
 .rcases DJ e with hp | ⟨e1,e2⟩
  .exact .inl hp
  .have:=qx g2 (by rw [g1]; exact hs) hy;rw [g1] at this;exact .inr ⟨e2,by omega⟩
theorem qz (s:aN) (hs:s.length<=4294967296):fE s=match dJ s with
  | .error _=>none
  | .ok x=>match dO x.xs with
   | none=>none
   | some n=>if dN bJ n then some n else none:=by
 rw [fE];cases hw:dJ s with
 | error c=>rfl
 | ok x =>
  dsimp only;cases hn:dO x.xs with
  | none=>rfl
  | some n =>
   dsimp only;obtain ⟨h1,h2⟩:=Ad hs hw hn;rw [IB (R':=bJ) (λk hk=>?_) h1];unfold bJ;rcases h2 k hk with hp | hb
   .rw [hp]; rfl
   .rw [dif_pos hb];simp [hb.1]
theorem mF {s:aN} (hs:s.length<=4294967296) {n:Nd} (h:fE s=some n):∃ x,dJ s = .ok x/\dO x.xs=some n/\dN bJ n=true:=by
 rw [qz s hs] at h;split at h
 .cases h
 .rename_i x hw;split at h
  .cases h
  .rename_i m hm;split at h
   .rename_i hmay;obtain rfl:=Option.some.inj h;exact ⟨x,hw,hm,hmay⟩
   .cases h
end No
end
section
open Go.RowKit
namespace Rf
open Rl Ni No
theorem FH {s:aN} (hs:s.length<=4294967296) {n:Nd} (h:fE s=some n):n.ks.length=16/\dN bJ n=true/\∀ k∈n.ks,dH k=true\/(k.size<32/\k.size<s.length):=by
 obtain ⟨x,h1,h2,h3⟩:=mF hs h;obtain ⟨g1,g2⟩:=Ad hs h1 h2;exact ⟨g1,h3,g2⟩
theorem gW {xs:List aM} (hj:j<xs.length):xs.getD j eB∈xs:=by
 have e:xs.getD j eB=xs[j]:=by simp [List.getD,hj]
 rw [e]; exact List.getElem_mem hj
theorem jV (h:dH k=true):k.size=0\/k.size=32:=of_decide_eq_true h
def zo (k:aM):Nat:=if k.size<32 then k.size else 0
theorem MI (h:dH k=true):zo k=0:=by
 unfold zo;have:=jV h;split <;> omega
theorem Lp {x:It} (h:jL x=some k):zo k<=x.bytes.length:=by
 rcases DJ h with hp | ⟨h1,h2⟩
 .rw [MI hp]; omega
 .unfold zo; rw [if_pos h2]; omega
theorem Gd:∀ {xs:List It} {ks:List aM},kU xs=some ks->(ks.map zo).sum<=((xs.map It.bytes).flatten).length
 | [],ks,h=>by
  obtain rfl:=Option.some.inj h;simp
 | x::xs,ks,h=>by
  unfold kU at h;split at h
  .cases h
  .rename_i k hk;split at h
   .cases h
   .rename_i ks' hks;obtain rfl:=Option.some.inj h;have h1:=Gd hks;have h2:=Lp hk;rw [List.map_cons,List.sum_cons,List.map_cons,List.flatten_cons,List.length_append];omega
theorem Ag:∀ (m:Nat),((List.replicate m eB).map zo).sum=0
 | 0=>rfl
 | m+1=>by rw [List.replicate_succ,List.map_cons,List.sum_cons,Ag m]; rfl
theorem NP (xs:List It) (q:Nat):(((xs.take q).map It.bytes).flatten).length<=((xs.map It.bytes).flatten).length:=by
 have h:(xs.map It.bytes).flatten=((xs.take q).map It.bytes).flatten++((xs.drop q).map It.bytes).flatten:=by
  rw [<-List.flatten_append,<-List.map_append,List.take_append_drop]
 rw [h,List.length_append];omega
theorem OU {xs:List It} {n:Nd} (h:dO xs=some n):(n.ks.map zo).sum<=((xs.map It.bytes).flatten).length:=by
 unfold dO at h;by_cases h2:xs.length=2
 .rw [if_pos h2] at h;unfold fA at h;split at h
  .cases h
  .split at h
   .obtain rfl:=Option.some.inj h;have:(zks.map zo).sum=0:=Ag 16;show (zks.map zo).sum<=_;omega
   .obtain ⟨k,hk,rfl⟩:=Option.map_eq_some_iff.1 h;have h1:=Lp hk;have h3:=zK (kR (xs:=xs) (i:=1) (by omega));show ((k::List.replicate 15 eB).map zo).sum<=_;rw [List.map_cons,List.sum_cons,Ag];omega
 .rw [if_neg h2] at h;by_cases cY:xs.length=17
  .rw [if_pos cY] at h;unfold dK at h;split at h
   .cases h
   .rename_i ks hks;split at h
    .obtain rfl:=Option.some.inj h;exact Nat.le_trans (Gd hks) (NP xs 16)
    .cases h
  .rw [if_neg cY] at h; cases h
theorem Mh {xs:List It} {n:Nd} (h:dO xs=some n):xs≠[]:=by
 rintro rfl;unfold dO at h;rw [if_neg (by decide),if_neg (by decide)] at h;cases h
theorem Us {s:aN} (hs:s.length<=4294967296) {n:Nd} (h:fE s=some n):(n.ks.map zo).sum+1<=s.length:=by
 obtain ⟨x,h1,h2,h3⟩:=mF hs h;obtain ⟨g1,g2,g3⟩:=jy hs h1;have hl:=vJ g2 (Mh h2);have hb:=wZ g2 (by rw [g1]; exact hs) hl;have ho:=OU h2;have hh:=iU ((x.xs.map It.bytes).flatten).length true;rw [g1] at hb;omega
end Rf
end
namespace Sh
def sN (x:Nat):Nat:=x/2+x%2*2147483648
def bg:Nat->Nat->Nat
 | x,0=>x
 | x,n+1=>bg (sN x) n
theorem PW (x:Nat) (h:x<4294967296):sN x<4294967296:=by unfold sN; omega
theorem bN:∀ (n x:Nat),x<4294967296->bg x n<4294967296
 | 0,_,h=>h
 | n+1,x,h=>bN n _ (PW x h)
theorem tN:∀ (n x:Nat),bg x (n+1)=sN (bg x n)
 | 0,_=>rfl
 | n+1,x=>by
  show bg (sN x) (n+1)=sN (bg (sN x) n);exact tN n (sN x)
theorem FJ:∀ (n x:Nat),x<4294967296->n<=32->bg x n=x/2 ^ n+x%2 ^ n*2 ^ (32-n)
 | 0,x,_,_=>by simp [bg,Nat.mod_one]
 | n+1,x,h,hn=>by
  rw [tN,FJ n x h (by omega)];unfold sN;have e1:2 ^ (32-n)=2*2 ^ (32-(n+1)):=by rw [<-Nat.pow_succ']; congr 1; omega
  have e2:(2:Nat) ^ (n+1)=2 ^ n*2:=Nat.pow_succ ..
  have e3:(2:Nat) ^ n*2 ^ (32-(n+1))=2147483648:=by
   rw [<-Nat.pow_add,show n+(32-(n+1))=31 by omega]
  have hp:0<2 ^ n:=Nat.pow_pos (by omega);generalize 2 ^ (32-(n+1))=A at *
  generalize 2 ^ n=B at *
  rw [e1,e2,<-Nat.div_div_eq_div_mul,Nat.mod_mul];generalize hq:x/B=q;generalize x%B=r;have h1:r*(2*A)=2*(r*A):=by rw [Nat.mul_left_comm]
  have h2:(r+B*(q%2))*A=r*A+q%2*2147483648:=by
   rw [Nat.add_mul,<-e3,Nat.mul_assoc,Nat.mul_left_comm (q%2) B A]
  rw [h1,h2];generalize r*A=z;omega
def gM:Nat->Nat->Nat
 | x,0=>x
 | x,n+1=>gM (x/2) n
theorem lU:∀ (n x:Nat),gM x n=x/2 ^ n
 | 0,x=>by simp [gM]
 | n+1,x=>by
  show gM (x/2) n=_;rw [lU n,Nat.div_div_eq_div_mul,Nat.pow_succ']
theorem yg:∀ (n x:Nat),gM x (n+1)=gM x n/2
 | 0,_=>rfl
 | n+1,x=>by
  show gM (x/2) (n+1)=gM (x/2) n/2;exact yg n (x/2)
def Hg:List Nat:=[
 1116352408,1899447441,3049323471,3921009573,961987163,1508970993,2453635748,2870763221,
 3624381080,310598401,607225278,1426881987,1925078388,2162078206,2614888103,3248222580,
 3835390401,4022224774,264347078,604807628,770255983,1249150122,1555081692,1996064986,
 2554220882,2821834349,2952996808,3210313671,3336571891,3584528711,113926993,338241895,
 666307205,773529912,1294757372,1396182291,1695183700,1986661051,2177026350,2456956037,
 2730485921,2820302411,3259730800,3345764771,3516065817,3600352804,4094571909,275423344,
 430227734,506948616,659060556,883997877,958139571,1322822218,1537002063,1747873779,
 1955562222,2024104815,2227730452,2361852424,2428436474,2756734187,3204031479,3329325298]
def kN (i:Nat):Nat:=Hg.getD i 0
end Sh
section
open Go.RowKit
namespace Sh
theorem Un {b:Int} (h:a=b):Ending.returned (.int .u64 a) = .returned (.int .u64 b):=by rw [h]
theorem sM (x:Nat) (hx:x<18446744073709551616) (w:World) :
  Calls prog 117 #[.int .u64 x] w λe w'=>e = .returned (.int .u64 (x%4294967296:Nat))/\w=w':=by
 go_enter func117,ntmps117;go_wp2;go_ret;exact ⟨Un (by omega),rfl⟩
theorem lC (x n:Nat) (hx:x<4294967296) (hn:n<=1000) (w:World) :
  Calls prog 115 #[.int .u64 x,.int .i64 n] w λe w'=>e = .returned (.int .u64 (bg x n:Nat))/\w=w':=by
 have HT:=hid (λk=>bN k x hx);have HS:=hid (λk=>tN k x);clear hx;go_enter func115,ntmps115;go_wp2;go_loop [0,5] (λv i=>∃ k:Nat,k<=n/\i = .int .i64 k/\v = .int .u64 (bg x k:Nat)) (λ_ i=>n-(intOf i).toNat)
 case atStart=>exact ⟨0,Nat.zero_le _,rfl,rfl⟩
 case round =>
  obtain ⟨k,hk,rfl,rfl⟩:=hrel;have hy:=HT.out k;have hs:=HS.out k;obtain ⟨y,hye⟩:=aA (bg x k)
  rw [hye] at hy hs ⊢;have HY:=hid hs;have HE:=hid hye;clear hs hye;by_cases hlt:k<n
  .go_wp2;go_round
   case rel=>exact ⟨k+1,by omega,by go_num,by rw [HY.out]; unfold sN; go_num⟩
   case measure=>simp [intOf]; omega
  .obtain rfl:k=n:=by omega
   go_wp2;go_ret;exact ⟨by rw [HE.out]; rfl,rfl⟩
theorem BZ (x n:Nat) (hx:x<4294967296) (hn:n<=1000) (w:World) :
  Calls prog 116 #[.int .u64 x,.int .i64 n] w λe w'=>e = .returned (.int .u64 (gM x n:Nat))/\w=w':=by
 have HT:Hid (∀ k,gM x k<4294967296):=hid (λk=>by rw [lU]; exact Nat.lt_of_le_of_lt (Nat.div_le_self _ _) hx);have HS:=hid (λk=>yg k x);clear hx;go_enter func116,ntmps116;go_wp2;go_loop [0,5] (λv i=>∃ k:Nat,k<=n/\i = .int .i64 k/\v = .int .u64 (gM x k:Nat)) (λ_ i=>n-(intOf i).toNat)
 case atStart=>exact ⟨0,Nat.zero_le _,rfl,rfl⟩
 case round =>
  obtain ⟨k,hk,rfl,rfl⟩:=hrel;have hy:=HT.out k;have hs:=HS.out k;obtain ⟨y,hye⟩:=aA (gM x k)
  rw [hye] at hy hs ⊢;have HY:=hid hs;have HE:=hid hye;clear hs hye;by_cases hlt:k<n
  .go_wp2;go_round
   case rel=>exact ⟨k+1,by omega,by go_num,by rw [HY.out]; go_num⟩
   case measure=>simp [intOf]; omega
  .obtain rfl:k=n:=by omega
   go_wp2;go_ret;exact ⟨by rw [HE.out]; rfl,rfl⟩
theorem vZ (x n:Nat) (N:Int) (hN:N=n) (hx:x<4294967296) (hn:n<=1000) (w:World) :
  Calls prog 115 #[.int .u64 x,.int .i64 N] w λe w'=>e = .returned (.int .u64 (bg x n:Nat))/\w=w':=by
 subst hN; exact lC x n hx hn w
theorem eH {rest:List Oper} {a:Act} (hgd:o.guard=none) (v:Value) (w':World)
  (hr:(execOp a.eval o).run P w = .ok (.value v) w') (h:wpList P ops Q rest (a.put o.dst v) w'):wpList P ops Q (o::rest) a w :=
 wpList_plain hgd λK hK=>by
  unfold Oper.wp;rw [hr];exact hK _ _ h
def wc (l:List Nat):aO:=(l.map λ(x:Nat)=>Value.int .u64 (x:Int)).toArray
theorem Lj (w:World) (l:List Nat) (t:TypeId) (i:Nat) (hi:i<l.length):(w.alloc (.cells (wc l) t)).cell? ⟨w.heap.size,i,none⟩=some (.int .u64 (l.getD i 0:Nat)):=by
 rw [World.cell?_alloc_mark];simp [wc,List.getD,hi]
theorem Xj:Hg.length=64:=by decide +kernel
theorem WT (i:Nat) (hi:i<64) (w:World) :
  Calls prog 118 #[.int .i64 i] w λe w'=>e = .returned (.int .u64 (kN i:Nat))/\Below w.heap.size w w':=by
 have hc:=Lj w Hg 121 i (by rw [Xj]; exact hi);obtain ⟨y,hy⟩:=aA (kN i)
 have hy2:Hg.getD i 0=y:=hy;rw [hy2] at hc;rw [hy];clear hy hy2;go_enter func118,ntmps118;go_wp2_with (refine eH (o:=⟨some 4,_,_,_,_,_⟩) rfl (.slice (some ⟨w.heap.size,0,none⟩) 64 64) (w.alloc (.cells (wc Hg) 121)) (by kernel_rfl) ?_)
 go_ret;exact ⟨rfl,aI.alloc aH _⟩
end Sh
end
namespace Sh
def ji (g:Nat->Nat) (i:Nat):Nat->Nat
 | 0=>0
 | j+1=>256*ji g i j+g (4*i+j)
theorem AB (g:Nat->Nat) (hg:∀ q,g q<256) (i:Nat):∀ j,ji g i j<256 ^ j
 | 0=>by simp [ji]
 | j+1=>by
  have:=AB g hg i j;have:=hg (4*i+j);rw [ji,Nat.pow_succ];omega
def sg0 (x:Nat):Nat:=bg x 7 ^^^ bg x 18 ^^^ gM x 3
def sg1 (x:Nat):Nat:=bg x 17 ^^^ bg x 19 ^^^ gM x 10
def xZ (g:Nat->Nat) (l:List Nat) (k:Nat):Nat :=
 if k<16 then ji g k 4 else (l.getD (k-16) 0+sg0 (l.getD (k-15) 0)+l.getD (k-7) 0+sg1 (l.getD (k-2) 0))%4294967296
def jR (g:Nat->Nat):Nat->List Nat
 | 0=>[]
 | k+1=>jR g k++[xZ g (jR g k) k]
theorem iQ (g:Nat->Nat):∀ k,(jR g k).length=k
 | 0=>rfl
 | k+1=>by rw [jR,List.length_append,iQ g k]; rfl
theorem PS (g:Nat->Nat) (hg:∀ q,g q<256) (l:List Nat) (k:Nat):xZ g l k<4294967296:=by
 unfold xZ;split
 .exact AB g hg k 4
 .exact Nat.mod_lt _ (by omega)
theorem uM (g:Nat->Nat) (hg:∀ q,g q<256):∀ k,∀ x∈jR g k,x<4294967296
 | 0,x,h=>by cases h
 | k+1,x,h=>by
  rw [jR] at h;rcases List.mem_append.1 h with h | h
  .exact uM g hg k x h
  .rw [List.mem_singleton.1 h]; exact PS g hg _ _
theorem getD_lt {l:List Nat} (h:∀ x∈l,x<4294967296) (j:Nat):l.getD j 0<4294967296:=by
 by_cases hj:j<l.length
 .rw [List.getD,List.getElem?_eq_getElem hj]; exact h _ (List.getElem_mem hj)
 .rw [List.getD,List.getElem?_eq_none (by omega)]; decide
theorem yO {a b c:Nat} (ha:a<4294967296) (hb:b<4294967296) (hc:c<4294967296):a ^^^ b ^^^ c<4294967296 :=
 Nat.xor_lt_two_pow (n:=32) (Nat.xor_lt_two_pow (n:=32) ha hb) hc
theorem Cr (x n:Nat) (h:x<4294967296):gM x n<4294967296:=by rw [lU]; exact Nat.lt_of_le_of_lt (Nat.div_le_self _ _) h
theorem TM (x:Nat) (h:x<4294967296):sg0 x<4294967296:=yO (bN _ _ h) (bN _ _ h) (Cr _ _ h)
theorem RP (x:Nat) (h:x<4294967296):sg1 x<4294967296:=yO (bN _ _ h) (bN _ _ h) (Cr _ _ h)
theorem Xc (k:Nat):kN k<4294967296:=getD_lt (by decide +kernel) k
def bs1 (e:Nat):Nat:=bg e 6 ^^^ bg e 11 ^^^ bg e 25
def bs0 (a:Nat):Nat:=bg a 2 ^^^ bg a 13 ^^^ bg a 22
def xO (e f g:Nat):Nat:=(e &&& f) ||| ((4294967295-e) &&& g)
def AY (a b c:Nat):Nat:=(a &&& b) ||| (a &&& c) ||| (b &&& c)
theorem RH (x:Nat) (h:x<4294967296):bs1 x<4294967296:=yO (bN _ _ h) (bN _ _ h) (bN _ _ h)
theorem Sn (x:Nat) (h:x<4294967296):bs0 x<4294967296:=yO (bN _ _ h) (bN _ _ h) (bN _ _ h)
theorem GQ (e f g:Nat) (he:e<4294967296):xO e f g<4294967296 :=
 Nat.or_lt_two_pow (n:=32) (Nat.lt_of_le_of_lt Nat.and_le_left he) (Nat.lt_of_le_of_lt Nat.and_le_left (by omega))
theorem Gt (a b c:Nat) (ha:a<4294967296) (hb:b<4294967296):AY a b c<4294967296 :=
 Nat.or_lt_two_pow (n:=32) (Nat.or_lt_two_pow (n:=32) (Nat.lt_of_le_of_lt Nat.and_le_left ha) (Nat.lt_of_le_of_lt Nat.and_le_left ha)) (Nat.lt_of_le_of_lt Nat.and_le_left hb)
def xN (k w e f g h:Nat):Nat:=(h+bs1 e+xO e f g+k+w)%4294967296
def yN (a b c:Nat):Nat:=(bs0 a+AY a b c)%4294967296
def rM (k w:Nat) (v:List Nat):List Nat :=
 [(xN k w (v.getD 4 0) (v.getD 5 0) (v.getD 6 0) (v.getD 7 0)+yN (v.getD 0 0) (v.getD 1 0) (v.getD 2 0))%4294967296,v.getD 0 0,v.getD 1 0,v.getD 2 0,
  (v.getD 3 0+xN k w (v.getD 4 0) (v.getD 5 0) (v.getD 6 0) (v.getD 7 0))%4294967296,v.getD 4 0,v.getD 5 0,v.getD 6 0]
def rA (ws:List Nat) (h:List Nat):Nat->List Nat
 | 0=>h
 | k+1=>rM (kN k) (ws.getD k 0) (rA ws h k)
theorem xY (ws h:List Nat) (hh:h.length=8):∀ k,(rA ws h k).length=8
 | 0=>hh
 | _+1=>rfl
theorem uL (ws h:List Nat) (hh:∀ x∈h,x<4294967296):∀ k,∀ x∈rA ws h k,x<4294967296
 | 0=>hh
 | k+1=>by
  have ih:=λj=>getD_lt (uL ws h hh k) j;intro x hx;simp only [rA,rM,List.mem_cons,List.not_mem_nil,or_false] at hx;rcases hx with rfl | rfl | rfl | rfl | rfl | rfl | rfl | rfl <;> first | exact ih _ | exact Nat.mod_lt _ (by omega)
def vK (h v:List Nat) (k:Nat):List Nat:=(List.range k).map λi=>(h.getD i 0+v.getD i 0)%4294967296
def kY (g:Nat->Nat) (h:List Nat):List Nat:=vK h (rA (jR g 64) h 64) 8
theorem Nn (h v:List Nat) (k:Nat):vK h v (k+1)=vK h v k++[(h.getD k 0+v.getD k 0)%4294967296]:=by simp [vK,List.range_succ]
theorem yu (h v:List Nat) (k:Nat):(vK h v k).length=k:=by simp [vK]
theorem Lr (h v:List Nat) (k:Nat):∀ x∈vK h v k,x<4294967296:=by
 intro x hx;simp only [vK,List.mem_map] at hx;obtain ⟨_,_,rfl⟩:=hx;exact Nat.mod_lt _ (by omega)
def uJ (h v:List Nat) (j:Nat):List Nat:=(List.range 8).map λi=>if i<j then (h.getD i 0+v.getD i 0)%4294967296 else h.getD i 0
theorem oo (h v:List Nat) (j:Nat):(uJ h v j).length=8:=by simp [uJ]
theorem Ny (h v:List Nat) (hh:h.length=8):uJ h v 0=h:=by
 apply List.ext_getElem
 .rw [oo,hh]
 .intro i h1 h2;simp [uJ,List.getD,h2]
theorem Qz (h v:List Nat):uJ h v 8=vK h v 8:=by
 unfold uJ vK;apply List.map_congr_left;intro i hi;rw [if_pos (List.mem_range.1 hi)]
theorem Mf (h v:List Nat) (j:Nat) (hj:j<8):(uJ h v j).getD j 0=h.getD j 0:=by simp [uJ,List.getD,hj]
theorem QA (h v:List Nat) (j:Nat) (hj:j<8):(uJ h v j).set j ((h.getD j 0+v.getD j 0)%4294967296)=uJ h v (j+1):=by
 apply List.ext_getElem
 .simp [oo]
 .intro i h1 h2;rw [oo] at h2;by_cases e:i=j
  .subst e; simp [uJ]
  .rw [List.getElem_set_ne (by omega)];have:i<j+1↔i<j:=by omega
   simp [uJ,this]
theorem eight (l:List Nat) (h:l.length=8):∃ x0 x1 x2 x3 x4 x5 x6 x7,l=[x0,x1,x2,x3,x4,x5,x6,x7]:=by
 match l,h with
 | [x0,x1,x2,x3,x4,x5,x6,x7],_=>exact ⟨_,_,_,_,_,_,_,_,rfl⟩
def iy (n:Nat):Nat:=(119-n%64)%64
def ni (l:aN) (k:Nat):aN:=l++[128]++List.replicate k 0
def beK (N k:Nat):aN:=((List.range k).map λj=>UInt8.ofNat (N/256 ^ j%256)).reverse
def iP (l:aN):aN:=ni l (iy l.length)++beK (8*l.length) 8
theorem JH (l:aN) (k:Nat):ni l (k+1)=ni l k++[0]:=by
 simp [ni,List.replicate_succ']
theorem qG (l:aN) (k:Nat):(ni l k).length=l.length+1+k:=by simp [ni]; omega
theorem Tg (N k:Nat):beK N (k+1)=[UInt8.ofNat (N/256 ^ k%256)]++beK N k:=by
 simp [beK,List.range_succ]
theorem uj (N k:Nat):(beK N k).length=k:=by simp [beK]
theorem uV (l:aN):(iP l).length=l.length+9+iy l.length:=by simp [iP,qG,uj]; omega
theorem Cj (l:aN):(iP l).length%64=0:=by rw [uV]; unfold iy; omega
def start:List Nat:=[1779033703,3144134277,1013904242,2773480762,1359893119,2600822924,528734635,1541459225]
def oQ (t:aN) (k q:Nat):Nat:=(t.getD (64*k+q) 0).toNat
def nS (t:aN):Nat->List Nat
 | 0=>start
 | k+1=>kY (oQ t k) (nS t k)
def mV (t:aN) (h:List Nat):Nat->List Nat
 | 0=>h
 | k+1=>kY (oQ t k) (mV t h k)
theorem Bw (t:aN):∀ k,mV t start k=nS t k
 | 0=>rfl
 | k+1=>by rw [mV,nS,Bw t k]
theorem xS (t:aN) (h:List Nat) (hh:h.length=8):∀ k,(mV t h k).length=8
 | 0=>hh
 | _+1=>yu _ _ _
theorem KO (t:aN) (h:List Nat) (hh:∀ x∈h,x<4294967296):∀ k,∀ x∈mV t h k,x<4294967296
 | 0=>hh
 | _+1=>Lr _ _ _
theorem xI {g g':Nat->Nat} (i:Nat):∀ j,(∀ q,q<4*i+j->g q=g' q)->ji g i j=ji g' i j
 | 0,_=>rfl
 | j+1,h=>by rw [ji,ji,xI i j (λq hq=>h q (by omega)),h _ (by omega)]
theorem zB {g g':Nat->Nat} (h:∀ q,q<64->g q=g' q):∀ k,jR g k=jR g' k
 | 0=>rfl
 | k+1=>by
  rw [jR,jR,zB h k];congr 2;unfold xZ;split
  .exact xI k 4 (λq hq=>h q (by omega))
  .rfl
theorem qB {g g':Nat->Nat} (h:∀ q,q<64->g q=g' q) (hs:List Nat):kY g hs=kY g' hs:=by
 unfold kY;rw [zB h]
theorem DC (t u:aN) (a:Nat) (ht:t.length=64*a) (h:List Nat):∀ b,mV (t++u) h (a+b)=mV u (mV t h a) b
 | 0=>by
  have:∀ k,k<=a->mV (t++u) h k=mV t h k:=by
   intro k
   induction k with
   | zero=>intro _; rfl
   | succ k ih =>
    intro hk;rw [mV,mV,ih (by omega)];refine qB (λq hq=>?_) _;unfold oQ;rw [List.getD,List.getD,List.getElem?_append_left (by omega)]
  exact this a aH
 | b+1=>by
  show mV (t++u) h (a+b+1)=_;rw [mV,mV,DC t u a ht h b];refine qB (λq _=>?_) _;unfold oQ;rw [List.getD,List.getD,List.getElem?_append_right (by omega),ht,show 64*(a+b)+q-64*a=64*b+q by omega]
theorem uX (t:aN):∀ k,(nS t k).length=8
 | 0=>rfl
 | _+1=>yu _ _ _
theorem Gw (t:aN):∀ k,∀ x∈nS t k,x<4294967296
 | 0=>by show ∀ x∈start,x<4294967296; decide
 | _+1=>Lr _ _ _
def lu (s:aM) (q:Nat):Nat:=(s.data.toList.getD q 0).toNat
theorem Cn (s:aM) (q:Nat):lu s q<256:=UInt8.toNat_lt _
theorem wU (s:aM) (q:Nat) (h:q<s.size):s[q].toNat=lu s q:=by
 have hl:q<s.data.toList.length:=by simpa using h
 unfold lu;rw [List.getD,List.getElem?_eq_getElem hl]; rfl
def sW (h:List Nat) (i:Nat):Nat:=h.getD (i/4) 0/256 ^ (3-i%4)%256
def tX (h:List Nat) (k:Nat):aN:=(List.range k).map λi=>UInt8.ofNat (sW h i)
theorem Pf (h:List Nat) (k:Nat):tX h (k+1)=tX h k++[UInt8.ofNat (sW h k)]:=by simp [tX,List.range_succ]
theorem yc (h:List Nat) (k:Nat):(tX h k).length=k:=by simp [tX]
def ze (l:aN):aN:=tX (nS (iP l) ((iP l).length/64)) 32
theorem oH (l:aN):(ze l).length=32:=yc _ _
end Sh
section
open Go.RowKit
namespace Sh
theorem jA (v:Int) (x:Nat) (hx:x<256) (hv:v=x) (w:World) :
  Sem.run prog (convert 35 9 (Value.slice (some ⟨w.heap.size,0,none⟩) 1 1)) (w.alloc (.cells #[.int .u8 v] 5)) = .ok (.string ⟨#[UInt8.ofNat x]⟩) (w.alloc (.cells #[.int .u8 v] 5)):=by
 subst hv;have h:=run_convert_bytes_back (P:=prog) (w.alloc (.cells #[.int .u8 x] 5)) 35 9 5 ⟨w.heap.size,0,none⟩ 1 [UInt8.ofNat x] underlying35 underlying5 underlying9
  (λj hj=>by
   obtain rfl:j=0:=by simpa using hj
   have e:(UInt8.ofNat x).toNat=x:=by simp; omega
   simp [Addr.add,e])
 exact h
theorem Bh (x y:aN):(⟨x.toArray⟩:aM)++⟨y.toArray⟩=⟨(x++y).toArray⟩:=by
 have h:((⟨x.toArray⟩:aM)++⟨y.toArray⟩).data=(x++y).toArray:=by
  rw [ByteArray.data_append]; simp
 cases e:((⟨x.toArray⟩:aM)++⟨y.toArray⟩) with
 | mk d=>rw [e] at h; simp only at h; rw [h]
theorem dM (x:aN):(⟨x.toArray⟩:aM).size=x.length:=by show x.toArray.size=_; simp
theorem QV (l:aN) (hl:l.length<=1000000) (w:World) :
  Calls prog 70 #[.string ⟨l.toArray⟩] w λe w'=>e = .returned (.string ⟨(iP l).toArray⟩)/\Below w.heap.size w w':=by
 obtain ⟨s,hs⟩:=aA (⟨l.toArray⟩:aM)
 have hsz:s.size=l.length:=by rw [<-hs,dM]
 have HST:Hid (s++⟨#[128]⟩=⟨(ni l 0).toArray⟩):=hid (by rw [<-hs]; exact (Bh l [128]).trans (by simp [ni]));have hle:s.size<=1000000:=by omega
 rw [hs];have HZ:=hid hsz;clear hs hsz;go_enter func70,ntmps70;go_wp2;go_loop [3] (λt=>∃ k:Nat,Hid (k<=iy l.length)/\t = .string ⟨(ni l k).toArray⟩) (λt=>match t with | .string b=>1100000-b.size | _=>0)
 case atStart=>exact ⟨0,hid (Nat.zero_le _),by rw [HST.out]⟩
 case round =>
  obtain ⟨k,HK,rfl⟩:=hrel;have hz:iy l.length<64:=Nat.mod_lt _ (by omega);have hk:=HK.out;have hsz:(⟨(ni l k).toArray⟩:aM).size=l.length+1+k:=by rw [dM,qG]
  have HN:Hid ((⟨(ni l k).toArray⟩:aM)++⟨#[0]⟩=⟨(ni l (k+1)).toArray⟩):=hid (by rw [JH]; exact Bh _ [0]);have HZ2:Hid ((⟨(ni l (k+1)).toArray⟩:aM).size=l.length+1+(k+1)):=hid (by rw [dM,qG]);by_cases hlt:k<iy l.length
  .have hne:(((l.length+1+k:Nat):Int)%64 != 56)=true:=by
    unfold iy at hlt; simp; omega
   obtain ⟨T,hT⟩:=aA (⟨(ni l k).toArray⟩:aM)
   obtain ⟨L,hL⟩:=aA (l.length+1+k)
   rw [hT] at hsz HN ⊢;rw [hL] at hsz hne;have tI:L<=1000100:=by have:=HZ.out; omega
   have HL:=hid hL;have IH:=hid hlt;clear hT hL hk hlt hz;go_wp2;go_round
   case rel=>exact ⟨k+1,hid (by have:=IH.out; omega),by rw [HN.out]⟩
   case measure =>
    show 1100000-(T++⟨#[0]⟩:aM).size<1100000-T.size;rw [HN.out,HZ2.out,hsz];have:=HL.out;omega
  .have hkz:k=iy l.length:=by omega
   have hne:(((l.length+1+k:Nat):Int)%64 != 56)=false:=by
    rw [hkz]; unfold iy; simp; omega
   obtain ⟨T,hT⟩:=aA (⟨(ni l k).toArray⟩:aM)
   obtain ⟨L,hL⟩:=aA (l.length+1+k)
   have HT:Hid (T++⟨(beK (8*l.length) 8).toArray⟩=⟨(iP l).toArray⟩):=hid (by
    rw [<-hT,Bh,hkz]; rfl)
   rw [hT] at hsz ⊢;rw [hL] at hsz hne;have tI:L<=1000100:=by have:=HZ.out; omega
   clear hT hL hk hlt hz HN HZ2 hkz HK HST;go_wp2;go_loopw [4,5,6] (λn d i wr=>∃ j:Nat,j<=8/\i = .int .i64 j/\n = .int .u64 (8*s.size/256 ^ j:Nat)/\d = .string ⟨(beK (8*s.size) j).toArray⟩/\Below w.heap.size w wr) (λ_ _ i _=>8-(intOf i).toNat)
   case atStart=>exact ⟨0,Nat.zero_le _,rfl,by simp,rfl,aI⟩
   case round =>
    obtain ⟨j,hj,rfl,rfl,rfl,hB⟩:=hrel;obtain ⟨m,hm⟩:=aA (8*s.size/256 ^ j)
    have Z0:m<18446744073709551616:=by
     rw [<-hm]; exact Nat.lt_of_le_of_lt (Nat.div_le_self _ _) (by omega)
    have HD:Hid (8*s.size/256 ^ (j+1)=m/256):=hid (by rw [Nat.pow_succ,<-Nat.div_div_eq_div_mul,hm]);have HS:Hid ((⟨#[UInt8.ofNat (m%256)]⟩:aM)++⟨(beK (8*s.size) j).toArray⟩=⟨(beK (8*s.size) (j+1)).toArray⟩):=hid (by
     rw [Tg,hm]; exact Bh [_] _)
    have Z1:(⟨(beK (8*s.size) j).toArray⟩:aM).size<=8:=by rw [dM,uj]; exact hj
    obtain ⟨E,hE⟩:=aA (⟨(beK (8*s.size) j).toArray⟩:aM)
    obtain ⟨C,hC⟩:=aA (⟨#[UInt8.ofNat (m%256)]⟩:aM)
    have hCs:C.size<=1:=by rw [<-hC]; exact aH
    have hcv:=jA ((m:Int)%256) (m%256) (by omega) (by omega) wr;rw [hC] at hcv HS;rw [hE] at HS Z1;rw [hm,hE];have HE:=hid hE;clear hm hE hC;by_cases hlt:j<8
    .go_wp2;go_roundw
     case rel=>exact ⟨j+1,by omega,by go_num,by rw [HD.out]; go_num,by rw [HS.out],hB.alloc hB.size _⟩
     case measure=>simp [intOf]; omega
    .obtain rfl:j=8:=by omega
     have HF:Hid (T++E=⟨(iP l).toArray⟩):=hid (by rw [<-HT.out,<-HE.out,HZ.out]);clear hcv;go_wp2;go_ret;exact ⟨by rw [<-HF.out]; rfl,hB⟩
end Sh
end
section
open Go.RowKit
namespace Sm
open Sh
theorem VO {b:Int} (h:a=b):Ending.returned (.int .u32 a) = .returned (.int .u32 b):=by rw [h]
theorem Uq (n:Nat) (h1:1<=n) (h2:n<=31):bits .and .u64 (IntKind.u64.wrap (-(n:Int))) 31=32-(n:Int):=by
 have e:IntKind.u64.wrap (-(n:Int))=((18446744073709551616-n:Nat):Int):=by rw [IntKind.wrap_u64]; omega
 rw [e,show (31:Int)=((31:Nat):Int) from rfl,u64_and_nat _ _ (by omega) (by omega),nat_mask5];omega
theorem Wt (x n:Nat) (hx:x<4294967296) (h2:n<=31) :
  bits .or .u32 ((x:Int)*2 ^ (32-n)%4294967296) ((x:Int)/2 ^ (32-(32-n)))=(bg x n:Nat):=by
 have e0:32-(32-n)=n:=by omega
 have hp:2 ^ n*2 ^ (32-n)=4294967296:=by rw [<-Nat.pow_add,show n+(32-n)=32 by omega]
 have e1:x*2 ^ (32-n)%4294967296=x%2 ^ n*2 ^ (32-n):=by rw [<-hp,Nat.mul_mod_mul_right]
 have hb:x/2 ^ n<2 ^ (32-n):=by
  rw [Nat.div_lt_iff_lt_mul (Nat.pow_pos (by omega)),Nat.mul_comm,hp]; exact hx
 have ha:x*2 ^ (32-n)%4294967296<4294967296:=Nat.mod_lt _ (by omega);have c1:((x:Int)*2 ^ (32-n)%4294967296)=((x*2 ^ (32-n)%4294967296:Nat):Int):=by simp
 have c2:((x:Int)/2 ^ n)=((x/2 ^ n:Nat):Int):=by simp
 rw [e0,c1,c2,u32_or_nat _ _ ha (Nat.lt_of_le_of_lt (Nat.div_le_self _ _) hx),e1,nat_join (32-n) _ _ (Nat.mul_mod_left _ _) hb,FJ n x hx (by omega),Nat.add_comm]
theorem Uo (x n:Nat) (hx:x<4294967296) (h1:1<=n) (h2:n<=31) (w:World) :
  Calls prog 181 #[.int .u32 x,.int .i64 (-(n:Int))] w λe w'=>e = .returned (.int .u32 (bg x n:Nat))/\w=w':=by
 have hA:=Uq n h1 h2;have HO:=hid (Wt x n hx h2);go_enter func181,ntmps181;go_wp2;go_ret;exact ⟨VO HO.out,rfl⟩
theorem fK (x n:Nat) (N:Int) (hN:N=n) (hx:x<4294967296) (h1:1<=n) (h2:n<=31) (w:World) :
  Calls prog 170 #[.int .u32 x,.int .i64 N] w λe w'=>e = .returned (.int .u32 (bg x n:Nat))/\w=w':=by
 subst hN;have HR:=hid (Uo x n hx h1 h2);go_enter func170,ntmps170;go_wp2_with (go_at_call 181; refine (HR.out _).mono ?_; rintro e w1 ⟨rfl,rfl⟩)
 go_ret;exact ⟨rfl,rfl⟩
def upB (m n k:Nat):Nat:=n/256 ^ (m-1-k)%256
def oC (w:World) (g off m n:Nat):Nat->World
 | 0=>w
 | k+1=>(oC w g off m n k).setCell ⟨g,off+k,none⟩ (.int .u8 (upB m n k:Nat))
theorem sj {w:World} {g off m n N:Nat} {t:TypeId} {f:Nat->Value} (h:w.rowIs g t N f):∀ k,(oC w g off m n k).rowIs g t N (λj=>if off<=j/\j<off+k then .int .u8 (upB m n (j-off):Nat) else f j)
 | 0=>h.congr (λj _=>by rw [if_neg (by omega)])
 | k+1=>((sj h k).set (off+k) _).congr (λj _=>by
  by_cases e:j=off+k
  .subst e; simp
  .by_cases e2:off<=j/\j<off+k
   .rw [if_neg e,if_pos e2,if_pos (by omega)]
   .rw [if_neg e,if_neg e2,if_neg (by omega)])
theorem rQ {B:Nat} {w0 w:World} (h:Below B w0 w) {g off m n:Nat} (hg:B<=g):∀ k,Below B w0 (oC w g off m n k)
 | 0=>h
 | k+1=>(rQ h hg k).setCell (p:=⟨g,off+k,none⟩) hg _
theorem yE (g off m c n N:Nat) (t:TypeId) (f:Nat->Value) (w:World) (h:w.rowIs g t N f) (hm:off+m<=N) (sA:m<=8) :
  Calls prog 108 #[.slice (some ⟨g,off,none⟩) m c,.int .u64 n] w λe w'=>e = .returned (.tuple #[])/\w'=oC w g off m n m:=by
 have Ff:=hid (λk=>sj (off:=off) (m:=m) (n:=n) h k);clear h;go_enter func108,ntmps108;go_wp2;go_loopw [7] (λi wr=>∃ k:Nat,k<=m/\i = .int .i64 k/\wr=oC w g off m n k) (λi _=>m-(intOf i).toNat)
 case atStart=>exact ⟨0,Nat.zero_le _,rfl,rfl⟩
 case round =>
  obtain ⟨k,hk,rfl,rfl⟩:=hrel;by_cases hlt:k<m
  .have hr:=Ff.out k;have hc:=hr.cell (i:=off+k) (by omega);rw [if_neg (by omega)] at hc;have hf:=hr.frozen (off+k);clear hr;have HN:Hid ((oC w g off m n k).setCell ⟨g,off+k,none⟩ (.int .u8 (upB m n k:Nat))=oC w g off m n (k+1)):=hid rfl;obtain ⟨wk,hwk⟩:=aA (oC w g off m n k)
   rw [hwk] at hc hf HN ⊢;clear hwk;go_wp2;have HE:((n:Int)/2 ^ (8*(m-1-k))%256)=(upB m n k:Nat):=by
    unfold upB;rw [show 2 ^ (8*(m-1-k))=((256 ^ (m-1-k):Nat):Int) by rw [Int.natCast_pow,show ((256:Nat):Int)=2 ^ 8 from rfl,<-Int.pow_mul]];simp
   go_roundw
   case rel=>exact ⟨k+1,by omega,by go_num,by rw [HE,HN.out]⟩
   case measure=>simp [intOf]; omega
  .obtain rfl:k=m:=by omega
   have HW:Hid (oC w g off k n k=oC w g off k n k):=hid rfl;obtain ⟨wk,hwk⟩:=aA (oC w g off k n k)
   have Z2:=hid hwk;rw [hwk];clear Ff hwk HW;go_wp2;go_end0;exact ⟨rfl,Z2.out.symm⟩
def pW (n:Nat):aN:=[128]++List.replicate (iy n) 0++beK (8*n) 8
theorem MX (l:aN):iP l=l++pW l.length:=by simp [iP,ni,pW]
theorem rO (n:Nat):(pW n).length=iy n+9:=by simp [pW,uj]
theorem Qq (n j:Nat) (h:j<8):((beK n 8).getD j 0).toNat=upB 8 n j:=by
 unfold upB;have:(beK n 8).getD j 0=UInt8.ofNat (n/256 ^ (7-j)%256):=by
  unfold beK;rw [List.getD,List.getElem?_reverse (by simpa using h)];simp only [List.length_map,List.length_range,List.getElem?_map];rw [List.getElem?_range (by omega)];simp only [Option.map_some,Option.getD_some]
 rw [this];simp
theorem Pt (n j:Nat) (h:j<iy n+9):((pW n).getD j 0).toNat=if j=0 then 128 else if 1+iy n<=j then upB 8 (8*n) (j-(1+iy n)) else 0:=by
 unfold pW;by_cases h0:j=0
 .subst h0; simp
 .rw [if_neg h0];by_cases h1:1+iy n<=j
  .rw [if_pos h1,List.getD,List.getElem?_append_right (by simp; omega)];rw [<-Qq _ _ (by omega),List.getD];congr 3;simp;omega
  .rw [if_neg h1,List.getD,List.getElem?_append_left (by simp; omega),List.getElem?_append_right (by simp; omega)];simp only [List.length_singleton,List.getElem?_replicate];rw [if_pos (by omega)];rfl
theorem Ev (n:Nat) (hn:n<=1000000) (w:World) :
  Calls prog 107 #[.int .i64 n] w λe w'=>e = .returned (.string ⟨(pW n).toArray⟩)/\Below w.heap.size w w':=by
 have hz:iy n<64:=Nat.mod_lt _ (by omega);obtain ⟨z,I5⟩:=aA (iy n)
 obtain ⟨m,hm⟩:=aA (z+9)
 have hmk:=run_make_row' (P:=prog) 35 5 (.int .u8 0) 1 underlying35 Bu.wH rfl .i64 .i64 m (by omega) (by omega);have e:((m:Nat):Int)=1+(z:Int)+8:=by omega
 rw [e] at hmk;have hr:(w.alloc (.cells ((madeCells #[Value.int IntKind.u8 0] m).setIfInBounds 0 (.int .u8 128)) 5)).rowIs w.heap.size 5 m (λj=>if j=0 then .int .u8 128 else .int .u8 0):=by
  have h0:=(World.rowIs_made w (.int .u8 0) m 5).set 0 (.int .u8 128);rw [World.setCell_alloc_at _ _ _ _ _ rfl] at h0;exact h0
 have sA:m-(1+z)=8:=by omega
 have hc0:=(World.rowIs_made w (.int .u8 0) m 5).cell (i:=0) (by omega);have hf0:=(World.rowIs_made w (.int .u8 0) m 5).frozen 0;have HL:=yE w.heap.size (1+z) (m-(1+z)) (m-(1+z)) (8*n) m 5 _ _ hr (by omega) (by omega);rw [show ((8*n:Nat):Int)=8*(n:Int) by omega] at HL;have HL:=hid HL;have hR:=sj (off:=1+z) (m:=m-(1+z)) (n:=8*n) hr (m-(1+z))
 have hB:=rQ (g:=w.heap.size) (off:=1+z) (m:=m-(1+z)) (n:=8*n) ((Below.refl w.heap.size w).alloc aH (.cells ((madeCells #[Value.int IntKind.u8 0] m).setIfInBounds 0 (.int .u8 128)) 5)) aH (m-(1+z));obtain ⟨W,hW⟩:=aA (oC (w.alloc (.cells ((madeCells #[Value.int IntKind.u8 0] m).setIfInBounds 0 (.int .u8 128)) 5)) w.heap.size (1+z) (m-(1+z)) (8*n) (m-(1+z)))
 rw [hW] at hR hB HL;have hI:bf W (some ⟨w.heap.size,0,none⟩) m m (pW n):=by
  refine bf.ofRow (pW n) (by unfold maxLen; omega) hR (by rw [rO,I5,hm]) (λj hj=>?_);rw [Pt n j (by omega),I5,sA];by_cases h0:j=0
  .subst h0; simp
  .by_cases h1:1+z<=j
   .rw [if_pos ⟨h1,by omega⟩,if_neg h0,if_pos h1]
   .rw [if_neg (by omega),if_neg h0,if_neg h0,if_neg h1]; rfl
 have hcv:=gY hI;have hzi:(119-(n:Int)%64)%64=z:=by unfold iy at I5; omega
 clear hr e hR hI hW I5 sA;go_enter func107,ntmps107;go_wp2_with fail
 refine HL.out.mono ?_;rintro e w1 ⟨rfl,rfl⟩;clear hmk hc0 hf0;go_wp2;go_ret;exact ⟨rfl,hB⟩
def ac (l:List Nat):aO:=(l.map λ(x:Nat)=>Value.int .u32 (x:Int)).toArray
theorem bG (l:List Nat):(ac l).size=l.length:=by simp [ac]
theorem Jg (l:List Nat) (j:Nat) (h:j<l.length):(ac l)[j]? = some (.int .u32 (l.getD j 0:Nat)):=by simp [ac,List.getD,h]
theorem je (l:List Nat):(ac l).all (·.oneCell')=true:=by
 rw [Array.all_eq_true];intro i hi;simp [ac];rfl
theorem nC:(prog.info? 211).map (·.size)=some 64:=by kernel_rfl
theorem jJ:(prog.info? 173).map (·.size)=some 8:=by kernel_rfl
theorem Xa {f:Nat->Value} (l:List Nat) (h:w.rowIs g t n f) (hl:l.length=n) (hf:∀ j,j<n->f j = .int .u32 (l.getD j 0:Nat)):w.heap[g]? = some (.cells (ac l) t (0,0)):=by
 obtain ⟨c,hg,hs,hc⟩:=h;have:c=ac l:=by
  apply Array.ext
  .rw [hs,bG,hl]
  .intro i hi _;have h1:=hc i (by omega);rw [hf i (by omega),<-Jg l i (by omega)] at h1;have h2:c[i]? = some c[i]:=Array.getElem?_eq_getElem hi;rw [h2] at h1;have h3:i<(ac l).size:=by rw [bG]; omega
   rw [Array.getElem?_eq_getElem h3] at h1;exact Option.some.inj h1
 rw [hg,this]
theorem bI (h:Below B w w1) (hg:B<=g) (cs:aO):Below B w (w1.setRow g cs) :=
 h.trans ⟨rfl,rfl,rfl,by simp,λk hk=>setRow_other w1 g k cs (by omega)⟩
def Row (w:World) (g:Nat) (t:TypeId) (n:Nat) (l:List Nat):Prop:=w.rowIs g t n (λj=>.int .u32 (l.getD j 0:Nat))
theorem Row.put {l:List Nat} (h:Row w g t n l) (x:Nat):Row (w.setCell ⟨g,l.length,none⟩ (.int .u32 x)) g t n (l++[x]) :=
 (World.rowIs.set h l.length _).congr λj _=>by
  by_cases e:j=l.length
  .subst e; simp
  .rw [if_neg e];by_cases e2:j<l.length
   .simp [List.getD,List.getElem?_append_left e2]
   .rw [List.getD,List.getElem?_eq_none (by omega),List.getD,List.getElem?_eq_none (by simp; omega)]
def za (n:Nat):aO:=ac (List.replicate n 0)
theorem Row.zero (w:World) (t:TypeId) (n:Nat):Row (w.alloc (.cells (za n) t)) w.heap.size t n []:=by
 have h:=World.rowIs_alloc w (za n) t (λ_=>.int .u32 (([]:List Nat).getD 0 0:Nat)) (λi hi=>by
  have hi':i<n:=by simpa [za,ac] using hi
  simp [za,ac,hi'])
 have e:(za n).size=n:=by simp [za,ac]
 rw [e] at h;exact h.congr λj _=>by simp
theorem jE (ev:Operand->Value) (o:Oper) (ho:o.op = .alloc 211) (w:World) :
  (execOp ev o).run prog w = .ok (.value (.pointer (some ⟨w.heap.size,0,none⟩))) (w.alloc (.cells (za 64) 211)):=by
 unfold execOp;rw [ho];kernel_rfl
theorem kQ (ev:Operand->Value) (o:Oper) (ho:o.op = .alloc 173) (w:World) :
  (execOp ev o).run prog w = .ok (.value (.pointer (some ⟨w.heap.size,0,none⟩))) (w.alloc (.cells (za 8) 173)):=by
 unfold execOp;rw [ho];kernel_rfl
theorem Xx (a b:Nat) (ha:a<256) (hb:b<256):bits .or .u32 ((a:Int)*16777216) ((b:Int)*65536)=((a*16777216+b*65536:Nat):Int):=by
 have:=u32_or_nat (a*16777216) (b*65536) (by omega) (by omega);rw [nat_join 24 _ _ (by omega) (by omega)] at this;simpa using this
theorem Xy (a c:Nat) (ha:a<65536) (hc:c<256):bits .or .u32 ((a*65536:Nat):Int) ((c:Int)*256)=((a*65536+c*256:Nat):Int):=by
 have:=u32_or_nat (a*65536) (c*256) (by omega) (by omega);rw [nat_join 16 _ _ (by omega) (by omega)] at this;simpa using this
theorem Xt (a d:Nat) (ha:a<16777216) (hd:d<256):bits .or .u32 ((a*256:Nat):Int) (d:Int)=((a*256+d:Nat):Int):=by
 have:=u32_or_nat (a*256) d (by omega) (by omega);rw [nat_join 8 _ _ (by omega) (by omega)] at this;simpa using this
theorem Va (g:Nat->Nat) (k:Nat):ji g k 4=((g (4*k)*256+g (4*k+1))*256+g (4*k+2))*256+g (4*k+3):=by
 simp only [ji,Nat.add_zero];omega
theorem EI (t:TypeId) (ht:prog.underlying t=some .string) (s:aM) (i v:Nat) (n:Int) (hn:n=i) (hi:i<s.size) (hv:s[i].toNat=v) (w:World) :
  (Instr.index t (.string s) (.int .i64 n)).run prog w = .ok (.int .u8 v) w:=by
 subst hn hv;rw [run_index_string w _ _ _ _ ht];simp [hi]
theorem nD (ev:Operand->Value) (o:Oper) (T:TypeId) (hT:prog.underlying T=some .string) (s:aM) (i v:Nat) (n:Int) (ho:∃ x y,o.op = .index T x y/\ev x = .string s/\ev y = .int .i64 n) (hn:n=i)
  (hv:∃ h:i<s.size,s[i].toNat=v) (w:World):(execOp ev o).run prog w = .ok (.value (.int .u8 v)) w:=by
 obtain ⟨x,y,ho,hx,hy⟩:=ho;have h:=EI T hT s i v n hn hv.1 hv.2 w;unfold execOp;rw [ho];simp only [hx,hy];simp [h]
theorem Es (s:aM) (hs:64<=s.size) (hsm:s.size<=1000000) (w:World) :
  Calls prog 148 #[.string s] w λe w'=>e = .returned (.agg (ac (jR (lu s) 64)))/\Below w.heap.size w w':=by
 have HQ:=hid (wU s);have HG:=hid (Cn s);have hR0:=Row.zero (w.alloc (.cells (za 64) 211)) 211 64;rw [show (w.alloc (.cells (za 64) 211)).heap.size=w.heap.size+1 by simp] at hR0;have io:=hid hR0;clear hR0;obtain ⟨g,hg⟩:=aA (lu s)
 rw [hg] at HQ HG ⊢;clear hg;go_enter func148,ntmps148;go_wp2_with (refine eH rfl _ _ (jE _ _ rfl _) ?_)
 go_loopw [8] (λi wr=>∃ k:Nat,k<=16/\i = .int .i64 k/\Hid (Row wr (w.heap.size+1) 211 64 (jR g k))/\Below (w.heap.size+1) (w.alloc (.cells (za 64) 211)) wr) (λi _=>16-(intOf i).toNat)
 case atStart=>exact ⟨0,by omega,rfl,io,aI.alloc (by simp) _⟩
 case round =>
  obtain ⟨k,hk,rfl,HR,hB⟩:=hrel;by_cases hlt:k<16
  .have p0:4*k<s.size:=by omega
   have p1:4*k+1<s.size:=by omega
   have p2:4*k+2<s.size:=by omega
   have p3:4*k+3<s.size:=by omega
   have q0:=HQ.out _ p0;have q1:=HQ.out _ p1;have q2:=HQ.out _ p2;have q3:=HQ.out _ p3;have g0:=HG.out (4*k);have g1:=HG.out (4*k+1);have g2:=HG.out (4*k+2);have g3:=HG.out (4*k+3);have hc:=HR.out.cell (i:=k) (by omega);have hf:=HR.out.frozen k;have HN:Hid (Row (wr.setCell ⟨w.heap.size+1,k,none⟩ (.int .u32 (ji g k 4:Nat))) (w.heap.size+1) 211 64 (jR g (k+1))):=hid (by
    have:=Row.put HR.out (ji g k 4);rw [iQ] at this;rw [jR,xZ,if_pos hlt];exact this)
   have HW:=sec (Va g k);obtain ⟨a,ha⟩:=aA (g (4*k))
   obtain ⟨b,hb⟩:=aA (g (4*k+1))
   obtain ⟨c,hc'⟩:=aA (g (4*k+2))
   obtain ⟨d,hd⟩:=aA (g (4*k+3))
   rw [ha,hb,hc',hd] at HW;rw [ha] at q0 g0;rw [hb] at q1 g1;rw [hc'] at q2 g2;rw [hd] at q3 g3;clear ha hb hc' hd;have o1:=Xx a b g0 g1;have o2:=Xy (a*256+b) c (by omega) g2;have o3:=Xt ((a*256+b)*256+c) d (by omega) g3;rw [show (a*256+b)*65536=a*16777216+b*65536 by omega] at o2;rw [show ((a*256+b)*256+c)*256=a*16777216+b*65536+c*256 by omega] at o3;rw [show a*16777216+b*65536+c*256+d=ji g k 4 by rw [HW.out]; omega] at o3;obtain ⟨y2,hy2⟩:=aA (a*16777216+b*65536+c*256)
   rw [hy2] at o2 o3;obtain ⟨y1,hy1⟩:=aA (a*16777216+b*65536)
   rw [hy1] at o1 o2;clear hy1 hy2;obtain ⟨W,V6⟩:=aA (ji g k 4)
   rw [V6] at o3 HN;clear V6 HW;have O1:=sec o1;have O2:=sec o2;have O3:=sec o3;clear o1 o2 o3;have l4:(0:Int)<=(k:Int):=by omega
   have l5:(k:Int)<64:=by omega
   have va:IntKind.u32.wrap (a:Int)=a:=by rw [IntKind.wrap_u32']; omega
   have vb:IntKind.u32.wrap (b:Int)=b:=by rw [IntKind.wrap_u32']; omega
   have vc:IntKind.u32.wrap (c:Int)=c:=by rw [IntKind.wrap_u32']; omega
   have vd:IntKind.u32.wrap (d:Int)=d:=by rw [IntKind.wrap_u32']; omega
   have ZE:IntKind.u32.wrap ((a:Int)*16777216)=(a:Int)*16777216:=by rw [IntKind.wrap_u32']; omega
   have ZF:IntKind.u32.wrap ((b:Int)*65536)=(b:Int)*65536:=by rw [IntKind.wrap_u32']; omega
   have ZG:IntKind.u32.wrap ((c:Int)*256)=(c:Int)*256:=by rw [IntKind.wrap_u32']; omega
   have w0:IntKind.i64.wrap (4*(k:Int))=4*(k:Int):=IntWalk.i64_in _ (by omega);have w1:IntKind.i64.wrap (4*(k:Int)+1)=4*(k:Int)+1:=IntWalk.i64_in _ (by omega);have w2:IntKind.i64.wrap (4*(k:Int)+2)=4*(k:Int)+2:=IntWalk.i64_in _ (by omega);have w3:IntKind.i64.wrap (4*(k:Int)+3)=4*(k:Int)+3:=IntWalk.i64_in _ (by omega);have Q0:Sec (∃ h:4*k<s.size,s[4*k].toNat=a):=sec ⟨p0,q0⟩;have Q1:Sec (∃ h:4*k+1<s.size,s[4*k+1].toNat=b):=sec ⟨p1,q1⟩
   have Q2:Sec (∃ h:4*k+2<s.size,s[4*k+2].toNat=c):=sec ⟨p2,q2⟩;have Q3:Sec (∃ h:4*k+3<s.size,s[4*k+3].toNat=d):=sec ⟨p3,q3⟩;clear p0 p1 p2 p3 q0 q1 q2 q3;go_wp2_with fail
   refine aD (S:=λ_=>True) (trivial) λhld=>?_;refine aj 0 ?_;try simp only [Act.put,au]
   refine aj 1 ?_;try simp only [Act.put,au]
   refine aj 2 ?_;try simp only [Act.put,au]
   refine aj 3 ?_;try simp only [Act.put,au]
   refine aj 4 ?_ (hy:=by intro wz hSw; refine nD _ _ 9 underlying9 s (4*k) a (4*(k:Int)) ?_ (by omega) Q0.out wz; exact ⟨_,_,rfl,rfl,rfl⟩);try simp only [Act.put,au]
   refine aj 5 ?_;try simp only [Act.put,au]
   refine aj 6 ?_;try simp only [Act.put,au]
   refine aj 7 ?_;try simp only [Act.put,au]
   refine aj 8 ?_;try simp only [Act.put,au]
   refine aj 9 ?_;try simp only [Act.put,au]
   refine aj 10 ?_;try simp only [Act.put,au]
   refine aj 11 ?_ (hy:=by intro wz hSw; refine nD _ _ 9 underlying9 s (4*k+1) b (4*(k:Int)+1) ?_ (by omega) Q1.out wz; exact ⟨_,_,rfl,rfl,rfl⟩);try simp only [Act.put,au]
   refine aj 12 ?_;try simp only [Act.put,au]
   refine aj 13 ?_;try simp only [Act.put,au]
   refine aj 14 ?_;try simp only [Act.put,au]
   refine aj 15 ?_;try simp only [Act.put,au]
   refine aj 16 ?_;try simp only [Act.put,au]
   refine aj 17 ?_;try simp only [Act.put,au]
   refine aj 18 ?_;try simp only [Act.put,au]
   refine aj 19 ?_ (hy:=by intro wz hSw; refine nD _ _ 9 underlying9 s (4*k+2) c (4*(k:Int)+2) ?_ (by omega) Q2.out wz; exact ⟨_,_,rfl,rfl,rfl⟩);try simp only [Act.put,au]
   refine aj 20 ?_;try simp only [Act.put,au]
   refine aj 21 ?_;try simp only [Act.put,au]
   refine aj 22 ?_;try simp only [Act.put,au]
   refine aj 23 ?_;try simp only [Act.put,au]
   refine aj 24 ?_;try simp only [Act.put,au]
   refine aj 25 ?_;try simp only [Act.put,au]
   refine aj 26 ?_;try simp only [Act.put,au]
   refine aj 27 ?_ (hy:=by intro wz hSw; refine nD _ _ 9 underlying9 s (4*k+3) d (4*(k:Int)+3) ?_ (by omega) Q3.out wz; exact ⟨_,_,rfl,rfl,rfl⟩);try simp only [Act.put,au]
   refine aj 28 ?_;try simp only [Act.put,au]
   refine aj 29 ?_;try simp only [Act.put,au]
   refine aj 30 ?_;try simp only [Act.put,au]
   refine ak 31 λK hK=>?_;go_simp;refine hK.out _ _ ?_ (λhld=>?_)
   .trivial
   clear hK K;try simp only [Act.put,au]
   refine aC ?_;go_wp2;go_roundw
   case rel=>exact ⟨k+1,by omega,by go_num,by rw [O1.out,O2.out,O3.out]; exact HN,(hB.setCell (p:=⟨w.heap.size+1,k,none⟩) (by simp) _).drew⟩
   case measure=>simp [intOf]; omega
  .have j4:k=16:=by omega
   rw [j4] at HR;clear j4;go_wp2;go_loopw [5,6,7] (λi _ _ wr=>∃ k:Nat,16<=k/\k<=64/\i = .int .i64 k/\Hid (Row wr (w.heap.size+1) 211 64 (jR g k))/\Below (w.heap.size+1) (w.alloc (.cells (za 64) 211)) wr) (λi _ _ _=>64-(intOf i).toNat)
   case atStart=>exact ⟨16,by omega,by omega,rfl,HR,hB⟩
   case round =>
    clear HR hB hk hlt;obtain ⟨k,h16,hk,rfl,HR,hB⟩:=hrel;by_cases hlt:k<64
    .obtain ⟨p,rfl⟩:∃ p,k=p+16:=⟨k-16,by omega⟩
     obtain ⟨l,hl⟩:=aA (jR g (p+16))
     have hll:l.length=p+16:=by rw [<-hl]; exact iQ g _
     have hlb:=λj=>getD_lt (l:=l) (by rw [<-hl]; exact uM g HG.out _) j;have hR:=HR.out;rw [hl] at hR;have c0:=hR.cell (i:=p) (by omega);have c1:=hR.cell (i:=p+1) (by omega);have c9:=hR.cell (i:=p+9) (by omega);have c14:=hR.cell (i:=p+14) (by omega);have cs:=hR.cell (i:=p+16) (by omega);have hfr:=hR.frozen (p+16)
     have HN:Hid (Row (wr.setCell ⟨w.heap.size+1,p+16,none⟩ (.int .u32 ((l.getD p 0+sg0 (l.getD (p+1) 0)+l.getD (p+9) 0+sg1 (l.getD (p+14) 0))%4294967296:Nat))) (w.heap.size+1) 211 64 (jR g (p+16+1))):=hid (by
      have:=Row.put hR ((l.getD p 0+sg0 (l.getD (p+1) 0)+l.getD (p+9) 0+sg1 (l.getD (p+14) 0))%4294967296);rw [hll] at this;rw [jR,hl,xZ,if_neg (by omega),show p+16-16=p by omega,show p+16-15=p+1 by omega,show p+16-7=p+9 by omega,show p+16-2=p+14 by omega];exact this)
     have b0:=hlb p;have b1:=hlb (p+1);have b9:=hlb (p+9);have b14:=hlb (p+14);clear HR hl hll hlb hR;obtain ⟨x0,hx0⟩:=aA (l.getD p 0)
     obtain ⟨x1,hx1⟩:=aA (l.getD (p+1) 0)
     obtain ⟨x9,sl⟩:=aA (l.getD (p+9) 0)
     obtain ⟨cF,pm⟩:=aA (l.getD (p+14) 0)
     rw [hx0] at HN c0 b0;rw [hx1] at HN c1 b1;rw [sl] at HN c9 b9;rw [pm] at HN c14 b14;clear hx0 hx1 sl pm;have HT1:=hid (fK x1 7 7 rfl b1 (by omega) (by omega));have HT2:=hid (fK x1 18 18 rfl b1 (by omega) (by omega));have rB:=hid (fK cF 17 17 rfl b14 (by omega) (by omega));have sb:=hid (fK cF 19 19 rfl b14 (by omega) (by omega));have e1:=u32_xor_nat (bg x1 7) (bg x1 18) (bN 7 x1 b1) (bN 18 x1 b1);have e2:=u32_xor_nat (bg x1 7 ^^^ bg x1 18) (x1/8) (Nat.xor_lt_two_pow (n:=32) (bN 7 x1 b1) (bN 18 x1 b1)) (by omega)
     have e4:=u32_xor_nat (bg cF 17) (bg cF 19) (bN 17 cF b14) (bN 19 cF b14);have e5:=u32_xor_nat (bg cF 17 ^^^ bg cF 19) (cF/1024) (Nat.xor_lt_two_pow (n:=32) (bN 17 cF b14) (bN 19 cF b14)) (by omega);have q1:bg x1 7 ^^^ bg x1 18 ^^^ (x1/8)=sg0 x1:=by unfold sg0; rw [lU]
     have q2:bg cF 17 ^^^ bg cF 19 ^^^ (cF/1024)=sg1 cF:=by unfold sg1; rw [lU]
     rw [q1] at e2;rw [q2] at e5;have PA:=TM x1 b1;have PB:=RP cF b14;obtain ⟨z0,hz0⟩:=aA (sg0 x1)
     obtain ⟨z1,hz1⟩:=aA (sg1 cF)
     rw [hz0] at HN e2 PA;rw [hz1] at HN e5 PB;clear hz0 hz1 q1 q2;generalize bg x1 7 ^^^ bg x1 18=y1 at e1 e2;generalize bg cF 17 ^^^ bg cF 19=y4 at e4 e5;generalize bg x1 7=a1 at HT1 e1;generalize bg x1 18=a2 at HT2 e1;generalize bg cF 17=a4 at rB e4;generalize bg cF 19=a5 at sb e4;have E1:=sec e1;have E2:=sec e2;have E4:=sec e4;have E5:=sec e5;clear e1 e2 e4 e5;have l0:(0:Int)<=(p:Int)+1:=by omega
     have l1:(p:Int)+1<64:=by omega
     have l2:(0:Int)<=(p:Int)+14:=by omega
     have l3:(p:Int)+14<64:=by omega
     have l4:((p:Int)+14).toNat=p+14:=by omega
     have l5:((p:Int)+1).toNat=p+1:=by omega
     have w1:IntKind.i64.wrap ((p:Int)+16-15)=(p:Int)+1:=by rw [IntKind.wrap_i64]; omega
     have Z3:IntKind.i64.wrap ((p:Int)+16-2)=(p:Int)+14:=by rw [IntKind.wrap_i64]; omega
     go_wp2_with fail
     go_quiet (fail)
     obtain ⟨n1,rfl⟩:=ay nq
     clear l0 l1 l2 l3 l4 l5 w1 Z3 c1 c14;have e1:=E1.out;have e2:=E2.out;have e4:=E4.out;have e5:=E5.out;rw [show ((x1/8:Nat):Int)=(x1:Int)/8 by omega] at e2;rw [show ((cF/1024:Nat):Int)=(cF:Int)/1024 by omega] at e5;clear E1 E2 E4 E5;go_wp2_with fail
     (with_reducible refine (HT1.out _).mono ?_)
     rintro e w3 ⟨rfl,rfl⟩;go_wp2_with fail
     (with_reducible refine (HT2.out _).mono ?_)
     rintro e w3 ⟨rfl,rfl⟩;go_wp2_with fail
     (with_reducible refine (rB.out _).mono ?_)
     rintro e w3 ⟨rfl,rfl⟩;go_wp2_with fail
     (with_reducible refine (sb.out _).mono ?_)
     rintro e w3 ⟨rfl,rfl⟩;go_wp2_with fail
     clear HT1 HT2 rB sb e1 e2 e4 e5;have l0:(0:Int)<=(p:Int):=by omega
     have l1:(p:Int)<64:=by omega
     have l2:(0:Int)<=(p:Int)+9:=by omega
     have l3:(p:Int)+9<64:=by omega
     have l4:((p:Int)+9).toNat=p+9:=by omega
     have w1:IntKind.i64.wrap (p:Int)=(p:Int):=by rw [IntKind.wrap_i64]; omega
     have w9:IntKind.i64.wrap ((p:Int)+16-7)=(p:Int)+9:=by rw [IntKind.wrap_i64]; omega
     have l6:(0:Int)<=(p:Int)+16:=by omega
     have l7:(p:Int)+16<64:=by omega
     have l8:((p:Int)+16).toNat=p+16:=by omega
     have HV:Sec (((((x0:Int)+z0)%4294967296+x9)%4294967296+z1)%4294967296=((x0+z0+x9+z1)%4294967296:Nat)):=sec (by omega);refine aD (S:=λw'=>w'.cell? ⟨w.heap.size+1,p,none⟩=some (.int .u32 (x0:Nat))/\w'.cell? ⟨w.heap.size+1,p+9,none⟩=some (.int .u32 (x9:Nat))) (⟨c0,c9⟩) λhld=>?_;refine aj 0 ?_;try simp only [Act.put,au]
     refine aj 1 ?_;try simp only [Act.put,au]
     refine aj 2 ?_;try simp only [Act.put,au]
     refine aj 3 ?_;try simp only [Act.put,au]
     refine aj 4 ?_;try simp only [Act.put,au]
     refine aj 5 ?_;try simp only [Act.put,au]
     refine aj 6 ?_;try simp only [Act.put,au]
     refine aj 7 ?_;try simp only [Act.put,au]
     refine aj 8 ?_;try simp only [Act.put,au]
     refine aj 9 ?_;try simp only [Act.put,au]
     refine aj 10 ?_;try simp only [Act.put,au]
     refine aj 11 ?_;try simp only [Act.put,au]
     refine aj 12 ?_;try simp only [Act.put,au]
     refine aj 13 ?_;try simp only [Act.put,au]
     refine aj 14 ?_;try simp only [Act.put,au]
     refine ak 15 λK hK=>?_;go_simp;refine hK.out _ _ (⟨by rw [World.cell?_setCell_other _ _ _ _ (by simp; try omega)]; exact c0,by rw [World.cell?_setCell_other _ _ _ _ (by simp; try omega)]; exact c9⟩) λhld=>?_;clear hK K;try simp only [Act.put,au]
     refine aC ?_;clear l0 l1 l2 l3 l4 l6 l7 l8 w1 w9 hld;go_wp2;go_roundw
     case rel=>exact ⟨p+16+1,by omega,by omega,by go_num,hid (by rw [HV.out]; exact HN.out),(below_drewN hB (n1+1)).setCell (p:=⟨w.heap.size+1,p+16,none⟩) (by simp) _⟩
     case measure=>simp [intOf]; omega
    .obtain rfl:k=64:=by omega
     have HG2:=hid (Xa (jR g 64) HR.out (iQ g 64) (λ_ _=>rfl));have HB0:Hid (wr.heap[w.heap.size]? = some (.cells (za 64) 211 (0,0))):=hid (by rw [hB.block _ (by simp)]; exact heap_alloc_new _ _);obtain ⟨l,hl⟩:=aA (jR g 64)
     have hll:l.length=64:=by rw [<-hl]; exact iQ g _
     rw [hl] at HG2;have eo:=sec hl;clear HR hl;go_wp2_with (first | (refine wpList_load_row rfl _ _ rfl (w.heap.size+1) rfl 211 (ac l) (0,0) _ HG2.out underlying211 rfl (by rw [bG,hll]; exact nC) ?_) | (refine wpList_store_rowTo rfl 211 _ _ rfl rfl _ (ac l) rfl rfl 211 (za 64) HB0.out (by rw [bG,hll]; exact nC) (by rw [bG,hll,za,bG]; simp) (je _) ?_))
     exact bodyPost_ret (results_cell_row rfl _ _ w.heap.size 211 (ac l) (0,0) _ rfl (setRow_heap _ _ _ _ _ _ HB0.out) underlying211 rfl (by rw [bG,hll]; exact nC)) rfl ⟨by rw [eo.out],bI (((Below.refl w.heap.size w).alloc aH _).trans (hB.mono (by simp))) aH _⟩
theorem KI (e:Nat) (he:e<4294967296):4294967295 ^^^ e=4294967295-e:=by
 apply Nat.eq_of_testBit_eq;intro i;have h:=Nat.testBit_two_pow_sub_succ (n:=32) (x:=e) he i;rw [show 2 ^ 32-(e+1)=4294967295-e by omega] at h;have h1:=Nat.testBit_two_pow_sub_one (n:=32) (i:=i);rw [show 2 ^ 32-1=4294967295 by rfl] at h1;rw [Nat.testBit_xor,h,h1];by_cases hi:i<32
 .simp [hi]
 .have:e.testBit i=false:=Nat.testBit_lt_two_pow (aJ he (Nat.pow_le_pow_right (n:=2) (by omega) (show 32<=i by omega)));simp [hi,this]
theorem Sr (e f g:Nat) (he:e<4294967296):(e &&& f) ^^^ ((4294967295-e) &&& g)=xO e f g:=by
 unfold xO;rw [<-KI e he];apply Nat.eq_of_testBit_eq;intro i;have h1:=Nat.testBit_two_pow_sub_one (n:=32) (i:=i);rw [show 2 ^ 32-1=4294967295 by rfl] at h1;simp only [Nat.testBit_xor,Nat.testBit_and,Nat.testBit_or,h1];by_cases hi:i<32
 .simp only [hi,decide_true];cases e.testBit i <;> cases f.testBit i <;> cases g.testBit i <;> rfl
 .have:e.testBit i=false:=Nat.testBit_lt_two_pow (aJ he (Nat.pow_le_pow_right (n:=2) (by omega) (show 32<=i by omega)));simp [hi,this]
theorem TR (a b c:Nat):(a &&& b) ^^^ (a &&& c) ^^^ (b &&& c)=AY a b c:=by
 unfold AY;apply Nat.eq_of_testBit_eq;intro i;simp only [Nat.testBit_xor,Nat.testBit_and,Nat.testBit_or];cases a.testBit i <;> cases b.testBit i <;> cases c.testBit i <;> rfl
theorem Vr (x0 x1 x2 x3 x4 x5 x6 x7 v0 v1 v2 v3 v4 v5 v6 v7:Nat) :
  ((((((((ac [x0,x1,x2,x3,x4,x5,x6,x7]).setIfInBounds 0 (.int .u32 v0)).setIfInBounds 1 (.int .u32 v1)).setIfInBounds 2 (.int .u32 v2)).setIfInBounds 3 (.int .u32 v3)).setIfInBounds 4 (.int .u32 v4)).setIfInBounds 5 (.int .u32 v5)).setIfInBounds 6 (.int .u32 v6)).setIfInBounds 7 (.int .u32 v7)
   = ac [v0,v1,v2,v3,v4,v5,v6,v7]:=by
 simp [ac]
theorem Xl {r:Option Nat} (h:w.grownBy w1 r):w.grownBy w1.drew r:=⟨h.os,h.tape,h.output,h.size,h.block⟩
theorem FZ (v:Value) (h:w.grownBy w1 (some g)):w.grownBy (w1.setCell ⟨g,j,none⟩ v) (some g) :=
 ⟨h.os,h.tape,h.output,by have:=h.size; simp; omega,λk hk hne=>(heap_setCell_other _ _ _ _ (by simpa using hne)).trans (h.block k hk hne)⟩
theorem IL (n x:Nat) (w:World) :
  Calls prog 149 #[.int .u32 n,.int .u32 x] w λe w'=>e = .returned (.func (Fn.func 171) #[] #[.pointer (some ⟨w.heap.size,0,none⟩),.pointer (some ⟨w.heap.size+1,0,none⟩)])/\w'=(w.alloc (.cells #[.int .u32 n] 140)).alloc (.cells #[.int .u32 x] 140):=by
 go_enter func149,ntmps149;go_wp2;go_ret;exact ⟨rfl,rfl⟩
theorem Om (g bn bw kk wk x0 x1 x2 x3 x4 x5 x6 x7:Nat) (b0:x0<4294967296) (b1:x1<4294967296) (b2:x2<4294967296) (b4:x4<4294967296) (b5:x5<4294967296) (b6:x6<4294967296)
  (w:World) (hg:w.heap[g]? = some (.cells (ac [x0,x1,x2,x3,x4,x5,x6,x7]) 173 (0,0))) (hn:w.cell? ⟨bn,0,none⟩=some (.int .u32 kk)) (hw:w.cell? ⟨bw,0,none⟩=some (.int .u32 wk)) :
  Calls prog 171 #[.pointer (some ⟨g,0,none⟩),.pointer (some ⟨bn,0,none⟩),.pointer (some ⟨bw,0,none⟩)] w λe w'=>e = .returned (.tuple #[])/\w'.heap[g]? = some (.cells (ac (rM kk wk [x0,x1,x2,x3,x4,x5,x6,x7])) 173 (0,0))/\w.grownBy w' (some g):=by
 have c0:w.cell? ⟨g,0,none⟩=some (.int .u32 x0):=cell_of_row w g 0 _ _ _ hg;have c1:w.cell? ⟨g,1,none⟩=some (.int .u32 x1):=cell_of_row w g 1 _ _ _ hg;have c2:w.cell? ⟨g,2,none⟩=some (.int .u32 x2):=cell_of_row w g 2 _ _ _ hg;have c3:w.cell? ⟨g,3,none⟩=some (.int .u32 x3):=cell_of_row w g 3 _ _ _ hg;have c4:w.cell? ⟨g,4,none⟩=some (.int .u32 x4):=cell_of_row w g 4 _ _ _ hg;have c5:w.cell? ⟨g,5,none⟩=some (.int .u32 x5):=cell_of_row w g 5 _ _ _ hg;have c6:w.cell? ⟨g,6,none⟩=some (.int .u32 x6):=cell_of_row w g 6 _ _ _ hg
 have c7:w.cell? ⟨g,7,none⟩=some (.int .u32 x7):=cell_of_row w g 7 _ _ _ hg;have fz:∀ j,w.frozen? ⟨g,j,none⟩=false:=λj=>frozen_of_row w g j _ _ hg;have HG:=sec hg;have Z4:=sec fz;clear hg fz;go_enter func171,ntmps171;go_wp2_with fail
 go_quiet (fail)
 obtain ⟨n1,rfl⟩:=ay nq
 go_wp2_with fail
 go_quiet (fail)
 obtain ⟨n2,rfl⟩:=ay nq
 have hpk:=GQ x4 x5 x6 b4;have A1:=u32_and_nat x4 x5 b4 b5;have A2:=u32_xor_nat 4294967295 x4 (by omega) b4;rw [KI x4 b4] at A2;have A3:=u32_and_nat (4294967295-x4) x6 (by omega) b6;have A4:=u32_xor_nat (x4 &&& x5) ((4294967295-x4) &&& x6) (Nat.lt_of_le_of_lt Nat.and_le_left b4) (Nat.lt_of_le_of_lt Nat.and_le_left (by omega));rw [Sr x4 x5 x6 b4] at A4;have A2:bits .xor .u32 IntKind.u32.max (x4:Int)=((4294967295-x4:Nat):Int):=A2;obtain ⟨pk,l9⟩:=aA (xO x4 x5 x6)
 rw [l9] at hpk A4;have I6:=sec l9;clear l9;obtain ⟨m4,Fi⟩:=aA (4294967295-x4)
 rw [Fi] at A2 A3 A4;clear Fi;generalize x4 &&& x5=p1 at A1 A4;generalize m4 &&& x6=p2 at A3 A4;go_wp2_with fail
 clear A1 A2 A3 A4;have HT1:=hid (fK x4 6 6 rfl b4 (by omega) (by omega));have HT2:=hid (fK x4 11 11 rfl b4 (by omega) (by omega));have HT3:=hid (fK x4 25 25 rfl b4 (by omega) (by omega));have e1:=u32_xor_nat (bg x4 6) (bg x4 11) (bN 6 x4 b4) (bN 11 x4 b4);have e2:=u32_xor_nat (bg x4 6 ^^^ bg x4 11) (bg x4 25) (Nat.xor_lt_two_pow (n:=32) (bN 6 x4 b4) (bN 11 x4 b4)) (bN 25 x4 b4);have hq:bg x4 6 ^^^ bg x4 11 ^^^ bg x4 25=bs1 x4:=rfl;rw [hq] at e2;have Z5:=RH x4 b4;obtain ⟨B1,hB1⟩:=aA (bs1 x4)
 rw [hB1] at e2 Z5;have HB1:=sec hB1;clear hB1 hq;generalize bg x4 6 ^^^ bg x4 11=y1 at e1 e2;generalize bg x4 6=a1 at HT1 e1;generalize bg x4 11=a2 at HT2 e1;generalize bg x4 25=a3 at HT3 e2;have HX:Sec ((x7+B1+pk+kk+wk)%4294967296=((((x7+B1)%4294967296+pk)%4294967296+kk)%4294967296+wk)%4294967296):=sec (by omega);have v1:IntKind.u32.wrap ((x7:Int)+B1)=((x7+B1)%4294967296:Nat):=by rw [IntKind.wrap_u32']; omega
 have v2:IntKind.u32.wrap ((((x7+B1)%4294967296:Nat):Int)+pk)=(((x7+B1)%4294967296+pk)%4294967296:Nat):=by rw [IntKind.wrap_u32']; omega
 have v3:IntKind.u32.wrap (((((x7+B1)%4294967296+pk)%4294967296:Nat):Int)+kk)=((((x7+B1)%4294967296+pk)%4294967296+kk)%4294967296:Nat):=by rw [IntKind.wrap_u32']; omega
 have v4:IntKind.u32.wrap ((((((x7+B1)%4294967296+pk)%4294967296+kk)%4294967296:Nat):Int)+wk)=(((((x7+B1)%4294967296+pk)%4294967296+kk)%4294967296+wk)%4294967296:Nat):=by rw [IntKind.wrap_u32']; omega
 obtain ⟨s1,h1⟩:=aA ((x7+B1)%4294967296)
 rw [h1] at v1 v2 v3 v4 HX;obtain ⟨s2,h2⟩:=aA ((s1+pk)%4294967296)
 rw [h2] at v2 v3 v4 HX;obtain ⟨s3,h3⟩:=aA ((s2+kk)%4294967296)
 rw [h3] at v3 v4 HX;have PC:(s3+wk)%4294967296<4294967296:=Nat.mod_lt _ (by omega);obtain ⟨X,hX⟩:=aA ((s3+wk)%4294967296)
 rw [hX] at v4 HX PC;clear h1 h2 h3 hX;refine aD (S:=λw'=>w'.cell? ⟨bn,0,none⟩=some (.int .u32 (kk:Nat))/\w'.cell? ⟨bw,0,none⟩=some (.int .u32 (wk:Nat))) (⟨hn,hw⟩) λhld=>?_;refine aj 0 ?_;try simp only [Act.put,au]
 refine aj 1 ?_;try simp only [Act.put,au]
 refine aj 3 ?_;try simp only [Act.put,au]
 refine aj 6 ?_;try simp only [Act.put,au]
 refine aj 10 ?_;try simp only [Act.put,au]
 refine aj 12 ?_;try simp only [Act.put,au]
 refine aj 14 ?_;try simp only [Act.put,au]
 refine ak 2 λK hK=>?_;go_simp;go_at_call 170
 (with_reducible refine (HT1.out _).mono ?_)
 rintro e w3 ⟨rfl,rfl⟩;refine hK.out _ _ ?_ (λhld=>?_)
 .assumption
 clear hK K;try simp only [Act.put,au]
 refine ak 4 λK hK=>?_;go_simp;go_at_call 170
 (with_reducible refine (HT2.out _).mono ?_)
 rintro e w3 ⟨rfl,rfl⟩;refine hK.out _ _ ?_ (λhld=>?_)
 .assumption
 clear hK K;try simp only [Act.put,au]
 refine aj 5 ?_;try simp only [Act.put,au]
 refine ak 7 λK hK=>?_;go_simp;go_at_call 170
 (with_reducible refine (HT3.out _).mono ?_)
 rintro e w3 ⟨rfl,rfl⟩;refine hK.out _ _ ?_ (λhld=>?_)
 .assumption
 clear hK K;try simp only [Act.put,au]
 refine aj 8 ?_;try simp only [Act.put,au]
 refine aj 9 ?_;try simp only [Act.put,au]
 refine aj 11 ?_;try simp only [Act.put,au]
 refine aj 13 ?_;try simp only [Act.put,au]
 refine aj 15 ?_;try simp only [Act.put,au]
 refine aj 16 ?_;try simp only [Act.put,au]
 refine aC ?_;clear HT1 HT2 HT3 e1 e2 v1 v2 v3 v4 hld;have HT1:=hid (fK x0 2 2 rfl b0 (by omega) (by omega));have HT2:=hid (fK x0 13 13 rfl b0 (by omega) (by omega));have HT3:=hid (fK x0 22 22 rfl b0 (by omega) (by omega));have e1:=u32_xor_nat (bg x0 2) (bg x0 13) (bN 2 x0 b0) (bN 13 x0 b0);have e2:=u32_xor_nat (bg x0 2 ^^^ bg x0 13) (bg x0 22) (Nat.xor_lt_two_pow (n:=32) (bN 2 x0 b0) (bN 13 x0 b0)) (bN 22 x0 b0);have hq:bg x0 2 ^^^ bg x0 13 ^^^ bg x0 22=bs0 x0:=rfl;rw [hq] at e2;have PF:=Sn x0 b0
 obtain ⟨B0,hB0⟩:=aA (bs0 x0)
 rw [hB0] at e2 PF;have HB0:=sec hB0;clear hB0 hq;generalize bg x0 2 ^^^ bg x0 13=y1 at e1 e2;generalize bg x0 2=a1 at HT1 e1;generalize bg x0 13=a2 at HT2 e1;generalize bg x0 22=a3 at HT3 e2;have hmo:=Gt x0 x1 x2 b0 b1;have A1:=u32_and_nat x0 x1 b0 b1;have A2:=u32_and_nat x0 x2 b0 b2;have A3:=u32_xor_nat (x0 &&& x1) (x0 &&& x2) (Nat.lt_of_le_of_lt Nat.and_le_left b0) (Nat.lt_of_le_of_lt Nat.and_le_left b0);have A4:=u32_and_nat x1 x2 b1 b2
 have A5:=u32_xor_nat ((x0 &&& x1) ^^^ (x0 &&& x2)) (x1 &&& x2) (Nat.xor_lt_two_pow (n:=32) (Nat.lt_of_le_of_lt Nat.and_le_left b0) (Nat.lt_of_le_of_lt Nat.and_le_left b0)) (Nat.lt_of_le_of_lt Nat.and_le_left b1);rw [TR] at A5;obtain ⟨mo,ld⟩:=aA (AY x0 x1 x2)
 rw [ld] at hmo A5;have I7:=sec ld;clear ld;generalize (x0 &&& x1) ^^^ (x0 &&& x2)=q3 at A3 A5;generalize x0 &&& x1=q1 at A1 A3;generalize x0 &&& x2=q2 at A2 A3;generalize x1 &&& x2=q5 at A4 A5;go_wp2_with fail
 (with_reducible refine (HT1.out _).mono ?_)
 rintro e w3 ⟨rfl,rfl⟩;go_wp2_with fail
 (with_reducible refine (HT2.out _).mono ?_)
 rintro e w3 ⟨rfl,rfl⟩;go_wp2_with fail
 (with_reducible refine (HT3.out _).mono ?_)
 rintro e w3 ⟨rfl,rfl⟩;go_wp2_with fail
 clear A1 A2 A3 A4 A5 HT1 HT2 HT3 e1 e2;have hY:((B0:Int)+mo)%4294967296=((B0+mo)%4294967296:Nat):=by omega
 have HY:Sec (yN x0 x1 x2=(B0+mo)%4294967296):=sec (by unfold yN; rw [HB0.out,I7.out]);have PH:(B0+mo)%4294967296<4294967296:=Nat.mod_lt _ (by omega);obtain ⟨Y,V7⟩:=aA ((B0+mo)%4294967296)
 rw [V7] at hY HY PH;rw [hY];clear hY V7;have fz:=Z4.out;have v1:IntKind.u32.wrap ((X:Int)+Y)=((X+Y)%4294967296:Nat):=by rw [IntKind.wrap_u32']; omega
 have v2:IntKind.u32.wrap ((x3:Int)+X)=((x3+X)%4294967296:Nat):=by rw [IntKind.wrap_u32']; omega
 have ie:Sec (rM kk wk [x0,x1,x2,x3,x4,x5,x6,x7]=[(X+Y)%4294967296,x0,x1,x2,(x3+X)%4294967296,x4,x5,x6]):=sec (by
  show [(xN kk wk x4 x5 x6 x7+yN x0 x1 x2)%4294967296,x0,x1,x2,(x3+xN kk wk x4 x5 x6 x7)%4294967296,x4,x5,x6]=_;rw [HY.out,show xN kk wk x4 x5 x6 x7=X by unfold xN; rw [HB1.out,I6.out]; exact HX.out])
 obtain ⟨N0,hN0⟩:=aA ((X+Y)%4294967296)
 obtain ⟨N4,np⟩:=aA ((x3+X)%4294967296)
 rw [hN0] at v1 ie;rw [np] at v2 ie;clear hN0 np;refine aD (S:=λ_=>True) (trivial) λhld=>?_;refine aj 0 ?_;try simp only [Act.put,au]
 refine aj 1 ?_;try simp only [Act.put,au]
 refine aj 2 ?_;try simp only [Act.put,au]
 refine aj 3 ?_;try simp only [Act.put,au]
 refine aj 4 ?_;try simp only [Act.put,au]
 refine aj 5 ?_;try simp only [Act.put,au]
 refine aj 6 ?_;try simp only [Act.put,au]
 refine aj 7 ?_;try simp only [Act.put,au]
 refine aj 8 ?_;try simp only [Act.put,au]
 refine aj 9 ?_;try simp only [Act.put,au]
 refine aj 10 ?_;try simp only [Act.put,au]
 refine aj 11 ?_;try simp only [Act.put,au]
 refine aj 13 ?_;try simp only [Act.put,au]
 refine aj 16 ?_;try simp only [Act.put,au]
 refine aj 19 ?_;try simp only [Act.put,au]
 refine ak 12 λK hK=>?_;go_simp;refine hK.out _ _ ?_ (λhld=>?_)
 .trivial
 clear hK K;try simp only [Act.put,au]
 refine aj 14 ?_;try simp only [Act.put,au]
 refine ak 15 λK hK=>?_;go_simp;refine hK.out _ _ ?_ (λhld=>?_)
 .trivial
 clear hK K;try simp only [Act.put,au]
 refine aj 17 ?_;try simp only [Act.put,au]
 refine ak 18 λK hK=>?_;go_simp;refine hK.out _ _ ?_ (λhld=>?_)
 .trivial
 clear hK K;try simp only [Act.put,au]
 refine aj 20 ?_;try simp only [Act.put,au]
 refine ak 21 λK hK=>?_;go_simp;refine hK.out _ _ ?_ (λhld=>?_)
 .trivial
 clear hK K;try simp only [Act.put,au]
 refine aC ?_;go_wp2_with fail
 refine aD (S:=λ_=>True) (trivial) λhld=>?_;refine aj 0 ?_;try simp only [Act.put,au]
 refine aj 1 ?_;try simp only [Act.put,au]
 refine aj 2 ?_;try simp only [Act.put,au]
 refine aj 3 ?_;try simp only [Act.put,au]
 refine aj 4 ?_;try simp only [Act.put,au]
 refine aj 5 ?_;try simp only [Act.put,au]
 refine aj 6 ?_;try simp only [Act.put,au]
 refine aj 7 ?_;try simp only [Act.put,au]
 refine aj 8 ?_;try simp only [Act.put,au]
 refine aj 9 ?_;try simp only [Act.put,au]
 refine aj 10 ?_;try simp only [Act.put,au]
 refine aj 11 ?_;try simp only [Act.put,au]
 refine aj 13 ?_;try simp only [Act.put,au]
 refine aj 16 ?_;try simp only [Act.put,au]
 refine aj 19 ?_;try simp only [Act.put,au]
 refine ak 12 λK hK=>?_;go_simp;refine hK.out _ _ ?_ (λhld=>?_)
 .trivial
 clear hK K;try simp only [Act.put,au]
 refine aj 14 ?_;try simp only [Act.put,au]
 refine ak 15 λK hK=>?_;go_simp;refine hK.out _ _ ?_ (λhld=>?_)
 .trivial
 clear hK K;try simp only [Act.put,au]
 refine aj 17 ?_;try simp only [Act.put,au]
 refine ak 18 λK hK=>?_;go_simp;refine hK.out _ _ ?_ (λhld=>?_)
 .trivial
 clear hK K;try simp only [Act.put,au]
 refine aj 20 ?_;try simp only [Act.put,au]
 refine ak 21 λK hK=>?_;go_simp;refine hK.out _ _ ?_ (λhld=>?_)
 .trivial
 clear hK K;try simp only [Act.put,au]
 refine aC ?_;clear v1 v2 hld fz c0 c1 c2 c3 c4 c5 c6 c7 hn hw;go_end0;have k0:(w.drewN (n1+n2+1+1)).heap[g]? = some (.cells (ac [x0,x1,x2,x3,x4,x5,x6,x7]) 173 (0,0)):=HG.out;have k1:=heap_setCell_same _ g 0 _ _ (.int .u32 N0) k0;have k2:=heap_setCell_same _ g 1 _ _ (.int .u32 x0) k1;have k3:=heap_setCell_same _ g 2 _ _ (.int .u32 x1) k2;have k4:=heap_setCell_same _ g 3 _ _ (.int .u32 x2) k3;have k5:=heap_setCell_same _ g 4 _ _ (.int .u32 N4) k4;have k6:=heap_setCell_same _ g 5 _ _ (.int .u32 x4) k5
 have k7:=heap_setCell_same _ g 6 _ _ (.int .u32 x5) k6;have k8:=heap_setCell_same _ g 7 _ _ (.int .u32 x6) k7;refine ⟨rfl,?_,?_⟩
 .rw [ie.out,heap_drew,k8,Vr]
 .exact Xl (FZ _ (FZ _ (FZ _ (FZ _ (FZ _ (FZ _ (FZ _ (FZ _ ⟨rfl,rfl,rfl,aH,λ_ _ _=>rfl⟩))))))))
end Sm
end
end Go.Proofs.YtokaiemgjngcoaaGreatDoor
