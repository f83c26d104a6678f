/-
 An item's bytes; contracts of rlp.front and rlp.inside.
-/
import Derived.Test.YtoipgepkhomfgaaGreatDoorPd1
import Derived.BigQuiet
open Go.Lib (hid)
open Go.Proofs.Tryz
set_option linter.unusedSimpArgs false
set_option linter.unusedVariables false
set_option maxHeartbeats 40000000
set_option maxRecDepth 100000
namespace Go.Proofs.YtoipgepkhomfgaaGreatDoor
variable {B c cap g m:Nat} {w w' w1 wr:World} {v:Value} {t:TypeId} {a:aK} {o:Oper} {K:Act->World->Prop} {Q:Exit->Act->World->Prop} {ops:Array Oper} {cells cs':aN} {ev:Operand->Value} {act:Act}
section
open Go.RowKit
namespace Rl
def iH (l:Bool) (s:aL) (m:Nat):aM:=if l=false/\m=1/\(s.data.toList.headD 0).toNat<128 then [] else jv (min m 4294967296) l
def rD (l:Bool) (s:aL) (m:Nat):aL:=⟨(iH l s m).toArray⟩
theorem JV (m:Nat):rH m=min m 4294967296:=by unfold rH; omega
theorem qI {l:Bool} {s:aL} (h:¬ (l=false/\m=1/\(s.data.toList.headD 0).toNat<128)):rD l s m=pJ (min m 4294967296) l:=by unfold rD iH pJ; rw [if_neg h]
theorem Hy {l:Bool} {s:aL} (h:l=false/\m=1/\(s.data.toList.headD 0).toNat<128):rD l s m=⟨#[]⟩:=by unfold rD iH; rw [if_pos h]
theorem VK {s:aL} (h:0<s.size):s.data.toList.headD 0=s[0]:=by
 obtain ⟨⟨l⟩⟩:=s;cases l with
 | nil=>simp [ByteArray.size] at h
 | cons c l=>rfl
theorem CK (x:It) (a:aK) (n cap m:Nat) (hm:m<2 ^ 63) (hx:x.l=false->m=x.s.size) (w:World) :
  Calls prog 141 #[itV x a n cap,.int .i64 m] w λe w'=>e = .returned (.string (rD x.l x.s m))/\Below w.heap.size w w':=by
 obtain ⟨l,s,xs⟩:=x;unfold itV;dsimp only [It.l,It.s] at hx ⊢;have hh:=λw=>Va m (by omega) l w;rw [JV] at hh;have HH:=hid hh;clear hh;cases l with
 | true =>
  have HF:=hid (qI (l:=true) (s:=s) (m:=m) (by simp));clear hx;go_enter func141,ntmps141;go_wp2_with fail
  with_reducible refine (HH.out _).mono ?_
  rintro e w1 ⟨rfl,hb⟩;go_wp2;go_ret;exact ⟨by rw [HF.out]; rfl,bst (al1 _ _) hb⟩
 | false =>
  by_cases h1:m=1
  .have hs:s.size=1:=by rw [<-hx rfl,h1]
   have h0:0<s.size:=by omega
   have hf:=VK h0;by_cases hc:s[0].toNat<128
   .have HF:=hid (Hy (l:=false) (s:=s) (m:=m) ⟨rfl,h1,by rw [hf]; exact hc⟩);clear hx hf HH;have hm1:((m:Int)==1)=true:=by simp; omega
    clear h1;go_enter func141,ntmps141;go_wp2;go_ret;exact ⟨by rw [HF.out]; rfl,al1 _ _⟩
   .have HF:=hid (qI (l:=false) (s:=s) (m:=m) (by rw [hf]; omega));clear hx hf;have hm1:((m:Int)==1)=true:=by simp; omega
    clear h1;go_enter func141,ntmps141;go_wp2_with fail
    with_reducible refine (HH.out _).mono ?_
    rintro e w1 ⟨rfl,hb⟩;go_wp2;go_ret;exact ⟨by rw [HF.out]; rfl,bst (al1 _ _) hb⟩
  .have HF:=hid (qI (l:=false) (s:=s) (m:=m) (by omega));have hm1:((m:Int)==1)=false:=by simp; omega
   clear hx;go_enter func141,ntmps141;go_wp2_with fail
   with_reducible refine (HH.out _).mono ?_
   rintro e w1 ⟨rfl,hb⟩;go_wp2;go_ret;exact ⟨by rw [HF.out]; rfl,bst (al1 _ _) hb⟩
end Rl
namespace It
def bytes:It->aM
 | .mk l s xs=>Rl.iH l s (s.data.toList++(xs.map bytes).flatten).length++(s.data.toList++(xs.map bytes).flatten)
termination_by x=>SizeOf.sizeOf x
decreasing_by
 all_goals
  rename_i h;have:=List.sizeOf_lt_of_mem h;simp;omega
def inner (x:It):aM:=x.s.data.toList++(x.xs.map bytes).flatten
theorem lX (x:It):x.bytes=Rl.iH x.l x.s x.inner.length++x.inner:=by
 cases x;rw [bytes];rfl
end It
namespace Rl
def lD (xs:List It) (q:Nat):aM:=((xs.take q).map It.bytes).flatten
theorem Hg (xs:List It):lD xs 0=[]:=rfl
theorem xD (xs:List It) (q:Nat) (x:It) (h:xs[q]? = some x):lD xs (q+1)=lD xs q++x.bytes:=by
 unfold lD;rw [List.take_add_one,h];simp
theorem Bf (xs:List It) (n:Nat) (h:xs.length=n):lD xs n=(xs.map It.bytes).flatten:=by
 unfold lD;rw [List.take_of_length_le (Nat.le_of_eq h)]
theorem Cv (xs:List It) (q:Nat):(lD xs q).length<=((xs.map It.bytes).flatten).length:=by
 have:(xs.map It.bytes).flatten=lD xs q++((xs.drop q).map It.bytes).flatten:=by
  unfold lD;rw [<-List.flatten_append,<-List.map_append,List.take_append_drop]
 rw [this,List.length_append];omega
theorem kT (x:It):x.inner.length<=x.bytes.length:=by
 rw [It.lX,List.length_append];omega
theorem inner_mk (l:Bool) (s:aL) (xs:List It):(It.mk l s xs).inner=s.data.toList++(xs.map It.bytes).flatten:=rfl
theorem iX (s:aL):s.data.toList.length=s.size:=by rw [Array.length_toList]; rfl
theorem zL {around:Nat} {x:It} (h:Fits around x) (hl:x.l=false):x.inner.length=x.s.size:=by
 cases h with
 | mk ha hs hx h =>
  rw [hx hl,inner_mk,List.map_nil,List.flatten_nil,List.append_nil,iX];rfl
theorem Me (x:It):∀ (around:Nat) (w:World) (v:Value),WB w x v->Fits around x->x.inner.length<=1099511627776->
  Calls prog 142 #[v] w λe w'=>e = .returned (.int .i64 x.inner.length)/\Below w.heap.size w w':=by
 induction x using It.ind with
 | h l s xs ih =>
  rintro around w v ⟨a,n,cap,rfl,h⟩ hF hk;have hm:=h.max;have hnc:=h.le;have hlen:xs.length=n:=h.len;unfold maxLen at hm;cases hF with
  | mk ha hs hx hy =>
   rw [inner_mk,List.length_append,iX] at hk ⊢;have H:=hid h;have HY:=hid hy;have gO:=hid ih;have HK:=hid hk;have hss:s.size<=1099511627776:=by omega
   clear h hy ih hs hx hk;unfold itV;dsimp only [It.l,It.s,It.xs] at H ⊢;go_enter func142,ntmps142;go_wp2;go_loopw [3,13] (λacc i wr=>∃ q k:Nat,q<=n/\i = .int .i64 q/\acc = .int .i64 k/\Hid (k=s.size+(lD xs q).length)/\Below (w.heap.size+1) (w.alloc (.cells #[.bool l,.string s,.slice a n cap] 102)) wr) (λ_ i _=>n-(intOf i).toNat)
   case atStart=>exact ⟨0,s.size,Nat.zero_le _,rfl,rfl,hid rfl,aH⟩
   case round =>
    obtain ⟨q,k,hq,rfl,rfl,HQ,hB⟩:=hrel;have HB:=hid hB;clear hB;by_cases hlt:q<n
    .obtain ⟨x,b,off,A,N,C,hx,rfl,hb,hL,hI⟩:=H.out.at' q hlt;have hBw:=oP HB.out;obtain ⟨e0,e1,e2⟩:=hL.stays hBw hb;have hst:=xD xs q x hx;have hle:=Cv xs (q+1);have hk2:=HK.out;have hkq:=HQ.out;have hin:=kT x;have hby:x.bytes.length=(iH x.l x.s x.inner.length).length+x.inner.length:=by
      rw [It.lX,List.length_append]
     rw [hst,List.length_append] at hle;have HS:Hid (k+(iH x.l x.s x.inner.length).length+x.inner.length=s.size+(lD xs (q+1)).length):=hid (by
      rw [hst,List.length_append]; omega)
     have hfx:=HY.out x (List.mem_of_getElem? hx);have HI:=hid (gO.out x (List.mem_of_getElem? hx) (around+1) (wr.alloc (.cells #[.bool x.l,.string x.s,.slice A N C] 102)) (itV x A N C) ⟨A,N,C,rfl,hI.stays (bst hBw (al1 _ _))⟩ hfx (by omega));have HF:=hid (λw=>CK x A N C x.inner.length (by omega) (λe=>zL hfx e) w);have hb1:x.inner.length<=1099511627776:=by omega
     have hb2:(iH x.l x.s x.inner.length).length<=1099511627776:=by omega
     have hb3:k<=1099511627776:=by omega
     have hsz:(rD x.l x.s x.inner.length).size=(iH x.l x.s x.inner.length).length:=rfl;obtain ⟨m,hm'⟩:=ay x.inner.length
     rw [hm'] at HI HF hb1 hb2 hsz HS;obtain ⟨f,hf⟩:=ay (rD x.l x.s m)
     obtain ⟨p,hp⟩:=ay ((iH x.l x.s m).length)
     rw [hp] at hsz hb2 HS;simp only [hf] at HF hsz;unfold itV at HI HF;clear hL hI hx gO HY hst hle hk2 hkq hin hby hfx hm' hf hp;go_wp2_with fail
     with_reducible refine HI.out.mono ?_
     rintro e w2 ⟨rfl,hb2'⟩;have d0:w2.cell? ⟨wr.heap.size,0,none⟩=some (.bool x.l):=by rw [hb2'.cell (p:=⟨wr.heap.size,0,none⟩) (by simp),World.cell?_alloc_mark]; rfl
     have d1:w2.cell? ⟨wr.heap.size,1,none⟩=some (.string x.s):=by rw [hb2'.cell (p:=⟨wr.heap.size,1,none⟩) (by simp),World.cell?_alloc_mark]; rfl
     have d2:w2.cell? ⟨wr.heap.size,2,none⟩=some (.slice A N C):=by rw [hb2'.cell (p:=⟨wr.heap.size,2,none⟩) (by simp),World.cell?_alloc_mark]; rfl
     have HB2:=hid (NY HB.out (bst (al1 _ _) hb2'));clear hb2';go_wp2_with fail
     with_reducible refine (HF.out _).mono ?_
     rintro e w3 ⟨rfl,ej⟩;have HB3:=hid (NY HB2.out ej);clear ej;go_wp2;go_roundw
     case rel=>exact ⟨q+1,k+p+m,by omega,by go_num,by go_num,hid HS.out,HB3.out⟩
     case measure=>simp [intOf]; omega
    .obtain rfl:q=n:=by omega
     clear gO HY;go_wp2;go_ret;refine ⟨?_,oP HB.out⟩;have:=HQ.out;rw [Bf xs _ hlen] at this;rw [this];rfl
end Rl
end
section
open Go.RowKit
namespace Bu
theorem write {b:Nat} {bs:List Value} (s:aL) (h:Is B b bs w) (hlen:bs.length+s.size<=140737488355328) (hBw:B<=w.heap.size) :
  Calls prog 140 #[.pointer (some ⟨b,0,none⟩),.string s] w λe w'=>e = .returned (.tuple #[.int .i64 s.size,.nilIface])/\(Is B b (bs++Lib.strCells s) w'/\Below B w w'/\Lib.OthersKept 5 (some b) w w'):=by
 obtain ⟨i0,hi,hz0,hz1,hz2⟩:=info_parts wX;go_enter func140,ntmps140;go_wp2_with (go_at_call 166; refine (check h).mono ?_)
 rintro e w1 ⟨rfl,h1,hb1,hk1⟩;obtain ⟨hB,v,hbk,hown,hne⟩:=h1;have c0:w1.cell? ⟨b,0,none⟩=some (.pointer (some ⟨b,0,none⟩)):=by rw [Lib.cell_of_heap hbk]; rfl
 have c1:w1.cell? ⟨b,1,none⟩=some v:=by rw [Lib.cell_of_heap hbk]; rfl
 go_wp2_with (at_builtin; refine Lib.wpList_append_own_string _ rfl _ _ 40 9 rfl B 5 i0 underlying40 underlying9 hi hz0 hz1 hz2 _ _ _ rfl hown s rfl ?c3 ?c4 ?c5 ?_)
 case c3=>unfold maxLen; omega
 case c4=>omega
 case c5=>have:=hb1.size; omega
 intro v' w2 hown' hgrow _;have hlt:b<w1.heap.size:=by
  rcases Nat.lt_or_ge b w1.heap.size with h' | h'
  .exact h'
  .simp [Array.getElem?_eq_none h'] at hbk
 have hb2:w2.heap[b]? = some (.cells #[.pointer (some ⟨b,0,none⟩),v] 165 (0,0)):=by
  rw [hgrow.block b hlt (λe=>hne e.symm)];exact hbk
 have d1:w2.cell? ⟨b,1,none⟩=some v:=by rw [Lib.cell_of_heap hb2]; rfl
 have f1:w2.frozen? ⟨b,1,none⟩=false:=Lib.frozen_of_heap hb2 1;obtain ⟨ao,n',cap,rfl⟩:∃ ao n' cap,v' = .slice ao n' cap:=by
  rcases hown'.2 with ⟨hv,_⟩ | ⟨g,cap,cur,hv,_⟩
  .exact ⟨_,_,_,hv⟩
  .exact ⟨_,_,_,hv⟩
 go_wp2;go_ret2
 refine ⟨rfl,Or.inr ?_,?_,(hk1.grown hgrow (IB hown)).setCell ⟨b,1,none⟩ rfl _⟩
 .exact Lib.BuilderAt.put (T:=165) (e:=5) hB hb2 (bs':=bs++Lib.strCells s) (by simpa [Lib.strCells_length] using hown') (by decide)
 .exact (hb1.grown hgrow (by have:=hb1.size; omega) (λk hk=>(hown.lt k hk).1)).setCell (p:=⟨b,1,none⟩) hB _
end Bu
end
section
open Go.RowKit
namespace Rl
theorem zW {b:Nat} {cs:aN} (h:Rg.Own w b cs 102) (hk:Lib.OthersKept 5 (some g) w w') (hne:b≠g):Rg.Own w' b cs 102:=by
 have h1:=hk b _ h.2 (λe=>hne (Option.some.inj e)) (λc fz e=>by cases e);exact ⟨(Array.getElem?_eq_some_iff.1 h1).1,h1⟩
theorem yT (x:It):∀ (around g:Nat) (w0 w:World) (v:Value) (bs:aM),WB w0 x v->Below w0.heap.size w0 w->Fits around x->bs.length+x.bytes.length<=1099511627776->Bu.Is w0.heap.size g (Lib.byteCells bs) w->
  Calls prog 95 #[.pointer (some ⟨g,0,none⟩),v] w λe w'=>e = .returned (.tuple #[])/\Bu.Is w0.heap.size g (Lib.byteCells (bs++x.bytes)) w'/\Below w0.heap.size w0 w':=by
 induction x using It.ind with
 | h l s xs ih =>
  rintro around g w0 w v bs ⟨a,n,cap,rfl,h⟩ hB hF hk hIs;have hm:=h.max;have hnc:=h.le;have hlen:xs.length=n:=h.len;unfold maxLen at hm;have hby:=It.lX (.mk l s xs);have hin:=kT (.mk l s xs);have hfr:=λw=>CK (.mk l s xs) a n cap (It.mk l s xs).inner.length (by omega) (λe=>zL hF e) w;have C8:=λw1 (hw:Below w0.heap.size w0 w1)=>Me (.mk l s xs) around w1 (itV (.mk l s xs) a n cap) ⟨a,n,cap,rfl,h.stays hw⟩ hF (by omega);cases hF with
  | mk ha hs hx hy =>
   have tP:=hid C8;have vr:=hid hfr;have H:=hid h;have HY:=hid hy;have gO:=hid ih;have cG:=hid hB;have hown:Rg.Own (w.alloc (.cells (itC (.mk l s xs) a n cap) 102)) w.heap.size (itC (.mk l s xs) a n cap) 102:=Rg.Own.new _ _ _;replace hIs:=hIs.kept (Bu.gL (al1 w (.cells (itC (.mk l s xs) a n cap) 102)));replace hB:=hB.alloc hB.size (.cells (itC (.mk l s xs) a n cap) 102);rw [hby,List.length_append,inner_mk,List.length_append,iX] at hk
   have z7:Hid ((Lib.byteCells bs).length+(rD l s (It.mk l s xs).inner.length).size<=140737488355328):=hid (by
    rw [Lib.byteCells_length];show bs.length+(iH l s (It.mk l s xs).inner.length).length<=_;rw [inner_mk,List.length_append,iX];dsimp only [It.l,It.s] at hk;omega)
   clear h hy ih C8 hfr hs hx ha hin;unfold itV at tP vr ⊢;dsimp only [It.l,It.s,It.xs,itC] at H tP vr hown hIs hB ⊢;go_enter func95,ntmps95;go_wp2_with fail
   replace hIs:Bu.Is w0.heap.size g (Lib.byteCells bs) (w.alloc (.cells #[.bool l,.string s,.slice a n cap] 102)).drew:=hIs;refine aC (S:=λw'=>Below w0.heap.size w0 w'/\Rg.Own w' w.heap.size (itC (.mk l s xs) a n cap) 102) (⟨hB.drew,hown.drew⟩) λhld=>?_;refine ah 0 ?_;try simp only [Act.put,ak]
   refine ah 1 ?_ (hy:=by intro wz hSw; obtain ⟨z0,z1,z2⟩:=cB hSw.2.2; dsimp only [It.l,It.s,It.xs] at z0 z1 z2; go_simp <;> with_reducible rfl);try simp only [Act.put,ak]
   refine ah 2 ?_ (hy:=by intro wz hSw; obtain ⟨z0,z1,z2⟩:=cB hSw.2.2; dsimp only [It.l,It.s,It.xs] at z0 z1 z2; go_simp <;> with_reducible rfl);try simp only [Act.put,ak]
   refine aj 3 λK hK=>?_;go_simp;go_at_call 142
   (with_reducible refine (tP.out _ hld.1).mono ?_)
   rintro e gr ⟨rfl,hbx⟩;replace hIs:=hIs.kept (Bu.gL hbx);refine hK.out _ _ (⟨uz hld.1 hbx aG,hld.2.below hbx⟩) λhld=>?_;clear hK K hbx;try simp only [Act.put,ak]
   refine aj 4 λK hK=>?_;go_simp;go_at_call 141
   (with_reducible refine (vr.out _).mono ?_)
   rintro e wv1 ⟨rfl,hbx⟩;replace hIs:=hIs.kept (Bu.gL hbx);refine hK.out _ _ (⟨uz hld.1 hbx aG,hld.2.below hbx⟩) λhld=>?_;clear hK K hbx;try simp only [Act.put,ak]
   refine aj 5 λK hK=>?_;go_simp;go_at_call 140
   (with_reducible refine (Bu.write _ hIs z7.out hld.1.size).mono ?_)
   rintro e LF ⟨rfl,C9,hbx,hok⟩;have hne:=hIs.Sd hld.2.2 (by decide);have hown:=zW hld.2 hok hne;refine hK.out _ _ (⟨hld.1.trans hbx,hown⟩) λhld=>?_;clear hK K;try simp only [Act.put,ak]
   refine aB ?_;clear hB hIs hbx hok hne hown;have F4:=hid hld;have Cd:=hid C9;obtain ⟨c0,c1,c2⟩:=cB hld.2.2;dsimp only [It.l,It.s,It.xs] at c0 c1 c2;clear hld C9;go_wp2_with fail
   obtain ⟨P,hP,hP1⟩:∃ P,P=bs++iH l s (It.mk l s xs).inner.length++s.data.toList/\P.length+(xs.map It.bytes).flatten.length<=1099511627776:=⟨_,rfl,by
    rw [List.length_append,List.length_append,iX,inner_mk,List.length_append,iX];dsimp only [It.l,It.s] at hk;omega⟩
   have HP:Hid (P++(xs.map It.bytes).flatten=bs++(It.mk l s xs).bytes):=hid (by rw [hP,hby]; simp [inner_mk,It.l,It.s]);have F5:Hid (Bu.Is w0.heap.size g (Lib.byteCells (bs++iH l s (It.mk l s xs).inner.length)) LF):=hid (by
    have:=Cd.out;rw [Lib.strCells_eq,<-Lib.byteCells_append] at this;exact this)
   have HL2:Hid ((Lib.byteCells (bs++iH l s (It.mk l s xs).inner.length)).length+s.size<=140737488355328):=hid (by
    have:=congrArg List.length hP;rw [List.length_append,iX] at this;rw [Lib.byteCells_length];omega)
   have HE:Hid (Lib.byteCells (bs++iH l s (It.mk l s xs).inner.length)++Lib.strCells s=Lib.byteCells P):=hid (by rw [hP,Lib.strCells_eq,<-Lib.byteCells_append]);have hU:=hid hP1;clear hP hP1 hk hby Cd vr tP z7
   with_reducible refine (Bu.write s F5.out HL2.out F4.out.1.size).mono ?_
   rintro e wv8 ⟨rfl,u0,jn,Cf⟩;rw [HE.out] at u0;have gt:=zW F4.out.2 Cf (F5.out.Sd F4.out.2.2 (by decide));obtain ⟨d0,d1,d2⟩:=cB gt.2;dsimp only [It.l,It.s,It.xs] at d0 d1 d2;have LI:=hid u0;have I1:=hid (F4.out.1.trans jn);clear u0 jn Cf gt c0 c1 c2;go_wp2;go_loopw [19] (λi wr=>∃ q:Nat,q<=n/\i = .int .i64 q/\Hid (Bu.Is w0.heap.size g (Lib.byteCells (P++lD xs q)) wr)/\Hid (Below w0.heap.size w0 wr)) (λi _=>n-(intOf i).toNat)
   case atStart=>exact ⟨0,Nat.zero_le _,rfl,hid (by rw [Hg,List.append_nil]; exact LI.out),hid I1.out⟩
   case round =>
    obtain ⟨q,hq,rfl,HQ,HB⟩:=hrel;clear d0 d1 d2;by_cases hlt:q<n
    .obtain ⟨x,b,off,A,N,C,hx,rfl,hb,hL,hI⟩:=H.out.at' q hlt;obtain ⟨e0,e1,e2⟩:=hL.stays HB.out hb;have hst:=xD xs q x hx;have hle:=Cv xs (q+1);have hPl:=hU.out;rw [hst,List.length_append] at hle;have HS:=hid hst;have HI:=hid (gO.out x (List.mem_of_getElem? hx) (around+1) g w0 (wr.alloc (.cells #[.bool x.l,.string x.s,.slice A N C] 102)) (itV x A N C) (P++lD xs q) ⟨A,N,C,rfl,hI⟩ (HB.out.alloc HB.out.size _) (HY.out x (List.mem_of_getElem? hx)) (by rw [List.length_append]; omega) (HQ.out.kept (Bu.gL (al1 _ _))));unfold itV at HI
     clear hL hI hx gO HY hst hle hPl;go_wp2_with fail
     with_reducible refine HI.out.mono ?_
     rintro e w2 ⟨rfl,hI2,hb2⟩;have HI2:=hid hI2;have HB2:=hid hb2;clear hI2 hb2;go_wp2;go_roundw
     case rel=>exact ⟨q+1,by omega,by go_num,hid (by rw [HS.out,<-List.append_assoc]; exact HI2.out),hid HB2.out⟩
     case measure=>simp [intOf]; omega
    .obtain rfl:q=n:=by omega
     clear gO HY;go_wp2;go_end0;refine ⟨rfl,?_,?_⟩
     .have:=HQ.out;rw [Bf xs _ hlen,HP.out] at this;exact this
     .exact HB.out
open Pk
theorem nP {b:Nat} {cs:aN} {T:TypeId} (h:Rg.Own w b cs T) (hg:w.grownBy w' (some g)) (hne:b≠g):Rg.Own w' b cs T :=
 ⟨aI h.1 hg.size,(hg.block b h.1 (λe=>hne (Option.some.inj e))).trans h.2⟩
theorem ou {b:Nat} {cs:aN} {T:TypeId} (h:Rg.Own w b cs T) (v:Value) (hne:b≠g):Rg.Own (w.setCell ⟨g,0,none⟩ v) b cs T:=nP h (Ba w g 0 v) hne
theorem mY {b:Nat} {T:TypeId} (h:Rg.Own w b #[v] T):w.cell? ⟨b,0,none⟩=some v/\w.frozen? ⟨b,0,none⟩=false:=by
 refine ⟨?_,?_⟩
 .simp [World.cell?,h.2]
 .simp [World.frozen?,h.2]
theorem Qd (x:It) (g b:Nat) (w0 w:World) (a:aK) (n cap:Nat) (h:iR w0 x.xs a n cap) (hB:Below w0.heap.size w0 w) (hg:w0.heap.size<=g) (hF:Fits 0 x) (hk:x.size<=4096) (hT:Tal w g 0) (hO:Rg.Own w b (itC x a n cap) 102) :
  Calls prog 93 #[.pointer (some ⟨g,0,none⟩),.pointer (some ⟨b,0,none⟩)] w λe w'=>e = .returned (.tuple #[])/\w.grownBy w' (some g):=by
 obtain ⟨c0,c1,c2⟩:=cB hO.2;have HC:=hid (oV x 0 0 g 0 w0 w (itV x a n cap) rfl ⟨a,n,cap,rfl,h⟩ hB hg hF (by omega) hT);unfold itV at HC;clear h hB hF hk hT hO;go_enter func93,ntmps93;go_wp2_with fail
 with_reducible refine HC.out.mono ?_
 rintro e w1 ⟨rfl,_,hg1⟩;have HG:=hid hg1;clear hg1;go_wp2;go_end0;exact ⟨rfl,HG.out⟩
theorem yL (x:It) (w:World) (v:Value) (h:WB w x v) (hF:Fits 0 x) (hk:x.size<=4096) (hl:x.bytes.length<=1099511627776) :
  Calls prog 51 #[v] w λe w'=>e = .returned (.tuple #[.string ⟨x.bytes.toArray⟩,.int .i64 0])/\Below w.heap.size w w':=by
 obtain ⟨a,n,cap,rfl,h⟩:=h;have da:∀ (fn:Fn) (first cap:aN) (w:World),(Instr.makeFunc fn first cap).run prog w = .ok (.func fn first cap) w:=λ_ _ _ _=>rfl;obtain ⟨w2,hw2⟩:=au ((w.alloc (.cells (itC x a n cap) 102)).alloc (.cells #[.int .i64 0] 161))
 have ho1:Rg.Own w2 w.heap.size (itC x a n cap) 102:=by rw [hw2]; exact (Rg.Own.new _ _ _).below (al1 _ _)
 have ho2:Rg.Own w2 (w.heap.size+1) #[.int .i64 0] 161:=by
  rw [hw2];have:=Rg.Own.new (w.alloc (.cells (itC x a n cap) 102)) #[.int .i64 0] 161;simpa using this
 have hb2:Below w.heap.size w w2:=by rw [hw2]; exact al2 _ _ _
 have hs2:w2.heap.size=w.heap.size+2:=by rw [hw2]; simp
 have T6:Rg.Own (w2.alloc (.cells #[.int .i64 0] 30)) w2.heap.size #[.int .i64 0] 30:=Rg.Own.new _ _ _;have u1:=ho1.below (al1 w2 (.cells #[.int .i64 0] 30));have Cl:=ho2.below (al1 w2 (.cells #[.int .i64 0] 30));have LL:=hb2.alloc hb2.size (.cells #[.int .i64 0] 30);have HC:=hid (pQ 93 #[.pointer (some ⟨w.heap.size+1,0,none⟩),.pointer (some ⟨w.heap.size,0,none⟩)] (by intro wx; kernel_rfl) w2
  (λw'=>(w2.alloc (.cells #[.int .i64 0] 30)).grownBy w' (some (w.heap.size+1))) (by
   refine (Qd x (w.heap.size+1) w.heap.size w _ a n cap h LL (by omega) hF hk (mY Cl) u1).mono ?_;rintro e w' ⟨rfl,hg⟩;exact ⟨rfl,mY (nP T6 hg (by omega)),hg⟩))
 have Cp:=λ(w':World) hb hIs=>yT x 0 (w'.heap.size) w (w'.alloc (.cells #[.pointer none,.slice none 0 0] 165)) (itV x a n cap) [] ⟨a,n,cap,rfl,h⟩ hb hF (by simpa using hl) hIs;have LN:=hid Cp;clear Cp h hF hk hl;unfold itV at LN ⊢;unfold itC at hw2;go_enter func51,ntmps51;go_wp2_with fail
 rw [<-hw2];refine HC.out.mono ?_;rintro e w3 ⟨rfl,w1,hg1,hw3⟩;have ho3:Rg.Own w3 w.heap.size (itC x a n cap) 102:=by rw [hw3]; exact ou (nP u1 hg1 (by omega)) _ (by omega)
 have hb3:Below w.heap.size w w3:=by
  rw [hw3];exact (BI LL hg1 aG (by omega)).setCell (p:=⟨w2.heap.size,0,none⟩) (by show w.heap.size<=w2.heap.size; omega) _
 have HB3:=hid hb3;have hB3:Below w.heap.size w (w3.alloc (.cells #[.pointer none,.slice none 0 0] 165)):=hb3.alloc hb3.size _;have Cs:=hid (LN.out w3 hB3 (Bu.fresh (b:=w3.heap.size) hb3.size (heap_alloc_new _ _)));obtain ⟨c0,c1,c2⟩:=cB (ho3.below (al1 w3 (.cells #[.pointer none,.slice none 0 0] 165))).2;clear hw3 ho3 hb3 hB3 LN HC hg1 LL Cl u1 T6 hs2 hb2 ho2 ho1 hw2;go_wp2_with fail
 with_reducible refine Cs.out.mono ?_
 rintro e w4 ⟨rfl,LO,hb4⟩;rw [List.nil_append] at LO;have HI4:=hid LO;have bc:=hid hb4;clear LO hb4 c0 c1 c2 Cs;go_wp2_with fail
 with_reducible refine (Bu.text HI4.out bc.out.size).mono ?_
 rintro e w5 ⟨rfl,hb5⟩;have aa:=hid (bc.out.trans hb5);clear hb5;go_wp2;go_ret2
 exact ⟨rfl,aa.out⟩
end Rl
end
section
open Go.RowKit
namespace Rl
mutual
def fC:aM->Nat->Nat->Except Int (It × Nat × Nat)
 | [],around,k=>if 64<around then .error 17 else if 4096<k+1 then .error 4 else .error 5
 | c::t,around,k =>
  if 64<around then .error 17 else if 4096<k+1 then .error 4 else
  match iB (c::t) with
  | .error e=>.error e
  | .ok (true,a,v)=>if t.length+1-a<v then .error 5 else
   match kD ((t.drop (a-1)).take v) (around+1) (k+1) with
   | .error e=>.error e
   | .ok (xs,k')=>.ok (.mk true ⟨#[]⟩ xs,a+v,k')
  | .ok (false,a,v)=>if t.length+1-a<v then .error 5 else
   if a=1/\v=1/\(t.headD 0).toNat<128 then .error 6 else .ok (.mk false ⟨(((c::t).drop a).take v).toArray⟩ [],a+v,k+1)
termination_by s=>(s.length,0)
decreasing_by
 apply Prod.Lex.left;rw [List.length_take,List.length_drop,List.length_cons];omega
def kD:aM->Nat->Nat->Except Int (List It × Nat)
 | [],_,k=>.ok ([],k)
 | c::t,around,k =>
  match fC (c::t) around k with
  | .error e=>.error e
  | .ok (x,n,k') =>
   match kD (t.drop (n-1)) around k' with
   | .error e=>.error e
   | .ok (xs,k'')=>.ok (x::xs,k'')
termination_by s=>(s.length,1)
decreasing_by
 .apply Prod.Lex.right;omega
 .apply Prod.Lex.left;rw [List.length_drop,List.length_cons];omega
end
theorem iN {α β:Type} {x y : α} (h:(Except.ok x:Except β α) = .ok y):x=y:=by cases h; rfl
theorem ku {c:UInt8} {t:aM} {l:Bool} {a v:Nat} (h:iB (c::t) = .ok (l,a,v)):a<=t.length+1/\1<=a+v/\v<2 ^ 64/\a<=9/\(l=true->1<=a):=by
 have hc:=c.toNat_lt;obtain ⟨M,hM,hM2⟩:∃ M,(if 192<=c.toNat then 192 else 128)=M/\(M=192\/M=128/\c.toNat<192):=⟨_,rfl,by
  by_cases e:192<=c.toNat
  .exact .inl (if_pos e)
  .exact .inr ⟨if_neg e,by omega⟩⟩
 dsimp only [iB] at h;rw [hM] at h;clear hM;by_cases h1:c.toNat<128
 .rw [if_pos h1] at h;have:=iN h;simp only [Prod.mk.injEq] at this;obtain ⟨rfl,rfl,rfl⟩:=this;refine ⟨by omega,by omega,by omega,by omega,λe=>by cases e⟩
 .rw [if_neg h1] at h;by_cases h2:c.toNat-M<=55
  .rw [if_pos h2] at h;have:=iN h;simp only [Prod.mk.injEq] at this;obtain ⟨rfl,rfl,rfl⟩:=this;refine ⟨by omega,by omega,by omega,by omega,λ_=>by omega⟩
  .rw [if_neg h2] at h;by_cases h3:t.length<c.toNat-M-55
   .rw [if_pos h3] at h; cases h
   .rw [if_neg h3] at h;by_cases h4:t.headD 0=0\/iO (t.take (c.toNat-M-55))<=55
    .rw [if_pos h4] at h; cases h
    .rw [if_neg h4] at h;have:=iN h;simp only [Prod.mk.injEq] at this;obtain ⟨rfl,rfl,rfl⟩:=this;have hl:=uR (t.take (c.toNat-M-55));have h8:(t.take (c.toNat-M-55)).length<=8:=by
      rw [List.length_take]; omega
     refine ⟨by omega,by omega,?_,by omega,λ_=>by omega⟩;exact aI hl (Nat.le_trans (Nat.pow_le_pow_right (by omega) h8) (by decide))
theorem props (N:Nat):(∀ (s:aM) (around k:Nat) (x:It) (n k':Nat),s.length<=N->fC s around k = .ok (x,n,k')->1<=n/\n<=s.length/\k<k'/\k'<=4096)/\
  (∀ (s:aM) (around k:Nat) (xs:List It) (k':Nat),s.length<=N->k<=4096->kD s around k = .ok (xs,k')->k+xs.length<=k'/\k'<=4096):=by
 induction N using Nat.strongRecOn with
 | ind N ih =>
  have hread:∀ (s:aM) (around k:Nat) (x:It) (n k':Nat),s.length<=N->fC s around k = .ok (x,n,k')->1<=n/\n<=s.length/\k<k'/\k'<=4096:=by
   intro s around k x n k' hN h;cases s with
   | nil =>
    rw [fC] at h;split at h
    .cases h
    .split at h <;> cases h
   | cons c t =>
    rw [fC] at h;split at h
    .cases h
    .split at h
     .cases h
     .rename_i hk;split at h
      .cases h
      .rename_i a v hh;obtain ⟨h1,h2,h3,h4,h5⟩:=ku hh;have h6:=h5 rfl;split at h
       .cases h
       .rename_i hv;split at h
        .cases h
        .rename_i xs k2 ha;have:=iN h;simp only [Prod.mk.injEq] at this;obtain ⟨rfl,rfl,rfl⟩:=this;rw [List.length_cons] at hN ⊢;obtain ⟨g1,g2⟩:=(ih (N-1) (by omega)).2 _ _ _ _ _ (by rw [List.length_take,List.length_drop]; omega) (by omega) ha;omega
      .rename_i a v hh;obtain ⟨h1,h2,h3,h4,h5⟩:=ku hh;split at h
       .cases h
       .rename_i hv;split at h
        .cases h
        .have:=iN h;simp only [Prod.mk.injEq] at this;obtain ⟨rfl,rfl,rfl⟩:=this;rw [List.length_cons];omega
  refine ⟨hread,λs around k xs k' hN hk h=>?_⟩;cases s with
  | nil =>
   rw [kD] at h;have:=iN h;simp only [Prod.mk.injEq] at this;obtain ⟨rfl,rfl⟩:=this;simp;omega
  | cons c t =>
   rw [kD] at h;split at h
   .cases h
   .rename_i x n k2 hr;obtain ⟨g1,g2,g3,g4⟩:=hread _ _ _ _ _ _ hN hr;split at h
    .cases h
    .rename_i ys k3 ha;have:=iN h;simp only [Prod.mk.injEq] at this;obtain ⟨rfl,rfl⟩:=this;rw [List.length_cons] at hN;obtain ⟨e1,e2⟩:=(ih (N-1) (by omega)).2 _ _ _ _ _ (by rw [List.length_drop]; omega) g4 ha;rw [List.length_cons];omega
open Pk
def iC (s:aL) (g:Nat) (ar:Int) (w:World):Except Int (It × Nat × Nat)->Prop
 | .error c=>Calls prog 185 #[.pointer (some ⟨g,0,none⟩),.string s,.int .i64 ar] w λe w'=>e = .panicked [fu c]/\w.grownBy w' (some g)
 | .ok (x,n,k')=>Calls prog 185 #[.pointer (some ⟨g,0,none⟩),.string s,.int .i64 ar] w λe w' =>
   ∃ a nn cap,e = .returned (.tuple #[itV x a nn cap,.int .i64 n])/\bK w.heap.size w' x.xs a nn cap/\Tal w' g k'/\w.grownBy w' (some g)
def CX (s:aL):Prop:=∀ (around k g:Nat) (ar:Int) (w:World),ar=around->around<=65->k<=4096->Tal w g k->iC s g ar w (fC s.data.toList around k)
def WW (g:Nat) (w:World):Except Int (List It × Nat)->Ending->World->Prop
 | .error c=>λe w'=>e = .panicked [fu c]/\w.grownBy w' (some g)
 | .ok (xs,k')=>λe w'=>∃ a nn cap,e = .returned (.slice a nn cap)/\bK w.heap.size w' xs a nn cap/\Tal w' g k'/\w.grownBy w' (some g)
def Yx (s:aL) (g:Nat) (ar:Int) (w:World) (r:Except Int (List It × Nat)):Prop:=Calls prog 199 #[.pointer (some ⟨g,0,none⟩),.string s,.int .i64 ar] w (WW g w r)
def Yj (s:aL):Prop:=∀ (around k g:Nat) (ar:Int) (w:World),ar=around->around<=65->k<=4096->Tal w g k->Yx s g ar w (kD s.data.toList around k)
theorem UL (s:aM) (around k:Nat):fC s around k =
  if 64<around then .error 17 else if 4096<k+1 then .error 4 else
  match iB s with
  | .error e=>.error e
  | .ok (l,a,v)=>if s.length-a<v then .error 5 else
   if l then (match kD ((s.drop a).take v) (around+1) (k+1) with
    | .error e=>.error e
    | .ok (xs,k')=>.ok (.mk true ⟨#[]⟩ xs,a+v,k'))
   else if a=1/\v=1/\((s.drop 1).headD 0).toNat<128 then .error 6 else .ok (.mk false ⟨((s.drop a).take v).toArray⟩ [],a+v,k+1):=by
 cases s with
 | nil=>rw [fC]; rfl
 | cons c t =>
  rw [fC];split
  .rfl
  .split
   .rfl
   .cases hh:iB (c::t) with
    | error e=>rfl
    | ok r =>
     obtain ⟨l,a,v⟩:=r;cases l with
     | false=>rfl
     | true =>
      have h1:=(ku hh).2.2.2.2 rfl;have h2:(c::t).drop a=t.drop (a-1):=by
       obtain ⟨b,rfl⟩:∃ b,a=b+1:=⟨a-1,by omega⟩
       rfl
      dsimp only;rw [h2];rfl
theorem met {k:Nat} (hT:Tal w g k) (h:w1=(w.alloc (.cells #[.bool false,.string ⟨#[]⟩,.slice none 0 0] 102)).setCell ⟨g,0,none⟩ (.int .i64 (k+1))) :
  Rg.Own w1 w.heap.size (itC it0 none 0 0) 102/\Tal w1 g (k+1:Nat)/\w.grownBy w1 (some g):=by
 have hlt:=hT.lt;refine ⟨?_,?_,?_⟩
 .rw [h]; exact ou (Rg.Own.new w (itC it0 none 0 0) 102) _ (by omega)
 .rw [h]; exact (hT.below (al1 w (.cells (itC it0 none 0 0) 102))).set (k+1)
 .rw [h]; exact gK (vO (al1 _ _)) (Ba _ _ _ _)
theorem OW (s:aL) (around k g:Nat) (ar:Int) (w:World) (har:ar=around) (ha:64<around) (hk:k<=4096) (hT:Tal w g k):iC s g ar w (.error 17):=by
 have HM:=hid (Qb g ar k (by omega) (by omega) (by omega) (w.alloc (.cells #[.bool false,.string ⟨#[]⟩,.slice none 0 0] 102)) (hT.below (al1 _ _)));have HT:=hid hT;clear har hT;unfold iC;go_enter func185,ntmps185;go_wp2_with fail
 with_reducible refine HM.out.mono ?_
 rintro e w1 ⟨rfl,hw1⟩;have HG:=hid (met HT.out hw1).2.2;clear hw1;go_wp2;simp [bodyPost];exact HG.out
theorem TA (s:aL) (around k g:Nat) (ar:Int) (w:World) (har:ar=around) (ha:around<=64) (hk:k<=4096) (hk2:4096<k+1) (hT:Tal w g k):iC s g ar w (.error 4):=by
 have HM:=hid (Vt g ar k (by omega) (by omega) (by omega) (w.alloc (.cells #[.bool false,.string ⟨#[]⟩,.slice none 0 0] 102)) (hT.below (al1 _ _)));have HT:=hid hT;clear har hT;unfold iC;go_enter func185,ntmps185;go_wp2_with fail
 with_reducible refine HM.out.mono ?_
 rintro e w1 ⟨rfl,hw1⟩;have HG:=hid (met HT.out hw1).2.2;clear hw1;go_wp2;simp [bodyPost];exact HG.out
theorem Pj (s:aL) (around k g:Nat) (ar c:Int) (w:World) (har:ar=around) (ha:around<=64) (hk2:k+1<=4096) (hT:Tal w g k) (hh:iB s.data.toList = .error c):iC s g ar w (.error c):=by
 have HM:=hid (oD g ar k (by omega) (by omega) (by omega) (w.alloc (.cells #[.bool false,.string ⟨#[]⟩,.slice none 0 0] 102)) (hT.below (al1 _ _)));have HT:=hid hT;have ht:=jQ s;rw [hh] at ht;have HH:Hid (∀ w,Calls prog 198 #[.string s] w λe w'=>e = .panicked [fu c]/\w=w'):=hid ht;clear har hT ht;unfold iC;go_enter func185,ntmps185;go_wp2_with fail
 with_reducible refine HM.out.mono ?_
 rintro e w1 ⟨rfl,hw1⟩;have HG:=hid (met HT.out hw1).2.2;clear hw1;go_wp2_with fail
 with_reducible refine (HH.out _).mono ?_
 rintro e w2 ⟨rfl,rfl⟩;go_wp2;simp [bodyPost];exact HG.out
theorem Mx (s:aL) (around k g:Nat) (ar:Int) (w:World) (l:Bool) (a v:Nat) (har:ar=around) (ha:around<=64) (hk2:k+1<=4096) (hT:Tal w g k) (hh:iB s.data.toList = .ok (l,a,v)) (hsz:s.size<=9223372036854775807) (has:a<=s.size) (hlt:s.size-a<v):iC s g ar w (.error 5):=by
 have HM:=hid (oD g ar k (by omega) (by omega) (by omega) (w.alloc (.cells #[.bool false,.string ⟨#[]⟩,.slice none 0 0] 102)) (hT.below (al1 _ _)));have HT:=hid hT;have ht:=jQ s;rw [hh] at ht;have HH:Hid (∀ w,Calls prog 198 #[.string s] w λe w'=>e = .returned (.tuple #[.bool l,.int .i64 a,.int .u64 v])/\w=w'):=hid ht;have hA:(s.size:Int)-(a:Int)=((s.size-a:Nat):Int):=by omega
 clear har hT ht hh;unfold iC;go_enter func185,ntmps185;go_wp2_with fail
 with_reducible refine HM.out.mono ?_
 rintro e w1 ⟨rfl,hw1⟩;obtain ⟨ho1,ht1,hg1⟩:=met HT.out hw1;have HO:=hid ho1;have HT1:=hid ht1;have HG:=hid hg1;clear hw1 ho1 ht1 hg1 HM;go_wp2_with fail
 with_reducible refine (HH.out _).mono ?_
 rintro e w2 ⟨rfl,rfl⟩;go_wp2_with (go_at_call 139; refine (jh _ _).mono ?_; rintro e w3 ⟨rfl,rfl⟩)
 simp [bodyPost];exact HG.out
theorem nH (s:aL) (a v:Nat):s.extract a (a+v)=⟨((s.data.toList.drop a).take v).toArray⟩:=by
 apply ByteArray.ext;apply Array.toList_inj.1;simp [List.extract_eq_take_drop]
theorem yC {b:Nat} {k:Int} (h:Tal w g k) (hne:b≠g) (cs:aN):Tal (w.setRow b cs) g k:=by
 have e:(w.setRow b cs).heap[g]? = w.heap[g]? := setRow_other w b g cs (λe=>hne e.symm);exact ⟨(World.cell?_of_block (a:=⟨g,0,none⟩) e).trans h.1,(World.frozen?_of_block (a:=⟨g,0,none⟩) e).trans h.2⟩
theorem FT {b:Nat} (h:w.grownBy w1 (some g)) (hb:w.heap.size<=b) (cs:aN):w.grownBy (w1.setRow b cs) (some g) :=
 ⟨h.os,h.tape,h.output,by simp; exact h.size,λk hk hr=>(setRow_other w1 b k cs (by omega)).trans (h.block k hk hr)⟩
theorem Mf (s:aL) (around k g:Nat) (ar:Int) (w:World) (a v:Nat) (har:ar=around) (ha:around<=64) (hk2:k+1<=4096) (hT:Tal w g k) (hh:iB s.data.toList = .ok (false,a,v)) (hsz:s.size<=9223372036854775807) (has:a+v<=s.size)
  (h1:a≠1):iC s g ar w (.ok (.mk false ⟨((s.data.toList.drop a).take v).toArray⟩ [],a+v,k+1)):=by
 have HM:=hid (oD g ar k (by omega) (by omega) (by omega) (w.alloc (.cells #[.bool false,.string ⟨#[]⟩,.slice none 0 0] 102)) (hT.below (al1 _ _)));have HT:=hid hT;have ht:=jQ s;rw [hh] at ht;have HH:Hid (∀ w,Calls prog 198 #[.string s] w λe w'=>e = .returned (.tuple #[.bool false,.int .i64 a,.int .u64 v])/\w=w'):=hid ht;have hA:(s.size:Int)-(a:Int)=((s.size-a:Nat):Int):=by omega
 have hle:v<=s.size-a:=by omega
 obtain ⟨B,hB⟩:=ay (s.extract a (a+v))
 have km:B.size=v:=by rw [<-hB,ByteArray.size_extract]; omega
 have rx:Hid (B=⟨((s.data.toList.drop a).take v).toArray⟩):=hid (by rw [<-hB]; exact nH s a v);have q1:((a:Int)==1)=false:=by simp; omega
 clear har hT ht hh;unfold iC;go_enter func185,ntmps185;go_wp2_with fail
 with_reducible refine HM.out.mono ?_
 rintro e w1 ⟨rfl,hw1⟩;obtain ⟨ho1,ht1,hg1⟩:=met HT.out hw1;have HO:=hid ho1;have HT1:=hid ht1;have HG:=hid hg1;clear hw1 ho1 ht1 hg1 HM;go_wp2_with fail
 with_reducible refine (HH.out _).mono ?_
 rintro e w2 ⟨rfl,rfl⟩;go_wp2_with fail
 with_reducible refine (kR B w1).mono ?_
 rintro e w3 ⟨rfl,hb3⟩;have ag:=hid (HO.out.below hb3);have HT3:=hid (HT1.out.below hb3);have j8:=hid (gK HG.out (vO hb3));clear hb3;go_wp2_with (refine wpList_store_rowTo rfl 102 _ _ rfl rfl _ (itC (.mk false B []) none 0 0) rfl rfl 102 (itC it0 none 0 0) ag.out.2 (gG _ _ _ _) rfl (iW _ _ _ _) ?_)
 refine bodyPost_ret (lG rfl _ rfl (cB (setRow_heap _ _ _ _ _ _ ag.out.2))) rfl ⟨none,0,0,?_,bK.nil _ _,yC HT3.out (by have:=HT.out.lt; omega) _,FT j8.out aG _⟩;show Ending.returned (.tuple #[itV (.mk false B []) none 0 0,.int .i64 ((a:Int)+(v:Int))])=_;rw [rx.out];rfl
theorem Ml (s:aL) (around k g:Nat) (ar:Int) (w:World) (a v:Nat) (har:ar=around) (ha:around<=64) (hk2:k+1<=4096) (hT:Tal w g k) (hh:iB s.data.toList = .ok (false,a,v)) (hsz:s.size<=9223372036854775807) (has:a+v<=s.size)
  (h1:a=1) (h2:v≠1):iC s g ar w (.ok (.mk false ⟨((s.data.toList.drop a).take v).toArray⟩ [],a+v,k+1)):=by
 have HM:=hid (oD g ar k (by omega) (by omega) (by omega) (w.alloc (.cells #[.bool false,.string ⟨#[]⟩,.slice none 0 0] 102)) (hT.below (al1 _ _)));have HT:=hid hT;have ht:=jQ s;rw [hh] at ht;have HH:Hid (∀ w,Calls prog 198 #[.string s] w λe w'=>e = .returned (.tuple #[.bool false,.int .i64 a,.int .u64 v])/\w=w'):=hid ht;have hA:(s.size:Int)-(a:Int)=((s.size-a:Nat):Int):=by omega
 have hle:v<=s.size-a:=by omega
 obtain ⟨B,hB⟩:=ay (s.extract a (a+v))
 have km:B.size=v:=by rw [<-hB,ByteArray.size_extract]; omega
 have rx:Hid (B=⟨((s.data.toList.drop a).take v).toArray⟩):=hid (by rw [<-hB]; exact nH s a v);have q1:((a:Int)==1)=true:=by simp; omega
 have q2:((v:Int)==1)=false:=by simp; omega
 clear h1;clear har hT ht hh;unfold iC;go_enter func185,ntmps185;go_wp2_with fail
 with_reducible refine HM.out.mono ?_
 rintro e w1 ⟨rfl,hw1⟩;obtain ⟨ho1,ht1,hg1⟩:=met HT.out hw1;have HO:=hid ho1;have HT1:=hid ht1;have HG:=hid hg1;clear hw1 ho1 ht1 hg1 HM;go_wp2_with fail
 with_reducible refine (HH.out _).mono ?_
 rintro e w2 ⟨rfl,rfl⟩;go_wp2_with fail
 with_reducible refine (kR B w1).mono ?_
 rintro e w3 ⟨rfl,hb3⟩;have ag:=hid (HO.out.below hb3);have HT3:=hid (HT1.out.below hb3);have j8:=hid (gK HG.out (vO hb3));clear hb3;go_wp2_with (refine wpList_store_rowTo rfl 102 _ _ rfl rfl _ (itC (.mk false B []) none 0 0) rfl rfl 102 (itC it0 none 0 0) ag.out.2 (gG _ _ _ _) rfl (iW _ _ _ _) ?_)
 refine bodyPost_ret (lG rfl _ rfl (cB (setRow_heap _ _ _ _ _ _ ag.out.2))) rfl ⟨none,0,0,?_,bK.nil _ _,yC HT3.out (by have:=HT.out.lt; omega) _,FT j8.out aG _⟩;show Ending.returned (.tuple #[itV (.mk false B []) none 0 0,.int .i64 ((a:Int)+(v:Int))])=_;rw [rx.out];rfl
theorem KV (s:aL) (around k g:Nat) (ar:Int) (w:World) (a v:Nat) (har:ar=around) (ha:around<=64) (hk2:k+1<=4096) (hT:Tal w g k) (hh:iB s.data.toList = .ok (false,a,v)) (hsz:s.size<=9223372036854775807) (has:a+v<=s.size)
  (h1:a=1) (h2:v=1) (h3:128<=((s.data.toList.drop 1).headD 0).toNat):iC s g ar w (.ok (.mk false ⟨((s.data.toList.drop a).take v).toArray⟩ [],a+v,k+1)):=by
 have HM:=hid (oD g ar k (by omega) (by omega) (by omega) (w.alloc (.cells #[.bool false,.string ⟨#[]⟩,.slice none 0 0] 102)) (hT.below (al1 _ _)));have HT:=hid hT;have ht:=jQ s;rw [hh] at ht;have HH:Hid (∀ w,Calls prog 198 #[.string s] w λe w'=>e = .returned (.tuple #[.bool false,.int .i64 a,.int .u64 v])/\w=w'):=hid ht;have hA:(s.size:Int)-(a:Int)=((s.size-a:Nat):Int):=by omega
 have hle:v<=s.size-a:=by omega
 obtain ⟨B,hB⟩:=ay (s.extract a (a+v))
 have km:B.size=v:=by rw [<-hB,ByteArray.size_extract]; omega
 have rx:Hid (B=⟨((s.data.toList.drop a).take v).toArray⟩):=hid (by rw [<-hB]; exact nH s a v);have q1:((a:Int)==1)=true:=by simp; omega
 have q2:((v:Int)==1)=true:=by simp; omega
 have q0:0<B.size:=by omega
 have q3:128<=B[0].toNat:=by
  rw [<-jS q0,rx.out,h1,h2];revert h3;cases (s.data.toList.drop 1) <;> simp
 clear h1 h2 h3;clear har hT ht hh;unfold iC;go_enter func185,ntmps185;go_wp2_with fail
 with_reducible refine HM.out.mono ?_
 rintro e w1 ⟨rfl,hw1⟩;obtain ⟨ho1,ht1,hg1⟩:=met HT.out hw1;have HO:=hid ho1;have HT1:=hid ht1;have HG:=hid hg1;clear hw1 ho1 ht1 hg1 HM;go_wp2_with fail
 with_reducible refine (HH.out _).mono ?_
 rintro e w2 ⟨rfl,rfl⟩;go_wp2_with fail
 with_reducible refine (kR B w1).mono ?_
 rintro e w3 ⟨rfl,hb3⟩;have ag:=hid (HO.out.below hb3);have HT3:=hid (HT1.out.below hb3);have j8:=hid (gK HG.out (vO hb3));clear hb3;go_wp2_with (refine wpList_store_rowTo rfl 102 _ _ rfl rfl _ (itC (.mk false B []) none 0 0) rfl rfl 102 (itC it0 none 0 0) ag.out.2 (gG _ _ _ _) rfl (iW _ _ _ _) ?_)
 refine bodyPost_ret (lG rfl _ rfl (cB (setRow_heap _ _ _ _ _ _ ag.out.2))) rfl ⟨none,0,0,?_,bK.nil _ _,yC HT3.out (by have:=HT.out.lt; omega) _,FT j8.out aG _⟩;show Ending.returned (.tuple #[itV (.mk false B []) none 0 0,.int .i64 ((a:Int)+(v:Int))])=_;rw [rx.out];rfl
theorem Tc (s:aL) (around k g:Nat) (ar:Int) (w:World) (a v:Nat) (har:ar=around) (ha:around<=64) (hk2:k+1<=4096) (hT:Tal w g k) (hh:iB s.data.toList = .ok (false,a,v)) (hsz:s.size<=9223372036854775807) (has:a+v<=s.size)
  (h1:a=1) (h2:v=1) (h3:((s.data.toList.drop 1).headD 0).toNat<128):iC s g ar w (.error 6):=by
 have HM:=hid (oD g ar k (by omega) (by omega) (by omega) (w.alloc (.cells #[.bool false,.string ⟨#[]⟩,.slice none 0 0] 102)) (hT.below (al1 _ _)));have HT:=hid hT;have ht:=jQ s;rw [hh] at ht;have HH:Hid (∀ w,Calls prog 198 #[.string s] w λe w'=>e = .returned (.tuple #[.bool false,.int .i64 a,.int .u64 v])/\w=w'):=hid ht;have hA:(s.size:Int)-(a:Int)=((s.size-a:Nat):Int):=by omega
 have hle:v<=s.size-a:=by omega
 obtain ⟨B,hB⟩:=ay (s.extract a (a+v))
 have km:B.size=v:=by rw [<-hB,ByteArray.size_extract]; omega
 have rx:Hid (B=⟨((s.data.toList.drop a).take v).toArray⟩):=hid (by rw [<-hB]; exact nH s a v);have q1:((a:Int)==1)=true:=by simp; omega
 have q2:((v:Int)==1)=true:=by simp; omega
 have q0:0<B.size:=by omega
 have q3:B[0].toNat<128:=by
  rw [<-jS q0,rx.out,h1,h2];revert h3;have hl:0<(s.data.toList.drop 1).length:=by rw [List.length_drop,<-dR]; omega
  revert hl;cases (s.data.toList.drop 1) <;> simp
 clear h1 h2 h3;clear har hT ht hh;unfold iC;go_enter func185,ntmps185;go_wp2_with fail
 with_reducible refine HM.out.mono ?_
 rintro e w1 ⟨rfl,hw1⟩;obtain ⟨ho1,ht1,hg1⟩:=met HT.out hw1;have HO:=hid ho1;have HT1:=hid ht1;have HG:=hid hg1;clear hw1 ho1 ht1 hg1 HM;go_wp2_with fail
 with_reducible refine (HH.out _).mono ?_
 rintro e w2 ⟨rfl,rfl⟩;go_wp2_with (go_at_call 139; refine (jh _ _).mono ?_; rintro e w3 ⟨rfl,rfl⟩)
 simp [bodyPost];exact HG.out
theorem RN (s:aL) (around k g:Nat) (ar:Int) (w:World) (a v:Nat) (har:ar=around) (ha:around<=64) (hk2:k+1<=4096) (hT:Tal w g k) (hh:iB s.data.toList = .ok (true,a,v)) (hsz:s.size<=9223372036854775807) (has:a+v<=s.size)
  (hC:Yj (s.extract a (a+v))):iC s g ar w (match kD ((s.data.toList.drop a).take v) (around+1) (k+1) with
   | .error e=>.error e
   | .ok (xs,k')=>.ok (.mk true ⟨#[]⟩ xs,a+v,k')):=by
 have HM:=hid (oD g ar k (by omega) (by omega) (by omega) (w.alloc (.cells #[.bool false,.string ⟨#[]⟩,.slice none 0 0] 102)) (hT.below (al1 _ _)));have HT:=hid hT;have ht:=jQ s;rw [hh] at ht;have HH:Hid (∀ w,Calls prog 198 #[.string s] w λe w'=>e = .returned (.tuple #[.bool true,.int .i64 a,.int .u64 v])/\w=w'):=hid ht;have hA:(s.size:Int)-(a:Int)=((s.size-a:Nat):Int):=by omega
 have hle:v<=s.size-a:=by omega
 have hBl:(s.extract a (a+v)).data.toList=(s.data.toList.drop a).take v:=by rw [nH]
 obtain ⟨B,hB⟩:=ay (s.extract a (a+v))
 rw [hB] at hC hBl;have HA:=hid (λ(w1:World) (ht:Tal w1 g (k+1:Nat))=>hC (around+1) (k+1) g (wrap64 (ar+1)) w1 (by simp only [wrap64]; omega) (by omega) (by omega) ht);have km:B.size=v:=by rw [<-hB,ByteArray.size_extract]; omega
 rw [hBl] at HA;clear har hT ht hh hBl hC;cases hr:kD ((s.data.toList.drop a).take v) (around+1) (k+1) with
 | error c =>
  rw [hr] at HA;clear hr;have LR:Hid (∀ w1,Tal w1 g (k+1:Nat)->Calls prog 199 #[.pointer (some ⟨g,0,none⟩),.string B,.int .i64 (wrap64 (ar+1))] w1 λe w'=>e = .panicked [fu c]/\w1.grownBy w' (some g)):=hid HA.out;clear HA;dsimp only;unfold iC;go_enter func185,ntmps185;go_wp2_with fail
  with_reducible refine HM.out.mono ?_
  rintro e w1 ⟨rfl,hw1⟩;obtain ⟨ho1,ht1,hg1⟩:=met HT.out hw1;have HO:=hid ho1;have HT1:=hid ht1;have HG:=hid hg1;clear hw1 ho1 ht1 hg1 HM;go_wp2_with fail
  with_reducible refine (HH.out _).mono ?_
  rintro e w2 ⟨rfl,rfl⟩;go_wp2_with fail
  with_reducible refine (LR.out _ HT1.out).mono ?_
  rintro e w3 ⟨rfl,hg3⟩;have j8:=hid (gK HG.out hg3);clear hg3;go_wp2;simp [bodyPost];exact j8.out
 | ok r =>
  obtain ⟨xs,k'⟩:=r;rw [hr] at HA;clear hr;have LR:Hid (∀ w1,Tal w1 g (k+1:Nat)->Calls prog 199 #[.pointer (some ⟨g,0,none⟩),.string B,.int .i64 (wrap64 (ar+1))] w1 λe w' =>
   ∃ a nn cap,e = .returned (.slice a nn cap)/\bK w1.heap.size w' xs a nn cap/\Tal w' g k'/\w1.grownBy w' (some g)):=hid HA.out
  clear HA;dsimp only;unfold iC;go_enter func185,ntmps185;go_wp2_with fail
  with_reducible refine HM.out.mono ?_
  rintro e w1 ⟨rfl,hw1⟩;obtain ⟨ho1,ht1,hg1⟩:=met HT.out hw1;have HO:=hid ho1;have HT1:=hid ht1;have HG:=hid hg1;clear hw1 ho1 ht1 hg1 HM;go_wp2_with fail
  with_reducible refine (HH.out _).mono ?_
  rintro e w2 ⟨rfl,rfl⟩;go_wp2_with fail
  with_reducible refine (LR.out _ HT1.out).mono ?_
  rintro e w3 ⟨xa,xn,xc,rfl,CA,ht3,hg3⟩;have ag:=hid (nP HO.out hg3 (by have:=HT.out.lt; omega));have HI3:=hid (lI CA HO.out.1);have HT3:=hid ht3;have j8:=hid (gK HG.out hg3);have bj:=hid HG.out.size;clear hg3 CA ht3;go_wp2_with (refine wpList_store_rowTo rfl 102 _ _ rfl rfl _ (itC (.mk true ⟨#[]⟩ xs) xa xn xc) rfl rfl 102 (itC it0 none 0 0) ag.out.2 (gG _ _ _ _) rfl (iW _ _ _ _) ?_)
  refine bodyPost_ret (lG rfl _ rfl (cB (setRow_heap _ _ _ _ _ _ ag.out.2))) rfl ⟨xa,xn,xc,?_,bK.weak (HI3.out _) bj.out,yC HT3.out (by have:=HT.out.lt; omega) _,FT j8.out aG _⟩;show Ending.returned (.tuple #[itV (.mk true ⟨#[]⟩ xs) xa xn xc,.int .i64 ((a:Int)+(v:Int))])=_;rfl
abbrev Hdr:Type:=aK × Nat × Nat
def flat:List It->List Hdr->List Value
 | x::xs,h::hs=>.bool x.l :: .string x.s :: .slice h.1 h.2.1 h.2.2::flat xs hs
 | _,_=>[]
theorem DF:∀ (xs:List It) (hs:List Hdr) (x:It) (h:Hdr),hs.length=xs.length->flat (xs++[x]) (hs++[h])=flat xs hs++[.bool x.l,.string x.s,.slice h.1 h.2.1 h.2.2]
 | [],[],_,_,_=>rfl
 | y::xs,g::hs,x,h,e=>by
  have:=DF xs hs x h (by simpa using e);simp [flat,this]
theorem MN:∀ (xs:List It) (hs:List Hdr) (j:Nat) (x:It) (h:Hdr),xs[j]? = some x->hs[j]? = some h->
  (flat xs hs)[j*3]? = some (.bool x.l)/\(flat xs hs)[j*3+1]? = some (.string x.s)/\(flat xs hs)[j*3+2]? = some (.slice h.1 h.2.1 h.2.2)
 | [],_,_,_,_,hx,_=>by simp at hx
 | _::_,[],_,_,_,_,hh=>by simp at hh
 | y::xs,g::hs,0,x,h,hx,hh=>by
  simp at hx hh;subst hx hh;simp [flat]
 | y::xs,g::hs,j+1,x,h,hx,hh=>by
  have:=MN xs hs j x h (by simpa using hx) (by simpa using hh);rw [show (j+1)*3=j*3+3 by omega];simp only [flat,List.getElem?_cons_succ];exact this
def pY (B:Nat) (w:World) (v:Value) (xs:List It):Prop :=
 ∃ hs:List Hdr,hs.length=xs.length/\w.ownsRow B 102 3 v xs.length (flat xs hs)/\∀ (j:Nat) (x:It) (h:Hdr),xs[j]? = some x->hs[j]? = some h->iY (λb=>B<=b/\v.ownBlock≠some b) w x.xs h.1 h.2.1 h.2.2
theorem pY.nil (B:Nat) (w:World):pY B w (.slice none 0 0) []:=⟨[],rfl,World.ownsRow_nil _ _ _ _,λ_ _ _ hx _=>by simp at hx⟩
theorem pY.lt {B:Nat} {w:World} {v:Value} {xs:List It} (h:pY B w v xs):∀ k,v.ownBlock=some k->B<=k/\k<w.heap.size:=by
 obtain ⟨hs,_,ho,_⟩:=h;exact ho.lt
theorem pY.gb {xs:List It} (h:pY B w v xs) (hg:w.grownBy w' (some g)) (hlt:g<B):pY B w' v xs:=by
 have hl:=h.lt;obtain ⟨hs,hlen,ho,hi⟩:=h;refine ⟨hs,hlen,ho.kept hg (.inr λe=>?_),λj x h hx hh=>?_⟩
 .have:=(hl g e).1;omega
 .exact (hi j x h hx hh).kept hg.size λb o hb hlt'=>World.cell?_of_block (a:=⟨b,o,none⟩) (hg.block b hlt' (λe=>by have:=Option.some.inj e; omega))
theorem pY.below' {xs:List It} (h:pY B w v xs) (hb:Below w.heap.size w w'):pY B w' v xs:=by
 obtain ⟨hs,hlen,ho,hi⟩:=h;refine ⟨hs,hlen,ho.kept (Bu.gL hb) (by cases v.ownBlock <;> simp),λj x h hx hh=>(hi j x h hx hh).stays hb⟩
theorem pY.push {v':Value} {xs:List It} {x:It} {n:Nat} {hs:List Hdr} (hlen:hs.length=xs.length) (hi:∀ (j:Nat) (x:It) (h:Hdr),xs[j]? = some x->hs[j]? = some h->iY (λb=>B<=b/\v.ownBlock≠some b) w x.xs h.1 h.2.1 h.2.2)
  (hI:iY (λb=>B<=b/\v.ownBlock≠some b) w x.xs a n cap) (ho:w'.ownsRow B 102 3 v' (xs.length+1) (flat xs hs++[.bool x.l,.string x.s,.slice a n cap]))
  (hg:w.grownBy w' v.ownBlock) (hat:v'.ownBlock=v.ownBlock\/v'.ownBlock=some w.heap.size):pY B w' v' (xs++[x]):=by
 have keep:∀ {ys:List It} {a:aK} {n cap:Nat},iY (λb=>B<=b/\v.ownBlock≠some b) w ys a n cap->iY (λb=>B<=b/\v'.ownBlock≠some b) w' ys a n cap:=λhh=>by
  have h1:=hh.to (p':=λb=>(B<=b/\v'.ownBlock≠some b)/\v.ownBlock≠some b) λb hlt hb=>⟨⟨hb.1,λe=>by
   rcases hat with h2 | h2
   .exact hb.2 (h2 ▸ e)
   .rw [h2] at e;have:=Option.some.inj e;omega⟩,hb.2⟩
  have h2:=h1.kept (w':=w') hg.size λb o hb hlt=>World.cell?_of_block (a:=⟨b,o,none⟩) (hg.block b hlt (λe=>hb.2 e.symm));exact h2.to λb _ hb=>hb.1
 refine ⟨hs++[(a,n,cap)],by simp [hlen],?_,λj y h hy hh=>?_⟩
 .rw [List.length_append,DF xs hs x (a,n,cap) hlen];exact ho
 .by_cases hj:j<xs.length
  .rw [List.getElem?_append_left hj] at hy;rw [List.getElem?_append_left (by omega)] at hh;exact keep (hi j y h hy hh)
  .have hj2:j=xs.length:=by
    have:=(List.getElem?_eq_some_iff.1 hy).1;simp at this;omega
   subst hj2;rw [List.getElem?_append_right aG,Nat.sub_self] at hy;rw [List.getElem?_append_right (by omega),hlen,Nat.sub_self] at hh;simp at hy hh;subst hy hh;exact keep hI
theorem pY.done {xs:List It} (h:pY B w v xs) (hn:xs.length<=4096):∃ a n cap,v = .slice a n cap/\bK B w xs a n cap:=by
 obtain ⟨hs,hlen,ho,hi⟩:=h;rcases ho.2 with ⟨rfl,hz⟩ | ⟨g,cap,cur,rfl,hbg,hg,hnc,hcm,hcs,htake⟩
 .have:xs=[]:=List.eq_nil_of_length_eq_zero hz;subst this;exact ⟨none,0,0,rfl,bK.nil _ _⟩
 .refine ⟨_,_,_,rfl,iY.mk (λj=>(hs.getD j (none,0,0)).1) (λj=>(hs.getD j (none,0,0)).2.1) (λj=>(hs.getD j (none,0,0)).2.2) rfl hnc hcm (by omega) (λe=>by cases e) (λj x hx=>?_) (λj x hx=>?_)⟩
  .have hj:j<hs.length:=by rw [hlen]; exact (List.getElem?_eq_some_iff.1 hx).1
   have hh:hs[j]? = some (hs.getD j (none,0,0)):=by simp [hj]
   obtain ⟨f0,f1,f2⟩:=MN xs hs j x _ hx hh;have e:∀ i,(⟨g,0,none⟩:Addr).add i=⟨g,0+i,none⟩:=λi=>Addr.add_mid g 0 i;refine ⟨g,0,rfl,hbg,(Array.getElem?_eq_some_iff.1 hg).1,?_,?_,?_⟩
   .have:=ho.cells (g:=g) rfl _ _ f0;rw [e] at this;exact this
   .have:=ho.cells (g:=g) rfl _ _ f1;rw [e,<-Nat.add_assoc] at this;exact this
   .have:=ho.cells (g:=g) rfl _ _ f2;rw [e,<-Nat.add_assoc] at this;exact this
  .have hj:j<hs.length:=by rw [hlen]; exact (List.getElem?_eq_some_iff.1 hx).1
   have hh:hs[j]? = some (hs.getD j (none,0,0)):=by simp [hj]
   exact (hi j x _ hx hh).to λb _ hb=>hb.1
theorem xQ:(prog.info? 102).map (λi=>(i.zero,i.size,i.bytes))=some (some (.agg #[.bool false,.string ⟨#[]⟩,.slice none 0 0]),3,48):=by kernel_rfl
theorem Ta {a:Act} {x:It} {A:aK} {N C:Nat} (hw:Region.wanted o (yielded ops a.tmps)=true)
  (ho:∃ y,o.op = .buildSlice 100 1 #[(0,y)]/\a.eval y = .agg #[.bool x.l,.string x.s,.slice A N C])
  (h:∀ w' b,Rg.Own w' b (itC x A N C) 102->Below w.heap.size w w'->K (a.put o.dst (.slice (some ⟨b,0,none⟩) 1 1)) w'):if Region.wanted o (yielded ops a.tmps)=true then Oper.wp prog o a w K Q else K (a.put o.dst undef) w:=by
 obtain ⟨y,ho,hy⟩:=ho;obtain ⟨i0,hi,hz,hs,hby⟩:=info_parts xQ;refine Rg.want hw (wp_buildSlice 100 102 1 _ ho (itC x A N C) i0 _ underlying100 hi hz (by rw [hs]; decide) (by rw [hs]; decide) ?_ (h _ _ (Rg.Own.new _ _ _) (al1 _ _)));simp only [List.map_toArray,List.map_cons,List.map_nil,hy,hs];kernel_rfl
theorem RS {o:Oper} {a:Act} {w:World} {K:Act->World->Prop} {Q:Exit->Act->World->Prop} {ops:Array Oper} {B b2:Nat} {v:Value} {xs:List It} {x:It} {A:aK} {N C:Nat} (hw:Region.wanted o (yielded ops a.tmps)=true)
  (ho:∃ s y,o.op = .call { callee:=.builtin .append,args:=#[s,y],argTypes:=#[100,100] }/\a.eval s=v/\a.eval y = .slice (some ⟨b2,0,none⟩) 1 1)
  (hR:pY B w v xs) (h2:Rg.Own w b2 (itC x A N C) 102) (hI:iY (λb=>B<=b/\v.ownBlock≠some b) w x.xs A N C) (hn:xs.length<=4096) (hB:B<=w.heap.size)
  (h:∀ v' w',pY B w' v' (xs++[x])->w.grownBy w' v.ownBlock->K (a.put o.dst v') w'):if Region.wanted o (yielded ops a.tmps)=true then Oper.wp prog o a w K Q else K (a.put o.dst undef) w:=by
 obtain ⟨s,y,ho,hs,hy⟩:=ho;obtain ⟨i0,z0,hi,hz,hsz,hby,hzc⟩:=tC;obtain ⟨hs',hlen,hown,hi'⟩:=hR;obtain ⟨v',w',hr,h3,h4,_,h5⟩:=run_append_own_at (P:=prog) w B 100 o.type 102 i0 z0 3 48 underlying100 hi hz hsz hby hzc (by decide) v xs.length _ hown ⟨b2,0,none⟩ 1 1 [.bool x.l,.string x.s,.slice A N C] rfl
  (λj u hu=>by
   obtain ⟨c0,c1,c2⟩:=cB h2.2;rw [Addr.add_mid,Nat.zero_add]
   match j,hu with
   | 0,hu=>cases hu; exact c0
   | 1,hu=>cases hu; exact c1
   | 2,hu=>cases hu; exact c2)
  (λu hu=>by simp at hu; rcases hu with rfl | rfl | rfl <;> rfl) (by unfold maxLen; omega) (by omega) hB
 refine Rg.want hw ?_;unfold Oper.wp execOp;simp only [ho,resolve,invoke,builtin,Sem.run_bind,Sem.run_pure,Result.andThen_ok,List.map_toArray,List.map_cons,List.map_nil,hs,hy,hr];exact h v' w' (pY.push hlen hi' hI h3 h4 h5) h4
theorem Tal.gb {k:Int} {r:Option Nat} (h:Tal w g k) (hg:w.grownBy w' r) (hr:∀ j,r=some j->g≠j):Tal w' g k:=by
 have e:w'.heap[g]? = w.heap[g]? := hg.block g h.lt (λe=>hr g e.symm rfl);exact ⟨(World.cell?_of_block (a:=⟨g,0,none⟩) e).trans h.1,(World.frozen?_of_block (a:=⟨g,0,none⟩) e).trans h.2⟩
theorem ZW {r:Option Nat} (h:w.grownBy w1 (some g)) (h2:w1.grownBy w' r) (hr:∀ j,r=some j->w.heap.size<=j):w.grownBy w' (some g) :=
 ⟨h2.os.trans h.os,h2.tape.trans h.tape,h2.output.trans h.output,Nat.le_trans h.size h2.size,λk hk hne=>(h2.block k (aI hk h.size) (λe=>by have:=hr k e.symm; omega)).trans (h.block k hk hne)⟩
theorem WM {b:Nat} {cs:aN} {T:TypeId} {r:Option Nat} (h:Rg.Own w b cs T) (hg:w.grownBy w' r) (hne:r≠some b):Rg.Own w' b cs T :=
 ⟨aI h.1 hg.size,(hg.block b h.1 (λe=>hne e.symm)).trans h.2⟩
def glue (xs:List It):Except Int (List It × Nat)->Except Int (List It × Nat)
 | .error c=>.error c
 | .ok (ys,k)=>.ok (xs++ys,k)
theorem Qj {s:aM} {around k n k':Nat} {xs:List It} {x:It} (hs:s≠[]) (hn:1<=n) (h:fC s around k = .ok (x,n,k')):glue xs (kD s around k)=glue (xs++[x]) (kD (s.drop n) around k'):=by
 cases s with
 | nil=>exact absurd rfl hs
 | cons c t =>
  obtain ⟨m,rfl⟩:∃ m,n=m+1:=⟨n-1,by omega⟩
  rw [kD,h];dsimp only;rw [Nat.add_sub_cancel,List.drop_succ_cons];cases kD (t.drop m) around k' with
  | error e=>rfl
  | ok r=>obtain ⟨ys,k2⟩:=r; simp [glue]
theorem Sz {s:aM} {around k:Nat} {xs:List It} {c:Int} (hs:s≠[]) (h:fC s around k = .error c):glue xs (kD s around k) = .error c:=by
 cases s with
 | nil=>exact absurd rfl hs
 | cons d t=>rw [kD,h]; rfl
theorem Tv (xs:List It) (around k:Nat):glue xs (kD [] around k) = .ok (xs,k):=by
 rw [kD];simp [glue]
theorem Qc (r:Except Int (List It × Nat)):glue [] r=r:=by
 cases r with
 | error c=>rfl
 | ok r=>rfl
theorem Kq (r:aL) (n:Nat) (h:n<=r.size):(r.extract n r.size).data.toList=r.data.toList.drop n:=by
 have:=nH r n (r.size-n);rw [show n+(r.size-n)=r.size by omega] at this;rw [this];show (r.data.toList.drop n).take (r.size-n)=_;rw [List.take_of_length_le];rw [List.length_drop,<-dR];exact aG
def Hw:Value->Nat
 | .string r=>r.size
 | _=>0
theorem PG (s:aL) (hsz:s.size<=9223372036854775807) (hR:∀ t:aL,t.size<=s.size->CX t):Yj s:=by
 intro around k g ar w har ha hk hT;have hgl:=hT.lt;obtain ⟨r0,hr0⟩:=ay (kD s.data.toList around k)
 rw [hr0];have dd:=hid hR;have FO:=hid har;have HT:=hid hT;have H0:Hid (r0=glue [] (kD s.data.toList around k)):=hid (by rw [Qc,hr0]);clear hR har hT hr0;unfold Yx;go_enter func199,ntmps199;go_wp2;go_loopw [1,7] (λrs v wr=>∃ (r:aL) (xs:List It) (kk:Nat),rs = .string r/\r.size<=s.size/\kk<=4096/\xs.length<=kk/\Hid (r0=glue xs (kD r.data.toList around kk))/\Hid (pY w.heap.size wr v xs)/\Hid (Tal wr g kk)/\Hid (w.grownBy wr (some g))) (λrs _ _=>Hw rs)
 case atStart=>exact ⟨s,[],k,rfl,aG,hk,Nat.zero_le _,hid H0.out,hid (pY.nil _ _),hid HT.out,hid (WJ _ _)⟩
 case round =>
  obtain ⟨r,xs,kk,rfl,hrs,hkk,hxk,fd,dl,fw,HG⟩:=hrel;clear H0 HT;by_cases hne:r.data.toList=[]
  .have e1:(r.toList==[])=true:=by rw [ByteArray.toList_eq,hne]; rfl
   have e2:(r.toList != [])=false:=by rw [bne,e1]; rfl
   have hg:=fd.out;rw [hne,Tv] at hg;obtain ⟨a',n',c',hv,hI⟩:=dl.out.done (by omega);subst hg;subst hv;have HI:=hid hI;clear dd hI dl fd hne;go_wp2;go_ret;exact ⟨a',n',c',rfl,HI.out,fw.out,HG.out⟩
  .have e1:(r.toList==[])=false:=by rw [beq_eq_false_iff_ne,ByteArray.toList_eq]; exact hne
   have e2:(r.toList != [])=true:=by rw [bne,e1]; rfl
   have hrd:=dd.out r hrs around kk g ar wr FO.out ha hkk fw.out;cases hrr:fC r.data.toList around kk with
   | error c =>
    rw [hrr] at hrd;have HD:Hid (Calls prog 185 #[.pointer (some ⟨g,0,none⟩),.string r,.int .i64 ar] wr λe w'=>e = .panicked [fu c]/\wr.grownBy w' (some g)):=hid hrd;have hg:=fd.out;rw [Sz hne hrr] at hg;subst hg;clear dd hrd hrr fd hne dl;go_wp2_with fail
    with_reducible refine HD.out.mono ?_
    rintro e w1 ⟨rfl,hg1⟩;have lz:=hid (gK HG.out hg1);clear hg1;go_wp2;simp [bodyPost];exact ⟨rfl,lz.out⟩
   | ok q =>
    obtain ⟨x,n,k2⟩:=q;rw [hrr] at hrd;have HD:Hid (Calls prog 185 #[.pointer (some ⟨g,0,none⟩),.string r,.int .i64 ar] wr λe w' =>
     ∃ a nn cap,e = .returned (.tuple #[itV x a nn cap,.int .i64 n])/\bK wr.heap.size w' x.xs a nn cap/\Tal w' g k2/\wr.grownBy w' (some g)):=hid hrd
    obtain ⟨p1,p2,p3,p4⟩:=(props r.data.toList.length).1 _ _ _ _ _ _ aG hrr;rw [<-dR] at p2;have hg:=fd.out;rw [Qj hne p1 hrr] at hg;have LS:=hid hg;have hlv:=dl.out.lt;have gm:Hid (∀ j,u7.ownBlock=some j->w.heap.size<=j/\g≠j):=hid (λj hj=>⟨(hlv j hj).1,by have:=(hlv j hj).1; omega⟩);have vA:Hid (∀ j,u7.ownBlock=some j->j<wr.heap.size):=hid (λj hj=>(hlv j hj).2);have hrb:r.size<=9223372036854775807:=by omega
    clear dd hrd hrr fd hne hg hlv;unfold itV at HD;go_wp2_with fail
    with_reducible refine HD.out.mono ?_
    rintro e w1 ⟨A,N,C,rfl,hI,ht,hg1⟩;have hz1:=hg1.size;have hD:Below w1.heap.size w1 (w1.alloc (.cells #[.bool x.l,.string x.s,.slice A N C] 102)).drew:=(al1 _ _).drew;have HR1:=hid ((dl.out.gb hg1 hgl).below' hD);have HI1:Hid (iY (λb=>w.heap.size<=b/\u7.ownBlock≠some b) (w1.alloc (.cells #[.bool x.l,.string x.s,.slice A N C] 102)).drew x.xs A N C):=hid ((hI.to (λb _ hb=>⟨Nat.le_trans HG.out.size hb,λe=>by have:=vA.out b e; omega⟩)).stays hD);have HT1:=hid (ht.below hD);have lz:=hid (gK (gK HG.out hg1) (vO hD))
    have HZ1:Hid (w.heap.size<=(w1.alloc (.cells #[.bool x.l,.string x.s,.slice A N C] 102)).drew.heap.size):=hid (Nat.le_trans HG.out.size (Nat.le_trans hz1 hD.size));have hOx:Rg.Own (w1.alloc (.cells #[.bool x.l,.string x.s,.slice A N C] 102)) w1.heap.size (itC x A N C) 102:=Rg.Own.new _ _ _;have g9:Hid (u7.ownBlock≠some w1.heap.size):=hid (λe=>by have:=vA.out _ e; omega);have HN:Hid (xs.length<=4096):=hid (by omega);clear hI ht hg1 hz1 hD HD;go_wp2_with fail
    refine aC (S:=λw'=>Rg.Own w' w1.heap.size (itC x A N C) 102) (hOx.drew) λhld=>?_;refine ah 0 ?_;try simp only [Act.put,ak]
    refine ah 1 ?_ (hy:=by intro wz hSw; obtain ⟨z0,z1,z2⟩:=cB hSw.2; go_simp <;> with_reducible rfl);try simp only [Act.put,ak]
    refine ah 4 ?_;try simp only [Act.put,ak]
    refine ah 5 ?_;try simp only [Act.put,ak]
    refine ah 6 ?_ (hy:=by intro wz hSw; have S9:(n:Int)<=(r.size:Int):=(by omega); go_simp <;> with_reducible rfl);try simp only [Act.put,ak]
    refine aj 2 λK hK=>?_;refine Ta (x:=x) (by rfl) ⟨_,rfl,rfl⟩ ?_;rintro gr b2 h2 hbx;have il:=hid (HR1.out.below' hbx);have HI0:=hid (HI1.out.stays hbx);have HT0:=hid (HT1.out.below hbx);have tn:=hid (gK lz.out (vO hbx));have HZ0:=hid (Nat.le_trans HZ1.out hbx.size);refine hK.out _ _ (hld.below hbx) λhld=>?_;clear hK K hbx;try simp only [Act.put,ak]
    refine aj 3 λK hK=>?_;refine RS (by rfl) ⟨_,_,rfl,rfl,rfl⟩ il.out h2 HI0.out HN.out HZ0.out ?_;rintro v' LF zb F6;have HR9:=hid zb;have HT9:=hid (HT0.out.gb F6 (λk hk=>(gm.out k hk).2));have HG9:=hid (ZW tn.out F6 (λk hk=>(gm.out k hk).1));have hown:=WM hld F6 (λe=>g9.out e);refine hK.out _ _ (hown) λhld=>?_;clear hK K hown zb F6;try simp only [Act.put,ak]
    refine ah 7 ?_;try simp only [Act.put,ak]
    refine ah 8 ?_;try simp only [Act.put,ak]
    refine aB ?_;have HE:Hid ((r.extract n r.size).data.toList=r.data.toList.drop n):=hid (Kq r n p2);have hes:(r.extract n r.size).size=r.size-n:=by rw [ByteArray.size_extract]; omega
    obtain ⟨r2,hr2⟩:=ay (r.extract n r.size)
    rw [hr2] at HE hes;simp only [hr2];clear hr2;go_wp2;go_roundw
    case rel=>exact ⟨r2,xs++[x],k2,rfl,by omega,p4,by rw [List.length_append,List.length_singleton]; omega,hid (by rw [HE.out]; exact LS.out),hid HR9.out,hid HT9.out,hid HG9.out⟩
    case measure=>simp [Hw]; omega
theorem KZ (s:aL) (hsz:s.size<=9223372036854775807) (hA:∀ t:aL,t.size<s.size->Yj t):CX s:=by
 intro around k g ar w har ha hk hT;rw [UL];by_cases h1:64<around
 .rw [if_pos h1]; exact OW s around k g ar w har h1 hk hT
 .rw [if_neg h1];by_cases h2:4096<k+1
  .rw [if_pos h2]; exact TA s around k g ar w har (by omega) hk h2 hT
  .rw [if_neg h2];cases hh:iB s.data.toList with
   | error c=>exact Pj s around k g ar c w har (by omega) (by omega) hT hh
   | ok r =>
    obtain ⟨l,a,v⟩:=r;dsimp only;have hp:a<=s.size/\1<=a+v/\v<2 ^ 64/\(l=true->1<=a):=by
     cases hl:s.data.toList with
     | nil=>rw [hl] at hh; cases hh
     | cons c t =>
      rw [hl] at hh;have hsl:s.size=t.length+1:=by rw [dR,hl]; rfl
      obtain ⟨q1,q2,q3,_,q5⟩:=ku hh;exact ⟨by omega,q2,q3,q5⟩
    obtain ⟨hp1,hp2,hp3,hp4⟩:=hp;rw [<-dR];by_cases h3:s.size-a<v
    .rw [if_pos h3]; exact Mx s around k g ar w l a v har (by omega) (by omega) hT hh hsz hp1 h3
    .rw [if_neg h3];have has:a+v<=s.size:=by omega
     cases l with
     | true =>
      rw [if_pos rfl];exact RN s around k g ar w a v har (by omega) (by omega) hT hh hsz has (hA _ (by rw [ByteArray.size_extract]; have:=hp4 rfl; omega))
     | false =>
      rw [if_neg (by decide)];by_cases h4:a=1/\v=1/\((s.data.toList.drop 1).headD 0).toNat<128
      .rw [if_pos h4];exact Tc s around k g ar w a v har (by omega) (by omega) hT hh hsz has h4.1 h4.2.1 h4.2.2
      .rw [if_neg h4];by_cases h5:a=1
       .by_cases h6:v=1
        .exact KV s around k g ar w a v har (by omega) (by omega) hT hh hsz has h5 h6 (by
          have:¬ ((s.data.toList.drop 1).headD 0).toNat<128:=λe=>h4 ⟨h5,h6,e⟩;omega)
        .exact Ml s around k g ar w a v har (by omega) (by omega) hT hh hsz has h5 h6
       .exact Mf s around k g ar w a v har (by omega) (by omega) hT hh hsz has h5
theorem tells (N:Nat):∀ s:aL,s.size<=N->s.size<=9223372036854775807->CX s/\Yj s:=by
 induction N using Nat.strongRecOn with
 | ind N ih =>
  have hr:∀ s:aL,s.size<=N->s.size<=9223372036854775807->CX s:=λs hN hs =>
   KZ s hs λt ht=>(ih t.size (by omega) t aG (by omega)).2
  exact λs hN hs=>⟨hr s hN hs,PG s hs λt ht=>hr t (by omega) (by omega)⟩
structure Fr (ks:List Nat) (w w':World):Prop where
 os:w'.os=w.os
 tape:w'.tape=w.tape
 output:w'.output=w.output
 size:w.heap.size<=w'.heap.size
 block:∀ k,k<w.heap.size->k ∉ ks->w'.heap[k]? = w.heap[k]?
theorem Fr.of {ks:List Nat} (h:w.grownBy w' (some g)) (hg:g∈ks):Fr ks w w' :=
 ⟨h.os,h.tape,h.output,h.size,λk hk hn=>h.block k hk (λe=>hn (by rw [Option.some.inj e]; exact hg))⟩
theorem Fr.row {ks:List Nat} (h:Fr ks w w1) (hg:g∈ks) (cs:aN):Fr ks w (w1.setRow g cs) :=
 ⟨h.os,h.tape,h.output,by simp; exact h.size,λk hk hn=>(setRow_other w1 g k cs (λe=>hn (e ▸ hg))).trans (h.block k hk hn)⟩
theorem Fr.below {ks:List Nat} {w0:World} (h:Fr ks w w') (hb:Below B w0 w) (hB:B<=w0.heap.size) (hk:∀ k,k∈ks->B<=k):Below B w0 w' :=
 ⟨h.os.trans hb.os,h.tape.trans hb.tape,h.output.trans hb.output,Nat.le_trans hb.size h.size,λk hlt=>(h.block k (aI hlt (Nat.le_trans hB hb.size)) (λe=>by have:=hk k e; omega)).trans (hb.block k hlt)⟩
theorem Fr.own {ks:List Nat} {b:Nat} {cs:aN} {T:TypeId} (h:Fr ks w w') (ho:Rg.Own w b cs T) (hn:b ∉ ks):Rg.Own w' b cs T :=
 ⟨aI ho.1 h.size,(h.block b ho.1 hn).trans ho.2⟩
theorem ML {b:Nat} {cs:aN} {T:TypeId} (h:Rg.Own w b cs T) (hne:b≠g):Rg.Own (w.setRow g cs') b cs T :=
 ⟨by simp; exact h.1,(setRow_other w g b cs' hne).trans h.2⟩
theorem qg {b:Nat} {cs:aN} {T:TypeId} (h:Rg.Own w b cs T):Rg.Own (w.setRow b cs') b cs' T :=
 ⟨by simp; exact h.1,setRow_heap _ _ _ _ _ _ h.2⟩
theorem Vu (s:aL) (hC:CX s) (x:It) (n k':Nat) (hr:fC s.data.toList 0 0 = .ok (x,n,k')) (g bs bx bn:Nat) (w:World) (hT:Tal w g 0) (hS:Rg.Own w bs #[.string s] 9) (hX:Rg.Own w bx (itC it0 none 0 0) 102) (hN:Rg.Own w bn #[.int .i64 0] 3)
  (h2:bx≠g) (h3:bn≠g) (h4:bn≠bx) :
  Calls prog 184 #[.pointer (some ⟨g,0,none⟩),.pointer (some ⟨bs,0,none⟩),.pointer (some ⟨bx,0,none⟩),.pointer (some ⟨bn,0,none⟩)] w λe w' =>
   e = .returned (.tuple #[])/\∃ a nn cap,Rg.Own w' bx (itC x a nn cap) 102/\Rg.Own w' bn #[.int .i64 n] 3/\bK w.heap.size w' x.xs a nn cap/\Fr [g,bx,bn] w w':=by
 have hd:=hC 0 0 g 0 w rfl (by omega) (by omega) hT;rw [hr] at hd;have HD:Hid (Calls prog 185 #[.pointer (some ⟨g,0,none⟩),.string s,.int .i64 0] w λe w' =>
   ∃ a nn cap,e = .returned (.tuple #[itV x a nn cap,.int .i64 n])/\bK w.heap.size w' x.xs a nn cap/\Tal w' g k'/\w.grownBy w' (some g)):=hid hd
 obtain ⟨c0,_⟩:=mY hS;have HX:=hid hX;have HN:=hid hN;unfold itV at HD;clear hd hC hr hT hS hX hN;go_enter func184,ntmps184;go_wp2_with fail
 with_reducible refine HD.out.mono ?_
 rintro e w1 ⟨a,nn,cap,rfl,hI,_,hg⟩;have bd:=hid (nP HX.out hg h2);have c8:=hid (nP HN.out hg h3);have HI:=hid hI;have HF:=hid (Fr.of (ks:=[g,bx,bn]) hg (by simp));have ag:=hid (ML c8.out (cs':=itC x a nn cap) h4);clear hI hg c0;go_wp2_with (first | (refine wpList_store_rowTo rfl 102 _ _ rfl rfl _ (itC x a nn cap) rfl rfl 102 (itC it0 none 0 0) bd.out.2 (gG _ _ _ _) rfl (iW _ _ _ _) ?_) | (refine wpList_store_oneTo rfl 3 _ _ rfl rfl _ (.int .i64 n) rfl rfl rfl 3 (.int .i64 0) ag.out.2 (by kernel_rfl) ?_))
 go_end0;refine ⟨rfl,a,nn,cap,ML (qg bd.out) (Ne.symm h4),qg ag.out,?_,(HF.out.row (by simp) _).row (by simp) _⟩;exact lI (lI HI.out HX.out.1 _) HN.out.1 _
theorem Qz (s:aL) (hC:CX s) (c:Int) (hr:fC s.data.toList 0 0 = .error c) (g bs bx bn:Nat) (w:World) (hT:Tal w g 0) (hS:Rg.Own w bs #[.string s] 9) :
  Calls prog 184 #[.pointer (some ⟨g,0,none⟩),.pointer (some ⟨bs,0,none⟩),.pointer (some ⟨bx,0,none⟩),.pointer (some ⟨bn,0,none⟩)] w λe w'=>e = .panicked [fu c]/\w.grownBy w' (some g):=by
 have hd:=hC 0 0 g 0 w rfl (by omega) (by omega) hT;rw [hr] at hd;have HD:Hid (Calls prog 185 #[.pointer (some ⟨g,0,none⟩),.string s,.int .i64 0] w λe w'=>e = .panicked [fu c]/\w.grownBy w' (some g)):=hid hd;obtain ⟨c0,_⟩:=mY hS;clear hd hC hr hT hS;go_enter func184,ntmps184;go_wp2_with fail
 with_reducible refine HD.out.mono ?_
 rintro e w1 ⟨rfl,hg⟩;have HG:=hid hg;clear hg;go_wp2;simp [bodyPost];exact HG.out
theorem Xy {xs:List It} {n:Nat} (h:bK B w xs a n cap) (hu:Rg.Upd w g w') (hg:g<B):bK B w' xs a n cap :=
 bK.kept h (Nat.le_of_eq hu.size.symm) (λb o hB _=>World.cell?_of_block (a:=⟨b,o,none⟩) (hu.block b (by omega)))
def ng (s:aL) (w:World):World:=((((w.alloc (.cells #[.string s] 9)).alloc (.cells #[.bool false,.string ⟨#[]⟩,.slice none 0 0] 102)).alloc (.cells #[.int .i64 0] 161)).alloc (.cells #[.bool false,.string ⟨#[]⟩,.slice none 0 0] 102)).alloc (.cells #[.int .i64 0] 3)
abbrev aaf (w:World):Value:=.func (.func 184) #[] #[.pointer (some ⟨w.heap.size+2,0,none⟩),.pointer (some ⟨w.heap.size,0,none⟩),.pointer (some ⟨w.heap.size+3,0,none⟩),.pointer (some ⟨w.heap.size+4,0,none⟩)]
theorem KJ (s:aL) (w:World):(ng s w).heap.size=w.heap.size+5/\Below w.heap.size w (ng s w)/\Rg.Own (ng s w) w.heap.size #[.string s] 9/\Rg.Own (ng s w) (w.heap.size+1) (itC it0 none 0 0) 102/\
  Rg.Own (ng s w) (w.heap.size+2) #[.int .i64 0] 161/\Rg.Own (ng s w) (w.heap.size+3) (itC it0 none 0 0) 102/\Rg.Own (ng s w) (w.heap.size+4) #[.int .i64 0] 3:=by
 unfold ng;obtain ⟨w1,h1⟩:=au (w.alloc (.cells #[.string s] 9))
 have s1:w1.heap.size=w.heap.size+1:=by rw [h1]; simp
 have o1:Rg.Own w1 w.heap.size #[.string s] 9:=by rw [h1]; exact Rg.Own.new _ _ _
 have b1:Below w.heap.size w w1:=by rw [h1]; exact al1 _ _
 rw [<-h1];obtain ⟨w2,h2⟩:=au (w1.alloc (.cells #[.bool false,.string ⟨#[]⟩,.slice none 0 0] 102))
 have s2:w2.heap.size=w.heap.size+2:=by rw [h2]; simp; omega
 have o2:Rg.Own w2 w1.heap.size (itC it0 none 0 0) 102:=by rw [h2]; exact Rg.Own.new _ _ _
 have b2:Below w1.heap.size w1 w2:=by rw [h2]; exact al1 _ _
 rw [<-h2];obtain ⟨w3,h3⟩:=au (w2.alloc (.cells #[.int .i64 0] 161))
 have s3:w3.heap.size=w.heap.size+3:=by rw [h3]; simp; omega
 have o3:Rg.Own w3 w2.heap.size #[.int .i64 0] 161:=by rw [h3]; exact Rg.Own.new _ _ _
 have b3:Below w2.heap.size w2 w3:=by rw [h3]; exact al1 _ _
 rw [<-h3];obtain ⟨w4,h4⟩:=au (w3.alloc (.cells #[.bool false,.string ⟨#[]⟩,.slice none 0 0] 102))
 have s4:w4.heap.size=w.heap.size+4:=by rw [h4]; simp; omega
 have o4:Rg.Own w4 w3.heap.size (itC it0 none 0 0) 102:=by rw [h4]; exact Rg.Own.new _ _ _
 have b4:Below w3.heap.size w3 w4:=by rw [h4]; exact al1 _ _
 rw [<-h4];obtain ⟨w5,h5⟩:=au (w4.alloc (.cells #[.int .i64 0] 3))
 have s5:w5.heap.size=w.heap.size+5:=by rw [h5]; simp; omega
 have o5:Rg.Own w5 w4.heap.size #[.int .i64 0] 3:=by rw [h5]; exact Rg.Own.new _ _ _
 have b5:Below w4.heap.size w4 w5:=by rw [h5]; exact al1 _ _
 rw [<-h5];rw [s1] at o2;rw [s2] at o3;rw [s3] at o4;rw [s4] at o5;exact ⟨s5,bst (bst (bst (bst b1 b2) b3) b4) b5,(((o1.below b2).below b3).below b4).below b5,((o2.below b3).below b4).below b5,(o3.below b4).below b5,o4.below b5,o5⟩
theorem qR (s:aL) (x:It) (n c:Int) (w:World) (P:aK->Nat->Nat->Prop) (H:Calls prog 92 #[aaf w] (ng s w) λe w'=>e = .returned (.int .i64 c)/\
   ∃ a nn cap,Rg.Own w' (w.heap.size+3) (itC x a nn cap) 102/\Rg.Own w' (w.heap.size+4) #[.int .i64 n] 3/\Rg.Own w' (w.heap.size+1) (itC it0 none 0 0) 102/\P a nn cap/\bK (w.heap.size+5) w' x.xs a nn cap/\Below w.heap.size w w') :
  Calls prog 168 #[.string s] w λe w'=>∃ a nn cap,e = .returned (.tuple #[itV x a nn cap,.int .i64 n,.int .i64 c])/\P a nn cap/\bK (w.heap.size+5) w' x.xs a nn cap/\Below w.heap.size w w':=by
 have da:∀ (fn:Fn) (first cap:aN) (w:World),(Instr.makeFunc fn first cap).run prog w = .ok (.func fn first cap) w:=λ_ _ _ _=>rfl;have HC:=hid H;clear H;obtain ⟨w5,F7⟩:=au (ng s w)
 rw [<-F7] at HC;unfold ng at F7;go_enter func168,ntmps168;go_wp2_with fail
 rw [<-F7]
 with_reducible refine HC.out.mono ?_
 rintro e w6 ⟨rfl,a,nn,cap,hX,hN,hO,hP,De,cI⟩;have HP:=hid hP;have G4:=hid De;have bi:=hid cI;clear De cI hP HC F7;go_wp2_with fail
 refine aC (S:=λw'=>Rg.Own w' (w.heap.size+3) (itC x a nn cap) 102/\Rg.Own w' (w.heap.size+4) #[.int .i64 n] 3) (⟨hX.drew,hN.drew⟩) λhld=>?_;refine ah 0 ?_ (hy:=by intro wz hSw; obtain ⟨z0,z1,z2⟩:=cB hSw.1.2; go_simp <;> with_reducible rfl);try simp only [Act.put,ak]
 refine ah 1 ?_ (hy:=by intro wz hSw; have z:=(mY hSw.2).1; go_simp <;> with_reducible rfl);try simp only [Act.put,ak]
 refine ah 2 ?_;try simp only [Act.put,ak]
 refine aj 3 λK hK=>?_;refine Rg.meetStore (by rfl) hO 102 (itC x a nn cap) ⟨_,_,rfl,rfl,rfl⟩ (gG _ _ _ _) rfl (iW _ _ _ _) ?_;rintro LF F2 hu;have CC:=hld.1.upd hu (by omega);have T7:=hld.2.upd hu (by omega);have GO:=hid (hu.below (B:=w.heap.size) bi.out.drew (by omega));have F5:=hid (Xy (G4.out.stays aH.drew) hu (by omega));refine hK.out _ _ (⟨CC,T7⟩) λhld=>?_;clear hK K hu CC T7 hO;try simp only [Act.put]
 refine ah 4 ?_;try simp only [Act.put,ak]
 refine ah 5 ?_;try simp only [Act.put,ak]
 refine aB ?_;go_wp2;exact bodyPost_ret (PZ rfl _ rfl (cB F2.2)) rfl ⟨a,nn,cap,rfl,HP.out,F5.out,GO.out⟩
def Fv (w:World):Except Int (It × Nat × Nat)->Ending->World->Prop
 | .error c=>λe w'=>e = .returned (.tuple #[itV it0 none 0 0,.int .i64 0,.int .i64 c])/\Below w.heap.size w w'
 | .ok (x,n,_)=>λe w'=>∃ a nn cap,e = .returned (.tuple #[itV x a nn cap,.int .i64 n,.int .i64 0])/\bK w.heap.size w' x.xs a nn cap/\Below w.heap.size w w'
theorem vY (s:aL) (hsz:s.size<=9223372036854775807) (w:World):Calls prog 168 #[.string s] w (Fv w (fC s.data.toList 0 0)):=by
 have hC:=(tells s.size s aG hsz).1;obtain ⟨f0,f1,f2,f3,f4,f5,f6⟩:=KJ s w;have hE:Rg.Own ((ng s w).alloc (.cells #[.int .i64 0] 30)) (ng s w).heap.size #[.int .i64 0] 30:=Rg.Own.new _ _ _;have hA:=al1 (ng s w) (.cells #[.int .i64 0] 30);have g2:=f2.below hA;have g3:=f3.below hA;have g4:=f4.below hA;have g5:=f5.below hA;have g6:=f6.below hA;have g1:=bst f1 hA;have gs:((ng s w).alloc (.cells #[.int .i64 0] 30)).heap.size=w.heap.size+6:=by simp; omega
 cases hr:fC s.data.toList 0 0 with
 | error c =>
  refine (qR s it0 0 c w (λa nn cap=>a=none/\nn=0/\cap=0) ((qd 184 _ (by intro wx; kernel_rfl) (ng s w) c
   (λw'=>((ng s w).alloc (.cells #[.int .i64 0] 30)).grownBy w' (some (w.heap.size+2))) (by
    refine (Qz s hC c hr (w.heap.size+2) w.heap.size (w.heap.size+3) (w.heap.size+4) _ (mY g4) g2).mono ?_;rintro e w' ⟨rfl,hg⟩;exact ⟨rfl,mY (nP hE hg (by omega)),hg⟩)).mono ?_)).mono ?_
  .rintro e w' ⟨rfl,w1,hg,rfl⟩;exact ⟨rfl,none,0,0,ou (nP g5 hg (by omega)) _ (by omega),ou (nP g6 hg (by omega)) _ (by omega),ou (nP g3 hg (by omega)) _ (by omega),⟨rfl,rfl,rfl⟩,bK.nil _ _,
    (BI g1 hg aG (by omega)).setCell (p:=⟨(ng s w).heap.size,0,none⟩) (by show w.heap.size<=(ng s w).heap.size; omega) _⟩
  .rintro e w' ⟨a,nn,cap,rfl,⟨rfl,rfl,rfl⟩,_,hb⟩;exact ⟨rfl,hb⟩
 | ok r =>
  obtain ⟨x,n,k'⟩:=r;refine (qR s x n 0 w (λ_ _ _=>True) ((pQ 184 _ (by intro wx; kernel_rfl) (ng s w)
   (λw'=>∃ a nn cap,Rg.Own w' (w.heap.size+3) (itC x a nn cap) 102/\Rg.Own w' (w.heap.size+4) #[.int .i64 n] 3/\bK (w.heap.size+6) w' x.xs a nn cap/\Fr [w.heap.size+2,w.heap.size+3,w.heap.size+4] ((ng s w).alloc (.cells #[.int .i64 0] 30)) w') (by
    refine (Vu s hC x n k' hr (w.heap.size+2) w.heap.size (w.heap.size+3) (w.heap.size+4) _ (mY g4) g2 g5 g6 (by omega) (by omega) (by omega)).mono ?_;rintro e w' ⟨rfl,a,nn,cap,e1,e2,e3,e4⟩;rw [gs] at e3;exact ⟨rfl,mY (e4.own hE (by simp; omega)),a,nn,cap,e1,e2,e3,e4⟩)).mono ?_)).mono ?_
  .rintro e w' ⟨rfl,w1,⟨a,nn,cap,e1,e2,e3,e4⟩,rfl⟩;refine ⟨rfl,a,nn,cap,ou e1 _ (by omega),ou e2 _ (by omega),ou (e4.own g3 (by simp)) _ (by omega),trivial,?_,?_⟩
   .refine bK.weak (bK.kept e3 (by simp) (λb o hB _=>World.cell?_of_block (a:=⟨b,o,none⟩) (Below.heap_setCell w1 _ _ b (by show b≠(ng s w).heap.size; omega)))) (by omega)
   .exact (e4.below g1 aG (by simp)).setCell (p:=⟨(ng s w).heap.size,0,none⟩) (by show w.heap.size<=(ng s w).heap.size; omega) _
  .rintro e w' ⟨a,nn,cap,rfl,_,hI,hb⟩;exact ⟨a,nn,cap,rfl,bK.weak hI (by omega),hb⟩
def iy (s:aM):Except Int It :=
 match fC s 0 0 with
 | .error c=>.error c
 | .ok (x,n,_)=>if n<s.length then .error 6 else .ok x
def pF (w:World):Except Int It->Ending->World->Prop
 | .error c=>λe w'=>e = .returned (.tuple #[itV it0 none 0 0,.int .i64 c])/\Below w.heap.size w w'
 | .ok x=>λe w'=>∃ a nn cap,e = .returned (.tuple #[itV x a nn cap,.int .i64 0])/\bK w.heap.size w' x.xs a nn cap/\Below w.heap.size w w'
theorem Lf {s:aM} {c:Int} (h:iB s = .error c):0<c:=by
 cases s with
 | nil=>cases h; decide
 | cons d t =>
  dsimp only [iB] at h;generalize (if 192<=d.toNat then 192 else 128)=M at h;split at h
  .cases h
  .split at h
   .cases h
   .split at h
    .cases h; decide
    .split at h
     .cases h; decide
     .cases h
theorem codes (N:Nat):(∀ (s:aM) (around k:Nat) (c:Int),s.length<=N->fC s around k = .error c->0<c)/\(∀ (s:aM) (around k:Nat) (c:Int),s.length<=N->kD s around k = .error c->0<c):=by
 induction N using Nat.strongRecOn with
 | ind N ih =>
  have hread:∀ (s:aM) (around k:Nat) (c:Int),s.length<=N->fC s around k = .error c->0<c:=by
   intro s around k c hN h;cases s with
   | nil =>
    rw [fC] at h;split at h
    .cases h; decide
    .split at h <;> (cases h; decide)
   | cons d t =>
    rw [fC] at h;split at h
    .cases h; decide
    .split at h
     .cases h; decide
     .split at h
      .rename_i hh; cases h; exact Lf hh
      .rename_i a v hh;split at h
       .cases h; decide
       .split at h
        .rename_i ha;cases h;rw [List.length_cons] at hN;exact (ih (N-1) (by omega)).2 _ _ _ _ (by rw [List.length_take,List.length_drop]; omega) ha
        .cases h
      .split at h
       .cases h; decide
       .split at h
        .cases h; decide
        .cases h
  refine ⟨hread,λs around k c hN h=>?_⟩;cases s with
  | nil=>rw [kD] at h; cases h
  | cons d t =>
   rw [kD] at h;split at h
   .rename_i hr; cases h; exact hread _ _ _ _ hN hr
   .split at h
    .rename_i ha;cases h;rw [List.length_cons] at hN;exact (ih (N-1) (by omega)).2 _ _ _ _ (by rw [List.length_drop]; omega) ha
    .cases h
theorem Ej (s:aL) (hsz:s.size<=9223372036854775807) (w:World):Calls prog 144 #[.string s] w (pF w (iy s.data.toList)):=by
 have hg:=vY s hsz (w.alloc (.cells #[.bool false,.string ⟨#[]⟩,.slice none 0 0] 102));unfold iy;have hO:Rg.Own (w.alloc (.cells #[.bool false,.string ⟨#[]⟩,.slice none 0 0] 102)) w.heap.size (itC it0 none 0 0) 102:=Rg.Own.new _ _ _;have HO:=hid hO;clear hO;cases hr:fC s.data.toList 0 0 with
 | error c =>
  have hc:0<c:=(codes s.data.toList.length).1 _ _ _ _ aG hr;rw [hr] at hg;have HG:Hid (Calls prog 168 #[.string s] (w.alloc (.cells #[.bool false,.string ⟨#[]⟩,.slice none 0 0] 102)) λe w'=>e = .returned (.tuple #[itV it0 none 0 0,.int .i64 0,.int .i64 c])/\Below (w.alloc (.cells #[.bool false,.string ⟨#[]⟩,.slice none 0 0] 102)).heap.size (w.alloc (.cells #[.bool false,.string ⟨#[]⟩,.slice none 0 0] 102)) w'):=hid hg;have hne:(c != 0)=true:=by simp; omega
  clear hg hr hc;dsimp only [pF];unfold itV at HG;dsimp only [it0,It.l,It.s] at HG;go_enter func144,ntmps144;go_wp2_with fail
  with_reducible refine HG.out.mono ?_
  rintro e w1 ⟨rfl,hb⟩;have bd:=hid ((HO.out.below hb).below (al1 w1 (.cells #[.bool false,.string ⟨#[]⟩,.slice none 0 0] 102)));have HB1:=hid (bst (oP (yg hb)) (al1 w1 (.cells #[.bool false,.string ⟨#[]⟩,.slice none 0 0] 102)));clear hb;go_wp2_with (refine wpList_store_rowTo rfl 102 _ _ rfl rfl w.heap.size (itC it0 none 0 0) rfl rfl 102 (itC it0 none 0 0) bd.out.2 (gG _ _ _ _) rfl (iW _ _ _ _) ?_)
  exact bodyPost_ret (lG rfl _ rfl (cB (setRow_heap _ _ _ _ _ _ bd.out.2))) rfl ⟨rfl,eG HB1.out aG _⟩
 | ok q =>
  obtain ⟨x,n,k'⟩:=q;obtain ⟨_,p2,_,_⟩:=(props s.data.toList.length).1 _ _ _ _ _ _ aG hr;rw [hr] at hg;have HG:Hid (Calls prog 168 #[.string s] (w.alloc (.cells #[.bool false,.string ⟨#[]⟩,.slice none 0 0] 102)) λe w'=>∃ a nn cap,e = .returned (.tuple #[itV x a nn cap,.int .i64 n,.int .i64 0])/\
   bK (w.alloc (.cells #[.bool false,.string ⟨#[]⟩,.slice none 0 0] 102)).heap.size w' x.xs a nn cap/\Below (w.alloc (.cells #[.bool false,.string ⟨#[]⟩,.slice none 0 0] 102)).heap.size (w.alloc (.cells #[.bool false,.string ⟨#[]⟩,.slice none 0 0] 102)) w'):=hid hg
  clear hg hr;unfold itV at HG;dsimp only;rw [<-dR] at p2 ⊢;by_cases hlt:n<s.size
  .rw [if_pos hlt];dsimp only [pF];go_enter func144,ntmps144;go_wp2_with fail
   with_reducible refine HG.out.mono ?_
   rintro e w1 ⟨a,nn,cap,rfl,_,hb⟩;have bd:=hid ((HO.out.below hb).below (al1 w1 (.cells #[.bool x.l,.string x.s,.slice a nn cap] 102)));have HB1:=hid (bst (oP (yg hb)) (al1 w1 (.cells #[.bool x.l,.string x.s,.slice a nn cap] 102)));clear hb;go_wp2_with (refine wpList_store_rowTo rfl 102 _ _ rfl rfl w.heap.size (itC it0 none 0 0) rfl rfl 102 (itC it0 none 0 0) bd.out.2 (gG _ _ _ _) rfl (iW _ _ _ _) ?_)
   exact bodyPost_ret (lG rfl _ rfl (cB (setRow_heap _ _ _ _ _ _ bd.out.2))) rfl ⟨rfl,eG HB1.out aG _⟩
  .rw [if_neg hlt];dsimp only [pF];go_enter func144,ntmps144;go_wp2_with fail
   with_reducible refine HG.out.mono ?_
   rintro e w1 ⟨a,nn,cap,rfl,hI,hb⟩;have bd:=hid ((HO.out.below hb).below (al1 w1 (.cells #[.bool x.l,.string x.s,.slice a nn cap] 102)));have HB1:=hid (bst (oP (yg hb)) (al1 w1 (.cells #[.bool x.l,.string x.s,.slice a nn cap] 102)));have HI:=hid (hI.alloc (.cells #[.bool x.l,.string x.s,.slice a nn cap] 102));clear hb hI;go_wp2_with (refine wpList_store_rowTo rfl 102 _ _ rfl rfl w.heap.size (itC x a nn cap) rfl rfl 102 (itC it0 none 0 0) bd.out.2 (gG _ _ _ _) rfl (iW _ _ _ _) ?_)
   exact bodyPost_ret (lG rfl _ rfl (cB (setRow_heap _ _ _ _ _ _ bd.out.2))) rfl ⟨a,nn,cap,rfl,bK.weak (lI HI.out (by simp) _) (by simp),eG HB1.out aG _⟩
end Rl
end
section
open Go.RowKit
namespace Rl
theorem Vn (l:aM) (h:l.headD 0≠0):0<iO l:=by
 cases l with
 | nil=>exact absurd rfl h
 | cons c t =>
  have hc:0<c.toNat:=by
   rcases Nat.eq_zero_or_pos c.toNat with e | e
   .exact absurd (UInt8.toNat_inj.1 (by simpa using e)) h
   .exact e
  have key:∀ (t:aM) (a:Nat),0<a->0<t.foldl (λa b=>a*256+b.toNat) a:=by
   intro t
   induction t with
   | nil=>intro a ha; exact ha
   | cons d t ih=>intro a ha; exact ih (a*256+d.toNat) (by omega)
  unfold iO;exact key t (0*256+c.toNat) (by omega)
theorem Qi (l:aM) (h:l.headD 0≠0):lW (iO l)=l:=by
 obtain ⟨N,hN⟩:=ay l.length
 induction N generalizing l with
 | zero =>
  rw [List.eq_nil_of_length_eq_zero hN] at h;exact absurd rfl h
 | succ N ih =>
  have hne:l≠[]:=by rintro rfl; cases hN
  obtain ⟨d,c,rfl⟩:∃ d c,l=d++[c]:=⟨l.dropLast,l.getLast hne,(List.dropLast_concat_getLast hne).symm⟩
  have hd:d.length=N:=by simpa using hN
  have hpos:=Vn _ h;rw [nA] at hpos ⊢;rw [Bh hpos];have hc:=c.toNat_lt;have e1:(iO d*256+c.toNat)/256=iO d:=by omega
  have e2:UInt8.ofNat (iO d*256+c.toNat)=c:=by
   apply UInt8.toNat_inj.1;simp only [UInt8.toNat_ofNat'];omega
  rw [e1,e2];cases d with
  | nil=>simp [iO,wG]
  | cons x y=>rw [ih (x::y) (by simpa using h) hd]
theorem OP (n:Nat):iO (lW n)=n:=by
 induction n using Nat.strongRecOn with
 | ind n ih =>
  by_cases h:0<n
  .rw [Bh h,nA,ih (n/256) (by omega)];simp only [UInt8.toNat_ofNat'];omega
  .obtain rfl:n=0:=by omega
   rw [wG]; rfl
theorem Cx (n:Nat) (h:0<n):(lW n).headD 0≠0:=by
 induction n using Nat.strongRecOn with
 | ind n ih =>
  rw [Bh h];by_cases h2:0<n/256
  .have:=ih (n/256) (by omega) h2;cases hb:lW (n/256) with
   | nil=>rw [hb] at this; exact absurd rfl this
   | cons c t=>rw [hb] at this; exact this
  .rw [show n/256=0 by omega,wG];intro e;have e2:UInt8.ofNat n=0:=e;have:=congrArg UInt8.toNat e2;simp only [UInt8.toNat_ofNat'] at this;have e0:(0:UInt8).toNat=0:=rfl;omega
theorem uQ (c:UInt8):(if 192<=c.toNat then 192 else 128)=mark (decide (192<=c.toNat)):=by
 unfold mark;by_cases h:192<=c.toNat <;> simp [h]
theorem Wu (l:Bool):mark l=192\/mark l=128:=by cases l <;> simp [mark]
theorem xB {c:UInt8} {t:aM} {l:Bool} {a v:Nat} (h:iB (c::t) = .ok (l,a,v)) (ha:1<=a):(c::t).take a=jv v l:=by
 have hc:=c.toNat_lt;dsimp only [iB] at h;rw [uQ] at h;obtain ⟨L,hL⟩:=ay (decide (192<=c.toNat))
 have hM:mark L<=c.toNat\/c.toNat<128:=by
  rw [<-hL,<-uQ];split <;> omega
 rw [hL] at h;by_cases h1:c.toNat<128
 .rw [if_pos h1] at h;have:=iN h;simp only [Prod.mk.injEq] at this;omega
 .rw [if_neg h1] at h;have hM2:mark L<=c.toNat:=by omega
  by_cases h2:c.toNat-mark L<=55
  .rw [if_pos h2] at h;have:=iN h;simp only [Prod.mk.injEq] at this;obtain ⟨rfl,rfl,rfl⟩:=this;unfold jv;rw [if_pos (by omega),show mark L+(c.toNat-mark L)=c.toNat by omega];simp
  .rw [if_neg h2] at h;by_cases h3:t.length<c.toNat-mark L-55
   .rw [if_pos h3] at h; cases h
   .rw [if_neg h3] at h;obtain ⟨m,hm⟩:=ay (c.toNat-mark L-55)
    rw [hm] at h h3;by_cases h4:t.headD 0=0\/iO (t.take m)<=55
    .rw [if_pos h4] at h; cases h
    .rw [if_neg h4] at h;have:=iN h;simp only [Prod.mk.injEq] at this;obtain ⟨rfl,rfl,rfl⟩:=this;have hh:(t.take m).headD 0≠0:=by
      cases t with
      | nil=>exact absurd (.inl rfl) h4
      | cons x y =>
       have:0<m:=by omega
       rw [List.take_cons this];intro e;exact h4 (.inl e)
     unfold jv;rw [if_neg (by omega),Qi _ hh,List.length_take,show min m t.length=m by omega,show mark L+55+m=c.toNat by omega,Nat.add_comm 1 m,List.take_succ_cons];simp
theorem iI (n:Nat) (l:Bool):1<=(jv n l).length:=by unfold jv; split <;> simp
theorem Au (n:Nat) (hn:n<2 ^ 64) (l:Bool) (t:aM):iB (jv n l++t) = .ok (l,(jv n l).length,n):=by
 have hmk:=Wu l;have hl:decide (192<=mark l)=l:=by cases l <;> rfl
 unfold jv;by_cases h:n<56
 .rw [if_pos h];obtain ⟨c,hc⟩:=ay (UInt8.ofNat (mark l+n))
  have hcn:c.toNat=mark l+n:=by rw [<-hc]; simp only [UInt8.toNat_ofNat']; omega
  rw [hc];show iB (c::t)=_;have hd:decide (192<=c.toNat)=l:=by
   rw [<-hl,hcn];cases l <;> simp [mark] <;> omega
  dsimp only [iB];rw [uQ,hd,if_neg (by omega),if_pos (by omega)];simp [hcn]
 .rw [if_neg h];have h8:=rP hn;have hv:=OP n;have hh:=Cx n (by omega);obtain ⟨B,hB⟩:=ay (lW n)
  rw [hB] at h8 hv hh ⊢;have h1:1<=B.length:=by
   cases B with
   | nil=>exact absurd rfl hh
   | cons _ _=>simp
  obtain ⟨c,hc⟩:=ay (UInt8.ofNat (mark l+55+B.length))
  have hcn:c.toNat=mark l+55+B.length:=by rw [<-hc]; simp only [UInt8.toNat_ofNat']; omega
  rw [hc];show iB (c::(B++t))=_;have hd:decide (192<=c.toNat)=l:=by
   rw [<-hl,hcn];cases l <;> simp [mark] <;> omega
  have e1:c.toNat-mark l-55=B.length:=by omega
  have e2:(B++t).take B.length=B:=by simp
  have e3:(B++t).headD 0=B.headD 0:=by
   cases B with
   | nil=>exact absurd rfl hh
   | cons _ _=>rfl
  dsimp only [iB];rw [uQ,hd,if_neg (by omega),if_neg (by omega),if_neg (by rw [e1]; simp),e1,e2,e3,hv,if_neg (by
   rintro (e | e)
   .exact hh e
   .omega)]
  simp [Nat.add_comm]
theorem lK (xs:List It) (h:((xs.map It.bytes).flatten).length<=4294967296):(It.mk true ⟨#[]⟩ xs).bytes=jv ((xs.map It.bytes).flatten).length true++(xs.map It.bytes).flatten:=by
 rw [It.lX,inner_mk];show iH true _ ([]++_:aM).length++([]++_)=_;rw [List.nil_append];unfold iH;rw [if_neg (by simp),Nat.min_eq_left h]
theorem qJ (s:aL):(It.mk false s []).inner=s.data.toList:=by
 rw [inner_mk,List.map_nil,List.flatten_nil,List.append_nil]
theorem jg (s:aL) (h:s.size<=4294967296):(It.mk false s []).bytes=(if s.size=1/\(s.data.toList.headD 0).toNat<128 then [] else jv s.size false)++s.data.toList:=by
 rw [It.lX,qJ];show iH false s _++_=_;rw [iX];unfold iH;simp only [true_and];rw [Nat.min_eq_left h]
theorem back (N:Nat) (hN32:N<=4294967296):(∀ (s:aM) (around k:Nat) (x:It) (n k':Nat),s.length<=N->fC s around k = .ok (x,n,k')->x.bytes=s.take n/\Fits around x/\k'=k+x.size)/\
  (∀ (s:aM) (around k:Nat) (xs:List It) (k':Nat),s.length<=N->kD s around k = .ok (xs,k')->(xs.map It.bytes).flatten=s/\(∀ y∈xs,Fits around y)/\k'=k+(xs.map It.size).sum):=by
 induction N using Nat.strongRecOn with
 | ind N ih =>
  have hread:∀ (s:aM) (around k:Nat) (x:It) (n k':Nat),s.length<=N->fC s around k = .ok (x,n,k')->x.bytes=s.take n/\Fits around x/\k'=k+x.size:=by
   intro s around k x n k' hN h;cases s with
   | nil =>
    rw [fC] at h;split at h
    .cases h
    .split at h <;> cases h
   | cons c t =>
    rw [fC] at h;split at h
    .cases h
    .rename_i har;split at h
     .cases h
     .rename_i hk;rw [List.length_cons] at hN;split at h
      .cases h
      .rename_i a v hh;obtain ⟨h1,h2,h3,h4,h5⟩:=ku hh;have h6:=h5 rfl;split at h
       .cases h
       .rename_i hv;split at h
        .cases h
        .rename_i xs k2 hx;have:=iN h;simp only [Prod.mk.injEq] at this;obtain ⟨rfl,rfl,rfl⟩:=this;have hl:((t.drop (a-1)).take v).length=v:=by rw [List.length_take,List.length_drop]; omega
         obtain ⟨g1,g2,g3⟩:=(ih (N-1) (by omega) (by omega)).2 _ _ _ _ _ (by rw [hl]; omega) hx;refine ⟨?_,.mk (by omega) (λ_=>rfl) (λe=>by cases e) g2,?_⟩
         .rw [lK xs (by rw [g1,hl]; omega),g1,hl,List.take_add,<-xB hh h6];congr 2;obtain ⟨b,rfl⟩:∃ b,a=b+1:=⟨a-1,by omega⟩
          rfl
         .rw [g3,It.size_mk]; omega
      .rename_i a v hh;obtain ⟨h1,h2,h3,h4,h5⟩:=ku hh;split at h
       .cases h
       .rename_i hv;split at h
        .cases h
        .rename_i hbad;have:=iN h;simp only [Prod.mk.injEq] at this;obtain ⟨rfl,rfl,rfl⟩:=this;have hl:(((c::t).drop a).take v).length=v:=by rw [List.length_take,List.length_drop,List.length_cons]; omega
         refine ⟨?_,.mk (by omega) (λe=>by cases e) (λ_=>rfl) (λy hy=>by cases hy),?_⟩
         .have hsz:(⟨(((c::t).drop a).take v).toArray⟩:aL).size=v:=by
           show (((c::t).drop a).take v).toArray.size=v;rw [List.size_toArray,hl]
          rw [jg _ (by rw [hsz]; omega),hsz,List.take_add];show _++((c::t).drop a).take v=_;congr 1;by_cases ha:1<=a
          .rw [if_neg,<-xB hh ha];rintro ⟨e1,e2⟩;apply hbad;obtain ⟨b,rfl⟩:∃ b,a=b+1:=⟨a-1,by omega⟩
           have hb:=xB hh ha;rw [e1] at hb;have hlen:=congrArg List.length hb;rw [List.length_take,List.length_cons,show (jv 1 false).length=1 from rfl] at hlen;have hb0:b=0:=by omega
           subst hb0;refine ⟨rfl,e1,?_⟩;rw [e1] at e2;cases t with
           | nil=>simp at h1 hv; omega
           | cons d u=>exact e2
          .obtain rfl:a=0:=by omega
           dsimp only [iB] at hh;rw [uQ] at hh;by_cases hc:c.toNat<128
           .rw [if_pos hc] at hh;have:=iN hh;simp only [Prod.mk.injEq] at this;obtain ⟨_,_,rfl⟩:=this;rw [if_pos ⟨rfl,hc⟩];rfl
           .exfalso;rw [if_neg hc] at hh;split at hh
            .have:=iN hh;simp only [Prod.mk.injEq] at this;omega
            .split at hh
             .cases hh
             .split at hh
              .cases hh
              .have:=iN hh;simp only [Prod.mk.injEq] at this;omega
         .rw [It.size_mk]; simp
  refine ⟨hread,λs around k xs k' hN h=>?_⟩;cases s with
  | nil =>
   rw [kD] at h;have:=iN h;simp only [Prod.mk.injEq] at this;obtain ⟨rfl,rfl⟩:=this;exact ⟨rfl,(λy hy=>absurd hy List.not_mem_nil),rfl⟩
  | cons c t =>
   rw [kD] at h;split at h
   .cases h
   .rename_i x n k2 hr;obtain ⟨p1,p2,p3,p4⟩:=(props N).1 _ _ _ _ _ _ hN hr;obtain ⟨g1,g2,g3⟩:=hread _ _ _ _ _ _ hN hr;split at h
    .cases h
    .rename_i ys k3 ha;have:=iN h;simp only [Prod.mk.injEq] at this;obtain ⟨rfl,rfl⟩:=this;rw [List.length_cons] at hN;obtain ⟨e1,e2,e3⟩:=(ih (N-1) (by omega) (by omega)).2 _ _ _ _ _ (by rw [List.length_drop]; omega) ha;refine ⟨?_,λy hy=>?_,?_⟩
     .rw [List.map_cons,List.flatten_cons,g1,e1];obtain ⟨b,rfl⟩:∃ b,n=b+1:=⟨n-1,by omega⟩
      show (c::t).take (b+1)++t.drop b=_;rw [List.take_succ_cons,List.cons_append,List.take_append_drop]
     .rcases List.mem_cons.1 hy with rfl | hy
      .exact g2
      .exact e2 y hy
     .rw [e3,g3,List.map_cons,List.sum_cons]; omega
theorem rV {around:Nat} {x:It} (h:Fits around x) (hb:x.bytes.length<=4294967296):x.bytes≠[]:=by
 cases h with
 | mk ha hs hx h =>
  rename_i l s xs;have hi:=kT (.mk l s xs);cases l with
  | true =>
   obtain rfl:=hs rfl;rw [lK xs (by rw [inner_mk] at hi; exact Nat.le_trans hi hb)];intro e;have h2:=iI ((xs.map It.bytes).flatten).length true;have h3:=congrArg List.length e;rw [List.length_append,List.length_nil] at h3;omega
  | false =>
   obtain rfl:=hx rfl;rw [qJ,iX] at hi;rw [jg s (by omega)];intro e;by_cases h1:s.size=1/\(s.data.toList.headD 0).toNat<128
   .rw [if_pos h1] at e;have h3:=congrArg List.length e;rw [List.nil_append,iX,List.length_nil] at h3;omega
   .rw [if_neg h1] at e;have h2:=iI s.size false;have h3:=congrArg List.length e;rw [List.length_append,List.length_nil] at h3;omega
theorem Lb (xs:List It):∀ (around k:Nat),(∀ y∈xs,Fits around y)->(∀ y∈xs,∀ (k:Nat) (t:aM),y.bytes.length<=4294967296->k+y.size<=4096->fC (y.bytes++t) around k = .ok (y,y.bytes.length,k+y.size))->
  ((xs.map It.bytes).flatten).length<=4294967296->k+(xs.map It.size).sum<=4096->kD ((xs.map It.bytes).flatten) around k = .ok (xs,k+(xs.map It.size).sum):=by
 induction xs with
 | nil=>intro around k _ _ _ _; show kD [] around k=_; rw [kD]; rfl
 | cons x xs ih =>
  intro around k hF hR hb hk;rw [List.map_cons,List.flatten_cons] at hb ⊢;rw [List.length_append] at hb;rw [List.map_cons,List.sum_cons] at hk ⊢;have hr:=hR x (List.mem_cons_self ..) k ((xs.map It.bytes).flatten) (by omega) (by omega);have hp:=rV (hF x (List.mem_cons_self ..)) (by omega);have hi:=ih around (k+x.size) (λy hy=>hF y (List.mem_cons_of_mem _ hy)) (λy hy=>hR y (List.mem_cons_of_mem _ hy)) (by omega) (by omega);cases hB:x.bytes with
  | nil=>exact absurd hB hp
  | cons c t =>
   rw [hB] at hr;rw [List.cons_append] at hr ⊢;rw [kD,hr];dsimp only;rw [List.length_cons,Nat.add_sub_cancel];have:(t++(xs.map It.bytes).flatten).drop t.length=(xs.map It.bytes).flatten:=by simp
   rw [this,hi];dsimp only;rw [Nat.add_assoc]
theorem forth (x:It):∀ (around k:Nat) (t:aM),Fits around x->x.bytes.length<=4294967296->k+x.size<=4096->fC (x.bytes++t) around k = .ok (x,x.bytes.length,k+x.size):=by
 induction x using It.ind with
 | h l s xs ih =>
  intro around k t hF hb hk;have hi:=kT (.mk l s xs);cases hF with
  | mk ha hs hx h =>
   rw [It.size_mk] at hk ⊢;cases l with
   | true =>
    obtain rfl:=hs rfl;rw [inner_mk] at hi;have hi2:((xs.map It.bytes).flatten).length<=4294967296:=Nat.le_trans hi hb;have hall:=Lb xs (around+1) (k+1) h (λy hy k t h1 h2=>ih y hy (around+1) k t (h y hy) h1 h2) hi2 (by omega);rw [lK xs hi2] at hb ⊢;obtain ⟨B,hB⟩:=ay ((xs.map It.bytes).flatten)
    rw [hB] at hall hi2 hb ⊢;have hh:=Au B.length (by omega) true (B++t);have h1:=iI B.length true;cases hH:jv B.length true with
    | nil=>rw [hH] at h1; simp at h1
    | cons c u =>
     rw [hH] at hh;rw [List.append_assoc,List.cons_append] at *
     rw [fC,if_neg (by omega),if_neg (by omega),hh];dsimp only;have e1:(u++(B++t)).length+1-(c::u).length=(B++t).length:=by simp <;> omega
     have e2:((u++(B++t)).drop ((c::u).length-1)).take B.length=B:=by simp
     rw [e1,if_neg (by simp),e2,hall];dsimp only;rw [List.length_append,Nat.add_assoc]
   | false =>
    obtain rfl:=hx rfl;rw [qJ,iX] at hi;have h32:s.size<=4294967296:=by omega
    rw [jg s h32] at hb ⊢;have LT:(⟨s.data.toList.toArray⟩:aL)=s:=by simp
    by_cases h1:s.size=1/\(s.data.toList.headD 0).toNat<128
    .rw [if_pos h1,List.nil_append] at hb ⊢;have hl:=iX s;rw [h1.1] at hl;obtain ⟨c,hc⟩:=List.length_eq_one_iff.1 hl;rw [hc] at h1 LT ⊢;have hcc:c.toNat<128:=h1.2;have hh:iB (c::t) = .ok (false,0,1):=by dsimp only [iB]; rw [if_pos hcc]
     show fC (c::t) around k=_;rw [fC,if_neg (by omega),if_neg (by simp at hk; omega),hh];dsimp only;rw [if_neg (by omega),if_neg (by omega)];simp only [List.drop_zero,List.take_succ_cons,List.take_zero];rw [LT];simp
    .rw [if_neg h1] at hb ⊢;have hh:=Au s.size (by omega) false (s.data.toList++t);have hl1:=iI s.size false;have hsh:(jv s.size false).length=1->s.size<56:=by
      intro e;apply Classical.byContradiction;intro hn;unfold jv at e;rw [if_neg hn,List.length_cons] at e;have:=Cx s.size (by omega);cases hb:lW s.size with
      | nil=>rw [hb] at this; exact this rfl
      | cons _ _=>rw [hb] at e; simp at e
     cases hH:jv s.size false with
     | nil=>rw [hH] at hl1; simp at hl1
     | cons c u =>
      rw [hH] at hh hsh;rw [List.append_assoc,List.cons_append] at *
      rw [fC,if_neg (by omega),if_neg (by simp at hk; omega),hh];dsimp only;have e1:(u++(s.data.toList++t)).length+1-(c::u).length=s.size+t.length:=by
       rw [List.length_append,List.length_append,iX,List.length_cons]; omega
      have e2:(((c::(u++(s.data.toList++t)))).drop (c::u).length).take s.size=s.data.toList:=by
       rw [List.length_cons,List.drop_succ_cons,List.drop_left,<-iX,List.take_left]
      rw [e1,if_neg (by omega),if_neg (by
       rintro ⟨g1,g2,g3⟩;apply h1;refine ⟨g2,?_⟩;have hu:u=[]:=List.eq_nil_of_length_eq_zero (by rw [List.length_cons] at g1; omega);subst hu;rw [List.nil_append] at g3;have hl:=iX s;cases hd:s.data.toList with
       | nil=>rw [hd] at hl; simp at hl; omega
       | cons d e=>rw [hd] at g3; exact g3),e2,LT]
      simp;omega
theorem vJ (l:aM):(⟨l.toArray⟩:aL).size=l.length:=by
 show l.toArray.size=_;simp
theorem zI (n:Nat) (l:Bool) (h:n<2 ^ 64):(jv n l).length<=9:=by
 have:=rP h;unfold jv;split <;> simp; omega
end Rl
end
section
open Go.RowKit
structure Nd where
 kd:Int
 p:aM
 v:aL
 ks:List aL
abbrev eB:aL:=⟨#[]⟩
def zks:List aL:=List.replicate 16 eB
theorem fZ:zks.length=16:=rfl
def iA (ks:List aL):aN:=(ks.map Value.string).toArray
def ndC (N:Nd) (a:aK) (n c:Nat):aN:=(Value.int .i64 N.kd::Value.slice a n c::Value.string N.v::N.ks.map Value.string).toArray
def nd0:Nd:=⟨0,[],eB,zks⟩
def BsF (B:Nat) (w:World) (a:aK) (n c:Nat) (l:aM):Prop:=bf w a n c l/\∀ ad,a=some ad->B<=ad.block
theorem BsF.below {B:Nat} {w w':World} {a:aK} {n c:Nat} {l:aM} (h:BsF B w a n c l) (hb:Below w.heap.size w w'):BsF B w' a n c l:=⟨h.1.below hb,h.2⟩
theorem BsF.weak {B':Nat} {n:Nat} {l:aM} (h:BsF B w a n c l) (hB:B'<=B):BsF B' w a n c l:=⟨h.1,λad e=>Nat.le_trans hB (h.2 ad e)⟩
theorem BsF.upd {n:Nat} {l:aM} (h:BsF B w a n c l) (hu:Rg.Upd w g w') (hg:g<B):BsF B w' a n c l:=by
 refine ⟨⟨h.1.1,h.1.2.1,h.1.2.2.1,h.1.2.2.2.1,λj hj=>?_⟩,h.2⟩;obtain ⟨b,off,e,hlt,hc⟩:=h.1.2.2.2.2 j hj;have hB:B<=b:=h.2 _ e;exact ⟨b,off,e,by rw [hu.size]; exact hlt,by rw [World.cell?_of_block (hu.block b (by omega))]; exact hc⟩
theorem BsF.row {n:Nat} {l:aM} (h:BsF B w a n c l) (hg:g<B) (cs:aN):BsF B (w.setRow g cs) a n c l:=h.upd (Rg.Upd.set _ _ _) hg
theorem BsF.nil (B:Nat) (w:World):BsF B w none 0 0 []:=⟨bf.nil w,λ_ e=>by cases e⟩
abbrev dZ (w:World) (b:Nat) (N:Nd) (a:aK) (n c:Nat):Prop:=Rg.Own w b (ndC N a n c) 69
theorem CQ (ks:List aL):(iA ks).size=ks.length:=by simp [iA]
theorem fQ (N:Nd) (a:aK) (n c:Nat) (h:N.ks.length=16):(ndC N a n c).size=19:=by simp [ndC,h]
theorem qw (N:Nd) (a:aK) (n c:Nat):(ndC N a n c).all (·.oneCell')=true:=by
 unfold ndC;simp [Value.oneCell']
theorem Dl:(prog.info? 69).map (·.size)=some 19:=by kernel_rfl
theorem DZ:(prog.info? 67).map (·.size)=some 16:=by kernel_rfl
theorem mE (N:Nd) (a:aK) (n c:Nat) (h:N.ks.length=16):(prog.info? 69).map (·.size)=some (ndC N a n c).size:=by rw [fQ _ _ _ _ h]; exact Dl
theorem RP (ks:List aL) (h:ks.length=16):(prog.info? 67).map (·.size)=some (iA ks).size:=by rw [CQ,h]; exact DZ
theorem dD {b:Nat} {N:Nd} {n:Nat} (h:dZ w b N a n c) :
  w.cell? ⟨b,0,none⟩=some (.int .i64 N.kd)/\w.cell? ⟨b,1,none⟩=some (.slice a n c)/\w.cell? ⟨b,2,none⟩=some (.string N.v):=by
 refine ⟨?_,?_,?_⟩;all_goals
  rw [cell_of_row w b _ _ _ _ h.2];rfl
theorem wB {b:Nat} {N:Nd} {n:Nat} (h:dZ w b N a n c) (hl:N.ks.length=16) (j:Nat) (hj:j<16) :
  w.cell? ⟨b,3+j,none⟩=some (.string (N.ks.getD j eB)):=by
 rw [cell_of_row w b _ _ _ _ h.2];unfold ndC;rw [show 3+j=j+1+1+1 by omega];simp [List.getD,hl,hj]
theorem gJ {b j:Nat} {cs:aN} {T:TypeId} (h:Rg.Own w b cs T):w.frozen? ⟨b,j,none⟩=false:=by
 simp [World.frozen?,h.2]
theorem sixteen {α:Type} (l:List α) (h:l.length=16):∃ a b c d e f g i j k m n o p q r,l=[a,b,c,d,e,f,g,i,j,k,m,n,o,p,q,r]:=by
 match l,h with
 | [a,b,c,d,e,f,g,i,j,k,m,n,o,p,q,r],_=>exact ⟨_,_,_,_,_,_,_,_,_,_,_,_,_,_,_,_,rfl⟩
theorem qW {b:Nat} {N:Nd} {n:Nat} (h:dZ w b N a n c) (hl:N.ks.length=16) :
  (loadVar 69 ⟨b,0,none⟩).run prog w = .ok (.agg (ndC N a n c)) w :=
 run_loadVar_row (P:=prog) w b 69 69 (ndC N a n c) (0,0) _ h.2 underlying69 rfl (mE N a n c hl)
theorem XD {b:Nat} {N:Nd} {n:Nat} (h:dZ w b N a n c) (hl:N.ks.length=16) :
  (Instr.loadAt 69 (.pointer (some ⟨b,0,none⟩))).run prog w = .ok (.agg (ndC N a n c)) w:=by
 simp only [Instr.loadAt,Instr.sureAddr,Sem.run_bind,Sem.run_pure,Result.andThen_ok,qW h hl]
theorem WZ {b:Nat} {N:Nd} {n:Nat} (h:dZ w b N a n c) (hl:N.ks.length=16) :
  (Instr.loadAt 67 (.pointer (some ⟨b,3,none⟩))).run prog w = .ok (.agg (iA N.ks)) w:=by
 have hc:w.rangeAt b 3 (N.ks.map Value.string):=λj v hv=>by
  have hj:j<16:=by
   have:=(List.getElem?_eq_some_iff.1 hv).1;simpa [hl] using this
  rw [wB h hl j hj];have hx:N.ks[j]? = some (N.ks[j]'(by omega)):=List.getElem?_eq_getElem (by omega);rw [List.getElem?_map,hx] at hv;rw [<-Option.some.inj hv];simp [List.getD,hx]
 exact run_loadAt_mid w b 3 67 (N.ks.map Value.string) _ hc underlying67 rfl (by rw [List.length_map,hl]; exact DZ)
abbrev qL (w:World) (b:Nat) (ks:List aL):Prop:=Rg.Own w b (iA ks) 67
theorem XA {b:Nat} {ks:List aL} (h:qL w b ks) (hl:ks.length=16) :
  (Instr.loadAt 67 (.pointer (some ⟨b,0,none⟩))).run prog w = .ok (.agg (iA ks)) w:=by
 simp only [Instr.loadAt,Instr.sureAddr,Sem.run_bind,Sem.run_pure,Result.andThen_ok,run_loadVar_row (P:=prog) w b 67 67 (iA ks) (0,0) _ h.2 underlying67 rfl (RP ks hl)]
theorem bD (ev:Operand->Value) (o:Oper) (w:World) (b:Nat) (hb:b=w.heap.size) (ho:o.op = .alloc 69) :
  (execOp ev o).run prog w = .ok (.value (.pointer (some ⟨b,0,none⟩))) (w.alloc (.cells (ndC nd0 none 0 0) 69)):=by
 subst hb;unfold execOp;rw [ho];kernel_rfl
theorem uT (ev:Operand->Value) (o:Oper) (w:World) (b:Nat) (hb:b=w.heap.size) (ho:o.op = .alloc 67) :
  (execOp ev o).run prog w = .ok (.value (.pointer (some ⟨b,0,none⟩))) (w.alloc (.cells (iA zks) 67)):=by
 subst hb;unfold execOp;rw [ho];kernel_rfl
theorem qH:prog.built 69 []=some (ndC nd0 none 0 0):=by kernel_rfl
theorem uE (a:aK) (n c:Nat) (p:aM) (v:aL):prog.built 69 [(0,.int .i64 1),(1,.slice a n c),(2,.string v)]=some (ndC ⟨1,p,v,zks⟩ a n c):=by kernel_rfl
theorem RL (s:aL):prog.built 67 [(0,.string s)]=some (iA (s::List.replicate 15 eB)):=by kernel_rfl
theorem Tf (k:Int) (ks:List aL) (h:ks.length=16):prog.built 69 [(0,.int .i64 k),(3,.agg (iA ks))]=some (ndC ⟨k,[],eB,ks⟩ none 0 0):=by
 obtain ⟨x0,x1,x2,x3,x4,x5,x6,x7,x8,x9,x10,P6,P7,P8,dt,P9,rfl⟩:=sixteen ks h;kernel_rfl
theorem wR (k:Int) (a:aK) (n c:Nat) (p:aM) (ks:List aL) (h:ks.length=16):prog.built 69 [(0,.int .i64 k),(1,.slice a n c),(3,.agg (iA ks))]=some (ndC ⟨k,p,eB,ks⟩ a n c):=by
 obtain ⟨x0,x1,x2,x3,x4,x5,x6,x7,x8,x9,x10,P6,P7,P8,dt,P9,rfl⟩:=sixteen ks h;kernel_rfl
theorem RJ {parts:Array (Nat × Value)} {l:List (Nat × Value)} (w:World) (hl:parts.toList=l) (h:prog.built t l=some cells):(Instr.build t parts).run prog w = .ok (.agg cells) w :=
 run_build w t parts cells (by rw [hl]; exact h)
theorem uD {fn:Func} {p:Tmp} (hf:fn.results = #[.cell p 69]) (tmps:aN) {b:Nat} {N:Nd} {n:Nat} (hp:tmps.getD p undef = .pointer (some ⟨b,0,none⟩)) (h:dZ w b N a n c) (hl:N.ks.length=16) :
  (results fn tmps).run prog w = .ok (.agg (ndC N a n c)) w:=by
 have hp':tmps[p]?.getD undef = .pointer (some ⟨b,0,none⟩):=by simpa using hp
 simp [results,hf,hp',asAddr,qW h hl]
theorem ig {fn:Func} {p u:Tmp} (hf:fn.results = #[.cell p 69,.tmp u]) (tmps:aN) {b:Nat} {N:Nd} {n:Nat} (hp:tmps.getD p undef = .pointer (some ⟨b,0,none⟩)) (h:dZ w b N a n c) (hl:N.ks.length=16) :
  (results fn tmps).run prog w = .ok (.tuple #[.agg (ndC N a n c),tmps.getD u undef]) w:=by
 have hp':tmps[p]?.getD undef = .pointer (some ⟨b,0,none⟩):=by simpa using hp
 simp [results,hf,hp',asAddr,qW h hl]
theorem dM {b:Nat} {N M:Nd} {a':aK} {n n' c':Nat} (h:dZ w b N a n c):dZ (w.setRow b (ndC M a' n' c')) b M a' n' c' :=
 ⟨by simp; exact h.1,setRow_heap _ _ _ _ _ _ h.2⟩
theorem bZ (h:Below B w w1) (hg:B<=g) (cs:aN):Below B w (w1.setRow g cs) :=
 h.trans ⟨rfl,rfl,rfl,by simp,λk hk=>setRow_other w1 g k cs (by omega)⟩
theorem bR {b:Nat} {N:Nd} {n:Nat} (h:dZ w b N a n c) (hl:N.ks.length=16) (ho:∃ x,o.op = .load 69 x/\ev x = .pointer (some ⟨b,0,none⟩)) :
  (execOp ev o).run prog w = .ok (.value (.agg (ndC N a n c))) w:=by
 obtain ⟨x,ho,hx⟩:=ho;unfold execOp;simp only [ho,hx,Sem.run_bind,Sem.run_pure,Result.andThen_ok,XD h hl]
theorem jO {b:Nat} {N:Nd} {n:Nat} (h:dZ w b N a n c) (hl:N.ks.length=16) (ho:∃ x,o.op = .load 67 x/\ev x = .pointer (some ⟨b,3,none⟩)) :
  (execOp ev o).run prog w = .ok (.value (.agg (iA N.ks))) w:=by
 obtain ⟨x,ho,hx⟩:=ho;unfold execOp;simp only [ho,hx,Sem.run_bind,Sem.run_pure,Result.andThen_ok,WZ h hl]
theorem nY {b:Nat} {ks:List aL} (h:qL w b ks) (hl:ks.length=16) (ho:∃ x,o.op = .load 67 x/\ev x = .pointer (some ⟨b,0,none⟩)) :
  (execOp ev o).run prog w = .ok (.value (.agg (iA ks))) w:=by
 obtain ⟨x,ho,hx⟩:=ho;unfold execOp;simp only [ho,hx,Sem.run_bind,Sem.run_pure,Result.andThen_ok,XA h hl]
theorem bL {l:List (Nat × Value)} (h:prog.built t l=some cells) (ho:∃ ps,o.op = .build t ps/\(ps.toList.map λp=>(p.1,ev p.2))=l) :
  (execOp ev o).run prog w = .ok (.value (.agg cells)) w:=by
 obtain ⟨ps,ho,hx⟩:=ho;unfold execOp;simp only [ho,Sem.run_bind,Sem.run_pure,Result.andThen_ok,RJ w (l:=l) (by rw [Array.toList_map]; exact hx) h]
theorem bH {rest:List Oper} {b:Nat} {N:Nd} {n:Nat} (h:dZ w b N a n c) (hl:N.ks.length=16) (M:Nd) (a':aK) (n' c':Nat) (hm:M.ks.length=16)
  (hgd:o.guard=none) (x y:Operand) (ho:o.op = .store 69 x y) (hx:act.eval x = .pointer (some ⟨b,0,none⟩)) (hy:act.eval y = .agg (ndC M a' n' c')) (hd:o.dst=none)
  (hQ:wpList prog ops Q rest act (w.setRow b (ndC M a' n' c'))):wpList prog ops Q (o::rest) act w :=
 wpList_store_rowTo hgd 69 x y ho hd b _ hx hy 69 _ h.2 (mE _ _ _ _ hm) (by rw [fQ _ _ _ _ hl,fQ _ _ _ _ hm]) (qw _ _ _ _) hQ
end
section
open Go.RowKit
namespace No
def IJ (w:World) (N:Nd) (e:Ending) (w':World):Prop:=∃ a n c,e = .returned (.agg (ndC N a n c))/\BsF w.heap.size w' a n c N.p/\N.ks.length=16/\Below w.heap.size w w'
theorem jK (ks:List aL) (hl:ks.length=16) (w:World):Calls prog 75 #[.agg (iA ks)] w (IJ w ⟨3,[],eB,ks⟩):=by
 obtain ⟨w2,hw2⟩:=au ((w.alloc (.cells (iA ks) 67)).alloc (.cells (ndC nd0 none 0 0) 69))
 have hK:qL w2 w.heap.size ks:=by rw [hw2]; exact (Rg.Own.new _ _ _).below (al1 _ _)
 have hO:dZ w2 (w.heap.size+1) nd0 none 0 0:=by
  rw [hw2];have:=Rg.Own.new (w.alloc (.cells (iA ks) 67)) (ndC nd0 none 0 0) 69;simpa using this
 have HK:=hid hK;have HO:=hid hO;have HB:Hid (Below w.heap.size w w2):=hid (by rw [hw2]; exact al2 _ _ _);have HL:=hid hl;clear hO hK hl;subst hw2;go_enter func75,ntmps75;go_wp2_with (first
  | (refine aA (bD _ _ _ (w.heap.size+1) (by simp) rfl) ?_)
  | (refine aA (nY HK.out HL.out ⟨_,rfl,rfl⟩) ?_)
  | (refine aA (bL (Tf 3 ks HL.out) ?_) ?_; · exact ⟨_,rfl,rfl⟩)
  | (refine bH HO.out rfl ⟨3,[],eB,ks⟩ none 0 0 HL.out rfl _ _ rfl rfl rfl rfl ?_))
 exact bodyPost_ret (uD rfl _ rfl (dM HO.out) HL.out) rfl ⟨none,0,0,rfl,BsF.nil _ _,HL.out,bZ HB.out (Nat.le_succ _) _⟩
end No
end
section
open Go.RowKit
namespace Ni
def dh (l:aM):Bool:=l.all (λb=>decide (b.toNat<=15))
theorem Bb (l:aM) (k:Nat) (h:k<l.length):l.take (k+1)=l.take k++[l.getD k 0]:=by
 rw [List.take_succ_eq_append_getElem h]; simp [List.getD,h]
theorem Gw (l:aM) (k:Nat) (h:k<l.length):dh (l.take (k+1))=(dh (l.take k)&&decide ((l.getD k 0).toNat<=15)):=by
 rw [Bb l k h]; simp [dh,List.all_append]
theorem Rk (l:aM) (k:Nat) (h:k<l.length) (hk:15<(l.getD k 0).toNat):dh l=false:=by
 unfold dh;rw [List.all_eq_false];exact ⟨l.getD k 0,by simp [List.getD,h],by simpa using hk⟩
theorem eX (a:aK) (n cap:Nat) (l:aM) (w:World) (h:bf w a n cap l) :
  Calls prog 90 #[.slice a n cap] w λe w'=>e = .returned (.bool (dh l))/\w=w':=by
 have hm:=h.2.1;have hnc:=h.1;unfold maxLen at hm;have H:=hid h;clear h;go_enter func90,ntmps90;go_wp2;go_loop [7] (λi=>∃ k:Nat,k<=n/\i = .int .i64 k/\Hid (dh (l.take k)=true)) (λi=>n-(intOf i).toNat)
 case atStart=>exact ⟨0,Nat.zero_le _,rfl,hid rfl⟩
 case round =>
  obtain ⟨k,hk,rfl,HR⟩:=hrel;by_cases hlt:k<n
  .obtain ⟨b,off,rfl,hb,hc⟩:=H.out.at' k hlt;have hl:k<l.length:=by rw [H.out.len]; exact hlt
   have HT:=hid (Gw l k hl);obtain ⟨x,hx⟩:=ay ((l.getD k 0).toNat)
   rw [hx] at hc HT;by_cases h15:15<x
   .have HN:=hid (Rk l k hl (by omega));clear hx hl;go_wp2;go_ret;exact ⟨by rw [HN.out]; rfl,rfl⟩
   .clear hx hl;go_wp2;go_round
    case rel=>exact ⟨k+1,by omega,by go_num,hid (by rw [HT.out,HR.out]; simp; omega)⟩
    case measure=>simp [intOf]; omega
  .obtain rfl:k=n:=by omega
   have HE:Hid (dh l=true):=hid (by
    have:=HR.out;rwa [List.take_of_length_le (by rw [H.out.len]; exact aG)] at this)
   go_wp2;go_ret;exact ⟨by rw [HE.out]; rfl,rfl⟩
theorem dX (s:aL) (w:World) :
  Calls prog 114 #[.string s] w λe w'=>e = .returned (.func (Fn.func 159) #[] #[.pointer (some ⟨w.heap.size,0,none⟩)])/\w'=w.alloc (.cells #[.string s] 9):=by
 go_enter func114,ntmps114;go_wp2;go_ret;exact ⟨rfl,rfl⟩
def eY (s:aL) (i:Nat):Nat:=if i%2=0 then (s.data.toList.getD (i/2) 0).toNat/16 else (s.data.toList.getD (i/2) 0).toNat%16
theorem ZV:∀ x:Fin 256,bits .and .u8 ((x:Nat):Int) 15=(((x:Nat)%16:Nat):Int):=by decide +kernel
theorem DW (s:aL) (k:Nat) (h:k<s.size):s.data.toList.getD k 0=s[k]:=by
 have e:k<s.data.toList.length:=by simpa using h
 rw [List.getD,List.getElem?_eq_getElem e]; rfl
theorem VQ {a b:Int} (h:a=b):Ending.returned (.int .u8 a) = .returned (.int .u8 b):=by rw [h]
theorem jc (c:Nat) (s:aL) (i:Nat) (hs:s.size<=maxLen) (hi:i/2<s.size) (w:World) (hc:w.cell? ⟨c,0,none⟩=some (.string s)) :
  Calls prog 159 #[.int .i64 i,.pointer (some ⟨c,0,none⟩)] w λe w'=>e = .returned (.int .u8 (eY s i:Nat))/\w=w':=by
 unfold maxLen at hs;by_cases h2:i%2=0
 .have HE:Hid ((s[i/2].toNat:Int)/16=(eY s i:Nat)):=hid (by
   unfold eY; rw [if_pos h2,DW s _ hi]; omega)
  go_enter func159,ntmps159;go_wp2;go_ret;exact ⟨VQ HE.out,rfl⟩
 .have HE:Hid (bits .and .u8 (s[i/2].toNat:Int) 15=(eY s i:Nat)):=hid (by
   unfold eY; rw [if_neg h2,DW s _ hi];exact ZV ⟨s[i/2].toNat,UInt8.toNat_lt _⟩)
  go_enter func159,ntmps159;go_wp2;go_ret;exact ⟨VQ HE.out,rfl⟩
theorem Ht (a:aK) (n cap:Nat) (w:World) :
  Calls prog 146 #[.slice a n cap,.int .i64 0,.int .i64 0] w λe w'=>e = .returned (.slice a 0 0)/\w=w':=by
 go_enter func146,ntmps146;go_wp2;go_ret;exact ⟨rfl,rfl⟩
theorem Bj (a:aK) (n cap:Nat) (w:World) :
  Calls prog 146 #[.slice a n cap,.int .i64 0,.int .i64 0] w λe w'=>e = .returned (.slice a 0 0)/\w'=w.drewN 0:=by
 refine (Ht a n cap w).mono ?_;rintro e w' ⟨rfl,rfl⟩;exact ⟨rfl,rfl⟩
def cutAt (off i j:Nat):Nat:=if j=i then off else off+i
theorem Nn (b off n cap:Nat) (i j:Nat) (hij:i<=j) (hj:j<=cap) (_hcap:cap<=2 ^ 63-1) (w:World) :
  Calls prog 146 #[.slice (some ⟨b,off,none⟩) n cap,.int .i64 i,.int .i64 j] w λe w'=>e = .returned (.slice (some ⟨b,cutAt off i j,none⟩) (j-i) (j-i))/\w=w':=by
 go_enter func146,ntmps146;go_wp2
 .go_ret;exact ⟨by subst h; simp [cutAt],rfl⟩
 .go_ret;exact ⟨by simp [cutAt,h],rfl⟩
theorem sw (b off n cap:Nat) (h1:1<=cap) (w:World) (hcap:cap<=2 ^ 63-1) :
  Calls prog 146 #[.slice (some ⟨b,off,none⟩) n cap,.int .i64 0,.int .i64 1] w λe w'=>e = .returned (.slice (some ⟨b,off,none⟩) 1 1)/\w'=w.drewN 0:=by
 refine (Nn b off n cap 0 1 (by omega) h1 hcap w).mono ?_;rintro e w' ⟨rfl,rfl⟩;exact ⟨by simp [cutAt],rfl⟩
theorem YD (a:aK) (n cap:Nat) (l:aM) (i j:Nat) (hij:i<=j) (hj:j<=n) (w:World) (h:bf w a n cap l) :
  Calls prog 146 #[.slice a n cap,.int .i64 i,.int .i64 j] w λe w'=>∃ a' c',e = .returned (.slice a' (j-i) c')/\(bf w a' (j-i) c' ((l.drop i).take (j-i))/\c'=j-i)/\w=w':=by
 by_cases h0:n=0
 .subst h0;obtain rfl:j=0:=by omega
  obtain rfl:i=0:=by omega
  refine (Ht a 0 cap w).mono ?_;rintro e w' ⟨rfl,rfl⟩;exact ⟨a,0,rfl,⟨⟨aG,Nat.zero_le _,by simp,λ_=>rfl,λq hq=>absurd hq (Nat.not_lt_zero _)⟩,rfl⟩,rfl⟩
 .obtain ⟨b,off,rfl,_⟩:=h.at' 0 (by omega);refine (Nn b off n cap i j hij (Nat.le_trans hj h.1) h.2.1 w).mono ?_;rintro e w' ⟨rfl,rfl⟩;refine ⟨_,_,rfl,⟨⟨aG,by have:=h.2.1; have:=h.1; omega,?_,(λe=>by cases e),λq hq=>?_⟩,rfl⟩,rfl⟩
  .rw [List.length_take,List.length_drop,h.len]; omega
  .obtain ⟨b',off',h1,h2,h3⟩:=h.at' (i+q) (by omega);simp at h1;obtain ⟨rfl,rfl⟩:=h1;refine ⟨b,off+i,by simp [cutAt]; omega,h2,?_⟩;have e:((l.drop i).take (j-i)).getD q 0=l.getD (i+q) 0:=by
    simp [List.getD,List.getElem?_take_of_lt hq]
   rw [e,Nat.add_assoc];exact h3
def fJ (s:aL):aM:=(List.range (2*s.size)).map λi=>UInt8.ofNat (eY s i)
theorem uY (s:aL) (i:Nat):eY s i<16:=by
 unfold eY;have:=UInt8.toNat_lt (s.data.toList.getD (i/2) 0);split <;> omega
theorem fE (s:aL):(fJ s).length=2*s.size:=by simp [fJ]
theorem lq (s:aL) (i:Nat) (h:i<2*s.size):((fJ s).getD i 0).toNat=eY s i:=by
 have:=uY s i;simp [fJ,List.getD,h];omega
def Spr (w:World) (s:aL) (k:Nat) (wr:World):Prop :=
 wr.rowIs (w.heap.size+1) 5 (2*s.size) (λj=>.int .u8 (if j<k then eY s j else 0:Nat))/\wr.cell? ⟨w.heap.size,0,none⟩=some (.string s)/\Below w.heap.size w wr
theorem Spr.next {s:aL} {k:Nat} (h:Spr w s k wr) (hk:k<2*s.size):Spr w s (k+1) (wr.setCell ⟨w.heap.size+1,k,none⟩ (.int .u8 (eY s k:Nat))):=by
 refine ⟨(h.1.set k _).congr ?_,?_,h.2.2.setCell (p:=⟨w.heap.size+1,k,none⟩) (by simp) _⟩
 .intro j hj;by_cases e:j=k
  .subst e; simp
  .have:j<k+1↔j<k:=by omega
   simp [e,this]
 .rw [World.cell?_setCell_other _ _ _ _ (by simp)];exact h.2.1
theorem Spr.start (w:World) (s:aL):Spr w s 0 ((w.alloc (.cells #[.string s] 9)).alloc (.cells (madeCells #[.int .u8 0] (2*s.size)) 5)):=by
 refine ⟨?_,?_,(aH.alloc aG _).alloc (by simp) _⟩
 .have:=World.rowIs_made (w.alloc (.cells #[.string s] 9)) (.int .u8 0) (2*s.size) 5;simpa using this
 .simp
theorem mW:(prog.info? 5).map (λi=>(i.zero,i.size,i.bytes))=some (some (.int .u8 0),1,1):=by kernel_rfl
theorem Ay (s:aL) (hs:s.size<=1000) (w:World) :
  Calls prog 71 #[.string s] w (VR w (fJ s)):=by
 obtain ⟨m,hm⟩:=ay (2*s.size)
 have hmk:=run_make_row' (P:=prog) 40 5 (.int .u8 0) 1 underlying40 mW rfl .i64 .i64 m (by omega) (by omega);have e:((m:Nat):Int)=2*(s.size:Int):=by omega
 rw [e] at hmk;have HS:=hid (Spr.start w s);rw [hm] at HS;have HM:=hid hm;have hm2:m<=2*s.size:=by omega
 clear e hm;go_enter func71,ntmps71;go_wp2_with fail
 refine (dX _ _).mono ?_;rintro e w1 ⟨rfl,rfl⟩;go_wp2;clear hmk;go_loopw [14] (λi wr=>∃ k:Nat,k<=m/\i = .int .i64 k/\Spr w s k wr) (λi _=>m-(intOf i).toNat)
 case atStart=>exact ⟨0,Nat.zero_le _,rfl,HS.out⟩
 case round =>
  obtain ⟨k,hk,rfl,hS⟩:=hrel;by_cases hlt:k<m
  .have hc:=hS.2.1;have hz:=hS.1.lt;have hcell:wr.cell? ⟨w.heap.size+1,k,none⟩=some (.int .u8 0):=by
    rw [hS.1.cell (by rw [HM.out]; exact hlt)]; simp
   have hfr:=hS.1.frozen k;go_wp2_with fail
   refine (jc _ s k (by unfold maxLen; omega) (by omega) _ hc).mono ?_;rintro e w2 ⟨rfl,rfl⟩;go_wp2;go_roundw
   case rel=>exact ⟨k+1,by omega,by go_num,hS.next (by rw [HM.out]; exact hlt)⟩
   case measure=>simp [intOf]; omega
  .obtain rfl:k=m:=by omega
   have HG:Hid (bf wr (some ⟨w.heap.size+1,0,none⟩) k k (fJ s)):=hid (by
    refine bf.ofRow (fJ s) (by unfold maxLen; omega) (by have:=hS.1; rw [HM.out] at this; exact this) (by rw [fE,HM.out]) (λj hj=>?_);rw [if_pos hj,lq s j (by rw [HM.out]; exact hj)])
   have hB:=hS.2.2;go_wp2;go_ret;exact ⟨_,_,_,rfl,HG.out,hB⟩
def gU (l:aM) (k:Nat):aM:=(List.range k).map λj=>UInt8.ofNat (16*(l.getD (2*j) 0).toNat+(l.getD (2*j+1) 0).toNat)
theorem IV (l:aM) (k:Nat):gU l (k+1)=gU l k++[UInt8.ofNat (16*(l.getD (2*k) 0).toNat+(l.getD (2*k+1) 0).toNat)]:=by
 simp [gU,List.range_succ]
theorem lN (l:aM) (k:Nat):(gU l k).length=k:=by simp [gU]
theorem Zp:∀ x:Fin 16,IntKind.u8.wrap (((x:Nat):Int)*16)=((x:Nat):Int)*16:=by decide +kernel
theorem Zv:∀ x y:Fin 16,bits .or .u8 (((x:Nat):Int)*16) ((y:Nat):Int)=((16*(x:Nat)+(y:Nat):Nat):Int):=by decide +kernel
theorem mF (l:aM) (h:dh l=true) (j:Nat):(l.getD j 0).toNat<16:=by
 unfold dh at h;rw [List.all_eq_true] at h;by_cases hj:j<l.length
 .have:=h l[j] (List.getElem_mem _);simp [List.getD,hj] at this ⊢;omega
 .simp [List.getD,hj]
def Prs (w:World) (l:aM) (k:Nat) (wr:World):Prop :=
 Bu.Is w.heap.size w.heap.size (Lib.byteCells (gU l k)) wr/\Below w.heap.size w wr
theorem Prs.start (w:World) (l:aM):Prs w l 0 (w.alloc (.cells #[.pointer none,.slice none 0 0] 165)) :=
 ⟨Bu.fresh aG (by show (w.heap.push _)[w.heap.size]? = _; simp),aH.alloc aG _⟩
theorem Prs.write {l:aM} {k:Nat} (h:Prs w l k wr) (hk:k<=1000) (c:Int) (hc:c=((16*(l.getD (2*k) 0).toNat+(l.getD (2*k+1) 0).toNat:Nat):Int)) (hx:(l.getD (2*k) 0).toNat<16) (hy:(l.getD (2*k+1) 0).toNat<16) :
  Calls prog 170 #[.pointer (some ⟨w.heap.size,0,none⟩),.int .u8 c] wr λe w'=>e = .returned .nilIface/\Prs w l (k+1) w':=by
 subst hc;refine (Bu.OH _ h.1 (by rw [Lib.byteCells_length,lN]; omega) h.2.size).mono ?_;rintro e w' ⟨rfl,h1,h2,_⟩;refine ⟨rfl,?_,h.2.trans h2⟩;rw [IV,Lib.byteCells_append];have e:(UInt8.ofNat (16*(l.getD (2*k) 0).toNat+(l.getD (2*k+1) 0).toNat)).toNat=16*(l.getD (2*k) 0).toNat+(l.getD (2*k+1) 0).toNat:=by
  simp only [UInt8.toNat_ofNat']; omega
 have e2:Lib.byteCells [UInt8.ofNat (16*(l.getD (2*k) 0).toNat+(l.getD (2*k+1) 0).toNat)]=[.int .u8 ((16*(l.getD (2*k) 0).toNat+(l.getD (2*k+1) 0).toNat:Nat):Int)]:=by
  simp only [Lib.byteCells,List.map_cons,List.map_nil,e]
 rw [e2];exact h1
theorem Prs.drew {w wr:World} {l:aM} {k:Nat} (h:Prs w l k wr):Prs w l k wr.drew:=⟨h.1,h.2.drew⟩
theorem wS (a:aK) (n cap:Nat) (l:aM) (hr:dh l=true) (h2:n%2=0) (hn:n<=1000) (w:World) (h:bf w a n cap l) :
  Calls prog 147 #[.slice a n cap] w λe w'=>e = .returned (.string ⟨(gU l (n/2)).toArray⟩)/\Below w.heap.size w w':=by
 have H:=hid h;have HR:=hid (mF l hr);have H2:=hid h2;have HS:=hid (Prs.start w l);clear h hr h2;go_enter func147,ntmps147;go_wp2;go_loopw [4] (λi wr=>∃ k:Nat,2*k<=n/\i = .int .i64 (2*k)/\Prs w l k wr) (λi _=>n-(intOf i).toNat)
 case atStart=>exact ⟨0,Nat.zero_le _,rfl,HS.out⟩
 case round =>
  obtain ⟨k,hk,rfl,hP⟩:=hrel;by_cases hlt:2*k<n
  .have hlt1:2*k+1<n:=by have:=H2.out; omega
   obtain ⟨b,off,rfl,hb,hc⟩:=H.out.at' (2*k) hlt;obtain ⟨b',off',h1,_,hc'⟩:=H.out.at' (2*k+1) hlt1;simp at h1;obtain ⟨rfl,rfl⟩:=h1;have hx:=HR.out (2*k);have hy:=HR.out (2*k+1);obtain ⟨x,hxe⟩:=ay ((l.getD (2*k) 0).toNat)
   obtain ⟨y,hye⟩:=ay ((l.getD (2*k+1) 0).toNat)
   have ho:=Zv ⟨x,hxe ▸ hx⟩ ⟨y,hye ▸ hy⟩;have hw16:=Zp ⟨x,hxe ▸ hx⟩;have HW:Hid (∀ c:Int,c=bits .or .u8 ((x:Int)*16) (y:Int)->Calls prog 170 #[.pointer (some ⟨w.heap.size,0,none⟩),.int .u8 c] wr.drew λe w'=>e = .returned .nilIface/\Prs w l (k+1) w'):=hid (λc hc=>by
    refine hP.drew.write (by omega) _ ?_ hx hy;rw [hxe,hye,hc];exact ho)
   have hcon:=hid (HW.out _ rfl);have CD:Hid (Calls prog 170 #[.pointer (some ⟨w.heap.size,0,none⟩),.int .u8 (bits .or .u8 (IntKind.u8.wrap ((x:Int)*16)) (y:Int))] wr.drew λe w'=>e = .returned .nilIface/\Prs w l (k+1) w'):=hid (HW.out _ (by rw [show IntKind.u8.wrap ((x:Int)*16)=(x:Int)*16 from hw16]));clear HW ho hw16;rw [hxe] at hc hx;rw [hye] at hc' hy;rw [<-hP.2.cell (p:=⟨b,off+2*k,none⟩) hb] at hc;rw [<-hP.2.cell (p:=⟨b,off+(2*k+1),none⟩) hb] at hc';clear hxe hye;go_wp2_with fail
   have q1:(0:Int)<=2*(k:Int):=by omega
   have q2:2*(k:Int)<(n:Int):=by omega
   have q3:(0:Int)<=2*(k:Int)+1:=by omega
   have q4:2*(k:Int)+1<(n:Int):=by omega
   have q5:(2*(k:Int)).toNat=2*k:=by omega
   have q6:(2*(k:Int)+1).toNat=2*k+1:=by omega
   have q7:IntKind.i64.wrap (2*(k:Int)+1)=2*(k:Int)+1:=IntWalk.i64_in _ (by omega);go_region_with (go_at_call 170; (first | (with_reducible refine hcon.out.mono ?_) | (with_reducible refine CD.out.mono ?_)); rintro e w' ⟨rfl,hP2⟩)
   all_goals clear q7 q6 q5
   all_goals go_wp2
   all_goals
    go_roundw
    case rel=>exact ⟨k+1,by omega,by go_num,hP2⟩
    case measure=>simp [intOf]; omega
  .have hkk:k=n/2:=by have:=H2.out; omega
   have HP:Hid (Prs w l (n/2) wr):=hid (by rw [<-hkk]; exact hP);clear hkk;go_wp2_with (go_at_call 96; refine (Bu.text HP.out.1 HP.out.2.size).mono ?_)
   rintro e w2 ⟨rfl,hb2⟩;go_wp2;go_ret;exact ⟨rfl,HP.out.2.trans hb2⟩
theorem Ul (a:aK) (n cap:Nat) (ls:List (aM)) (hn:n<=1000000) (hL:ls.flatten.length<=1099511627776) (w:World) (h:Cc.zK w a n ls) :
  Calls prog 148 #[.slice a n cap] w (VR w ls.flatten):=by
 have hc:=Cc.zl a n cap ls hn hL w h;obtain ⟨r,hr⟩:=ay ls.flatten
 rw [hr] at hc ⊢;have HC:=hid hc;clear hc hr hL h;go_enter func148,ntmps148;go_wp2_with fail
 refine HC.out.mono ?_;rintro e w1 ⟨v,rfl,hown,hb⟩;obtain ⟨a',cap',rfl,hx⟩:=bf.oF hown;clear hown;go_wp2;go_ret;exact ⟨_,_,_,rfl,hx,hb⟩
def ni:aM->aM->Nat
 | a::xs,b::ys=>if a=b then ni xs ys+1 else 0
 | _,_=>0
theorem uw:∀ (k:Nat) (xs ys:aM),k<=xs.length->k<=ys.length->(∀ j,j<k->(xs.getD j 0).toNat=(ys.getD j 0).toNat)->
  (k=xs.length\/k=ys.length\/(xs.getD k 0).toNat≠(ys.getD k 0).toNat)->ni xs ys=k
 | 0,[],_,_,_,_,_=>rfl
 | 0,_::_,[],_,_,_,_=>rfl
 | 0,a::xs,b::ys,_,_,_,h=>by
  have hne:a≠b:=by
   rintro rfl;simp at h
  simp [ni,hne]
 | k+1,[],_,h,_,_,_=>absurd h (by simp)
 | k+1,_::_,[],_,h,_,_=>absurd h (by simp)
 | k+1,a::xs,b::ys,h1,h2,h3,h4=>by
  have hab:a=b:=UInt8.toNat_inj.1 (by simpa using h3 0 (by omega));have:=uw k xs ys (by simpa using h1) (by simpa using h2) (λj hj=>by simpa using h3 (j+1) (by omega)) (by simpa using h4);simp [ni,hab,this]
def Alike (x y:aM) (k:Nat):Prop:=∀ j,j<k->(x.getD j 0).toNat=(y.getD j 0).toNat
theorem Alike.next {x y:aM} {k:Nat} (h:Alike x y k) (e:(x.getD k 0).toNat=(y.getD k 0).toNat):Alike x y (k+1):=λj hj=>by
 by_cases hjk:j=k
 .subst hjk; exact e
 .exact h j (by omega)
theorem MF (a b:aK) (n m c d:Nat) (x y:aM) (hn:n<=1000000) (_hm:m<=1000000) (w:World) (ha:bf w a n c x) (hb:bf w b m d y) :
  Calls prog 158 #[.slice a n c,.slice b m d] w λe w'=>e = .returned (.int .i64 (ni x y:Nat))/\∃ q,w'=w.drewN q:=by
 have HA:=hid ha;have HB:=hid hb;clear ha hb;go_enter func158,ntmps158;go_wp2;go_loopw [5] (λi wr=>∃ k:Nat,k<=n/\k<=m/\i = .int .i64 k/\Hid (Alike x y k)/\∃ q,wr=w.drewN q) (λi _=>n-(intOf i).toNat)
 case atStart=>exact ⟨0,Nat.zero_le _,Nat.zero_le _,rfl,hid (λj hj=>absurd hj (Nat.not_lt_zero _)),0,rfl⟩
 case round =>
  obtain ⟨k,hk,hkm,rfl,HK,q,rfl⟩:=hrel;by_cases hlt:k<n/\k<m
  .obtain ⟨h1,h2⟩:=hlt;obtain ⟨b1,off1,rfl,_,hc1⟩:=HA.out.at' k h1;obtain ⟨b2,off2,rfl,_,hc2⟩:=HB.out.at' k h2;obtain ⟨u,hu⟩:=ay ((x.getD k 0).toNat)
   obtain ⟨v,hv⟩:=ay ((y.getD k 0).toNat)
   rw [hu] at hc1;rw [hv] at hc2;by_cases huv:u=v
   .subst huv;have HN:=hid (HK.out.next (hu.trans hv.symm));clear hu hv;have hd:decide ((k:Int)<min (n:Int) (m:Int))=true:=aJ (by omega);go_wp2_with fail
    go_quiet (fail)
    go_wp2;go_roundw
    case rel=>exact ⟨k+1,by omega,by omega,by go_num,HN,(by first | exact ⟨_,rfl⟩ | exact ⟨_,World.drewN_drewN ..⟩)⟩
    case measure=>simp [intOf]; omega
   .have HE:Hid (ni x y=k):=hid (uw k x y (by rw [HA.out.len]; exact hk) (by rw [HB.out.len]; exact hkm) HK.out (Or.inr (Or.inr (by rw [hu,hv]; exact huv))));have hd:decide ((k:Int)<min (n:Int) (m:Int))=true:=aJ (by omega);have huv2:((u:Int)==(v:Int))=false:=by simp; omega
    clear hu hv;go_wp2_with fail
    go_quiet (fail)
    go_wp2;go_ret;exact ⟨by rw [HE.out]; rfl,(by first | exact ⟨_,rfl⟩ | exact ⟨_,World.drewN_drewN ..⟩)⟩
  .have HE:Hid (ni x y=k):=hid (uw k x y (by rw [HA.out.len]; exact hk) (by rw [HB.out.len]; exact hkm) HK.out (by rw [HA.out.len,HB.out.len]; omega));have hd:decide ((k:Int)<min (n:Int) (m:Int))=false:=decide_eq_false (by omega);go_wp2_with fail
   go_quiet (fail)
   go_wp2;go_ret;exact ⟨by rw [HE.out]; rfl,(by first | exact ⟨_,rfl⟩ | exact ⟨_,World.drewN_drewN ..⟩)⟩
end Ni
end
end Go.Proofs.YtoipgepkhomfgaaGreatDoor
