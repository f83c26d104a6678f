/-
 Whether nodes are the same: contracts of slices.Equal over bytes, node.Same, the plain answers' Same; the plain Same over texts.
-/
import Derived.Test.YtokaiemgjngcoaaGreatDoorVy14
import Derived.Test.YtokaiemgjngcoaaGreatDoorVy15
open Go.Lib (hid)
open Go.Proofs.Tryz
set_option linter.unusedSimpArgs false
set_option linter.unusedVariables false
set_option maxHeartbeats 40000000
set_option maxRecDepth 100000
namespace Go.Proofs.YtokaiemgjngcoaaGreatDoor
variable {ev:Operand->Value} {o:Oper} {w w1 w2:World} {a:aL} {K:Act->World->Prop} {Q:Exit->Act->World->Prop} {ops:Array Oper} {x y:Int} {R c g n:Nat} {v:Value}
section
open Go.RowKit
namespace No
open Rl (CJ Ay xV ny)
theorem Pd (s:aM) (h:∃ x y,o.op = .binOp .eql 9 x y 9/\ev x = .string s/\ev y = .string s) :
  (execOp ev o).run prog w = .ok (.value (.bool true)) w:=by
 obtain ⟨x,y,ho,hx,hy⟩:=h;have:(binOp .eql 9 (.string s) (.string s)).run prog w = .ok (.bool true) w:=by
  unfold binOp;simp [go_sem,Op.stringOp]
 unfold execOp;simp [ho,hx,hy,go_sem]
end No
end
section
open Go.RowKit
namespace No
open Ni
def qJ (s:aM) (j:Nat):aN:=((fJ s).take (2*j)).drop (2-cK s 0%2)
def pcJ (s:aM) (j:Nat):List Value:=(qJ s j).map λx=>Value.int .u8 x.toNat
theorem Rz (l:aN) (j:Nat) (h:2*j+1<l.length):l.take (2*(j+1))=l.take (2*j)++[l.getD (2*j) 0,l.getD (2*j+1) 0]:=by
 rw [show 2*(j+1)=2*j+1+1 by omega,lD l (2*j+1) h,lD l (2*j) (by omega),List.append_assoc];rfl
theorem Kq (s:aM) (j:Nat) (h1:1<=j) (hj:j<s.size):qJ s (j+1)=qJ s j++[(fJ s).getD (2*j) 0,(fJ s).getD (2*j+1) 0]:=by
 unfold qJ;rw [Rz _ _ (by rw [dW]; omega),List.drop_append_of_le_length (by rw [List.length_take,dW]; omega)]
theorem WH (s:aM) (j:Nat) (hj:j<s.size):cK s (2*j)=(s[j]'hj).toNat/16:=by
 unfold cK;rw [if_pos (by omega),show 2*j/2=j by omega,nN s j hj]
theorem Wv (s:aM) (j:Nat) (hj:j<s.size):cK s (2*j+1)=(s[j]'hj).toNat%16:=by
 unfold cK;rw [if_neg (by omega),show (2*j+1)/2=j by omega,nN s j hj]
theorem EY (s:aM) (j:Nat) (h1:1<=j) (hj:j<s.size) (X Y:Int) (hX:X=((s[j]'hj).toNat/16:Nat)) (hY:Y=((s[j]'hj).toNat%16:Nat)):pcJ s (j+1)=pcJ s j++[.int .u8 X,.int .u8 Y]:=by
 unfold pcJ;rw [Kq s j h1 hj,List.map_append,List.map_cons,List.map_cons,List.map_nil,iB _ _ (by omega),iB _ _ (by omega),WH s j hj,Wv s j hj,hX,hY]
theorem Ez (s:aM) (j:Nat) (hj:j<=s.size):(qJ s j).length=2*j-(2-cK s 0%2):=by
 unfold qJ;rw [List.length_drop,List.length_take,dW,Nat.min_eq_left (by omega)]
theorem Ck (s:aM):qJ s s.size=bW s:=by
 unfold qJ bW;rw [List.take_of_length_le (by rw [dW]; exact aH)]
theorem Po (s:aM) (h0:0<s.size) (h:cK s 0%2=1) (X:Int) (hX:X=(cK s 1:Nat)):pcJ s 1=[.int .u8 X]:=by
 obtain ⟨a,b,r,e,_,hb⟩:=zY s h0;unfold pcJ qJ;rw [e,h,hX,<-hb];rfl
theorem Ji (s:aM) (h0:0<s.size) (h:cK s 0%2=0):pcJ s 1=[]:=by
 obtain ⟨a,b,r,e,_,hb⟩:=zY s h0;unfold pcJ qJ;rw [e,h];rfl
def rH (w:World) (s:aM) (e:Ending) (w':World):Prop:=∃ (a:aL) (n c:Nat) (l:aN) (leaf ok:Bool),e = .returned (.tuple #[.slice a n c,.bool leaf,.bool ok])/\BsF w.heap.size w' a n c l/\
 (ok=true/\s.size≠0/\¬ Bad s/\l=bW s/\leaf=iC s\/ok=false/\(s.size=0\/Bad s))/\Below w.heap.size w w'
theorem Gg:(prog.info? 5).map (λi=>(i.zero,i.size,i.bytes))=some (some (.int .u8 0),1,1):=by kernel_rfl
theorem KG {a:Act} (hw:Region.wanted o (yielded ops a.tmps)=true)
  (ho:∃ p q,o.op = .buildSlice 35 2 #[(0,p),(1,q)]/\a.eval p = .int .u8 x/\a.eval q = .int .u8 y)
  (h:∀ w' b,b=w.heap.size->Rg.Own w' b #[.int .u8 x,.int .u8 y] 5->Below w.heap.size w w'->K (a.put o.dst (.slice (some ⟨b,0,none⟩) 2 2)) w'):if Region.wanted o (yielded ops a.tmps)=true then Oper.wp prog o a w K Q else K (a.put o.dst undef) w:=by
 obtain ⟨p,q,ho,hp,hq⟩:=ho;obtain ⟨i0,hi,hz,hs,hby⟩:=info_parts Gg;refine Rg.want hw (wp_buildSlice 35 5 2 _ ho #[.int .u8 x,.int .u8 y] i0 _ underlying35 hi hz (by rw [hs]; decide) (by rw [hs]; decide) ?_ (h _ _ rfl (Rg.Own.new _ _ _) (al1 _ _)));simp only [List.map_toArray,List.map_cons,List.map_nil,hp,hq,hs];kernel_rfl
theorem Da {a:Act} {B b2:Nat} {xs:List Value} (hw:Region.wanted o (yielded ops a.tmps)=true)
  (ho:∃ s z,o.op = .call { callee:=.builtin .append,args:=#[s,z],argTypes:=#[35,35] }/\a.eval s=v/\a.eval z = .slice (some ⟨b2,0,none⟩) 2 2)
  (hR:w.ownsRow B 5 1 v n xs) (h2:Rg.Own w b2 #[.int .u8 x,.int .u8 y] 5) (hn:n<=4096) (hB:B<=w.heap.size)
  (h:∀ v' w',w'.ownsRow B 5 1 v' (n+2) (xs++[.int .u8 x,.int .u8 y])->w.grownBy w' v.ownBlock->K (a.put o.dst v') w'):if Region.wanted o (yielded ops a.tmps)=true then Oper.wp prog o a w K Q else K (a.put o.dst undef) w:=by
 obtain ⟨s,z,ho,hs,hy⟩:=ho;obtain ⟨i0,hi,hz,hsz,hby⟩:=info_parts Gg;obtain ⟨v',w',hr,h3,h4,_,h5⟩:=run_append_own_at (P:=prog) w B 35 o.type 5 i0 _ 1 1 underlying35 hi hz hsz hby rfl (by decide) v n _ hR ⟨b2,0,none⟩ 2 2 [.int .u8 x,.int .u8 y] rfl
  (λj u hu=>by
   rw [Addr.add_mid,Nat.zero_add,cell_of_row w b2 _ _ _ _ h2.2];simpa using hu)
  (λu hu=>by simp at hu; rcases hu with rfl | rfl <;> rfl) (by unfold maxLen; omega) (by omega) hB
 refine Rg.want hw ?_;unfold Oper.wp execOp;simp only [ho,resolve,invoke,builtin,Sem.run_bind,Sem.run_pure,Result.andThen_ok,List.map_toArray,List.map_cons,List.map_nil,hs,hy,hr];exact h v' w' h3 h4
theorem Nq (w:World):Calls prog 48 #[.string eB] w (rH w eB):=by
 go_enter func48,ntmps48;go_wp2;go_ret3
 exact ⟨none,0,0,[],false,false,rfl,BsF.nil _ _,.inr ⟨rfl,.inl rfl⟩,aI⟩
theorem Oe (s:aM) (h0:0<s.size) (h:64<=(s[0]'h0).toNat) (w:World):Calls prog 48 #[.string s] w (rH w s):=by
 have hne:=Ni.bZ h0;obtain ⟨hn0,hn1⟩:=LP s h0;have HB:Hid (Bad s):=hid (by
  unfold Bad;rcases Nat.mod_two_eq_zero_or_one (cK s 0) with e | e
  .exact .inl ⟨e,.inr (.inl (by omega))⟩
  .exact .inr ⟨e,.inr (by omega)⟩)
 obtain ⟨C,hC⟩:=aA ((s[0]'h0).toNat)
 rw [hC] at h;have hd:decide (64<=(C:Int))=true:=by simp; omega
 clear hn0 hn1;go_enter func48,ntmps48;go_wp2;go_ret3
 exact ⟨none,0,0,[],false,false,rfl,BsF.nil _ _,.inr ⟨rfl,.inr HB.out⟩,aI⟩
theorem EN (x:Nat) (h:x<256):IntKind.u8.wrap ((x:Int)/16)=((x/16:Nat):Int):=by
 simp [IntKind.wrap,IntKind.bits,IntKind.signed];omega
theorem CV {B n:Nat} {w w':World} {v:Value} {xs:List Value} (h:w.ownsRow B 5 1 v n xs) (hb:Below w.heap.size w w'):w'.ownsRow B 5 1 v n xs:=by
 refine h.kept (row:=none) ⟨hb.os,hb.tape,hb.output,hb.size,λk hk _=>hb.block k hk⟩ ?_;cases v.ownBlock with
 | none=>exact .inl rfl
 | some g=>exact .inr (λe=>by cases e)
theorem Bj (s:aM) (j:Nat) (hj:j<=s.size):(pcJ s j).length=2*j-(2-cK s 0%2):=by
 unfold pcJ;rw [List.length_map,Ez s j hj]
theorem zy (s:aM) (h0:0<s.size) (hx:(s[0]'h0).toNat<64) (h64:(bW s).length<=64) :
  ((⟨(fG (bW s) (decide (32<=(s[0]'h0).toNat))).toArray⟩:aM)=s->¬ Bad s)/\(¬ Bad s->(⟨(fG (bW s) (decide (32<=(s[0]'h0).toNat))).toArray⟩:aM)=s/\decide (32<=(s[0]'h0).toNat)=iC s):=by
 obtain ⟨hn0,hn1⟩:=LP s h0;refine ⟨λe=>?_,λhb=>?_⟩
 .have:=CQ (bW s) (decide (32<=(s[0]'h0).toNat)) (mE s) h64;rw [e] at this;exact this
 .have hl:decide (32<=(s[0]'h0).toNat)=iC s:=by
   unfold iC;rw [decide_eq_decide];omega
  exact ⟨by rw [hl]; exact unpack_pack s h0 hb,hl⟩
theorem KE (s:aM) (hs:s.size<=1000000) (h0:0<s.size) (h:(s[0]'h0).toNat<64) (ho:cK s 0%2=0) (w:World):Calls prog 48 #[.string s] w (rH w s):=by
 have hne:=Ni.bZ h0;obtain ⟨hn0,hn1⟩:=LP s h0;have HP:=hid (λj h1 hj X Y hX hY=>EY s j h1 hj X Y hX hY);have cD:=hid (λj hj=>Bj s j hj);rw [ho] at cD;obtain ⟨i0,hi,hz0,hz1,hz2⟩:=info_parts Cc.jS;have HI:Hid (_/\_/\_/\_):=hid ⟨hi,hz0,hz1,hz2⟩;have Ge:=hid (Ji s h0 ho);obtain ⟨C,hC⟩:=aA ((s[0]'h0).toNat)
 rw [hC] at hn0 hn1 h;have Kf:decide (64<=(C:Int))=false:=by simp; omega
 have Kp:((C:Int)/16%2==1)=false:=by simp; omega
 obtain ⟨o,hoe⟩:=aA (0:Nat)
 rw [hoe] at cD;have ho2:o<=1:=by omega
 clear hi hz0 hz1 hz2 hoe;go_enter func48,ntmps48;go_wp2;go_loopw [5,6] (λv i wr=>∃ j:Nat,1<=j/\j<=min s.size 40/\i = .int .i64 j/\Hid (wr.ownsRow w.heap.size 5 1 v (pcJ s j).length (pcJ s j))/\Hid (Below w.heap.size w wr)) (λ_ i _=>40-(intOf i).toNat)
 case atStart=>exact ⟨1,aH,by omega,rfl,hid (by rw [Ge.out]; exact World.ownsRow_nil _ _ _ _),hid aI⟩
 case round =>
  obtain ⟨j,h1,hj,rfl,dt,HB⟩:=hrel;by_cases hlt:j<min s.size 40
  .have hjs:j<s.size:=by omega
   have Kx:j<40:=by omega
   have d1:decide ((j:Int)<(s.size:Int))=true:=by simp; omega
   have d2:decide ((j:Int)<40)=true:=by simp; omega
   have HST:=hid (HP.out j h1 hjs (IntKind.u8.wrap (((s[j]'hjs).toNat:Int)/16)) (((s[j]'hjs).toNat:Int).tmod 16) (EN _ (UInt8.toNat_lt _)) (by rw [Int.tmod_eq_emod_of_nonneg (by omega)]; omega));have hl0:=cD.out j (by omega);obtain ⟨X,hX⟩:=aA ((s[j]'hjs).toNat)
   rw [hX] at HST;go_wp2_with fail
   refine aD (S:=λw'=>Below w.heap.size w w') (HB.out.drew) λhld=>?_;refine aj 0 ?_;try simp only [Act.put,au]
   refine aj 1 ?_;try simp only [Act.put,au]
   refine aj 2 ?_;try simp only [Act.put,au]
   refine aj 3 ?_;try simp only [Act.put,au]
   refine aj 4 ?_;try simp only [Act.put,au]
   refine aj 5 ?_;try simp only [Act.put,au]
   refine aj 6 ?_;try simp only [Act.put,au]
   refine aj 7 ?_;try simp only [Act.put,au]
   refine aj 8 ?_;try simp only [Act.put,au]
   refine ak 9 λK hK=>?_;refine KG (x:=IntKind.u8.wrap ((X:Int)/16)) (y:=(X:Int).tmod 16) (by rfl) ⟨_,_,rfl,rfl,rfl⟩ ?_;rintro il b9 cg h9 hbx;have AE:=CV dt.out.drew hbx;refine hK.out _ _ (bst hld hbx) λhld=>?_;clear hK K hbx cg;try simp only [Act.put,au]
   refine ak 10 λK hK=>?_;refine Da (by rfl) ⟨_,_,rfl,rfl,rfl⟩ AE h9 (by omega) hld.size ?_;rintro v' wv1 hown hgrow;have hlt':=AE.lt;have hB1:=Below.grown hld hgrow hld.size (λg hg=>(hlt' g hg).1);refine hK.out _ _ (hB1) λhld=>?_;clear hK K;try simp only [Act.put,au]
   refine aj 11 ?_;try simp only [Act.put,au]
   refine aC ?_;go_wp2;go_roundw
   case rel =>
    refine ⟨j+1,by omega,by omega,by go_num,hid ?_,hid hld⟩;have hl:=cD.out (j+1) (by omega);have hl0:=cD.out j (by omega);rw [hl0] at hown;rw [hl,HST.out,show 2*(j+1)-(2-o)=2*j-(2-o)+2 by omega];exact hown
   case measure=>simp [intOf]; omega
  .obtain rfl:j=min s.size 40:=by omega
   by_cases XL:s.size<=40
   .have hmin:min s.size 40=s.size:=by omega
    rw [hmin] at hlt h1 hj ⊢;have hR:=dt.out;rw [hmin] at hR;have hpl:=cD.out s.size aH;have hpe:pcJ s s.size=(bW s).map λx=>Value.int .u8 x.toNat:=by unfold pcJ; rw [Ck]
    rw [hpl,hpe] at hR;have hlen:(bW s).length=2*s.size-(2-o):=by rw [<-hpl,hpe,List.length_map]
    obtain ⟨a,cap,rfl,hb⟩:=wK hR;have HX:=hid hb;have d1:decide ((s.size:Int)<(s.size:Int))=false:=by simp
    have mx:Hid (64<(bW s).length->Bad s):=hid (λh=>Classical.byContradiction λhb=>by have:=EL s hb; omega);obtain ⟨N,hN⟩:=aA (2*s.size-(2-o))
    rw [hN] at HX hlen;rw [hN];by_cases h64:N<=64
    .obtain ⟨t1,t2⟩:=zy s h0 (by omega) (by omega);rw [hC] at t1 t2;have cW:=hid (pR a N cap (bW s) (decide (32<=C)) (mE s) h64 wr HX.out.1);obtain ⟨P,hP⟩:=aA (⟨(fG (bW s) (decide (32<=C))).toArray⟩:aM)
     rw [hP] at t1 t2 cW;have HT1:=hid t1;have HT2:=hid t2;have d64:decide ((N:Int)<=64)=true:=by simp; omega
     by_cases hps:P=s
     .have AF:=hid (t1 hps);have gw:=hid (t2 (t1 hps)).2;by_cases h32:32<=C
      .have d32:decide (32<=(C:Int))=true:=by simp; omega
       rw [show decide (32<=C)=true by simp; omega] at cW gw;clear HP cD dt hb;go_wp2_with fail
       refine cW.out.mono ?_;rintro e w9 ⟨rfl,cg⟩;have kh:=hid (HX.out.below cg);have am:=hid (bst HB.out cg);clear cg;subst hps;go_wp2;go_ret3
       exact ⟨a,N,cap,_,_,true,rfl,kh.out,.inl ⟨rfl,by omega,AF.out,rfl,gw.out⟩,am.out⟩
      .have d32:decide (32<=(C:Int))=false:=by simp; omega
       rw [show decide (32<=C)=false by simp; omega] at cW gw;clear HP cD dt hb;go_wp2_with fail
       refine cW.out.mono ?_;rintro e w9 ⟨rfl,cg⟩;have kh:=hid (HX.out.below cg);have am:=hid (bst HB.out cg);clear cg;subst hps;go_wp2;go_ret3
       exact ⟨a,N,cap,_,_,true,rfl,kh.out,.inl ⟨rfl,by omega,AF.out,rfl,gw.out⟩,am.out⟩
     .have ep:Hid (Bad s):=hid (Classical.byContradiction λhb=>hps (t2 hb).1);have hne2:=Rl.ny hps;by_cases h32:32<=C
      .have d32:decide (32<=(C:Int))=true:=by simp; omega
       rw [show decide (32<=C)=true by simp; omega] at cW;clear HP cD dt hb;go_wp2_with fail
       refine cW.out.mono ?_;rintro e w9 ⟨rfl,cg⟩;have kh:=hid (HX.out.below cg);have am:=hid (bst HB.out cg);clear cg;go_wp2;go_ret3
       exact ⟨a,N,cap,_,_,false,rfl,kh.out,.inr ⟨rfl,.inr ep.out⟩,am.out⟩
      .have d32:decide (32<=(C:Int))=false:=by simp; omega
       rw [show decide (32<=C)=false by simp; omega] at cW;clear HP cD dt hb;go_wp2_with fail
       refine cW.out.mono ?_;rintro e w9 ⟨rfl,cg⟩;have kh:=hid (HX.out.below cg);have am:=hid (bst HB.out cg);clear cg;go_wp2;go_ret3
       exact ⟨a,N,cap,_,_,false,rfl,kh.out,.inr ⟨rfl,.inr ep.out⟩,am.out⟩
    .have ep:Hid (Bad s):=hid (mx.out (by omega));have d64:decide ((N:Int)<=64)=false:=by simp; omega
     clear HP cD dt hb;go_wp2;go_ret3
     exact ⟨a,N,cap,_,_,false,rfl,HX.out,.inr ⟨rfl,.inr ep.out⟩,HB.out⟩
   .have hmin:min s.size 40=40:=by omega
    rw [hmin] at hlt h1 hj ⊢;have hR:=dt.out;rw [hmin] at hR;have hpl:=cD.out 40 (by omega);rw [hpl] at hR;obtain ⟨a,cap,rfl,hb⟩:=wK (l:=qJ s 40) hR;have HX:=hid hb;have d1:decide ((40:Int)<(s.size:Int))=true:=by simp; omega
    have ep:Hid (Bad s):=hid (by
     unfold Bad;rcases Nat.mod_two_eq_zero_or_one (cK s 0) with e | e
     .exact .inl ⟨e,.inl (by omega)⟩
     .exact .inr ⟨e,.inl (by omega)⟩)
    obtain ⟨N,hN⟩:=aA (2*40-(2-o))
    rw [hN] at HX;rw [hN];have d64:decide ((N:Int)<=64)=false:=by simp; omega
    clear HP cD dt hb;go_wp2;go_ret3
    exact ⟨a,N,cap,_,_,false,rfl,HX.out,.inr ⟨rfl,.inr ep.out⟩,HB.out⟩
theorem Oa (s:aM) (hs:s.size<=1000000) (h0:0<s.size) (h:(s[0]'h0).toNat<64) (ho:cK s 0%2=1) (w:World):Calls prog 48 #[.string s] w (rH w s):=by
 have hne:=Ni.bZ h0;obtain ⟨hn0,hn1⟩:=LP s h0;have HP:=hid (λj h1 hj X Y hX hY=>EY s j h1 hj X Y hX hY);have cD:=hid (λj hj=>Bj s j hj);rw [ho] at cD;obtain ⟨i0,hi,hz0,hz1,hz2⟩:=info_parts Cc.jS;have HI:Hid (_/\_/\_/\_):=hid ⟨hi,hz0,hz1,hz2⟩;have Ge:=hid (λX hX=>Po s h0 ho X hX);obtain ⟨C,hC⟩:=aA ((s[0]'h0).toNat)
 rw [hC] at hn0 hn1 h;have Kf:decide (64<=(C:Int))=false:=by simp; omega
 have Kp:((C:Int)/16%2==1)=true:=by simp; omega
 obtain ⟨o,hoe⟩:=aA (1:Nat)
 rw [hoe] at cD;have ho2:o<=1:=by omega
 clear hi hz0 hz1 hz2 hoe;go_enter func48,ntmps48;have dl:=hid (World.ownsRow_nil w w.heap.size 5 1);go_wp2_with (at_builtin; refine wpList_append_own _ rfl _ _ 35 rfl w.heap.size 5 i0 (.int .u8 0) 1 1 underlying35 HI.out.1 HI.out.2.1 HI.out.2.2.1 HI.out.2.2.2 rfl (by decide) _ _ _ rfl (dl.out.alloc _) ⟨w.heap.size,0,none⟩ 1 1 [.int .u8 ((C:Int)%16)] rfl rfl ?c1 ?c2 ?c3 ?c4 ?c5 ?_)
 case c1=>exact Bu.cell_one_new' _ _ _ _
 case c2=>intro u hu; simp at hu; subst hu; rfl
 case c3=>unfold maxLen; omega
 case c4=>omega
 case c5=>simp
 intro v2 w2 hown2 hgrow2 _;have HW2:Hid (w2.ownsRow w.heap.size 5 1 v2 (pcJ s 1).length (pcJ s 1)):=hid (by rw [Ge.out ((C:Int)%16) (by omega)]; exact hown2);have HB2:Hid (Below w.heap.size w w2):=hid ((al1 w _).grown hgrow2 (by simp) (λg hg=>(dl.out.lt g hg).1));clear hown2 hgrow2 Ge dl;go_wp2;go_loopw [5,6] (λv i wr=>∃ j:Nat,1<=j/\j<=min s.size 40/\i = .int .i64 j/\Hid (wr.ownsRow w.heap.size 5 1 v (pcJ s j).length (pcJ s j))/\Hid (Below w.heap.size w wr)) (λ_ i _=>40-(intOf i).toNat)
 case atStart=>exact ⟨1,aH,by omega,rfl,hid (HW2.out),HB2⟩
 case round =>
  obtain ⟨j,h1,hj,rfl,dt,HB⟩:=hrel;by_cases hlt:j<min s.size 40
  .have hjs:j<s.size:=by omega
   have Kx:j<40:=by omega
   have d1:decide ((j:Int)<(s.size:Int))=true:=by simp; omega
   have d2:decide ((j:Int)<40)=true:=by simp; omega
   have HST:=hid (HP.out j h1 hjs (IntKind.u8.wrap (((s[j]'hjs).toNat:Int)/16)) (((s[j]'hjs).toNat:Int).tmod 16) (EN _ (UInt8.toNat_lt _)) (by rw [Int.tmod_eq_emod_of_nonneg (by omega)]; omega));have hl0:=cD.out j (by omega);obtain ⟨X,hX⟩:=aA ((s[j]'hjs).toNat)
   rw [hX] at HST;go_wp2_with fail
   refine aD (S:=λw'=>Below w.heap.size w w') (HB.out.drew) λhld=>?_;refine aj 0 ?_;try simp only [Act.put,au]
   refine aj 1 ?_;try simp only [Act.put,au]
   refine aj 2 ?_;try simp only [Act.put,au]
   refine aj 3 ?_;try simp only [Act.put,au]
   refine aj 4 ?_;try simp only [Act.put,au]
   refine aj 5 ?_;try simp only [Act.put,au]
   refine aj 6 ?_;try simp only [Act.put,au]
   refine aj 7 ?_;try simp only [Act.put,au]
   refine aj 8 ?_;try simp only [Act.put,au]
   refine ak 9 λK hK=>?_;refine KG (x:=IntKind.u8.wrap ((X:Int)/16)) (y:=(X:Int).tmod 16) (by rfl) ⟨_,_,rfl,rfl,rfl⟩ ?_;rintro il b9 cg h9 hbx;have AE:=CV dt.out.drew hbx;refine hK.out _ _ (bst hld hbx) λhld=>?_;clear hK K hbx cg;try simp only [Act.put,au]
   refine ak 10 λK hK=>?_;refine Da (by rfl) ⟨_,_,rfl,rfl,rfl⟩ AE h9 (by omega) hld.size ?_;rintro v' wv1 hown hgrow;have hlt':=AE.lt;have hB1:=Below.grown hld hgrow hld.size (λg hg=>(hlt' g hg).1);refine hK.out _ _ (hB1) λhld=>?_;clear hK K;try simp only [Act.put,au]
   refine aj 11 ?_;try simp only [Act.put,au]
   refine aC ?_;go_wp2;go_roundw
   case rel =>
    refine ⟨j+1,by omega,by omega,by go_num,hid ?_,hid hld⟩;have hl:=cD.out (j+1) (by omega);have hl0:=cD.out j (by omega);rw [hl0] at hown;rw [hl,HST.out,show 2*(j+1)-(2-o)=2*j-(2-o)+2 by omega];exact hown
   case measure=>simp [intOf]; omega
  .obtain rfl:j=min s.size 40:=by omega
   by_cases XL:s.size<=40
   .have hmin:min s.size 40=s.size:=by omega
    rw [hmin] at hlt h1 hj ⊢;have hR:=dt.out;rw [hmin] at hR;have hpl:=cD.out s.size aH;have hpe:pcJ s s.size=(bW s).map λx=>Value.int .u8 x.toNat:=by unfold pcJ; rw [Ck]
    rw [hpl,hpe] at hR;have hlen:(bW s).length=2*s.size-(2-o):=by rw [<-hpl,hpe,List.length_map]
    obtain ⟨a,cap,rfl,hb⟩:=wK hR;have HX:=hid hb;have d1:decide ((s.size:Int)<(s.size:Int))=false:=by simp
    have mx:Hid (64<(bW s).length->Bad s):=hid (λh=>Classical.byContradiction λhb=>by have:=EL s hb; omega);obtain ⟨N,hN⟩:=aA (2*s.size-(2-o))
    rw [hN] at HX hlen;rw [hN];by_cases h64:N<=64
    .obtain ⟨t1,t2⟩:=zy s h0 (by omega) (by omega);rw [hC] at t1 t2;have cW:=hid (pR a N cap (bW s) (decide (32<=C)) (mE s) h64 wr HX.out.1);obtain ⟨P,hP⟩:=aA (⟨(fG (bW s) (decide (32<=C))).toArray⟩:aM)
     rw [hP] at t1 t2 cW;have HT1:=hid t1;have HT2:=hid t2;have d64:decide ((N:Int)<=64)=true:=by simp; omega
     by_cases hps:P=s
     .have AF:=hid (t1 hps);have gw:=hid (t2 (t1 hps)).2;by_cases h32:32<=C
      .have d32:decide (32<=(C:Int))=true:=by simp; omega
       rw [show decide (32<=C)=true by simp; omega] at cW gw;clear HP cD dt hb;go_wp2_with fail
       refine cW.out.mono ?_;rintro e w9 ⟨rfl,cg⟩;have kh:=hid (HX.out.below cg);have am:=hid (bst HB.out cg);clear cg;subst hps;go_wp2;go_ret3
       exact ⟨a,N,cap,_,_,true,rfl,kh.out,.inl ⟨rfl,by omega,AF.out,rfl,gw.out⟩,am.out⟩
      .have d32:decide (32<=(C:Int))=false:=by simp; omega
       rw [show decide (32<=C)=false by simp; omega] at cW gw;clear HP cD dt hb;go_wp2_with fail
       refine cW.out.mono ?_;rintro e w9 ⟨rfl,cg⟩;have kh:=hid (HX.out.below cg);have am:=hid (bst HB.out cg);clear cg;subst hps;go_wp2;go_ret3
       exact ⟨a,N,cap,_,_,true,rfl,kh.out,.inl ⟨rfl,by omega,AF.out,rfl,gw.out⟩,am.out⟩
     .have ep:Hid (Bad s):=hid (Classical.byContradiction λhb=>hps (t2 hb).1);have hne2:=Rl.ny hps;by_cases h32:32<=C
      .have d32:decide (32<=(C:Int))=true:=by simp; omega
       rw [show decide (32<=C)=true by simp; omega] at cW;clear HP cD dt hb;go_wp2_with fail
       refine cW.out.mono ?_;rintro e w9 ⟨rfl,cg⟩;have kh:=hid (HX.out.below cg);have am:=hid (bst HB.out cg);clear cg;go_wp2;go_ret3
       exact ⟨a,N,cap,_,_,false,rfl,kh.out,.inr ⟨rfl,.inr ep.out⟩,am.out⟩
      .have d32:decide (32<=(C:Int))=false:=by simp; omega
       rw [show decide (32<=C)=false by simp; omega] at cW;clear HP cD dt hb;go_wp2_with fail
       refine cW.out.mono ?_;rintro e w9 ⟨rfl,cg⟩;have kh:=hid (HX.out.below cg);have am:=hid (bst HB.out cg);clear cg;go_wp2;go_ret3
       exact ⟨a,N,cap,_,_,false,rfl,kh.out,.inr ⟨rfl,.inr ep.out⟩,am.out⟩
    .have ep:Hid (Bad s):=hid (mx.out (by omega));have d64:decide ((N:Int)<=64)=false:=by simp; omega
     clear HP cD dt hb;go_wp2;go_ret3
     exact ⟨a,N,cap,_,_,false,rfl,HX.out,.inr ⟨rfl,.inr ep.out⟩,HB.out⟩
   .have hmin:min s.size 40=40:=by omega
    rw [hmin] at hlt h1 hj ⊢;have hR:=dt.out;rw [hmin] at hR;have hpl:=cD.out 40 (by omega);rw [hpl] at hR;obtain ⟨a,cap,rfl,hb⟩:=wK (l:=qJ s 40) hR;have HX:=hid hb;have d1:decide ((40:Int)<(s.size:Int))=true:=by simp; omega
    have ep:Hid (Bad s):=hid (by
     unfold Bad;rcases Nat.mod_two_eq_zero_or_one (cK s 0) with e | e
     .exact .inl ⟨e,.inl (by omega)⟩
     .exact .inr ⟨e,.inl (by omega)⟩)
    obtain ⟨N,hN⟩:=aA (2*40-(2-o))
    rw [hN] at HX;rw [hN];have d64:decide ((N:Int)<=64)=false:=by simp; omega
    clear HP cD dt hb;go_wp2;go_ret3
    exact ⟨a,N,cap,_,_,false,rfl,HX.out,.inr ⟨rfl,.inr ep.out⟩,HB.out⟩
theorem wu (s:aM) (hs:s.size<=1000000) (w:World):Calls prog 48 #[.string s] w (rH w s):=by
 by_cases h0:0<s.size
 .by_cases h:(s[0]'h0).toNat<64
  .rcases Nat.mod_two_eq_zero_or_one (cK s 0) with e | e
   .exact KE s hs h0 h e w
   .exact Oa s hs h0 h e w
  .exact Oe s h0 (by omega) w
 .obtain rfl:=cZ (s:=s) (by omega);exact Nq w
open Rl
theorem Fg (s u:aM) (h:∃ x y,o.op = .binOp .eql 9 x y 9/\ev x = .string s/\ev y = .string u) :
  (execOp ev o).run prog w = .ok (.value (.bool (decide (s=u)))) w:=by
 by_cases e:s=u
 .subst e;rw [aK rfl];exact Pd s h
 .rw [decide_eq_false e];obtain ⟨x,y,ho,hx,hy⟩:=h;have:(binOp .eql 9 (.string s) (.string u)).run prog w = .ok (.bool false) w:=by
   unfold binOp;simp [go_sem,Op.stringOp,ny e]
  unfold execOp;simp [ho,hx,hy,go_sem];simpa using ny e
theorem Md {s:aM} (hs:s.size<=1000000) {c:Int} (hr:bR s.data.toList 0 0 = .error c) (w:World) :
  Calls prog 47 #[.string s,.int .i64 0,.int .i64 4096] w λe w'=>∃ c:Int,c≠0/\e = .returned (.tuple #[.agg #[.bool false,.string ⟨#[]⟩,.slice none 0 0],.int .i64 0,.int .i64 0,.int .i64 c])/\Below w.heap.size w w':=by
 have h:=Dv s hs w;rw [hr] at h;exact h
theorem pQ {s:aM} (hs:s.size<=1000000) {x:It} {k:Nat} (hr:bR s.data.toList 0 0 = .ok (x,n,k)) (w:World) :
  Calls prog 47 #[.string s,.int .i64 0,.int .i64 4096] w λe w'=>∃ (a:aL) (nn cap:Nat) (lI:Int),e = .returned (.tuple #[.agg #[.bool x.l,.string x.s,.slice a nn cap],.int .i64 n,.int .i64 lI,.int .i64 0])/\bP w.heap.size w' x.xs a nn cap/\Below w.heap.size w w':=by
 have h:=Dv s hs w;rw [hr] at h;refine h.mono ?_;rintro e w' ⟨a,nn,cap,nI,lI,rfl,rfl,_,hI,hb⟩;exact ⟨a,nn,cap,lI,rfl,hI,hb⟩
theorem tT {B:Nat} {w:World} {xs:List It} {a:aL} {n cap:Nat} (h:bP B w xs a n cap) (j:Nat) (hj:j<n):∃ x b off A N C,xs[j]? = some x/\a=some ⟨b,off,none⟩/\B<=b/\b<w.heap.size/\tF w b (off+j*3) x A N C/\gZ w x.xs A N C:=by
 cases h with
 | mk A N C hl hc hm hw hn h hi =>
  have hx:xs[j]? = some (xs[j]'(by omega)):=List.getElem?_eq_getElem (by omega);obtain ⟨b,off,e,hB,hlt,hL⟩:=h j _ hx;exact ⟨_,b,off,A j,N j,C j,hx,e,hB,hlt,hL,bP.weak (hi j _ hx) (Nat.zero_le _)⟩
theorem nL (w w3:World) (hO:dL w3 w.heap.size nd0 none 0 0) (hB:Below w.heap.size w w3) (x:It) (a:aL) (n c:Nat) :
  dL ((w3.alloc (.cells #[.bool x.l,.string x.s,.slice a n c] 96)).alloc (.cells (ndC nd0 none 0 0) 67)) (w3.heap.size+1) nd0 none 0 0/\
  (w3.alloc (.cells #[.bool x.l,.string x.s,.slice a n c] 96)).cell? ⟨w3.heap.size,2,none⟩=some (.slice a n c)/\dL (w3.alloc (.cells #[.bool x.l,.string x.s,.slice a n c] 96)) w.heap.size nd0 none 0 0/\Below w.heap.size w (w3.alloc (.cells #[.bool x.l,.string x.s,.slice a n c] 96))/\
  ∀ w5,w5=((w3.alloc (.cells #[.bool x.l,.string x.s,.slice a n c] 96)).alloc (.cells (ndC nd0 none 0 0) 67)).setRow (w3.heap.size+1) (ndC ⟨3,[],eB,zks⟩ none 0 0)->
   dL w5 w.heap.size nd0 none 0 0/\w5.cell? ⟨w3.heap.size,2,none⟩=some (.slice a n c)/\dL w5 (w3.heap.size+1) ⟨3,[],eB,zks⟩ none 0 0/\Below w3.heap.size w3 w5/\w5.heap.size=w3.heap.size+2:=by
 have h1:dL ((w3.alloc (.cells #[.bool x.l,.string x.s,.slice a n c] 96)).alloc (.cells (ndC nd0 none 0 0) 67)) (w3.heap.size+1) nd0 none 0 0:=by
  have:=Rg.Own.new (w3.alloc (.cells #[.bool x.l,.string x.s,.slice a n c] 96)) (ndC nd0 none 0 0) 67;simpa using this
 have h2:(w3.alloc (.cells #[.bool x.l,.string x.s,.slice a n c] 96)).cell? ⟨w3.heap.size,2,none⟩=some (.slice a n c):=(Fx w3 x a n c 96).2.2;refine ⟨h1,h2,hO.below (al1 _ _),bst hB (al1 _ _),?_⟩;rintro w5 rfl;have hb5:Below w3.heap.size w3 (((w3.alloc (.cells #[.bool x.l,.string x.s,.slice a n c] 96)).alloc (.cells (ndC nd0 none 0 0) 67)).setRow (w3.heap.size+1) (ndC ⟨3,[],eB,zks⟩ none 0 0)):=bX (al2 _ _ _) (Nat.le_succ _) _;refine ⟨hO.below hb5,?_,dG h1,hb5,by simp⟩
 have h3:Below (w3.alloc (.cells #[.bool x.l,.string x.s,.slice a n c] 96)).heap.size (w3.alloc (.cells #[.bool x.l,.string x.s,.slice a n c] 96)) (((w3.alloc (.cells #[.bool x.l,.string x.s,.slice a n c] 96)).alloc (.cells (ndC nd0 none 0 0) 67)).setRow (w3.heap.size+1) (ndC ⟨3,[],eB,zks⟩ none 0 0)):=bX (al1 _ _) (by simp) _;exact (Below.cell (p:=⟨w3.heap.size,2,none⟩) h3 (by simp)).trans h2
structure SG (R g:Nat) (L:Nd) (a:aL) (n c:Nat) (w w':World):Prop where
 lt:R<g
 nd:dL w' g L a n c
 res:∃ cs:aO,cs.size=19/\Rg.Own w' R cs 67
 bs:BsF (g+1) w' a n c L.p
 be:Below w.heap.size w w'
theorem SG.keep {L:Nd} (h:SG R g L a n c w w1) (hb:Below w1.heap.size w1 w2):SG R g L a n c w w2:=by
 obtain ⟨cs,hcs,ho⟩:=h.res;exact ⟨h.lt,h.nd.below hb,⟨cs,hcs,ho.below hb⟩,h.bs.below hb,bst h.be hb⟩
theorem SG.put {L:Nd} (h:SG R g L a n c w w1) {cs:aO} (hcs:cs.size=19) (hn:Rg.Own w2 R cs 67) (hu:Rg.Upd w1 R w2) (hR:w.heap.size<=R):SG R g L a n c w w2 :=
 ⟨h.lt,h.nd.upd hu (by have:=h.lt; omega),⟨cs,hcs,hn⟩,h.bs.upd hu (by have:=h.lt; omega),hu.below h.be hR⟩
theorem QN (s:aM) (hs:s.size<=1000000) (x:It) (k:Nat) (hr:bR s.data.toList 0 0 = .ok (x,s.size,k)) (hw:dJ s.data.toList = .ok x) (h2:x.xs.length=2) (hbad:(x.xs.getD 0 it0).s.size=0\/Bad (x.xs.getD 0 it0).s) (w:World):Calls prog 25 #[.string s] w (gF w (fE s.data.toList)):=by
 have hsl:s.data.toList.length<=1000000:=by rw [dZ]; omega
 rw [Uj hsl hw h2 hbad];obtain ⟨y,hy⟩:=aA (x.xs.getD 0 it0)
 obtain ⟨z,hz⟩:=aA (x.xs.getD 1 it0)
 have hy1:x.xs[0]? = some y:=by rw [<-hy]; exact getD_at (by omega)
 have hz1:x.xs[1]? = some z:=by rw [<-hz]; exact getD_at (by omega)
 have tS:=oN hsl hw y (List.mem_of_getElem? hy1);have ye:=oN hsl hw z (List.mem_of_getElem? hz1);rw [hy] at hbad;obtain ⟨w2,hw2⟩:=ay (w.alloc (.cells (ndC nd0 none 0 0) 67))
 have hs2:w2.heap.size=w.heap.size+1:=by rw [hw2]; simp
 have HO:Hid (dL w2 w.heap.size nd0 none 0 0):=hid (by rw [hw2]; exact Rg.Own.new _ _ _);have HB2:Hid (Below w.heap.size w w2):=hid (by rw [hw2]; exact al1 _ _);have HW:=hid (pQ hs hr w2);have Hy:=hid hy1;have Hz:=hid hz1;have j2:=hid (λw=>wu y.s tS.2.2.2 w);clear hr hw hy hz hy1 hz1;subst hw2;go_enter func25,ntmps25;go_wp2_with (refine aB (aY _ _ _ w.heap.size rfl rfl) ?_)
 with_reducible refine HW.out.mono ?_
 rintro e w3 ⟨a3,n3,c3,lI,rfl,cL,hb3⟩;rw [hs2] at cL;obtain ⟨du,qi,hO4,hB4,hall⟩:=nL w w3 (HO.out.below hb3) (bst HB2.out hb3) x a3 n3 c3;have eq:n3=x.xs.length:=cL.len.symm;obtain rfl:n3=2:=by omega
 have hm:=cL.max;have hnc:=cL.le;unfold maxLen at hm;obtain ⟨y',b,off,A0,N0,C0,hy,rfl,hBb,hblt,hL,_⟩:=tT cL 0 (by omega);obtain rfl:y'=y:=Option.some.inj (hy.symm.trans Hy.out);obtain ⟨z',b',off',A,N,C,hz,e,_,fh,hLz,mt⟩:=tT cL 1 (by omega);obtain ⟨rfl,rfl,_⟩:b=b'/\off=off'/\True:=by cases e; exact ⟨rfl,rfl,trivial⟩
 obtain rfl:z'=z:=Option.some.inj (hz.symm.trans Hz.out);rw [Nat.zero_mul,Nat.add_zero] at hL;rw [Nat.one_mul] at hLz;have fk:=hid du;have hW3:Below w3.heap.size w3 (((w3.alloc (.cells #[.bool x.l,.string x.s,.slice (some ⟨b,off,none⟩) 2 c3] 96)).alloc (.cells (ndC nd0 none 0 0) 67)).setRow (w3.heap.size+1) (ndC ⟨3,[],eB,zks⟩ none 0 0)):=(hall _ rfl).2.2.2.1;obtain ⟨e0,e1,e2⟩:=hL.stays hW3 hblt;have tU:=(hall _ rfl).2.1;have HA:=hid hall;have qk:=hid hL;have AG:=hid hLz;have AH:=hid mt;have HB3:=hid (bst HB2.out hb3)
 have HR3:Hid (w.heap.size<w3.heap.size):=hid (HO.out.below hb3).1;clear hb3 HW cL du hall hO4 hB4 eq hs2 hy hz e hL hLz mt hW3 HO HB2;go_wp2_with (first
  | (refine aB (aY _ _ _ (w3.heap.size+1) (by simp) rfl) ?_)
  | (refine aB (bC (vL 3) ?_) ?_; · exact ⟨_,rfl,rfl⟩)
  | (refine bA fk.out rfl ⟨3,[],eB,zks⟩ none 0 0 rfl rfl _ _ rfl rfl rfl rfl ?_))
 obtain ⟨w5,eh⟩:=ay (((w3.alloc (.cells #[.bool x.l,.string x.s,.slice (some ⟨b,off,none⟩) 2 c3] 96)).alloc (.cells (ndC nd0 none 0 0) 67)).setRow (w3.heap.size+1) (ndC ⟨3,[],eB,zks⟩ none 0 0))
 obtain ⟨c8,m5,im,hb5,hs5⟩:=HA.out w5 eh;rw [<-eh];rw [<-eh] at e0 e1 e2 tU;clear HA fk eh qi;refine (j2.out w5).mono ?_;rintro e w6 ⟨a6,n6,c6,l6,lf6,AI,rfl,hx6,hd6,hb6⟩;have cG:=hid (c8.below hb6);have aq:=hid (im.below hb6);have d9:=bst hb5 hb6;have bd:=hid (bst HB3.out d9);have nF:=qk.out.stays d9 hblt;obtain ⟨e0,e1,e2⟩:=nF;have o6:=AG.out.stays d9 fh;obtain ⟨f0,f1,f2⟩:=o6;have hc6:w6.cell? ⟨w3.heap.size,2,none⟩=some (.slice (some ⟨b,off,none⟩) 2 c3):=(Below.cell (p:=⟨w3.heap.size,2,none⟩) hb6 (by show w3.heap.size<_; omega)).trans m5
 have ms:Hid (BsF (w3.heap.size+2) w6 a6 n6 c6 l6):=hid (hx6.weak (by omega));have qq:=hid (AH.out.stays d9);have qr:=hb6.size;obtain rfl:AI=false:=by
  rcases hd6 with ⟨_,h0,hB,_⟩ | ⟨h,_⟩
  .exact absurd hbad (λh=>h.elim h0 hB)
  .exact h
 clear hx6 hb6 d9 c8 im hb5 hd6 m5 j2;go_wp2_with (first
  | (refine aB (bC lY ?_) ?_; · exact ⟨_,rfl,rfl⟩)
  | (refine bA cG.out rfl nd0 none 0 0 rfl rfl _ _ rfl rfl rfl rfl ?_))
 exact bodyPost_ret (dU rfl _ rfl (dG cG.out) rfl) rfl ⟨nd0,none,0,0,false,rfl,.inr ⟨rfl,rfl⟩,BsF.nil _ _,rfl,bX bd.out aH _⟩
theorem NU (s:aM) (hs:s.size<=1000000) (x:It) (k:Nat) (hr:bR s.data.toList 0 0 = .ok (x,s.size,k)) (hw:dJ s.data.toList = .ok x) (h2:x.xs.length=2) (hbad:¬ ((x.xs.getD 0 it0).s.size=0\/Bad (x.xs.getD 0 it0).s)) (hlf:iC (x.xs.getD 0 it0).s=true) (hs0:0<s.size) (hR:∀ k:aM,k.size<=1000000->(k.size<32->k.size<s.size)->ql k) (w:World):Calls prog 25 #[.string s] w (gF w (fE s.data.toList)):=by
 have hsl:s.data.toList.length<=1000000:=by rw [dZ]; omega
 have HG:=hid (Sd hsl hw h2 hbad hlf);obtain ⟨G,mr⟩:=aA (fE s.data.toList)
 rw [mr] at HG ⊢;clear mr;obtain ⟨y,hy⟩:=aA (x.xs.getD 0 it0)
 obtain ⟨z,hz⟩:=aA (x.xs.getD 1 it0)
 have hy1:x.xs[0]? = some y:=by rw [<-hy]; exact getD_at (by omega)
 have hz1:x.xs[1]? = some z:=by rw [<-hz]; exact getD_at (by omega)
 have tS:=oN hsl hw y (List.mem_of_getElem? hy1);have ye:=oN hsl hw z (List.mem_of_getElem? hz1);rw [hy] at hbad hlf HG;rw [hz] at HG;obtain ⟨w2,hw2⟩:=ay (w.alloc (.cells (ndC nd0 none 0 0) 67))
 have hs2:w2.heap.size=w.heap.size+1:=by rw [hw2]; simp
 have HO:Hid (dL w2 w.heap.size nd0 none 0 0):=hid (by rw [hw2]; exact Rg.Own.new _ _ _);have HB2:Hid (Below w.heap.size w w2):=hid (by rw [hw2]; exact al1 _ _);have HW:=hid (pQ hs hr w2);have Hy:=hid hy1;have Hz:=hid hz1;have j2:=hid (λw=>wu y.s tS.2.2.2 w);clear hr hw hy hz hy1 hz1;subst hw2;go_enter func25,ntmps25;go_wp2_with (refine aB (aY _ _ _ w.heap.size rfl rfl) ?_)
 with_reducible refine HW.out.mono ?_
 rintro e w3 ⟨a3,n3,c3,lI,rfl,cL,hb3⟩;rw [hs2] at cL;obtain ⟨du,qi,hO4,hB4,hall⟩:=nL w w3 (HO.out.below hb3) (bst HB2.out hb3) x a3 n3 c3;have eq:n3=x.xs.length:=cL.len.symm;obtain rfl:n3=2:=by omega
 have hm:=cL.max;have hnc:=cL.le;unfold maxLen at hm;obtain ⟨y',b,off,A0,N0,C0,hy,rfl,hBb,hblt,hL,_⟩:=tT cL 0 (by omega);obtain rfl:y'=y:=Option.some.inj (hy.symm.trans Hy.out);obtain ⟨z',b',off',A,N,C,hz,e,_,fh,hLz,mt⟩:=tT cL 1 (by omega);obtain ⟨rfl,rfl,_⟩:b=b'/\off=off'/\True:=by cases e; exact ⟨rfl,rfl,trivial⟩
 obtain rfl:z'=z:=Option.some.inj (hz.symm.trans Hz.out);rw [Nat.zero_mul,Nat.add_zero] at hL;rw [Nat.one_mul] at hLz;have fk:=hid du;have hW3:Below w3.heap.size w3 (((w3.alloc (.cells #[.bool x.l,.string x.s,.slice (some ⟨b,off,none⟩) 2 c3] 96)).alloc (.cells (ndC nd0 none 0 0) 67)).setRow (w3.heap.size+1) (ndC ⟨3,[],eB,zks⟩ none 0 0)):=(hall _ rfl).2.2.2.1;obtain ⟨e0,e1,e2⟩:=hL.stays hW3 hblt;have tU:=(hall _ rfl).2.1;have HA:=hid hall;have qk:=hid hL;have AG:=hid hLz;have AH:=hid mt;have HB3:=hid (bst HB2.out hb3)
 have HR3:Hid (w.heap.size<w3.heap.size):=hid (HO.out.below hb3).1;clear hb3 HW cL du hall hO4 hB4 eq hs2 hy hz e hL hLz mt hW3 HO HB2;go_wp2_with (first
  | (refine aB (aY _ _ _ (w3.heap.size+1) (by simp) rfl) ?_)
  | (refine aB (bC (vL 3) ?_) ?_; · exact ⟨_,rfl,rfl⟩)
  | (refine bA fk.out rfl ⟨3,[],eB,zks⟩ none 0 0 rfl rfl _ _ rfl rfl rfl rfl ?_))
 obtain ⟨w5,eh⟩:=ay (((w3.alloc (.cells #[.bool x.l,.string x.s,.slice (some ⟨b,off,none⟩) 2 c3] 96)).alloc (.cells (ndC nd0 none 0 0) 67)).setRow (w3.heap.size+1) (ndC ⟨3,[],eB,zks⟩ none 0 0))
 obtain ⟨c8,m5,im,hb5,hs5⟩:=HA.out w5 eh;rw [<-eh];rw [<-eh] at e0 e1 e2 tU;clear HA fk eh qi;refine (j2.out w5).mono ?_;rintro e w6 ⟨a6,n6,c6,l6,lf6,AI,rfl,hx6,hd6,hb6⟩;have cG:=hid (c8.below hb6);have aq:=hid (im.below hb6);have d9:=bst hb5 hb6;have bd:=hid (bst HB3.out d9);have nF:=qk.out.stays d9 hblt;obtain ⟨e0,e1,e2⟩:=nF;have o6:=AG.out.stays d9 fh;obtain ⟨f0,f1,f2⟩:=o6;have hc6:w6.cell? ⟨w3.heap.size,2,none⟩=some (.slice (some ⟨b,off,none⟩) 2 c3):=(Below.cell (p:=⟨w3.heap.size,2,none⟩) hb6 (by show w3.heap.size<_; omega)).trans m5
 have ms:Hid (BsF (w3.heap.size+2) w6 a6 n6 c6 l6):=hid (hx6.weak (by omega));have qq:=hid (AH.out.stays d9);have qr:=hb6.size;obtain ⟨rfl,rfl,rfl⟩:AI=true/\l6=bW y'.s/\lf6=true:=by
  rcases hd6 with ⟨h,_,_,h1,h3⟩ | ⟨_,h⟩
  .exact ⟨h,h1,h3.trans hlf⟩
  .exact absurd h hbad
 have hyl:y'.l=false:=congrArg It.l (vk tS.1 (λh=>hbad (.inl h)));rw [hyl] at e0;have Gk:(!true)=false:=rfl;have se:=ms.out.1.len;clear hx6 hb6 d9 c8 im hb5 hd6 m5 j2 hbad hlf;have hlt:=@Ns 0 y' z' ye.1;have cl:(lG y' z').ks.length=16:=bK;have fl:=λw' (h:bf w' a6 n6 c6 (lG y' z').p)=>Br (lG y' z') a6 n6 c6 bK w' h (Nat.le_trans ye.2.2.2 (by unfold maxLen; omega)) (λk hk=>by
  have e:k=eB:=List.eq_of_mem_replicate (show k∈List.replicate 16 eB from hk);rw [e];exact hR eB (by decide) (λ_=>hs0))
 obtain ⟨M,hM⟩:=aA (dN bJ (lG y' z'))
 rw [hM] at fl hlt;have kj:=hid fl;have HF:=hid Gk;clear fl Gk hR;obtain ⟨w7,hw7⟩:=ay (w6.setRow (w3.heap.size+1) (ndC (lG y' z') a6 n6 c6))
 have mN:Hid (dL w7 (w3.heap.size+1) (lG y' z') a6 n6 c6):=hid (by rw [hw7]; exact dG aq.out);have cE:Rg.Upd w6 (w3.heap.size+1) w7:=by rw [hw7]; exact Rg.Upd.set _ _ _
 have cN:=hid (cG.out.upd cE (by have:=HR3.out; omega));have cI:=hid (cE.below bd.out (by have:=HR3.out; omega));have mS:=hid (ms.out.upd cE (by omega));have g6:=(World.cell?_of_block (a:=⟨w3.heap.size,2,none⟩) (cE.block w3.heap.size (by omega))).trans hc6;have f7:=(World.cell?_of_block (a:=⟨b,off+3,none⟩) (cE.block b (by omega))).trans f0;have hlt3:=HR3.out;clear cE f0;go_wp2_with (first
  | (refine aB (bC (qH a6 n6 c6 (bW y'.s) z'.s) ?_) ?_; · exact ⟨_,rfl,rfl⟩)
  | (refine bA aq.out rfl (lG y' z') a6 n6 c6 rfl rfl _ _ rfl rfl rfl rfl ?_))
 rw [<-hw7];clear hw7;have f0:=f7;clear f7;cases hzl:z'.l with
 | true =>
  have hM:dN bJ (lG y' z')=false:=by
   cases M with
   | false=>exact hM
   | true=>exact absurd ((hlt rfl).symm.trans hzl) (by decide)
  rw [hzl] at f0;refine aD (S:=λw'=>SG w.heap.size (w3.heap.size+1) (lG y' z') a6 n6 c6 w w'/\w'.cell? ⟨w3.heap.size,2,none⟩=some (.slice (some ⟨b,off,none⟩) 2 c3)/\w'.cell? ⟨b,off+3,none⟩=some (.bool true)) (⟨⟨Nat.lt_succ_of_lt HR3.out,mN.out.drew,⟨_,rfl,cN.out.drew⟩,mS.out.below (below_drewN aI 1),cI.out.drew⟩,g6,f0⟩) λhld=>?_;refine aj 0 ?_ (hy:=by intro wz hSw; (refine bH hSw.1.nd cl ?_; exact ⟨_,rfl,rfl⟩));try simp only [Act.put,au]
  refine aj 1 ?_;try simp only [Act.put,au]
  refine aj 2 ?_ (hy:=by intro wz hSw; (have q0:=hSw.2.1; go_simp <;> with_reducible rfl));try simp only [Act.put,au]
  refine aj 3 ?_;try simp only [Act.put,au]
  refine aj 4 ?_;try simp only [Act.put,au]
  refine aj 5 ?_ (hy:=by intro wz hSw; (have q0:=hSw.2.2; go_simp <;> with_reducible rfl));try simp only [Act.put,au]
  refine aj 6 ?_;try simp only [Act.put,au]
  refine aj 7 ?_;try simp only [Act.put,au]
  refine Rg.takeL (i:=8) (v:=undef) rfl (by kernel_rfl) (by kernel_rfl) (by kernel_rfl) (λ_ _ _ h=>h) (Or.inr ⟨by rfl,rfl⟩) (by assumption) ?_;try simp only [Act.put,au]
  refine Rg.takeL (i:=9) (v:=undef) rfl (by kernel_rfl) (by kernel_rfl) (by kernel_rfl) (λ_ _ _ h=>h) (Or.inr ⟨by rfl,rfl⟩) (by assumption) ?_;try simp only [Act.put,au]
  refine aj 10 ?_;try simp only [Act.put,au]
  refine ak 11 λK hK=>?_;obtain ⟨cs,hcs,hOr⟩:=hld.1.res;refine Rg.meetStore (by rfl) hOr 67 (ndC (lG y' z') a6 n6 c6) ⟨_,_,rfl,rfl,rfl⟩ (gH _ _ _ _ cl) (by rw [hcs,dD _ _ _ _ cl]) (jf _ _ _ _) ?_;rintro wz hn hu;refine hK.out _ _ (⟨hld.1.put (dD _ _ _ _ cl) hn hu aH,(World.cell?_of_block (hu.block w3.heap.size (by omega))).trans hld.2.1,(World.cell?_of_block (hu.block b (by omega))).trans hld.2.2⟩) λhld=>?_;clear hK K;try simp only [Act.put]
  refine aj 12 ?_;try simp only [Act.put,au]
  refine aC ?_;go_wp2;exact bodyPost_ret (dU rfl _ rfl hn cl) rfl ⟨lG y' z',a6,n6,c6,false,rfl,.inr ⟨rfl,HG.out.trans (if_neg (by rw [hM]; exact Bool.false_ne_true))⟩,hld.1.bs.weak (by omega),bK,hld.1.be⟩
 | false =>
  rw [hzl] at f0;refine aD (S:=λw'=>SG w.heap.size (w3.heap.size+1) (lG y' z') a6 n6 c6 w w'/\w'.cell? ⟨w3.heap.size,2,none⟩=some (.slice (some ⟨b,off,none⟩) 2 c3)/\w'.cell? ⟨b,off+3,none⟩=some (.bool false)) (⟨⟨Nat.lt_succ_of_lt HR3.out,mN.out.drew,⟨_,rfl,cN.out.drew⟩,mS.out.below (below_drewN aI 1),cI.out.drew⟩,g6,f0⟩) λhld=>?_;refine aj 0 ?_ (hy:=by intro wz hSw; (refine bH hSw.1.nd cl ?_; exact ⟨_,rfl,rfl⟩));try simp only [Act.put,au]
  refine aj 1 ?_;try simp only [Act.put,au]
  refine aj 2 ?_ (hy:=by intro wz hSw; (have q0:=hSw.2.1; go_simp <;> with_reducible rfl));try simp only [Act.put,au]
  refine aj 3 ?_;try simp only [Act.put,au]
  refine aj 4 ?_;try simp only [Act.put,au]
  refine aj 5 ?_ (hy:=by intro wz hSw; (have q0:=hSw.2.2; go_simp <;> with_reducible rfl));try simp only [Act.put,au]
  refine aj 6 ?_;try simp only [Act.put,au]
  refine aj 7 ?_;try simp only [Act.put,au]
  refine aj 8 ?_ (hy:=by intro wz hSw; (refine bH hSw.1.nd cl ?_; exact ⟨_,rfl,rfl⟩));try simp only [Act.put,au]
  refine ak 9 λK hK=>?_;have hbs:=hld.1.bs.1;go_simp;go_at_call 49
  (with_reducible refine (kj.out _ hbs).mono ?_)
  rintro e s9 ⟨rfl,hbx⟩;refine hK.out _ _ (⟨hld.1.keep hbx,(Below.cell (p:=⟨w3.heap.size,2,none⟩) hbx (World.block_lt_of_cell? _ _ hld.2.1)).trans hld.2.1,(Below.cell (p:=⟨b,off+3,none⟩) hbx (World.block_lt_of_cell? _ _ hld.2.2)).trans hld.2.2⟩) λhld=>?_;clear hK K hbx;try simp only [Act.put,au]
  refine aj 10 ?_;try simp only [Act.put,au]
  refine ak 11 λK hK=>?_;obtain ⟨cs,hcs,hOr⟩:=hld.1.res;refine Rg.meetStore (by rfl) hOr 67 (ndC (lG y' z') a6 n6 c6) ⟨_,_,rfl,rfl,rfl⟩ (gH _ _ _ _ cl) (by rw [hcs,dD _ _ _ _ cl]) (jf _ _ _ _) ?_;rintro wz hn hu;refine hK.out _ _ (⟨hld.1.put (dD _ _ _ _ cl) hn hu aH,(World.cell?_of_block (hu.block w3.heap.size (by omega))).trans hld.2.1,(World.cell?_of_block (hu.block b (by omega))).trans hld.2.2⟩) λhld=>?_;clear hK K;try simp only [Act.put]
  refine aj 12 ?_;try simp only [Act.put,au]
  refine aC ?_;go_wp2;refine bodyPost_ret (dU rfl _ rfl hn cl) rfl ⟨lG y' z',a6,n6,c6,M,rfl,?_,hld.1.bs.weak (by omega),bK,hld.1.be⟩;cases M
  .exact .inr ⟨rfl,HG.out.trans (if_neg (by rw [hM]; exact Bool.false_ne_true))⟩
  .exact .inl ⟨rfl,HG.out.trans (if_pos hM)⟩
end No
end
end Go.Proofs.YtokaiemgjngcoaaGreatDoor
