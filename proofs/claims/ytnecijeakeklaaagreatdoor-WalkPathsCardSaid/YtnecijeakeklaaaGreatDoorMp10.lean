/-
 Contracts of the plain answers' Of and Sum.
-/
import Derived.Test.YtnecijeakeklaaaGreatDoorMp9
import Derived.Test.YtnecijeakeklaaaGreatDoorMp8
import Derived.Laws.StructEq
import Derived.ChangeKeysEq
import Derived.Test.YtnecijeakeklaaaGreatDoorMp4
import Derived.Maps.OwnSet
import Derived.DeepKeys4
import Derived.WideKeyArr2
import Derived.Test.YtnecijeakeklaaaGreatDoorMp6
import Derived.BigQuiet
import Derived.Test.YtnecijeakeklaaaGreatDoorMp3
open Go.Lib (hid)
set_option linter.unusedSimpArgs false
set_option linter.unusedVariables false
set_option maxHeartbeats 40000000
set_option maxRecDepth 100000
namespace Go.Proofs.YtnecijeakeklaaaGreatDoor
section
open Go.RowKit
namespace Sh
theorem IsWs.new (w:World) (l:List Nat) (hl:l.length=8) (t:TypeId):IsWs (w.alloc (.cells (wc l) t)) (some ⟨w.heap.size,0,none⟩) 8 8 l :=
 ⟨by omega,by unfold maxLen; omega,hl,fun e=>(by cases e),fun j hj=>⟨w.heap.size,0,rfl,by simp,by rw [Nat.zero_add]; exact wc_cell w l t j (by omega)⟩⟩
theorem byteAt_cut (t:ByteArray) (k q:Nat) (hq:q<64):byteAt (t.extract (64*k) (64*k+64)) q=byteK t.data.toList k q:=by
 unfold byteAt byteK;have e:(t.extract (64*k) (64*k+64)).data.toList=(t.data.toList.drop (64*k)).take 64:=by
  simp only [ByteArray.data_extract,Array.toList_extract,List.extract_eq_take_drop];rw [show 64*k+64-64*k=64 by omega]
 rw [e,List.getD,List.getD,List.getElem?_take_of_lt hq,List.getElem?_drop]
theorem of_block (t:ByteArray) (k:Nat) (h:List Nat):blockL (byteAt (t.extract (64*k) (64*k+64))) h=blockL (byteK t.data.toList k) h :=
 blockL_congr (fun q hq=>byteAt_cut t k q hq) h
theorem rof_any (l:List UInt8) (hl:l.length≤900000) (w:World) :
  Calls Tryz.prog 105 #[.string ⟨l.toArray⟩] w fun e w'=>e = .returned (.string ⟨(sumL l).toArray⟩)∧Below w.heap.size w w':=by
 have hlen:=fillL_length l;have hmod:=fillL_mod l;have hz:zerosN l.length<64:=Nat.mod_lt _ (by omega);have HW0:=hid (IsWs.new w Sh.start rfl 164);have HFi:=hid (fill_any l (by omega));obtain ⟨t,ht⟩:∃ t,(⟨(fillL l).toArray⟩:ByteArray)=t:=⟨_,rfl⟩
 have htd:t.data.toList=fillL l:=by rw [← ht]
 have hts:t.size=(fillL l).length:=by rw [← ht,ba_size]
 rw [ht] at HFi;have HS:=sec (show outK (hashK (fillL l) ((fillL l).length/64)) 32=sumL l from rfl);rw [← htd] at HS;rw [show t.data.toList.length=t.size by simp] at HS;have hb:t.size≤900100:=by omega
 rw [← hts] at hmod;have HT:=sec htd;have HL:=hid (fun k=>hashK_length t.data.toList k);have HTl:=hid (fun k=>hashK_lt t.data.toList k);clear ht htd hts hlen hz hl;obtain ⟨s,hs⟩:∃ s,(⟨l.toArray⟩:ByteArray)=s:=⟨_,rfl⟩
 rw [hs] at HFi ⊢;clear hs;go_enter Tryz.func105,Tryz.ntmps105;go_wp2_with (first | (refine wpList_run (o:=⟨some 10,_,_,_,_,_⟩) rfl (.slice (some ⟨w.heap.size,0,none⟩) 8 8) (w.alloc (.cells (wc Sh.start) 164)) (by kernel_rfl) ?_))
 refine (HFi.out _).mono ?_;rintro e w1 ⟨rfl,hb1⟩;have HW1:=hid (HW0.out.below hb1);have HB1:=hid (((Below.refl w.heap.size w).alloc (Nat.le_refl _) (.cells (wc Sh.start) 164)).trans (hb1.mono (by simp)));clear hb1 HFi HW0;go_wp2;go_loopw [3,5] (fun v i wr=>∃ (k:Nat) (a:Option Addr) (cap:Nat),64*k≤t.size∧i = .int .i64 (64*k:Nat)∧v = .slice a 8 cap∧Hid (IsWs wr a 8 cap (hashK t.data.toList k))∧Hid (Below w.heap.size w wr)) (fun _ i _=>t.size-(intOf i).toNat)
 case atStart=>exact ⟨0,_,_,by omega,rfl,rfl,HW1,HB1⟩
 case round =>
  clear HW1 HB1;obtain ⟨k,a,cap,hk,rfl,rfl,HW,HB⟩:=hrel;by_cases hlt:64*k<t.size
  ·have hk64:64*k+64≤t.size:=by omega
   have hBl:=block_any a cap (hashK t.data.toList k) (t.extract (64*k) (64*k+64)) (by simp; omega) wr HW.out (HTl.out k);rw [of_block t k] at hBl;have HBl:=hid hBl;obtain ⟨p,hp⟩:∃ p,64*k=p:=⟨_,rfl⟩
   have HBl:Hid (Calls Tryz.prog 129 #[.slice a 8 cap,.string (t.extract p (p+64))] wr (GotWs wr (blockL (byteK t.data.toList k) (hashK t.data.toList k)))):=hid (by rw [← hp]; exact HBl.out);rw [hp] at hk64 hlt hk ⊢;have HP:=hid hp;clear hBl hp;go_wp2_with fail
   refine HBl.out.mono ?_;rintro e w2 ⟨a2,cap2,rfl,hw2,hb2⟩;have HW2:=hid hw2;have HB2:=hid (HB.out.trans (hb2.mono HB.out.size));clear hw2 hb2 HBl;go_wp2;go_roundw
   case rel=>exact ⟨k+1,a2,cap2,by have:=HP.out; omega,by have:=HP.out; go_num,rfl,HW2,HB2⟩
   case measure=>have:=HP.out; simp [intOf]; omega
  ·have hke:k=t.size/64:=by omega
   have HSk:Sec (outK (hashK t.data.toList k) 32=sumL l):=sec (by rw [hke]; exact HS.out);have hbd:=HTl.out k;obtain ⟨M,hM⟩:∃ M,hashK t.data.toList k=M:=⟨_,rfl⟩
   rw [hM] at HW HSk hbd;have HMb:=hid (fun j=>getD_lt hbd j);clear hbd hM hke HS HL HTl HT;obtain ⟨b,off,rfl,hlb,hx0⟩:=HW.out.2.2.2.2 0 (by omega);have HC:Hid (∀ j,j<8→wr.cell? ⟨b,off+j,none⟩=some (.int .u64 (M.getD j 0:Nat))):=hid (fun j hj=>by
    obtain ⟨b',off',e,_,hc⟩:=HW.out.2.2.2.2 j hj;cases e;exact hc)
   obtain ⟨wo,rfl⟩:∃ wo:World,wo=wr:=⟨_,rfl⟩
   have hlb':Hid (b<wo.heap.size):=hid hlb;clear hx0 hlb;go_wp2;clear hlt hk hmod hb;go_loopw [6,7,8,9] (fun o i _ _ wx=>∃ q:Nat,q≤32∧i = .int .i64 q∧o = .string ⟨(outK M q).toArray⟩∧Hid (Below wo.heap.size wo wx)) (fun _ i _ _ _=>32-(intOf i).toNat)
   case atStart=>exact ⟨0,by omega,rfl,rfl,hid (Below.refl _ _)⟩
   case round =>
    obtain ⟨q,hq,rfl,rfl,HBx⟩:=hrel;by_cases hlt:q<32
    ·have hq4:q/4<8:=by omega
     have hc:=(HBx.out.cell (p:=⟨b,off+q/4,none⟩) hlb'.out).trans (HC.out (q/4) hq4);have hxb:=HMb.out (q/4);have HSn:=sec (outK_snoc M q);have HWb:=sec (show wByte M q=M.getD (q/4) 0/256 ^ (3-q%4)%256 from rfl);obtain ⟨x,hx⟩:∃ x,M.getD (q/4) 0=x:=⟨_,rfl⟩
     rw [hx] at hc hxb HWb;clear hx;obtain ⟨r,hr⟩:∃ r,q%4=r:=⟨_,rfl⟩
     have hr4:r<4:=by omega
     have hqr:(q:Int)%4=r:=by omega
     rw [hr] at HWb;clear hr;have hbs:=HBx.out.size;have hol:(⟨(outK M q).toArray⟩:ByteArray).size≤32:=by rw [ba_size,outK_length]; exact hq
     have HCat:Hid ((⟨(outK M q).toArray⟩:ByteArray)++⟨#[UInt8.ofNat (wByte M q)]⟩=⟨(outK M (q+1)).toArray⟩):=hid (by rw [HSn.out]; exact ba_cat _ [_]);obtain ⟨O,hO⟩:∃ O,(⟨(outK M q).toArray⟩:ByteArray)=O:=⟨_,rfl⟩
     rw [hO] at hol HCat ⊢;clear hO;have HQR:=hid hqr;go_wp2;clear hqr hc;go_loop [8,9] (fun v kk=>∃ d:Nat,r+d≤3∧kk = .int .i64 (r+d:Nat)∧v = .int .u64 (x/256 ^ d:Nat)) (fun _ kk=>3-(intOf kk).toNat)
     case atStart=>exact ⟨0,by omega,by rw [HQR.out]; rfl,by simp⟩
     case round =>
      obtain ⟨d,hd,rfl,rfl⟩:=hrel;have hD:Hid (x/256 ^ (d+1)=x/256 ^ d/256):=hid (by rw [Nat.pow_succ,Nat.div_div_eq_div_mul]);have hyb:x/256 ^ d<4294967296:=Nat.lt_of_le_of_lt (Nat.div_le_self _ _) hxb;obtain ⟨p,hp⟩:∃ p,r+d=p:=⟨_,rfl⟩
      rw [hp] at hd ⊢;have HP:=hid hp;by_cases hl3:p<3
      ·obtain ⟨y,hy⟩:∃ y,x/256 ^ d=y:=⟨_,rfl⟩
       rw [hy] at hD hyb ⊢;clear hy hp;go_wp2;go_round
       case rel=>exact ⟨d+1,by have:=HP.out; omega,by have:=HP.out; go_num,by rw [hD.out]; go_num⟩
       case measure=>simp [intOf]; omega
      ·have hd3:3-r=d:=by omega
       rw [hd3] at HWb;obtain ⟨y,hy⟩:∃ y,x/256 ^ d=y:=⟨_,rfl⟩
       rw [hy] at hyb HWb ⊢;clear hy hp hd3 hD;have hcv:=conv_one ((y:Int)%256) (y%256) (by omega) (by omega) wr;rw [← HWb.out] at hcv;obtain ⟨C,hC⟩:∃ C,(⟨#[UInt8.ofNat (wByte M q)]⟩:ByteArray)=C:=⟨_,rfl⟩
       have hCs:C.size≤1:=by rw [← hC]; exact Nat.le_refl _
       rw [hC] at hcv HCat;clear hC;go_wp2;go_roundw
       case rel=>exact ⟨q+1,by omega,by go_num,by rw [HCat.out],hid (HBx.out.alloc hbs _)⟩
       case measure=>simp [intOf]; omega
    ·obtain rfl:q=32:=by omega
     have hB2:=HB.out.trans (HBx.out.mono HB.out.size);clear HBx;go_wp2;go_ret;exact ⟨by rw [← HSk.out]; rfl,hB2⟩
end Sh
end
section
open Go.RowKit
namespace Sm
open Sh
end Sm
end
section
open Go.RowKit
namespace Sm
open Sh
end Sm
end
section
open Go.RowKit Go.WideMaps
namespace Rf
open Sh Sm Ni
def sumB (s:ByteArray):List UInt8:=sumL s.data.toList
theorem sumB_length (s:ByteArray):(sumB s).length=32:=sumL_length _
end Rf
end
section
open Go.RowKit
namespace No
open Rl Ni
theorem fits_mono (x:It):∀ {d e:Nat},Fits d x→e≤d→Fits e x:=by
 induction x using It.ind with
 | h l s xs ih =>
  intro d e h he;cases h with
  | mk ha hs hx hy=>exact .mk (by omega) hs hx (fun y hm=>ih y hm (hy y hm) (by omega))
theorem ntell_any (a:Option Addr) (n cap:Nat) (w:World) :
  Calls Tryz.prog 196 #[.slice a n cap] w fun e w'=>e = .returned (.func (Fn.func 200) #[] #[.pointer (some ⟨w.heap.size,0,none⟩)])∧w'=w.alloc (.cells #[.slice a n cap] 166):=by
 go_enter Tryz.func196,Tryz.ntmps196;go_wp2;go_ret;exact ⟨rfl,rfl⟩
theorem plain_q (s:ByteArray) (w:World):Calls Tryz.prog 107 #[.string s] w fun e w'=>e = .returned (.bool (plainB s))∧w'=w.drewN 0:=by
 refine (plain_any s w).mono ?_;rintro e w' ⟨rfl,rfl⟩;exact ⟨rfl,rfl⟩
def KidPost (w:World) (x:It) (e:Ending) (w':World):Prop:=∃ (s:ByteArray) (b:Bool),e = .returned (.tuple #[.string s,.bool b])∧(b=true∧kidP x=some s∨b=false∧kidP x=none)∧Below w.heap.size w w'
theorem ntell1_any (c i:Nat) (xs:List It) (a:Option Addr) (n cap:Nat) (x:It) (w:World) (hc:w.cell? ⟨c,0,none⟩=some (.slice a n cap)) (h:IsIts w xs a n cap) (hx:xs[i]? = some x) (hF:Fits 0 x) (hk:x.size≤4096) (hb:x.bytes.length≤4294967296) :
  Calls Tryz.prog 200 #[.int .i64 i,.pointer (some ⟨c,0,none⟩)] w (KidPost w x):=by
 have hm:=h.max;have hnc:=h.le;unfold maxLen at hm;have hi:i<n:=by rw [← h.len]; exact (List.getElem?_eq_some_iff.1 hx).1
 obtain ⟨y,b,off,A,N,C,hy,rfl,hblt,hL,hI⟩:=h.at' i hi;obtain rfl:=Option.some.inj (hx.symm.trans hy);have hclt:=World.block_lt_of_cell? w _ hc;obtain ⟨e0,e1,e2⟩:=hL;have hO:Rg.Own (w.alloc (.cells #[.bool x.l,.string x.s,.slice A N C] 168)) w.heap.size (itC x A N C) 168:=Rg.Own.new _ _ _;have HB:Hid (Below w.heap.size w (w.alloc (.cells #[.bool x.l,.string x.s,.slice A N C] 168))):=hid (al1 _ _);cases hl:x.l with
 | false =>
  have HK:Hid (kidP x=if plainB x.s then some x.s else none):=hid (by unfold kidP; rw [hl]; rfl);have HP:=hid (fun w=>plain_q x.s w);rw [hl] at e0 hO HB;obtain ⟨f0,f1,f2⟩:=lies_row hO.2;rw [hl] at f0;clear h hI hx hy hF hk hb hO;go_enter Tryz.func200,Tryz.ntmps200;go_wp2;go_quiet ((go_at_call 107; exact Calls.quiet_of_same (HP.out _)))
  go_wp2;go_ret2
  refine ⟨x.s,plainB x.s,rfl,?_,below_drewN HB.out _⟩;rw [HK.out];cases plainB x.s
  ·exact .inr ⟨rfl,rfl⟩
  ·exact .inl ⟨rfl,rfl⟩
 | true =>
  have HK:Hid (kidP x=if x.bytes.length<32 then some ⟨x.bytes.toArray⟩ else none):=hid (by unfold kidP; rw [hl]; rfl);have HPut:=hid (fun w1 (hb1:Below w.heap.size w w1)=>put_any x w1 (itV x A N C) ⟨A,N,C,rfl,hI.stays hb1⟩ hF hk (by omega));have HS:Hid ((⟨x.bytes.toArray⟩:ByteArray).size=x.bytes.length):=hid (ba_size _);have HBl:=hid hb;unfold itV at HPut;rw [hl] at e0 hO HB HPut;obtain ⟨f0,f1,f2⟩:=lies_row hO.2;rw [hl] at f0;have g0:=(HB.out.cell (p:=⟨b,off+i*3,none⟩) hblt).trans e0
  have g1:=(HB.out.cell (p:=⟨b,off+i*3+1,none⟩) hblt).trans e1;have g2:=(HB.out.cell (p:=⟨b,off+i*3+2,none⟩) hblt).trans e2;have gc:=(HB.out.cell (p:=⟨c,0,none⟩) hclt).trans hc;obtain ⟨X,hX⟩:∃ X,(⟨x.bytes.toArray⟩:ByteArray)=X:=⟨_,rfl⟩
  have hxs:X.size=x.bytes.length:=by rw [← hX]; exact HS.out
  rw [hX] at HPut HK;have hxb:X.size≤4294967296:=by omega
  rw [← hxs] at HK;clear h hI hx hy hF hk hb hO HS HBl hxs hX;go_enter Tryz.func200,Tryz.ntmps200;go_wp2_with fail
  refine (HPut.out _ HB.out).mono ?_;rintro e w1 ⟨rfl,hb1⟩;have HB1:=hid (bst HB.out hb1);clear hb1 HPut e0 e1 e2 f0 f1 f2 g0 g1 g2 gc hc;by_cases h32:X.size<32
  ·have hd:decide ((X.size:Int)<32)=true:=by simp; omega
   go_wp2;go_ret2
   exact ⟨X,true,rfl,.inl ⟨rfl,by rw [HK.out,if_pos h32]⟩,HB1.out⟩
  ·have hd:decide ((X.size:Int)<32)=false:=by simp; omega
   go_wp2;go_ret2
   exact ⟨X,false,rfl,.inr ⟨rfl,by rw [HK.out,if_neg h32]⟩,HB1.out⟩
end No
end
section
open Go.RowKit
namespace No
open Rl Ni
def ReadPost (w:World) (r:Option Nd) (e:Ending) (w':World):Prop:=∃ (N:Nd) (a:Option Addr) (n c:Nat) (b:Bool),e = .returned (.tuple #[.agg (ndC N a n c),.bool b])∧(b=true∧r=some N∨b=false∧r=none) ∧
 BsF w.heap.size w' a n c N.p∧N.ks.length=16∧Below w.heap.size w w'
def Good (x:It):Prop:=Fits 0 x∧x.size≤4096∧x.bytes.length≤4294967296∧x.s.size≤1000000
theorem getD_at {xs:List It} {i:Nat} (h:i<xs.length):xs[i]? = some (xs.getD i it0):=by simp [h]
theorem readPath_bad (xs:List It) (a:Option Addr) (n cap:Nat) (w:World) (h:IsIts w xs a n cap) (h2:xs.length=2) (hG:∀ x∈xs,Good x) (hbad:(xs.getD 0 it0).s.size=0∨Bad (xs.getD 0 it0).s) :
  Calls Tryz.prog 181 #[.slice a n cap] w (ReadPost w (readP xs)):=by
 have hR:readP xs=none:=by unfold readP readPathP; rw [if_pos h2,if_pos hbad]
 rw [hR];have hm:=h.max;have hnc:=h.le;have hl:=h.len;unfold maxLen at hm;obtain ⟨y,b,off,A,N,C,hy,rfl,hblt,hL,hI⟩:=h.at' 0 (by omega);have hyx:xs.getD 0 it0=y:=Option.some.inj ((getD_at (xs:=xs) (i:=0) (by omega)).symm.trans hy);obtain ⟨_,_,_,hs6⟩:=hG y (List.mem_of_getElem? hy);rw [hyx] at hbad;have hcall:Hid (∃ c:Int,c≠0∧∀ w:World,Calls Tryz.prog 195 #[.string y.s] w fun e w'=>e = .returned (.tuple #[.slice none 0 0,.bool false,.int .i64 c])∧Below w.heap.size w w'):=hid (by
  by_cases h0:y.s.size=0
  ·refine ⟨5,by decide,fun w=>?_⟩;rw [size_zero h0];refine (unpack_nil w).mono ?_;rintro e w' ⟨rfl,rfl⟩;exact ⟨rfl,Below.refl _ _⟩
  ·refine ⟨6,by decide,fun w=>?_⟩;exact unpack_bad y.s (by omega) hs6 (hbad.resolve_left h0) w)
 obtain ⟨w2,hw2⟩:∃ w2,w2=w.alloc (.cells (ndC nd0 none 0 0) 56):=⟨_,rfl⟩
 have hO:OwnN w2 w.heap.size nd0 none 0 0:=by rw [hw2]; exact Rg.Own.new _ _ _
 have hB2:Below w.heap.size w w2:=by rw [hw2]; exact al1 _ _
 obtain ⟨e0,e1,e2⟩:=hL.stays hB2 hblt;rw [Nat.zero_mul,Nat.add_zero] at e0 e1 e2;have HO:=hid hO;have HB2:=hid hB2;obtain ⟨c,hc,hcl⟩:=hcall.out;have hcb:(c != 0)=true:=by simp; exact hc
 have HC:=hid hcl;clear h hL hI hO hB2 hbad hR hG hcall hcl hc hyx hy;subst hw2;go_enter Tryz.func181,Tryz.ntmps181;go_wp2_with (refine Rg.run rfl _ _ (run_alloc_nd _ _ _ w.heap.size rfl rfl) ?_)
 refine (HC.out _).mono ?_;rintro e w3 ⟨rfl,hb3⟩;have HO3:=hid (HO.out.below hb3);have HB3:=hid (bst HB2.out hb3);clear hb3;go_wp2_with (first
  | (refine Rg.run rfl _ _ (op_build built0 ?_) ?_; · exact ⟨_,rfl,rfl⟩)
  | (refine wpl_store_nd HO3.out rfl nd0 none 0 0 rfl rfl _ _ rfl rfl rfl rfl ?_))
 exact bodyPost_ret (res_nd1 rfl _ rfl (own_rowN HO3.out) rfl) rfl ⟨nd0,none,0,0,false,rfl,.inr ⟨rfl,rfl⟩,BsF.nil _ _,rfl,below_rowN HB3.out (Nat.le_refl _) _⟩
theorem readPath_ok (xs:List It) (a:Option Addr) (n cap:Nat) (w:World) (h:IsIts w xs a n cap) (h2:xs.length=2) (hG:∀ x∈xs,Good x) (hbad:¬ ((xs.getD 0 it0).s.size=0∨Bad (xs.getD 0 it0).s)) :
  Calls Tryz.prog 181 #[.slice a n cap] w (ReadPost w (readP xs)):=by
 have hR:readP xs=if leafB (xs.getD 0 it0).s then some ⟨1,pathL (xs.getD 0 it0).s,(xs.getD 1 it0).s,zks⟩ else (kidP (xs.getD 1 it0)).map fun k=>⟨2,pathL (xs.getD 0 it0).s,eB,one16 k⟩:=by unfold readP readPathP; rw [if_pos h2,if_neg hbad]
 rw [hR];have hm:=h.max;have hnc:=h.le;have hl:=h.len;unfold maxLen at hm;have hn2:n=2:=by omega
 obtain ⟨y,b,off,A,N,C,hy,rfl,hblt,hL,hI⟩:=h.at' 0 (by omega);obtain ⟨z,b',off',A2,N2,C2,hz,e,hblt2,hL2,hI2⟩:=h.at' 1 (by omega);obtain ⟨rfl,rfl,_⟩:b=b'∧off=off'∧True:=by cases e; exact ⟨rfl,rfl,trivial⟩
 have hyx:xs.getD 0 it0=y:=Option.some.inj ((getD_at (xs:=xs) (i:=0) (by omega)).symm.trans hy);have hzx:xs.getD 1 it0=z:=Option.some.inj ((getD_at (xs:=xs) (i:=1) (by omega)).symm.trans hz);obtain ⟨hf1,hf2,hf3,_⟩:=hG z (List.mem_of_getElem? hz);rw [hyx] at hbad ⊢;rw [hzx];have h0:0<y.s.size:=by omega
 have hB0:¬ Bad y.s:=fun e=>hbad (.inr e);have hple:=path_le y.s hB0;have HC:=hid (fun w=>unpack_ok y.s h0 hB0 w);obtain ⟨w2,hw2⟩:∃ w2,w2=w.alloc (.cells (ndC nd0 none 0 0) 56):=⟨_,rfl⟩
 have hO:OwnN w2 w.heap.size nd0 none 0 0:=by rw [hw2]; exact Rg.Own.new _ _ _
 have hB2:Below w.heap.size w w2:=by rw [hw2]; exact al1 _ _
 obtain ⟨e0,e1,e2⟩:=hL.stays hB2 hblt;rw [Nat.zero_mul,Nat.add_zero] at e0 e1 e2;have HO:=hid hO;have HB2:=hid hB2;have HI:=hid h;have HL2:=hid hL2;have HZ:=hid hz;obtain ⟨P,hP⟩:∃ P,pathL y.s=P:=⟨_,rfl⟩
 obtain ⟨lf,hlf⟩:∃ lf,leafB y.s=lf:=⟨_,rfl⟩
 unfold Unp at HC;rw [hP,hlf] at HC;rw [hP] at hple;rw [hP,hlf];clear h hL hI hO hB2 hbad hR hG hyx hy hzx hz hL2 hI2 hB0 hP hlf e;subst hw2;subst hn2;cases lf with
 | true =>
  go_enter Tryz.func181,Tryz.ntmps181;go_wp2_with (refine Rg.run rfl _ _ (run_alloc_nd _ _ _ w.heap.size rfl rfl) ?_)
  refine (HC.out _).mono ?_;rintro e w3 ⟨a3,n3,c3,rfl,hx3,hb3⟩;have HO3:=hid (HO.out.below hb3);have hB3:=bst HB2.out hb3;have HB3:=hid hB3;obtain ⟨f0,f1,f2⟩:=HL2.out.stays hB3 hblt2;rw [Nat.one_mul] at f0 f1 f2;have hn3:n3≤1000000:=by rw [← hx3.len]; omega
  have HLf:=hid (leaf_any a3 n3 c3 P hn3 z.s w3 hx3);have hz3:=HO3.out.1;clear hb3 hB3 hx3 HC e0 e1 e2;go_wp2_with fail
  refine HLf.out.mono ?_;rintro e w4 ⟨a4,n4,c4,rfl,hx4,hl4,hb4⟩;have HO4:=hid (HO3.out.below hb4);have HB4:=hid (bst HB3.out hb4);have HX4:=hid hx4;clear hb4 hx4 HLf;go_wp2_with (refine wpl_store_nd HO4.out rfl ⟨1,P,z.s,zks⟩ a4 n4 c4 rfl rfl _ _ rfl rfl rfl rfl ?_)
  exact bodyPost_ret (res_nd1 rfl _ rfl (own_rowN HO4.out) rfl) rfl ⟨⟨1,P,z.s,zks⟩,a4,n4,c4,true,rfl,.inl ⟨rfl,rfl⟩,(HX4.out.row hz3 _).weak (by omega),rfl,below_rowN HB4.out (Nat.le_refl _) _⟩
 | false =>
  go_enter Tryz.func181,Tryz.ntmps181;go_wp2_with (refine Rg.run rfl _ _ (run_alloc_nd _ _ _ w.heap.size rfl rfl) ?_)
  refine (HC.out _).mono ?_;rintro e w3 ⟨a3,n3,c3,rfl,hx3,hb3⟩;have HO3:=hid (HO.out.below hb3);have HB3:=hid (bst HB2.out hb3);have hn3:n3≤1000000:=by rw [← hx3.len]; omega
  have hz3:=HO3.out.1;have HX3:=hid hx3;clear hb3 hx3 HC e0 e1 e2;go_wp2_with fail
  refine (ntell_any _ _ _ _).mono ?_;rintro e w4 ⟨rfl,hw4⟩;have hb4:Below w3.heap.size w3 w4:=by rw [hw4]; exact al1 _ _
  have hc4:w4.cell? ⟨w3.heap.size,0,none⟩=some (.slice (some ⟨b,off,none⟩) 2 cap):=by rw [hw4,World.cell?_alloc_mark]; rfl
  have HK:=hid (ntell1_any w3.heap.size 1 xs (some ⟨b,off,none⟩) 2 cap z w4 hc4 (HI.out.stays (bst HB3.out hb4)) HZ.out hf1 hf2 hf3);have HO4:=hid (HO3.out.below hb4);have HB4:=hid (bst HB3.out hb4);have HX4:=hid (HX3.out.below hb4);have hz4:=hb4.size;clear hw4 hb4 hc4;go_wp2_with fail
  refine HK.out.mono ?_;rintro e w5 ⟨s5,b5,rfl,hk5,hb5⟩;have HO5:=hid (HO4.out.below hb5);have HB5:=hid (bst HB4.out hb5);have HE:=hid (ext_any a3 n3 c3 P hn3 s5 w5 (HX4.out.below hb5));have HK5:=hid hk5;have hz5:=hb5.size;clear hb5 hk5 HK;go_wp2_with fail
  refine HE.out.mono ?_;rintro e w6 ⟨a6,n6,c6,rfl,hx6,hl6,hb6⟩;have HO6:=hid (HO5.out.below hb6);have HB6:=hid (bst HB5.out hb6);have HX6:=hid hx6;clear hb6 hx6 HE;go_wp2_with (refine wpl_store_nd HO6.out rfl ⟨2,P,eB,one16 s5⟩ a6 n6 c6 (one16_length s5) rfl _ _ rfl rfl rfl rfl ?_)
  refine bodyPost_ret (res_nd1 rfl _ rfl (own_rowN HO6.out) (one16_length s5)) rfl ⟨⟨2,P,eB,one16 s5⟩,a6,n6,c6,b5,rfl,?_,(HX6.out.row (by omega) _).weak (by omega),one16_length s5,below_rowN HB6.out (Nat.le_refl _) _⟩;rcases HK5.out with ⟨h1,h2⟩ | ⟨h1,h2⟩
  ·exact .inl ⟨h1,by rw [h2]; rfl⟩
  ·exact .inr ⟨h1,by rw [h2]; rfl⟩
end No
end
section
open Go.RowKit
namespace Rl
theorem op_load_it {ev:Operand→Value} {o:Oper} {w:World} {b:Nat} {x:It} {a:Option Addr} {n c:Nat} (h:Rg.Own w b (itC x a n c) 168) (ho:∃ y,o.op = .load 168 y∧ev y = .pointer (some ⟨b,0,none⟩)) :
  (execOp ev o).run Tryz.prog w = .ok (.value (.agg (itC x a n c))) w:=by
 obtain ⟨y,ho,hx⟩:=ho;have:=run_load_item (lies_row h.2);unfold execOp;simp only [ho,hx,Instr.loadAt,Instr.sureAddr,Sem.run_bind,Sem.run_pure,Result.andThen_ok,this];rfl
theorem wpl_store_it {ops:Array Oper} {rest:List Oper} {o:Oper} {act:Act} {w:World} {Q:Exit→Act→World→Prop} {b:Nat} {x:It} {a:Option Addr} {n c:Nat} (h:Rg.Own w b (itC x a n c) 168) (y:It) (a':Option Addr) (n' c':Nat)
  (hgd:o.guard=none) (p q:Operand) (ho:o.op = .store 168 p q) (hx:act.eval p = .pointer (some ⟨b,0,none⟩)) (hy:act.eval q = .agg (itC y a' n' c')) (hd:o.dst=none)
  (hQ:wpList Tryz.prog ops Q rest act (w.setRow b (itC y a' n' c'))):wpList Tryz.prog ops Q (o::rest) act w :=
 wpList_store_rowTo hgd 168 p q ho hd b _ hx hy 168 _ h.2 (info_itC _ _ _ _) rfl (itC_one _ _ _ _) hQ
theorem own_rowI {w:World} {b:Nat} {cs cs':Array Value} {T:TypeId} (h:Rg.Own w b cs T):Rg.Own (w.setRow b cs') b cs' T:=own_row_same h
end Rl
end
section
open Go.RowKit
namespace Rl
end Rl
end
section
open Go.RowKit
namespace Rl
theorem own_cell {w:World} {b o:Nat} {cs:Array Value} {T:TypeId} (h:Rg.Own w b cs T) (v:Value):Rg.Own (w.setCell ⟨b,o,none⟩ v) b (cs.setIfInBounds o v) T :=
 ⟨by simp; exact h.1,heap_setCell_same w b o cs T v h.2⟩
theorem own_cell_other {w:World} {b g o:Nat} {cs:Array Value} {T:TypeId} (h:Rg.Own w b cs T) (v:Value) (hne:b≠g):Rg.Own (w.setCell ⟨g,o,none⟩ v) b cs T:=own_gb h (gb_set w g o v) hne
theorem own_free' {w:World} {b j:Nat} {cs:Array Value} {T:TypeId} (h:Rg.Own w b cs T):w.frozen? ⟨b,j,none⟩=false:=by
 simp [World.frozen?,h.2]
end Rl
end
end Go.Proofs.YtnecijeakeklaaaGreatDoor
