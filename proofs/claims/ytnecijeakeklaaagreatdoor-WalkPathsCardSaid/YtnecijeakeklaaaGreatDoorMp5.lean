/-
 The contract of nib.Unpack.
-/
import Derived.Test.YtnecijeakeklaaaGreatDoorMp4
open Go.Lib (hid)
set_option linter.unusedSimpArgs false
set_option linter.unusedVariables false
set_option maxHeartbeats 40000000
set_option maxRecDepth 100000
namespace Go.Proofs.YtnecijeakeklaaaGreatDoor
section
open Go.RowKit
namespace Ni
theorem teller_0 (c:Nat) (s:ByteArray) (hs:s.size≤maxLen) (hi:0<s.size) (w:World) (hc:w.cell? ⟨c,0,none⟩=some (.string s)) :
  Calls Tryz.prog 127 #[.int .i64 0,.pointer (some ⟨c,0,none⟩)] w fun e w'=>e = .returned (.int .u8 (nibAt s 0:Nat))∧w=w' :=
 teller1_any c s 0 hs hi w hc
theorem teller_1 (c:Nat) (s:ByteArray) (hs:s.size≤maxLen) (hi:0<s.size) (w:World) (hc:w.cell? ⟨c,0,none⟩=some (.string s)) :
  Calls Tryz.prog 127 #[.int .i64 1,.pointer (some ⟨c,0,none⟩)] w fun e w'=>e = .returned (.int .u8 (nibAt s 1:Nat))∧w=w' :=
 teller1_any c s 1 hs hi w hc
theorem and1f:∀ x:Fin 16,bits .and .u8 ((x:Nat):Int) 1=(((x:Nat)%2:Nat):Int):=by decide +kernel
theorem and2f:∀ x:Fin 16,bits .and .u8 ((x:Nat):Int) 2=((2*((x:Nat)/2%2):Nat):Int):=by decide +kernel
theorem and1 (x:Nat) (h:x<16):bits .and .u8 (x:Int) 1=((x%2:Nat):Int):=and1f ⟨x,h⟩
theorem and2 (x:Nat) (h:x<16):bits .and .u8 (x:Int) 2=((2*(x/2%2):Nat):Int):=and2f ⟨x,h⟩
def Bad (s:ByteArray):Prop:=(nibAt s 0%2=0∧(33<s.size∨3<nibAt s 0∨nibAt s 1≠0))∨(nibAt s 0%2=1∧(32<s.size∨3<nibAt s 0))
def leafB (s:ByteArray):Bool:=decide (nibAt s 0/2%2=1)
def pathL (s:ByteArray):List UInt8:=(nibsL s).drop (2-nibAt s 0%2)
theorem unpack_nil (w:World) :
  Calls Tryz.prog 195 #[.string ByteArray.empty] w fun e w'=>e = .returned (.tuple #[.slice none 0 0,.bool false,.int .i64 5])∧w=w':=by
 go_enter Tryz.func195,Tryz.ntmps195;go_wp2;go_ret3
 exact ⟨rfl,rfl⟩
theorem not_empty {s:ByteArray} (h:0<s.size):s.toList.isEmpty=false:=by
 rw [ByteArray.toList_eq];cases hd:s.data.toList with
 | nil =>
  have h1:s.data.toList.length=0:=by rw [hd]; rfl
  have h2:s.data.toList.length=s.size:=by simp
  omega
 | cons=>rfl
theorem unpack_bad (s:ByteArray) (h0:0<s.size) (hs:s.size≤1000000) (hb:Bad s) (w:World) :
  Calls Tryz.prog 195 #[.string s] w fun e w'=>e = .returned (.tuple #[.slice none 0 0,.bool false,.int .i64 6])∧Below w.heap.size w w':=by
 have hmax:s.size≤maxLen:=by unfold maxLen; omega
 have HC:Hid (∀ wx:World,(wx.alloc (.cells #[.string s] 9)).cell? ⟨wx.heap.size,0,none⟩=some (.string s)):=hid (fun wx=>by simp);have hne:=not_empty h0;have hx16:=nibAt_lt s 0;have hand:=and1 (nibAt s 0) hx16;have T0:=hid (fun c wx hc=>teller_0 c s hmax h0 wx hc);have T1:=hid (fun c wx hc=>teller_1 c s hmax h0 wx hc);unfold Bad at hb;obtain ⟨x,hx⟩:∃ x,nibAt s 0=x:=⟨_,rfl⟩
 obtain ⟨y,hy⟩:∃ y,nibAt s 1=y:=⟨_,rfl⟩
 rw [hx] at hb hand hx16;rw [hy] at hb;simp only [hx] at T0;simp only [hy] at T1;clear hx hy hmax;rcases hb with ⟨hp,hb⟩ | ⟨hp,hb⟩
 ·have hand0:bits .and .u8 (x:Int) 1=0:=by rw [hand,hp]; rfl
  clear hand hp;by_cases hb1:33<s.size
  ·clear hb;go_enter Tryz.func195,Tryz.ntmps195;go_wp2_with fail
   refine (teller_any _ _).mono ?_;rintro e w1 ⟨rfl,rfl⟩;go_wp2_with fail
   refine (T0.out _ _ (HC.out _)).mono ?_;rintro e w2 ⟨rfl,rfl⟩;go_wp2;go_ret3
   exact ⟨rfl,(Below.refl _ _).alloc (Nat.le_refl _) _⟩
  ·by_cases hb2:3<x
   ·clear hb;go_enter Tryz.func195,Tryz.ntmps195;go_wp2_with fail
    refine (teller_any _ _).mono ?_;rintro e w1 ⟨rfl,rfl⟩;go_wp2_with fail
    refine (T0.out _ _ (HC.out _)).mono ?_;rintro e w2 ⟨rfl,rfl⟩;go_wp2;go_ret3
    exact ⟨rfl,(Below.refl _ _).alloc (Nat.le_refl _) _⟩
   ·have hb3:((y:Int) != 0)=true:=by simp; omega
    clear hb;go_enter Tryz.func195,Tryz.ntmps195;go_wp2_with fail
    refine (teller_any _ _).mono ?_;rintro e w1 ⟨rfl,rfl⟩;go_wp2_with fail
    refine (T0.out _ _ (HC.out _)).mono ?_;rintro e w2 ⟨rfl,rfl⟩;go_wp2_with fail
    refine (T1.out _ _ (HC.out _)).mono ?_;rintro e w2 ⟨rfl,rfl⟩;go_wp2;go_ret3
    exact ⟨rfl,(Below.refl _ _).alloc (Nat.le_refl _) _⟩
 ·have hand0:bits .and .u8 (x:Int) 1=1:=by rw [hand,hp]; rfl
  clear hand hp;by_cases hb1:32<s.size
  ·clear hb;go_enter Tryz.func195,Tryz.ntmps195;go_wp2_with fail
   refine (teller_any _ _).mono ?_;rintro e w1 ⟨rfl,rfl⟩;go_wp2_with fail
   refine (T0.out _ _ (HC.out _)).mono ?_;rintro e w2 ⟨rfl,rfl⟩;go_wp2;go_ret3
   exact ⟨rfl,(Below.refl _ _).alloc (Nat.le_refl _) _⟩
  ·have hb2:3<x:=by omega
   clear hb;go_enter Tryz.func195,Tryz.ntmps195;go_wp2_with fail
   refine (teller_any _ _).mono ?_;rintro e w1 ⟨rfl,rfl⟩;go_wp2_with fail
   refine (T0.out _ _ (HC.out _)).mono ?_;rintro e w2 ⟨rfl,rfl⟩;go_wp2;go_ret3
   exact ⟨rfl,(Below.refl _ _).alloc (Nat.le_refl _) _⟩
theorem nibsL_right (s:ByteArray):rightB (nibsL s)=true:=by
 unfold rightB nibsL;rw [List.all_eq_true];intro x hx;simp only [List.mem_map,List.mem_range] at hx;obtain ⟨i,_,rfl⟩:=hx;have:=nibAt_lt s i;simp only [UInt8.toNat_ofNat',decide_eq_true_eq]; omega
theorem cut_path (s:ByteArray) (a:Option Addr) (n cap:Nat) (w:World) (h:IsBs w a n cap (nibsL s)) (k:Nat) (hk:k≤n) (ki:Int) (hki:ki=k) :
  Calls Tryz.prog 178 #[.slice a n cap,.int .i64 ki,.int .i64 n] w fun e w'=>∃ a' n' c',e = .returned (.slice a' n' c')∧IsBs w a' n' c' ((nibsL s).drop k)∧w=w':=by
 subst hki;refine (cut_bs a n cap (nibsL s) k n hk (Nat.le_refl _) w h).mono ?_;rintro e w' ⟨a',c',rfl,⟨hx,_⟩,rfl⟩;have e:((nibsL s).drop k).take (n-k)=(nibsL s).drop k:=List.take_of_length_le (by rw [List.length_drop,h.len]; exact Nat.le_refl _);rw [e] at hx;exact ⟨a',_,c',rfl,hx,rfl⟩
def Unp (w:World) (s:ByteArray) (e:Ending) (w':World):Prop :=
 ∃ a n cap,e = .returned (.tuple #[.slice a n cap,.bool (leafB s),.int .i64 0])∧IsBs w' a n cap (pathL s)∧Below w.heap.size w w'
theorem unpack_ok (s:ByteArray) (h0:0<s.size) (hb:¬ Bad s) (w:World) :
  Calls Tryz.prog 195 #[.string s] w (Unp w s):=by
 have hx16:=nibAt_lt s 0;have hs33:s.size≤33:=by unfold Bad at hb; omega
 have hmax:s.size≤maxLen:=by unfold maxLen; omega
 have HC:Hid (∀ wx:World,(wx.alloc (.cells #[.string s] 9)).cell? ⟨wx.heap.size,0,none⟩=some (.string s)):=hid (fun wx=>by simp);have hne:=not_empty h0;have hand:=and1 (nibAt s 0) hx16;have hand2:=and2 (nibAt s 0) hx16;have T0:=hid (fun c wx hc=>teller_0 c s hmax h0 wx hc);have T1:=hid (fun c wx hc=>teller_1 c s hmax h0 wx hc);have SP:=hid (fun wx=>spread_any s (by omega) wx);have CP:=hid (cut_path s);have hlen:=nibsL_length s;have hlf:leafB s=decide (nibAt s 0/2%2=1):=rfl;have hpl:pathL s=(nibsL s).drop (2-nibAt s 0%2):=rfl
 unfold Bad at hb;obtain ⟨x,hx⟩:∃ x,nibAt s 0=x:=⟨_,rfl⟩
 obtain ⟨y,hy⟩:∃ y,nibAt s 1=y:=⟨_,rfl⟩
 rw [hx] at hb hand hx16 hand2 hlf hpl;rw [hy] at hb;simp only [hx] at T0;simp only [hy] at T1;clear hx hy hmax;have HL:=hid hlen;have hx3:x≤3:=by omega
 by_cases hp:x%2=0
 ·have hy0:y=0:=by omega
  subst hy0;have hand0:bits .and .u8 (x:Int) 1=0:=by rw [hand,hp]; rfl
  have HP:Hid (pathL s=(nibsL s).drop 2):=hid (by rw [hpl,hp]);clear hand hpl hb hp hlen;by_cases hl:x/2%2=1
  ·have hl2:bits .and .u8 (x:Int) 2=2:=by rw [hand2,hl]; rfl
   have HLf:Hid (leafB s=true):=hid (by rw [hlf]; exact decide_eq_true hl);clear hand2 hl hlf;go_enter Tryz.func195,Tryz.ntmps195;go_wp2_with fail
   refine (teller_any _ _).mono ?_;rintro e w1 ⟨rfl,rfl⟩;go_wp2_with fail
   refine (T0.out _ _ (HC.out _)).mono ?_;rintro e w2 ⟨rfl,rfl⟩;go_wp2_with fail
   refine (T1.out _ _ (HC.out _)).mono ?_;rintro e w2 ⟨rfl,rfl⟩;go_wp2_with fail
   refine (SP.out _).mono ?_;rintro e w3 ⟨a,n,cap,rfl,hx,hb3⟩;have hn2:2≤n:=by have:=hx.len; rw [HL.out] at this; omega
   have HX:=hid hx;clear hx;go_wp2_with fail
   refine (CP.out a n cap _ HX.out 2 (by omega) 2 rfl).mono ?_;rintro e w4 ⟨a4,n4,c4,rfl,hx4,rfl⟩;have HX4:=hid hx4;clear hx4;go_wp2;go_ret3
   exact ⟨a4,n4,c4,by rw [HLf.out]; rfl,by rw [HP.out]; exact HX4.out,((Below.refl w.heap.size w).alloc (Nat.le_refl _) _).trans (hb3.mono (by simp))⟩
  ·have hl2:bits .and .u8 (x:Int) 2=0:=by rw [hand2,show x/2%2=0 by omega]; rfl
   have HLf:Hid (leafB s=false):=hid (by rw [hlf]; exact decide_eq_false hl);clear hand2 hl hlf;go_enter Tryz.func195,Tryz.ntmps195;go_wp2_with fail
   refine (teller_any _ _).mono ?_;rintro e w1 ⟨rfl,rfl⟩;go_wp2_with fail
   refine (T0.out _ _ (HC.out _)).mono ?_;rintro e w2 ⟨rfl,rfl⟩;go_wp2_with fail
   refine (T1.out _ _ (HC.out _)).mono ?_;rintro e w2 ⟨rfl,rfl⟩;go_wp2_with fail
   refine (SP.out _).mono ?_;rintro e w3 ⟨a,n,cap,rfl,hx,hb3⟩;have hn2:2≤n:=by have:=hx.len; rw [HL.out] at this; omega
   have HX:=hid hx;clear hx;go_wp2_with fail
   refine (CP.out a n cap _ HX.out 2 (by omega) 2 rfl).mono ?_;rintro e w4 ⟨a4,n4,c4,rfl,hx4,rfl⟩;have HX4:=hid hx4;clear hx4;go_wp2;go_ret3
   exact ⟨a4,n4,c4,by rw [HLf.out]; rfl,by rw [HP.out]; exact HX4.out,((Below.refl w.heap.size w).alloc (Nat.le_refl _) _).trans (hb3.mono (by simp))⟩
 ·have hp1:x%2=1:=by omega
  have hs32:s.size≤32:=by omega
  have hand0:bits .and .u8 (x:Int) 1=1:=by rw [hand,hp1]; rfl
  have HP:Hid (pathL s=(nibsL s).drop 1):=hid (by rw [hpl,hp1]);clear hand hpl hb hp hp1 hlen T1;by_cases hl:x/2%2=1
  ·have hl2:bits .and .u8 (x:Int) 2=2:=by rw [hand2,hl]; rfl
   have HLf:Hid (leafB s=true):=hid (by rw [hlf]; exact decide_eq_true hl);clear hand2 hl hlf;go_enter Tryz.func195,Tryz.ntmps195;go_wp2_with fail
   refine (teller_any _ _).mono ?_;rintro e w1 ⟨rfl,rfl⟩;go_wp2_with fail
   refine (T0.out _ _ (HC.out _)).mono ?_;rintro e w2 ⟨rfl,rfl⟩;go_wp2_with fail
   refine (SP.out _).mono ?_;rintro e w3 ⟨a,n,cap,rfl,hx,hb3⟩;have hn2:2≤n:=by have:=hx.len; rw [HL.out] at this; omega
   have HX:=hid hx;clear hx;go_wp2_with fail
   refine (CP.out a n cap _ HX.out 1 (by omega) 1 rfl).mono ?_;rintro e w4 ⟨a4,n4,c4,rfl,hx4,rfl⟩;have HX4:=hid hx4;clear hx4;go_wp2;go_ret3
   exact ⟨a4,n4,c4,by rw [HLf.out]; rfl,by rw [HP.out]; exact HX4.out,((Below.refl w.heap.size w).alloc (Nat.le_refl _) _).trans (hb3.mono (by simp))⟩
  ·have hl2:bits .and .u8 (x:Int) 2=0:=by rw [hand2,show x/2%2=0 by omega]; rfl
   have HLf:Hid (leafB s=false):=hid (by rw [hlf]; exact decide_eq_false hl);clear hand2 hl hlf;go_enter Tryz.func195,Tryz.ntmps195;go_wp2_with fail
   refine (teller_any _ _).mono ?_;rintro e w1 ⟨rfl,rfl⟩;go_wp2_with fail
   refine (T0.out _ _ (HC.out _)).mono ?_;rintro e w2 ⟨rfl,rfl⟩;go_wp2_with fail
   refine (SP.out _).mono ?_;rintro e w3 ⟨a,n,cap,rfl,hx,hb3⟩;have hn2:2≤n:=by have:=hx.len; rw [HL.out] at this; omega
   have HX:=hid hx;clear hx;go_wp2_with fail
   refine (CP.out a n cap _ HX.out 1 (by omega) 1 rfl).mono ?_;rintro e w4 ⟨a4,n4,c4,rfl,hx4,rfl⟩;have HX4:=hid hx4;clear hx4;go_wp2;go_ret3
   exact ⟨a4,n4,c4,by rw [HLf.out]; rfl,by rw [HP.out]; exact HX4.out,((Below.refl w.heap.size w).alloc (Nat.le_refl _) _).trans (hb3.mono (by simp))⟩
end Ni
end
section
open Go.RowKit
namespace No
def plainB (s:ByteArray):Bool:=decide (s.size=0∨s.size=32)
theorem size_zero {s:ByteArray} (h:s.size=0):s=eB:=by
 cases s with
 | mk d =>
  have:d = #[]:=Array.eq_empty_of_size_eq_zero h;rw [this]
theorem plain_any (s:ByteArray) (w:World):Calls Tryz.prog 107 #[.string s] w fun e w'=>e = .returned (.bool (plainB s))∧w=w':=by
 by_cases h0:s.size=0
 ·obtain rfl:=size_zero h0;go_enter Tryz.func107,Tryz.ntmps107;go_wp2;go_ret;exact ⟨rfl,rfl⟩
 ·have hne:=Ni.not_empty (s:=s) (by omega);by_cases h32:s.size=32
  ·have hq:((s.size:Int)==32)=true:=by simp; omega
   have HP:Hid (plainB s=true):=hid (by simp [plainB,h32]);rw [HP.out];go_enter Tryz.func107,Tryz.ntmps107;go_wp2;go_ret;exact ⟨rfl,rfl⟩
  ·have hq:((s.size:Int)==32)=false:=by simp; omega
   have HP:Hid (plainB s=false):=hid (by simp [plainB,h32,h0]);rw [HP.out];go_enter Tryz.func107,Tryz.ntmps107;go_wp2;go_ret;exact ⟨rfl,rfl⟩
theorem nil_bs (w:World):(binOp .eql 51 (.slice none 0 0) (.slice none 0 0)).run Tryz.prog w = .ok (.bool true) w:=by kernel_rfl
theorem some_bs (a:Addr) (n cap:Nat) (w:World):(binOp .eql 51 (.slice (some a) n cap) (.slice none 0 0)).run Tryz.prog w = .ok (.bool false) w:=by kernel_rfl
def GotBsF (w:World) (l:List UInt8) (e:Ending) (w':World):Prop:=∃ a n cap,e = .returned (.slice a n cap)∧BsF w.heap.size w' a n cap l∧Below w.heap.size w w'
theorem ofOwnF {w:World} {B:Nat} {t:TypeId} {v:Value} {n:Nat} {l:List UInt8} (h:w.ownsRow B t 1 v n (l.map fun x=>Value.int .u8 x.toNat)):∃ a cap,v = .slice a n cap∧BsF B w a n cap l:=by
 obtain ⟨a,cap,rfl,hB⟩:=IsBs.ofOwn h;refine ⟨a,cap,rfl,hB,fun ad e=>?_⟩;subst e;rcases h.2 with ⟨e,_⟩ | ⟨g,cap',cur,e,hbg,_⟩
 ·cases e
 ·cases e;exact hbg
theorem cloneB_any (a:Option Addr) (n cap:Nat) (l:List UInt8) (hn:n≤1000000) (w:World) (h:IsBs w a n cap l) :
  Calls Tryz.prog 61 #[.slice a n cap] w (GotBsF w l):=by
 cases a with
 | none =>
  obtain ⟨rfl,rfl,rfl⟩:=h.capNone;have hnil:=nil_bs;go_enter Tryz.func61,Tryz.ntmps61;go_wp2;go_ret;exact ⟨none,0,0,rfl,BsF.nil _ _,Below.refl _ _⟩
 | some ad =>
  obtain ⟨i0,hi,hz0,hz1,hz2⟩:=info_parts Cc.info_u8;have HI:Hid (_∧_∧_∧_):=hid ⟨hi,hz0,hz1,hz2⟩;have HC:=hid (Cc.news_cells h ad rfl);have HL:=hid h.len;have HH:=hid h;have hnil:=some_bs ad n cap;have HO:Hid ((w.alloc (.cells #[] 5)).ownsRow w.heap.size 5 1 (.slice (some ⟨w.heap.size,0,none⟩) 0 0) 0 []):=hid (World.ownsRow_made w #[] 0 (Nat.le_refl _) (Nat.zero_le _) (by simp));clear h hi hz0 hz1 hz2;go_enter Tryz.func61,Tryz.ntmps61
  go_wp2_with (at_builtin; refine wpList_append_own _ rfl _ _ 51 rfl w.heap.size 5 i0 (.int .u8 0) 1 1 Tryz.underlying51 HI.out.1 HI.out.2.1 HI.out.2.2.1 HI.out.2.2.2 rfl (by decide) _ _ _ rfl HO.out ad n cap (l.map fun x=>Value.int .u8 x.toNat) rfl (by simp [HL.out]) ?c2 ?c6 ?c3 ?c4 ?c5 ?_)
  case c2 =>
   intro j u hu;have hj:j<n:=by rw [← HL.out]; have:=(List.getElem?_eq_some_iff.1 hu).1; simpa using this
   obtain ⟨b,off,e,hb,_⟩:=HH.out.at' j hj;obtain rfl:=Option.some.inj e;rw [(al1 w _).cell (by rw [Addr.add_mid]; exact hb)];exact HC.out j u hu
  case c6 =>
   intro u hu;simp at hu;obtain ⟨x,_,rfl⟩:=hu;rfl
  case c3=>unfold maxLen; omega
  case c4=>omega
  case c5=>simp
  intro v' w2 hown2 hgrow hnil';have HG:Hid (∃ a c,v' = .slice a n c∧BsF w.heap.size w2 a n c l):=hid (by
   have:=ofOwnF (l:=l) (v:=v') (n:=n) (by simpa using hown2);exact this)
  have HB:Hid (Below w.heap.size w w2):=hid ((al1 w _).grown hgrow (by simp) (fun k hk=>by simp [Value.ownBlock] at hk; omega));clear hown2 hgrow hnil';go_wp2;go_ret;obtain ⟨a',c',e,hB⟩:=HG.out;exact ⟨a',n,c',by rw [e]; rfl,hB,HB.out⟩
theorem leaf_any (a:Option Addr) (n cap:Nat) (l:List UInt8) (hn:n≤1000000) (v:ByteArray) (w:World) (h:IsBs w a n cap l) :
  Calls Tryz.prog 82 #[.slice a n cap,.string v] w (GotNd w ⟨1,l,v,zks⟩):=by
 obtain ⟨w2,hw2⟩:∃ w2,w2=w.alloc (.cells (ndC nd0 none 0 0) 56):=⟨_,rfl⟩
 have HC:=hid (cloneB_any a n cap l hn w2 (by rw [hw2]; exact h.alloc _));have HO:Hid (OwnN w2 w.heap.size nd0 none 0 0):=hid (by rw [hw2]; exact Rg.Own.new _ _ _);have HB:Hid (Below w.heap.size w w2):=hid (by rw [hw2]; exact al1 _ _);clear h;subst hw2;go_enter Tryz.func82,Tryz.ntmps82;go_wp2_with (refine Rg.run rfl _ _ (run_alloc_nd _ _ _ w.heap.size rfl rfl) ?_)
 refine HC.out.mono ?_;rintro e w3 ⟨a3,n3,c3,rfl,hB3,hb3⟩;have HO3:=hid (HO.out.below hb3);have HB3:=hid (bst HB.out hb3);have HI3:=hid hB3;clear hB3 hb3 HO HC;go_wp2_with (first
  | (refine Rg.run rfl _ _ (op_build (built_leaf a3 n3 c3 l v) ?_) ?_; · exact ⟨_,rfl,rfl⟩)
  | (refine wpl_store_nd HO3.out rfl ⟨1,l,v,zks⟩ a3 n3 c3 rfl rfl _ _ rfl rfl rfl rfl ?_))
 exact bodyPost_ret (res_nd rfl _ rfl (own_rowN HO3.out) rfl) rfl ⟨a3,n3,c3,rfl,(HI3.out.row (by simp) _).weak (by simp),rfl,below_rowN HB3.out (Nat.le_refl _) _⟩
theorem ext_any (a:Option Addr) (n cap:Nat) (l:List UInt8) (hn:n≤1000000) (v:ByteArray) (w:World) (h:IsBs w a n cap l) :
  Calls Tryz.prog 83 #[.slice a n cap,.string v] w (GotNd w ⟨2,l,eB,v::List.replicate 15 eB⟩):=by
 obtain ⟨w2,hw2⟩:∃ w2,w2=w.alloc (.cells (ndC nd0 none 0 0) 56):=⟨_,rfl⟩
 have HC:=hid (cloneB_any a n cap l hn w2 (by rw [hw2]; exact h.alloc _));have HO:Hid (OwnN w2 w.heap.size nd0 none 0 0):=hid (by rw [hw2]; exact Rg.Own.new _ _ _);have HB:Hid (Below w.heap.size w w2):=hid (by rw [hw2]; exact al1 _ _);clear h;subst hw2;go_enter Tryz.func83,Tryz.ntmps83;go_wp2_with (refine Rg.run rfl _ _ (run_alloc_nd _ _ _ w.heap.size rfl rfl) ?_)
 refine HC.out.mono ?_;rintro e w3 ⟨a3,n3,c3,rfl,hB3,hb3⟩;have HO3:=hid (HO.out.below hb3);have HB3:=hid (bst HB.out hb3);have HI3:=hid hB3;clear hB3 hb3 HO HC;go_wp2_with (first
  | (refine Rg.run rfl _ _ (op_build (built_one v) ?_) ?_; · exact ⟨_,rfl,rfl⟩)
  | (refine Rg.run rfl _ _ (op_build (built_ext 2 a3 n3 c3 l (v::List.replicate 15 eB) rfl) ?_) ?_; · exact ⟨_,rfl,rfl⟩)
  | (refine wpl_store_nd HO3.out rfl ⟨2,l,eB,v::List.replicate 15 eB⟩ a3 n3 c3 rfl rfl _ _ rfl rfl rfl rfl ?_))
 exact bodyPost_ret (res_nd rfl _ rfl (own_rowN HO3.out) rfl) rfl ⟨a3,n3,c3,rfl,(HI3.out.row (by simp) _).weak (by simp),rfl,below_rowN HB3.out (Nat.le_refl _) _⟩
end No
end
end Go.Proofs.YtnecijeakeklaaaGreatDoor
