/-
 The contract of (*rlp.tally).read, where what is within a list is read as it ought to be.
-/
import Derived.Test.YtnecijeakeklaaaGreatDoorMp2
import Derived.Maps.AppendAt
open Go.Lib (hid)
set_option linter.unusedSimpArgs false
set_option linter.unusedVariables false
set_option maxHeartbeats 40000000
set_option maxRecDepth 100000
namespace Go.Proofs.YtnecijeakeklaaaGreatDoor
section
open Go.RowKit
namespace Rl
open Pk
def ReadTo (s:ByteArray) (g:Nat) (ar:Int) (w:World):Except Int (It × Nat × Nat)→Prop
 | .error c=>Calls Tryz.prog 194 #[.pointer (some ⟨g,0,none⟩),.string s,.int .i64 ar] w fun e w'=>e = .panicked [errP c]∧w.grownBy w' (some g)
 | .ok (x,n,k')=>Calls Tryz.prog 194 #[.pointer (some ⟨g,0,none⟩),.string s,.int .i64 ar] w fun e w' =>
   ∃ a nn cap,e = .returned (.tuple #[itV x a nn cap,.int .i64 n])∧ItsIn w.heap.size w' x.xs a nn cap∧Tal w' g k'∧w.grownBy w' (some g)
def ReadC (s:ByteArray):Prop:=∀ (around k g:Nat) (ar:Int) (w:World),ar=around→around≤65→k≤4096→Tal w g k→ReadTo s g ar w (readL s.data.toList around k)
def AllPost (g:Nat) (w:World):Except Int (List It × Nat)→Ending→World→Prop
 | .error c=>fun e w'=>e = .panicked [errP c]∧w.grownBy w' (some g)
 | .ok (xs,k')=>fun e w'=>∃ a nn cap,e = .returned (.slice a nn cap)∧ItsIn w.heap.size w' xs a nn cap∧Tal w' g k'∧w.grownBy w' (some g)
def AllTo (s:ByteArray) (g:Nat) (ar:Int) (w:World) (r:Except Int (List It × Nat)):Prop:=Calls Tryz.prog 199 #[.pointer (some ⟨g,0,none⟩),.string s,.int .i64 ar] w (AllPost g w r)
def AllC (s:ByteArray):Prop:=∀ (around k g:Nat) (ar:Int) (w:World),ar=around→around≤65→k≤4096→Tal w g k→AllTo s g ar w (allL s.data.toList around k)
theorem readL_eq (s:List UInt8) (around k:Nat):readL s around k =
  if 64<around then .error 17 else if 4096<k+1 then .error 4 else
  match headE s with
  | .error e=>.error e
  | .ok (l,a,v)=>if s.length-a<v then .error 5 else
   if l then (match allL ((s.drop a).take v) (around+1) (k+1) with
    | .error e=>.error e
    | .ok (xs,k')=>.ok (.mk true ⟨#[]⟩ xs,a+v,k'))
   else if a=1∧v=1∧((s.drop 1).headD 0).toNat<128 then .error 6 else .ok (.mk false ⟨((s.drop a).take v).toArray⟩ [],a+v,k+1):=by
 cases s with
 | nil=>rw [readL]; rfl
 | cons c t =>
  rw [readL];split
  ·rfl
  ·split
   ·rfl
   ·cases hh:headE (c::t) with
    | error e=>rfl
    | ok r =>
     obtain ⟨l,a,v⟩:=r;cases l with
     | false=>rfl
     | true =>
      have h1:=(headE_props hh).2.2.2.2 rfl;have h2:(c::t).drop a=t.drop (a-1):=by
       obtain ⟨b,rfl⟩:∃ b,a=b+1:=⟨a-1,by omega⟩
       rfl
      dsimp only;rw [h2];rfl
theorem met {w w1:World} {g k:Nat} (hT:Tal w g k) (h:w1=(w.alloc (.cells #[.bool false,.string ⟨#[]⟩,.slice none 0 0] 168)).setCell ⟨g,0,none⟩ (.int .i64 (k+1))) :
  Rg.Own w1 w.heap.size (itC it0 none 0 0) 168∧Tal w1 g (k+1:Nat)∧w.grownBy w1 (some g):=by
 have hlt:=hT.lt;refine ⟨?_,?_,?_⟩
 ·rw [h]; exact own_set (Rg.Own.new w (itC it0 none 0 0) 168) _ (by omega)
 ·rw [h]; exact (hT.below (al1 w (.cells (itC it0 none 0 0) 168))).set (k+1)
 ·rw [h]; exact gb_trans (gb_of (al1 _ _)) (gb_set _ _ _ _)
theorem read_deep (s:ByteArray) (around k g:Nat) (ar:Int) (w:World) (har:ar=around) (ha:64<around) (hk:k≤4096) (hT:Tal w g k):ReadTo s g ar w (.error 17):=by
 have HM:=hid (meet_deep g ar k (by omega) (by omega) (by omega) (w.alloc (.cells #[.bool false,.string ⟨#[]⟩,.slice none 0 0] 168)) (hT.below (al1 _ _)));have HT:=hid hT;clear har hT;unfold ReadTo;go_enter Tryz.func194,Tryz.ntmps194;go_wp2_with fail
 with_reducible refine HM.out.mono ?_
 rintro e w1 ⟨rfl,hw1⟩;have HG:=hid (met HT.out hw1).2.2;clear hw1;go_wp2;simp [bodyPost];exact HG.out
theorem read_big (s:ByteArray) (around k g:Nat) (ar:Int) (w:World) (har:ar=around) (ha:around≤64) (hk:k≤4096) (hk2:4096<k+1) (hT:Tal w g k):ReadTo s g ar w (.error 4):=by
 have HM:=hid (meet_big g ar k (by omega) (by omega) (by omega) (w.alloc (.cells #[.bool false,.string ⟨#[]⟩,.slice none 0 0] 168)) (hT.below (al1 _ _)));have HT:=hid hT;clear har hT;unfold ReadTo;go_enter Tryz.func194,Tryz.ntmps194;go_wp2_with fail
 with_reducible refine HM.out.mono ?_
 rintro e w1 ⟨rfl,hw1⟩;have HG:=hid (met HT.out hw1).2.2;clear hw1;go_wp2;simp [bodyPost];exact HG.out
theorem read_head (s:ByteArray) (around k g:Nat) (ar c:Int) (w:World) (har:ar=around) (ha:around≤64) (hk2:k+1≤4096) (hT:Tal w g k) (hh:headE s.data.toList = .error c):ReadTo s g ar w (.error c):=by
 have HM:=hid (meet_ok g ar k (by omega) (by omega) (by omega) (w.alloc (.cells #[.bool false,.string ⟨#[]⟩,.slice none 0 0] 168)) (hT.below (al1 _ _)));have HT:=hid hT;have ht:=head_tells s;rw [hh] at ht;have HH:Hid (∀ w,Calls Tryz.prog 198 #[.string s] w fun e w'=>e = .panicked [errP c]∧w=w'):=hid ht;clear har hT ht;unfold ReadTo;go_enter Tryz.func194,Tryz.ntmps194;go_wp2_with fail
 with_reducible refine HM.out.mono ?_
 rintro e w1 ⟨rfl,hw1⟩;have HG:=hid (met HT.out hw1).2.2;clear hw1;go_wp2_with fail
 with_reducible refine (HH.out _).mono ?_
 rintro e w2 ⟨rfl,rfl⟩;go_wp2;simp [bodyPost];exact HG.out
theorem read_short (s:ByteArray) (around k g:Nat) (ar:Int) (w:World) (l:Bool) (a v:Nat) (har:ar=around) (ha:around≤64) (hk2:k+1≤4096) (hT:Tal w g k) (hh:headE s.data.toList = .ok (l,a,v)) (hsz:s.size≤9223372036854775807) (has:a≤s.size) (hlt:s.size-a<v):ReadTo s g ar w (.error 5):=by
 have HM:=hid (meet_ok g ar k (by omega) (by omega) (by omega) (w.alloc (.cells #[.bool false,.string ⟨#[]⟩,.slice none 0 0] 168)) (hT.below (al1 _ _)));have HT:=hid hT;have ht:=head_tells s;rw [hh] at ht;have HH:Hid (∀ w,Calls Tryz.prog 198 #[.string s] w fun e w'=>e = .returned (.tuple #[.bool l,.int .i64 a,.int .u64 v])∧w=w'):=hid ht;have hA:(s.size:Int)-(a:Int)=((s.size-a:Nat):Int):=by omega
 clear har hT ht hh;unfold ReadTo;go_enter Tryz.func194,Tryz.ntmps194;go_wp2_with fail
 with_reducible refine HM.out.mono ?_
 rintro e w1 ⟨rfl,hw1⟩;obtain ⟨ho1,ht1,hg1⟩:=met HT.out hw1;have HO:=hid ho1;have HT1:=hid ht1;have HG:=hid hg1;clear hw1 ho1 ht1 hg1 HM;go_wp2_with fail
 with_reducible refine (HH.out _).mono ?_
 rintro e w2 ⟨rfl,rfl⟩;go_wp2_with (go_at_call 173; refine (fail_any _ _).mono ?_; rintro e w3 ⟨rfl,rfl⟩)
 simp [bodyPost];exact HG.out
theorem ext_bytes (s:ByteArray) (a v:Nat):s.extract a (a+v)=⟨((s.data.toList.drop a).take v).toArray⟩:=by
 apply ByteArray.ext;apply Array.toList_inj.1;simp [List.extract_eq_take_drop]
theorem tal_row {w:World} {g b:Nat} {k:Int} (h:Tal w g k) (hne:b≠g) (cs:Array Value):Tal (w.setRow b cs) g k:=by
 have e:(w.setRow b cs).heap[g]? = w.heap[g]? := setRow_other w b g cs (fun e=>hne e.symm);exact ⟨(World.cell?_of_block (a:=⟨g,0,none⟩) e).trans h.1,(World.frozen?_of_block (a:=⟨g,0,none⟩) e).trans h.2⟩
theorem gb_row {w w1:World} {g b:Nat} (h:w.grownBy w1 (some g)) (hb:w.heap.size≤b) (cs:Array Value):w.grownBy (w1.setRow b cs) (some g) :=
 ⟨h.os,h.tape,h.output,by simp; exact h.size,fun k hk hr=>(setRow_other w1 b k cs (by omega)).trans (h.block k hk hr)⟩
theorem read_text1 (s:ByteArray) (around k g:Nat) (ar:Int) (w:World) (a v:Nat) (har:ar=around) (ha:around≤64) (hk2:k+1≤4096) (hT:Tal w g k) (hh:headE s.data.toList = .ok (false,a,v)) (hsz:s.size≤9223372036854775807) (has:a+v≤s.size)
  (h1:a≠1):ReadTo s g ar w (.ok (.mk false ⟨((s.data.toList.drop a).take v).toArray⟩ [],a+v,k+1)):=by
 have HM:=hid (meet_ok g ar k (by omega) (by omega) (by omega) (w.alloc (.cells #[.bool false,.string ⟨#[]⟩,.slice none 0 0] 168)) (hT.below (al1 _ _)));have HT:=hid hT;have ht:=head_tells s;rw [hh] at ht;have HH:Hid (∀ w,Calls Tryz.prog 198 #[.string s] w fun e w'=>e = .returned (.tuple #[.bool false,.int .i64 a,.int .u64 v])∧w=w'):=hid ht;have hA:(s.size:Int)-(a:Int)=((s.size-a:Nat):Int):=by omega
 have hle:v≤s.size-a:=by omega
 obtain ⟨B,hB⟩:∃ B,s.extract a (a+v)=B:=⟨_,rfl⟩
 have hBs:B.size=v:=by rw [← hB,ByteArray.size_extract]; omega
 have HBd:Hid (B=⟨((s.data.toList.drop a).take v).toArray⟩):=hid (by rw [← hB]; exact ext_bytes s a v);have q1:((a:Int)==1)=false:=by simp; omega
 clear har hT ht hh;unfold ReadTo;go_enter Tryz.func194,Tryz.ntmps194;go_wp2_with fail
 with_reducible refine HM.out.mono ?_
 rintro e w1 ⟨rfl,hw1⟩;obtain ⟨ho1,ht1,hg1⟩:=met HT.out hw1;have HO:=hid ho1;have HT1:=hid ht1;have HG:=hid hg1;clear hw1 ho1 ht1 hg1 HM;go_wp2_with fail
 with_reducible refine (HH.out _).mono ?_
 rintro e w2 ⟨rfl,rfl⟩;go_wp2_with fail
 with_reducible refine (text_any B w1).mono ?_
 rintro e w3 ⟨rfl,hb3⟩;have HO3:=hid (HO.out.below hb3);have HT3:=hid (HT1.out.below hb3);have HG3:=hid (gb_trans HG.out (gb_of hb3));clear hb3;go_wp2_with (refine wpList_store_rowTo rfl 168 _ _ rfl rfl _ (itC (.mk false B []) none 0 0) rfl rfl 168 (itC it0 none 0 0) HO3.out.2 (info_itC _ _ _ _) rfl (itC_one _ _ _ _) ?_)
 refine bodyPost_ret (res_item1 rfl _ rfl (lies_row (setRow_heap _ _ _ _ _ _ HO3.out.2))) rfl ⟨none,0,0,?_,ItsIn.nil _ _,tal_row HT3.out (by have:=HT.out.lt; omega) _,gb_row HG3.out (Nat.le_refl _) _⟩;show Ending.returned (.tuple #[itV (.mk false B []) none 0 0,.int .i64 ((a:Int)+(v:Int))])=_;rw [HBd.out];rfl
theorem read_text2 (s:ByteArray) (around k g:Nat) (ar:Int) (w:World) (a v:Nat) (har:ar=around) (ha:around≤64) (hk2:k+1≤4096) (hT:Tal w g k) (hh:headE s.data.toList = .ok (false,a,v)) (hsz:s.size≤9223372036854775807) (has:a+v≤s.size)
  (h1:a=1) (h2:v≠1):ReadTo s g ar w (.ok (.mk false ⟨((s.data.toList.drop a).take v).toArray⟩ [],a+v,k+1)):=by
 have HM:=hid (meet_ok g ar k (by omega) (by omega) (by omega) (w.alloc (.cells #[.bool false,.string ⟨#[]⟩,.slice none 0 0] 168)) (hT.below (al1 _ _)));have HT:=hid hT;have ht:=head_tells s;rw [hh] at ht;have HH:Hid (∀ w,Calls Tryz.prog 198 #[.string s] w fun e w'=>e = .returned (.tuple #[.bool false,.int .i64 a,.int .u64 v])∧w=w'):=hid ht;have hA:(s.size:Int)-(a:Int)=((s.size-a:Nat):Int):=by omega
 have hle:v≤s.size-a:=by omega
 obtain ⟨B,hB⟩:∃ B,s.extract a (a+v)=B:=⟨_,rfl⟩
 have hBs:B.size=v:=by rw [← hB,ByteArray.size_extract]; omega
 have HBd:Hid (B=⟨((s.data.toList.drop a).take v).toArray⟩):=hid (by rw [← hB]; exact ext_bytes s a v);have q1:((a:Int)==1)=true:=by simp; omega
 have q2:((v:Int)==1)=false:=by simp; omega
 clear h1;clear har hT ht hh;unfold ReadTo;go_enter Tryz.func194,Tryz.ntmps194;go_wp2_with fail
 with_reducible refine HM.out.mono ?_
 rintro e w1 ⟨rfl,hw1⟩;obtain ⟨ho1,ht1,hg1⟩:=met HT.out hw1;have HO:=hid ho1;have HT1:=hid ht1;have HG:=hid hg1;clear hw1 ho1 ht1 hg1 HM;go_wp2_with fail
 with_reducible refine (HH.out _).mono ?_
 rintro e w2 ⟨rfl,rfl⟩;go_wp2_with fail
 with_reducible refine (text_any B w1).mono ?_
 rintro e w3 ⟨rfl,hb3⟩;have HO3:=hid (HO.out.below hb3);have HT3:=hid (HT1.out.below hb3);have HG3:=hid (gb_trans HG.out (gb_of hb3));clear hb3;go_wp2_with (refine wpList_store_rowTo rfl 168 _ _ rfl rfl _ (itC (.mk false B []) none 0 0) rfl rfl 168 (itC it0 none 0 0) HO3.out.2 (info_itC _ _ _ _) rfl (itC_one _ _ _ _) ?_)
 refine bodyPost_ret (res_item1 rfl _ rfl (lies_row (setRow_heap _ _ _ _ _ _ HO3.out.2))) rfl ⟨none,0,0,?_,ItsIn.nil _ _,tal_row HT3.out (by have:=HT.out.lt; omega) _,gb_row HG3.out (Nat.le_refl _) _⟩;show Ending.returned (.tuple #[itV (.mk false B []) none 0 0,.int .i64 ((a:Int)+(v:Int))])=_;rw [HBd.out];rfl
theorem read_text3 (s:ByteArray) (around k g:Nat) (ar:Int) (w:World) (a v:Nat) (har:ar=around) (ha:around≤64) (hk2:k+1≤4096) (hT:Tal w g k) (hh:headE s.data.toList = .ok (false,a,v)) (hsz:s.size≤9223372036854775807) (has:a+v≤s.size)
  (h1:a=1) (h2:v=1) (h3:128≤((s.data.toList.drop 1).headD 0).toNat):ReadTo s g ar w (.ok (.mk false ⟨((s.data.toList.drop a).take v).toArray⟩ [],a+v,k+1)):=by
 have HM:=hid (meet_ok g ar k (by omega) (by omega) (by omega) (w.alloc (.cells #[.bool false,.string ⟨#[]⟩,.slice none 0 0] 168)) (hT.below (al1 _ _)));have HT:=hid hT;have ht:=head_tells s;rw [hh] at ht;have HH:Hid (∀ w,Calls Tryz.prog 198 #[.string s] w fun e w'=>e = .returned (.tuple #[.bool false,.int .i64 a,.int .u64 v])∧w=w'):=hid ht;have hA:(s.size:Int)-(a:Int)=((s.size-a:Nat):Int):=by omega
 have hle:v≤s.size-a:=by omega
 obtain ⟨B,hB⟩:∃ B,s.extract a (a+v)=B:=⟨_,rfl⟩
 have hBs:B.size=v:=by rw [← hB,ByteArray.size_extract]; omega
 have HBd:Hid (B=⟨((s.data.toList.drop a).take v).toArray⟩):=hid (by rw [← hB]; exact ext_bytes s a v);have q1:((a:Int)==1)=true:=by simp; omega
 have q2:((v:Int)==1)=true:=by simp; omega
 have q0:0<B.size:=by omega
 have q3:128≤B[0].toNat:=by
  rw [← first_of' q0,HBd.out,h1,h2];revert h3;cases (s.data.toList.drop 1) <;> simp
 clear h1 h2 h3;clear har hT ht hh;unfold ReadTo;go_enter Tryz.func194,Tryz.ntmps194;go_wp2_with fail
 with_reducible refine HM.out.mono ?_
 rintro e w1 ⟨rfl,hw1⟩;obtain ⟨ho1,ht1,hg1⟩:=met HT.out hw1;have HO:=hid ho1;have HT1:=hid ht1;have HG:=hid hg1;clear hw1 ho1 ht1 hg1 HM;go_wp2_with fail
 with_reducible refine (HH.out _).mono ?_
 rintro e w2 ⟨rfl,rfl⟩;go_wp2_with fail
 with_reducible refine (text_any B w1).mono ?_
 rintro e w3 ⟨rfl,hb3⟩;have HO3:=hid (HO.out.below hb3);have HT3:=hid (HT1.out.below hb3);have HG3:=hid (gb_trans HG.out (gb_of hb3));clear hb3;go_wp2_with (refine wpList_store_rowTo rfl 168 _ _ rfl rfl _ (itC (.mk false B []) none 0 0) rfl rfl 168 (itC it0 none 0 0) HO3.out.2 (info_itC _ _ _ _) rfl (itC_one _ _ _ _) ?_)
 refine bodyPost_ret (res_item1 rfl _ rfl (lies_row (setRow_heap _ _ _ _ _ _ HO3.out.2))) rfl ⟨none,0,0,?_,ItsIn.nil _ _,tal_row HT3.out (by have:=HT.out.lt; omega) _,gb_row HG3.out (Nat.le_refl _) _⟩;show Ending.returned (.tuple #[itV (.mk false B []) none 0 0,.int .i64 ((a:Int)+(v:Int))])=_;rw [HBd.out];rfl
theorem read_one (s:ByteArray) (around k g:Nat) (ar:Int) (w:World) (a v:Nat) (har:ar=around) (ha:around≤64) (hk2:k+1≤4096) (hT:Tal w g k) (hh:headE s.data.toList = .ok (false,a,v)) (hsz:s.size≤9223372036854775807) (has:a+v≤s.size)
  (h1:a=1) (h2:v=1) (h3:((s.data.toList.drop 1).headD 0).toNat<128):ReadTo s g ar w (.error 6):=by
 have HM:=hid (meet_ok g ar k (by omega) (by omega) (by omega) (w.alloc (.cells #[.bool false,.string ⟨#[]⟩,.slice none 0 0] 168)) (hT.below (al1 _ _)));have HT:=hid hT;have ht:=head_tells s;rw [hh] at ht;have HH:Hid (∀ w,Calls Tryz.prog 198 #[.string s] w fun e w'=>e = .returned (.tuple #[.bool false,.int .i64 a,.int .u64 v])∧w=w'):=hid ht;have hA:(s.size:Int)-(a:Int)=((s.size-a:Nat):Int):=by omega
 have hle:v≤s.size-a:=by omega
 obtain ⟨B,hB⟩:∃ B,s.extract a (a+v)=B:=⟨_,rfl⟩
 have hBs:B.size=v:=by rw [← hB,ByteArray.size_extract]; omega
 have HBd:Hid (B=⟨((s.data.toList.drop a).take v).toArray⟩):=hid (by rw [← hB]; exact ext_bytes s a v);have q1:((a:Int)==1)=true:=by simp; omega
 have q2:((v:Int)==1)=true:=by simp; omega
 have q0:0<B.size:=by omega
 have q3:B[0].toNat<128:=by
  rw [← first_of' q0,HBd.out,h1,h2];revert h3;have hl:0<(s.data.toList.drop 1).length:=by rw [List.length_drop,← size_len]; omega
  revert hl;cases (s.data.toList.drop 1) <;> simp
 clear h1 h2 h3;clear har hT ht hh;unfold ReadTo;go_enter Tryz.func194,Tryz.ntmps194;go_wp2_with fail
 with_reducible refine HM.out.mono ?_
 rintro e w1 ⟨rfl,hw1⟩;obtain ⟨ho1,ht1,hg1⟩:=met HT.out hw1;have HO:=hid ho1;have HT1:=hid ht1;have HG:=hid hg1;clear hw1 ho1 ht1 hg1 HM;go_wp2_with fail
 with_reducible refine (HH.out _).mono ?_
 rintro e w2 ⟨rfl,rfl⟩;go_wp2_with (go_at_call 173; refine (fail_any _ _).mono ?_; rintro e w3 ⟨rfl,rfl⟩)
 simp [bodyPost];exact HG.out
theorem read_list (s:ByteArray) (around k g:Nat) (ar:Int) (w:World) (a v:Nat) (har:ar=around) (ha:around≤64) (hk2:k+1≤4096) (hT:Tal w g k) (hh:headE s.data.toList = .ok (true,a,v)) (hsz:s.size≤9223372036854775807) (has:a+v≤s.size)
  (hC:AllC (s.extract a (a+v))):ReadTo s g ar w (match allL ((s.data.toList.drop a).take v) (around+1) (k+1) with
   | .error e=>.error e
   | .ok (xs,k')=>.ok (.mk true ⟨#[]⟩ xs,a+v,k')):=by
 have HM:=hid (meet_ok g ar k (by omega) (by omega) (by omega) (w.alloc (.cells #[.bool false,.string ⟨#[]⟩,.slice none 0 0] 168)) (hT.below (al1 _ _)));have HT:=hid hT;have ht:=head_tells s;rw [hh] at ht;have HH:Hid (∀ w,Calls Tryz.prog 198 #[.string s] w fun e w'=>e = .returned (.tuple #[.bool true,.int .i64 a,.int .u64 v])∧w=w'):=hid ht;have hA:(s.size:Int)-(a:Int)=((s.size-a:Nat):Int):=by omega
 have hle:v≤s.size-a:=by omega
 have hBl:(s.extract a (a+v)).data.toList=(s.data.toList.drop a).take v:=by rw [ext_bytes]
 obtain ⟨B,hB⟩:∃ B,s.extract a (a+v)=B:=⟨_,rfl⟩
 rw [hB] at hC hBl;have HA:=hid (fun (w1:World) (ht:Tal w1 g (k+1:Nat))=>hC (around+1) (k+1) g (wrap64 (ar+1)) w1 (by simp only [wrap64]; omega) (by omega) (by omega) ht);have hBs:B.size=v:=by rw [← hB,ByteArray.size_extract]; omega
 rw [hBl] at HA;clear har hT ht hh hBl hC;cases hr:allL ((s.data.toList.drop a).take v) (around+1) (k+1) with
 | error c =>
  rw [hr] at HA;clear hr;have HA':Hid (∀ w1,Tal w1 g (k+1:Nat)→Calls Tryz.prog 199 #[.pointer (some ⟨g,0,none⟩),.string B,.int .i64 (wrap64 (ar+1))] w1 fun e w'=>e = .panicked [errP c]∧w1.grownBy w' (some g)):=hid HA.out;clear HA;dsimp only;unfold ReadTo;go_enter Tryz.func194,Tryz.ntmps194;go_wp2_with fail
  with_reducible refine HM.out.mono ?_
  rintro e w1 ⟨rfl,hw1⟩;obtain ⟨ho1,ht1,hg1⟩:=met HT.out hw1;have HO:=hid ho1;have HT1:=hid ht1;have HG:=hid hg1;clear hw1 ho1 ht1 hg1 HM;go_wp2_with fail
  with_reducible refine (HH.out _).mono ?_
  rintro e w2 ⟨rfl,rfl⟩;go_wp2_with fail
  with_reducible refine (HA'.out _ HT1.out).mono ?_
  rintro e w3 ⟨rfl,hg3⟩;have HG3:=hid (gb_trans HG.out hg3);clear hg3;go_wp2;simp [bodyPost];exact HG3.out
 | ok r =>
  obtain ⟨xs,k'⟩:=r;rw [hr] at HA;clear hr;have HA':Hid (∀ w1,Tal w1 g (k+1:Nat)→Calls Tryz.prog 199 #[.pointer (some ⟨g,0,none⟩),.string B,.int .i64 (wrap64 (ar+1))] w1 fun e w' =>
   ∃ a nn cap,e = .returned (.slice a nn cap)∧ItsIn w1.heap.size w' xs a nn cap∧Tal w' g k'∧w1.grownBy w' (some g)):=hid HA.out
  clear HA;dsimp only;unfold ReadTo;go_enter Tryz.func194,Tryz.ntmps194;go_wp2_with fail
  with_reducible refine HM.out.mono ?_
  rintro e w1 ⟨rfl,hw1⟩;obtain ⟨ho1,ht1,hg1⟩:=met HT.out hw1;have HO:=hid ho1;have HT1:=hid ht1;have HG:=hid hg1;clear hw1 ho1 ht1 hg1 HM;go_wp2_with fail
  with_reducible refine (HH.out _).mono ?_
  rintro e w2 ⟨rfl,rfl⟩;go_wp2_with fail
  with_reducible refine (HA'.out _ HT1.out).mono ?_
  rintro e w3 ⟨xa,xn,xc,rfl,hI3,ht3,hg3⟩;have HO3:=hid (own_gb HO.out hg3 (by have:=HT.out.lt; omega));have HI3:=hid (ItsIn_row hI3 HO.out.1);have HT3:=hid ht3;have HG3:=hid (gb_trans HG.out hg3);have HS1:=hid HG.out.size;clear hg3 hI3 ht3;go_wp2_with (refine wpList_store_rowTo rfl 168 _ _ rfl rfl _ (itC (.mk true ⟨#[]⟩ xs) xa xn xc) rfl rfl 168 (itC it0 none 0 0) HO3.out.2 (info_itC _ _ _ _) rfl (itC_one _ _ _ _) ?_)
  refine bodyPost_ret (res_item1 rfl _ rfl (lies_row (setRow_heap _ _ _ _ _ _ HO3.out.2))) rfl ⟨xa,xn,xc,?_,ItsIn.weak (HI3.out _) HS1.out,tal_row HT3.out (by have:=HT.out.lt; omega) _,gb_row HG3.out (Nat.le_refl _) _⟩;show Ending.returned (.tuple #[itV (.mk true ⟨#[]⟩ xs) xa xn xc,.int .i64 ((a:Int)+(v:Int))])=_;rfl
end Rl
end
section
open Go.RowKit
namespace Rl
open Pk
abbrev Hdr:Type:=Option Addr × Nat × Nat
def flat:List It→List Hdr→List Value
 | x::xs,h::hs=>.bool x.l :: .string x.s :: .slice h.1 h.2.1 h.2.2::flat xs hs
 | _,_=>[]
theorem flat_snoc:∀ (xs:List It) (hs:List Hdr) (x:It) (h:Hdr),hs.length=xs.length→flat (xs++[x]) (hs++[h])=flat xs hs++[.bool x.l,.string x.s,.slice h.1 h.2.1 h.2.2]
 | [],[],_,_,_=>rfl
 | y::xs,g::hs,x,h,e=>by
  have:=flat_snoc xs hs x h (by simpa using e);simp [flat,this]
theorem flat_at:∀ (xs:List It) (hs:List Hdr) (j:Nat) (x:It) (h:Hdr),xs[j]? = some x→hs[j]? = some h →
  (flat xs hs)[j*3]? = some (.bool x.l)∧(flat xs hs)[j*3+1]? = some (.string x.s)∧(flat xs hs)[j*3+2]? = some (.slice h.1 h.2.1 h.2.2)
 | [],_,_,_,_,hx,_=>by simp at hx
 | _::_,[],_,_,_,_,hh=>by simp at hh
 | y::xs,g::hs,0,x,h,hx,hh=>by
  simp at hx hh;subst hx hh;simp [flat]
 | y::xs,g::hs,j+1,x,h,hx,hh=>by
  have:=flat_at xs hs j x h (by simpa using hx) (by simpa using hh);rw [show (j+1)*3=j*3+3 by omega];simp only [flat,List.getElem?_cons_succ];exact this
def RowI (B:Nat) (w:World) (v:Value) (xs:List It):Prop :=
 ∃ hs:List Hdr,hs.length=xs.length∧w.ownsRow B 168 3 v xs.length (flat xs hs)∧∀ (j:Nat) (x:It) (h:Hdr),xs[j]? = some x→hs[j]? = some h→ItsP (fun b=>B≤b∧v.ownBlock≠some b) w x.xs h.1 h.2.1 h.2.2
theorem RowI.nil (B:Nat) (w:World):RowI B w (.slice none 0 0) []:=⟨[],rfl,World.ownsRow_nil _ _ _ _,fun _ _ _ hx _=>by simp at hx⟩
theorem RowI.lt {B:Nat} {w:World} {v:Value} {xs:List It} (h:RowI B w v xs):∀ k,v.ownBlock=some k→B≤k∧k<w.heap.size:=by
 obtain ⟨hs,_,ho,_⟩:=h;exact ho.lt
theorem RowI.gb {B g:Nat} {w w':World} {v:Value} {xs:List It} (h:RowI B w v xs) (hg:w.grownBy w' (some g)) (hlt:g<B):RowI B w' v xs:=by
 have hl:=h.lt;obtain ⟨hs,hlen,ho,hi⟩:=h;refine ⟨hs,hlen,ho.kept hg (.inr fun e=>?_),fun j x h hx hh=>?_⟩
 ·have:=(hl g e).1;omega
 ·exact (hi j x h hx hh).kept hg.size fun b o hb hlt'=>World.cell?_of_block (a:=⟨b,o,none⟩) (hg.block b hlt' (fun e=>by have:=Option.some.inj e; omega))
theorem RowI.below' {B:Nat} {w w':World} {v:Value} {xs:List It} (h:RowI B w v xs) (hb:Below w.heap.size w w'):RowI B w' v xs:=by
 obtain ⟨hs,hlen,ho,hi⟩:=h;refine ⟨hs,hlen,ho.kept (Bu.grown_below hb) (by cases v.ownBlock <;> simp),fun j x h hx hh=>(hi j x h hx hh).stays hb⟩
theorem RowI.push {B:Nat} {w w':World} {v v':Value} {xs:List It} {x:It} {a:Option Addr} {n cap:Nat} {hs:List Hdr} (hlen:hs.length=xs.length) (hi:∀ (j:Nat) (x:It) (h:Hdr),xs[j]? = some x→hs[j]? = some h→ItsP (fun b=>B≤b∧v.ownBlock≠some b) w x.xs h.1 h.2.1 h.2.2)
  (hI:ItsP (fun b=>B≤b∧v.ownBlock≠some b) w x.xs a n cap) (ho:w'.ownsRow B 168 3 v' (xs.length+1) (flat xs hs++[.bool x.l,.string x.s,.slice a n cap]))
  (hg:w.grownBy w' v.ownBlock) (hat:v'.ownBlock=v.ownBlock∨v'.ownBlock=some w.heap.size):RowI B w' v' (xs++[x]):=by
 have keep:∀ {ys:List It} {a:Option Addr} {n cap:Nat},ItsP (fun b=>B≤b∧v.ownBlock≠some b) w ys a n cap→ItsP (fun b=>B≤b∧v'.ownBlock≠some b) w' ys a n cap:=fun hh=>by
  have h1:=hh.to (p':=fun b=>(B≤b∧v'.ownBlock≠some b)∧v.ownBlock≠some b) fun b hlt hb=>⟨⟨hb.1,fun e=>by
   rcases hat with h2 | h2
   ·exact hb.2 (h2 ▸ e)
   ·rw [h2] at e;have:=Option.some.inj e;omega⟩,hb.2⟩
  have h2:=h1.kept (w':=w') hg.size fun b o hb hlt=>World.cell?_of_block (a:=⟨b,o,none⟩) (hg.block b hlt (fun e=>hb.2 e.symm));exact h2.to fun b _ hb=>hb.1
 refine ⟨hs++[(a,n,cap)],by simp [hlen],?_,fun j y h hy hh=>?_⟩
 ·rw [List.length_append,flat_snoc xs hs x (a,n,cap) hlen];exact ho
 ·by_cases hj:j<xs.length
  ·rw [List.getElem?_append_left hj] at hy;rw [List.getElem?_append_left (by omega)] at hh;exact keep (hi j y h hy hh)
  ·have hj2:j=xs.length:=by
    have:=(List.getElem?_eq_some_iff.1 hy).1;simp at this;omega
   subst hj2;rw [List.getElem?_append_right (Nat.le_refl _),Nat.sub_self] at hy;rw [List.getElem?_append_right (by omega),hlen,Nat.sub_self] at hh;simp at hy hh;subst hy hh;exact keep hI
theorem RowI.done {B:Nat} {w:World} {v:Value} {xs:List It} (h:RowI B w v xs) (hn:xs.length≤4096):∃ a n cap,v = .slice a n cap∧ItsIn B w xs a n cap:=by
 obtain ⟨hs,hlen,ho,hi⟩:=h;rcases ho.2 with ⟨rfl,hz⟩ | ⟨g,cap,cur,rfl,hbg,hg,hnc,hcm,hcs,htake⟩
 ·have:xs=[]:=List.eq_nil_of_length_eq_zero hz;subst this;exact ⟨none,0,0,rfl,ItsIn.nil _ _⟩
 ·refine ⟨_,_,_,rfl,ItsP.mk (fun j=>(hs.getD j (none,0,0)).1) (fun j=>(hs.getD j (none,0,0)).2.1) (fun j=>(hs.getD j (none,0,0)).2.2) rfl hnc hcm (by omega) (fun e=>by cases e) (fun j x hx=>?_) (fun j x hx=>?_)⟩
  ·have hj:j<hs.length:=by rw [hlen]; exact (List.getElem?_eq_some_iff.1 hx).1
   have hh:hs[j]? = some (hs.getD j (none,0,0)):=by simp [hj]
   obtain ⟨f0,f1,f2⟩:=flat_at xs hs j x _ hx hh;have e:∀ i,(⟨g,0,none⟩:Addr).add i=⟨g,0+i,none⟩:=fun i=>Addr.add_mid g 0 i;refine ⟨g,0,rfl,hbg,(Array.getElem?_eq_some_iff.1 hg).1,?_,?_,?_⟩
   ·have:=ho.cells (g:=g) rfl _ _ f0;rw [e] at this;exact this
   ·have:=ho.cells (g:=g) rfl _ _ f1;rw [e,← Nat.add_assoc] at this;exact this
   ·have:=ho.cells (g:=g) rfl _ _ f2;rw [e,← Nat.add_assoc] at this;exact this
  ·have hj:j<hs.length:=by rw [hlen]; exact (List.getElem?_eq_some_iff.1 hx).1
   have hh:hs[j]? = some (hs.getD j (none,0,0)):=by simp [hj]
   exact (hi j x _ hx hh).to fun b _ hb=>hb.1
theorem info_it_all:(Tryz.prog.info? 168).map (fun i=>(i.zero,i.size,i.bytes))=some (some (.agg #[.bool false,.string ⟨#[]⟩,.slice none 0 0]),3,48):=by kernel_rfl
theorem meetItem {o:Oper} {a:Act} {w:World} {K:Act→World→Prop} {Q:Exit→Act→World→Prop} {ops:Array Oper} {x:It} {A:Option Addr} {N C:Nat} (hw:Region.wanted o (yielded ops a.tmps)=true)
  (ho:∃ y,o.op = .buildSlice 166 1 #[(0,y)]∧a.eval y = .agg #[.bool x.l,.string x.s,.slice A N C])
  (h:∀ w' b,Rg.Own w' b (itC x A N C) 168→Below w.heap.size w w'→K (a.put o.dst (.slice (some ⟨b,0,none⟩) 1 1)) w'):if Region.wanted o (yielded ops a.tmps)=true then Oper.wp Tryz.prog o a w K Q else K (a.put o.dst undef) w:=by
 obtain ⟨y,ho,hy⟩:=ho;obtain ⟨i0,hi,hz,hs,hby⟩:=info_parts info_it_all;refine Rg.want hw (wp_buildSlice 166 168 1 _ ho (itC x A N C) i0 _ Tryz.underlying166 hi hz (by rw [hs]; decide) (by rw [hs]; decide) ?_ (h _ _ (Rg.Own.new _ _ _) (al1 _ _)));simp only [List.map_toArray,List.map_cons,List.map_nil,hy,hs];kernel_rfl
theorem meetPush {o:Oper} {a:Act} {w:World} {K:Act→World→Prop} {Q:Exit→Act→World→Prop} {ops:Array Oper} {B b2:Nat} {v:Value} {xs:List It} {x:It} {A:Option Addr} {N C:Nat} (hw:Region.wanted o (yielded ops a.tmps)=true)
  (ho:∃ s y,o.op = .call { callee:=.builtin .append,args:=#[s,y],argTypes:=#[166,166] }∧a.eval s=v∧a.eval y = .slice (some ⟨b2,0,none⟩) 1 1)
  (hR:RowI B w v xs) (h2:Rg.Own w b2 (itC x A N C) 168) (hI:ItsP (fun b=>B≤b∧v.ownBlock≠some b) w x.xs A N C) (hn:xs.length≤4096) (hB:B≤w.heap.size)
  (h:∀ v' w',RowI B w' v' (xs++[x])→w.grownBy w' v.ownBlock→K (a.put o.dst v') w'):if Region.wanted o (yielded ops a.tmps)=true then Oper.wp Tryz.prog o a w K Q else K (a.put o.dst undef) w:=by
 obtain ⟨s,y,ho,hs,hy⟩:=ho;obtain ⟨i0,z0,hi,hz,hsz,hby,hzc⟩:=info_it_parts;obtain ⟨hs',hlen,hown,hi'⟩:=hR;obtain ⟨v',w',hr,h3,h4,_,h5⟩:=run_append_own_at (P:=Tryz.prog) w B 166 o.type 168 i0 z0 3 48 Tryz.underlying166 hi hz hsz hby hzc (by decide) v xs.length _ hown ⟨b2,0,none⟩ 1 1 [.bool x.l,.string x.s,.slice A N C] rfl
  (fun j u hu=>by
   obtain ⟨c0,c1,c2⟩:=lies_row h2.2;rw [Addr.add_mid,Nat.zero_add]
   match j,hu with
   | 0,hu=>cases hu; exact c0
   | 1,hu=>cases hu; exact c1
   | 2,hu=>cases hu; exact c2)
  (fun u hu=>by simp at hu; rcases hu with rfl | rfl | rfl <;> rfl) (by unfold maxLen; omega) (by omega) hB
 refine Rg.want hw ?_;unfold Oper.wp execOp;simp only [ho,resolve,invoke,builtin,Sem.run_bind,Sem.run_pure,Result.andThen_ok,List.map_toArray,List.map_cons,List.map_nil,hs,hy,hr];exact h v' w' (RowI.push hlen hi' hI h3 h4 h5) h4
theorem Tal.gb {w w':World} {g:Nat} {k:Int} {r:Option Nat} (h:Tal w g k) (hg:w.grownBy w' r) (hr:∀ j,r=some j→g≠j):Tal w' g k:=by
 have e:w'.heap[g]? = w.heap[g]? := hg.block g h.lt (fun e=>hr g e.symm rfl);exact ⟨(World.cell?_of_block (a:=⟨g,0,none⟩) e).trans h.1,(World.frozen?_of_block (a:=⟨g,0,none⟩) e).trans h.2⟩
theorem gb_up {w w1 w':World} {g:Nat} {r:Option Nat} (h:w.grownBy w1 (some g)) (h2:w1.grownBy w' r) (hr:∀ j,r=some j→w.heap.size≤j):w.grownBy w' (some g) :=
 ⟨h2.os.trans h.os,h2.tape.trans h.tape,h2.output.trans h.output,Nat.le_trans h.size h2.size,fun k hk hne=>(h2.block k (Nat.lt_of_lt_of_le hk h.size) (fun e=>by have:=hr k e.symm; omega)).trans (h.block k hk hne)⟩
theorem own_gb' {w w':World} {b:Nat} {cs:Array Value} {T:TypeId} {r:Option Nat} (h:Rg.Own w b cs T) (hg:w.grownBy w' r) (hne:r≠some b):Rg.Own w' b cs T :=
 ⟨Nat.lt_of_lt_of_le h.1 hg.size,(hg.block b h.1 (fun e=>hne e.symm)).trans h.2⟩
def glue (xs:List It):Except Int (List It × Nat)→Except Int (List It × Nat)
 | .error c=>.error c
 | .ok (ys,k)=>.ok (xs++ys,k)
theorem glue_more {s:List UInt8} {around k n k':Nat} {xs:List It} {x:It} (hs:s≠[]) (hn:1≤n) (h:readL s around k = .ok (x,n,k')):glue xs (allL s around k)=glue (xs++[x]) (allL (s.drop n) around k'):=by
 cases s with
 | nil=>exact absurd rfl hs
 | cons c t =>
  obtain ⟨m,rfl⟩:∃ m,n=m+1:=⟨n-1,by omega⟩
  rw [allL,h];dsimp only;rw [Nat.add_sub_cancel,List.drop_succ_cons];cases allL (t.drop m) around k' with
  | error e=>rfl
  | ok r=>obtain ⟨ys,k2⟩:=r; simp [glue]
theorem glue_err {s:List UInt8} {around k:Nat} {xs:List It} {c:Int} (hs:s≠[]) (h:readL s around k = .error c):glue xs (allL s around k) = .error c:=by
 cases s with
 | nil=>exact absurd rfl hs
 | cons d t=>rw [allL,h]; rfl
theorem glue_nil (xs:List It) (around k:Nat):glue xs (allL [] around k) = .ok (xs,k):=by
 rw [allL];simp [glue]
theorem glue_zero (r:Except Int (List It × Nat)):glue [] r=r:=by
 cases r with
 | error c=>rfl
 | ok r=>rfl
theorem rest_bytes (r:ByteArray) (n:Nat) (h:n≤r.size):(r.extract n r.size).data.toList=r.data.toList.drop n:=by
 have:=ext_bytes r n (r.size-n);rw [show n+(r.size-n)=r.size by omega] at this;rw [this];show (r.data.toList.drop n).take (r.size-n)=_;rw [List.take_of_length_le];rw [List.length_drop,← size_len];exact Nat.le_refl _
def restSize:Value→Nat
 | .string r=>r.size
 | _=>0
theorem all_tells (s:ByteArray) (hsz:s.size≤9223372036854775807) (hR:∀ t:ByteArray,t.size≤s.size→ReadC t):AllC s:=by
 intro around k g ar w har ha hk hT;have hgl:=hT.lt;obtain ⟨r0,hr0⟩:∃ r0,allL s.data.toList around k=r0:=⟨_,rfl⟩
 rw [hr0];have HRd:=hid hR;have HAR:=hid har;have HT:=hid hT;have H0:Hid (r0=glue [] (allL s.data.toList around k)):=hid (by rw [glue_zero,hr0]);clear hR har hT hr0;unfold AllTo;go_enter Tryz.func199,Tryz.ntmps199;go_wp2;go_loopw [1,7] (fun rs v wr=>∃ (r:ByteArray) (xs:List It) (kk:Nat),rs = .string r∧r.size≤s.size∧kk≤4096∧xs.length≤kk∧Hid (r0=glue xs (allL r.data.toList around kk))∧Hid (RowI w.heap.size wr v xs)∧Hid (Tal wr g kk)∧Hid (w.grownBy wr (some g))) (fun rs _ _=>restSize rs)
 case atStart=>exact ⟨s,[],k,rfl,Nat.le_refl _,hk,Nat.zero_le _,hid H0.out,hid (RowI.nil _ _),hid HT.out,hid (gb_refl _ _)⟩
 case round =>
  obtain ⟨r,xs,kk,rfl,hrs,hkk,hxk,HGl,HRow,HTk,HG⟩:=hrel;clear H0 HT;by_cases hne:r.data.toList=[]
  ·have e1:(r.toList==[])=true:=by rw [ByteArray.toList_eq,hne]; rfl
   have e2:(r.toList != [])=false:=by rw [bne,e1]; rfl
   have hg:=HGl.out;rw [hne,glue_nil] at hg;obtain ⟨a',n',c',hv,hI⟩:=HRow.out.done (by omega);subst hg;subst hv;have HI:=hid hI;clear HRd hI HRow HGl hne;go_wp2;go_ret;exact ⟨a',n',c',rfl,HI.out,HTk.out,HG.out⟩
  ·have e1:(r.toList==[])=false:=by rw [beq_eq_false_iff_ne,ByteArray.toList_eq]; exact hne
   have e2:(r.toList != [])=true:=by rw [bne,e1]; rfl
   have hrd:=HRd.out r hrs around kk g ar wr HAR.out ha hkk HTk.out;cases hrr:readL r.data.toList around kk with
   | error c =>
    rw [hrr] at hrd;have HD:Hid (Calls Tryz.prog 194 #[.pointer (some ⟨g,0,none⟩),.string r,.int .i64 ar] wr fun e w'=>e = .panicked [errP c]∧wr.grownBy w' (some g)):=hid hrd;have hg:=HGl.out;rw [glue_err hne hrr] at hg;subst hg;clear HRd hrd hrr HGl hne HRow;go_wp2_with fail
    with_reducible refine HD.out.mono ?_
    rintro e w1 ⟨rfl,hg1⟩;have HG1:=hid (gb_trans HG.out hg1);clear hg1;go_wp2;simp [bodyPost];exact ⟨rfl,HG1.out⟩
   | ok q =>
    obtain ⟨x,n,k2⟩:=q;rw [hrr] at hrd;have HD:Hid (Calls Tryz.prog 194 #[.pointer (some ⟨g,0,none⟩),.string r,.int .i64 ar] wr fun e w' =>
     ∃ a nn cap,e = .returned (.tuple #[itV x a nn cap,.int .i64 n])∧ItsIn wr.heap.size w' x.xs a nn cap∧Tal w' g k2∧wr.grownBy w' (some g)):=hid hrd
    obtain ⟨p1,p2,p3,p4⟩:=(props r.data.toList.length).1 _ _ _ _ _ _ (Nat.le_refl _) hrr;rw [← size_len] at p2;have hg:=HGl.out;rw [glue_more hne p1 hrr] at hg;have HGl2:=hid hg;have hlv:=HRow.out.lt;have HOk:Hid (∀ j,u7.ownBlock=some j→w.heap.size≤j∧g≠j):=hid (fun j hj=>⟨(hlv j hj).1,by have:=(hlv j hj).1; omega⟩);have HOl:Hid (∀ j,u7.ownBlock=some j→j<wr.heap.size):=hid (fun j hj=>(hlv j hj).2);have hrb:r.size≤9223372036854775807:=by omega
    clear HRd hrd hrr HGl hne hg hlv;unfold itV at HD;go_wp2_with fail
    with_reducible refine HD.out.mono ?_
    rintro e w1 ⟨A,N,C,rfl,hI,ht,hg1⟩;have hz1:=hg1.size;have hD:Below w1.heap.size w1 (w1.alloc (.cells #[.bool x.l,.string x.s,.slice A N C] 168)).drew:=(al1 _ _).drew;have HR1:=hid ((HRow.out.gb hg1 hgl).below' hD);have HI1:Hid (ItsP (fun b=>w.heap.size≤b∧u7.ownBlock≠some b) (w1.alloc (.cells #[.bool x.l,.string x.s,.slice A N C] 168)).drew x.xs A N C):=hid ((hI.to (fun b _ hb=>⟨Nat.le_trans HG.out.size hb,fun e=>by have:=HOl.out b e; omega⟩)).stays hD);have HT1:=hid (ht.below hD)
    have HG1:=hid (gb_trans (gb_trans HG.out hg1) (gb_of hD));have HZ1:Hid (w.heap.size≤(w1.alloc (.cells #[.bool x.l,.string x.s,.slice A N C] 168)).drew.heap.size):=hid (Nat.le_trans HG.out.size (Nat.le_trans hz1 hD.size));have hOx:Rg.Own (w1.alloc (.cells #[.bool x.l,.string x.s,.slice A N C] 168)) w1.heap.size (itC x A N C) 168:=Rg.Own.new _ _ _;have HOw:Hid (u7.ownBlock≠some w1.heap.size):=hid (fun e=>by have:=HOl.out _ e; omega);have HN:Hid (xs.length≤4096):=hid (by omega);clear hI ht hg1 hz1 hD HD;go_wp2_with fail
    refine wp_region_noPanic ?_;refine wp_region_held_drew (S:=fun w'=>Rg.Own w' w1.heap.size (itC x A N C) 168) (by kernel_rfl) (hOx.drew) (fun hld=>?_);refine Rg.tk (i:=0) rfl ?_;try simp only [Act.put,Rg.s]
    refine Rg.tk (i:=1) rfl ?_ (hy:=by intro wz hSw; obtain ⟨z0,z1,z2⟩:=lies_row hSw.2; go_simp <;> with_reducible rfl);try simp only [Act.put,Rg.s]
    refine Rg.tk (i:=4) rfl ?_;try simp only [Act.put,Rg.s]
    refine Rg.tk (i:=5) rfl ?_;try simp only [Act.put,Rg.s]
    refine Rg.tk (i:=6) rfl ?_ (hy:=by intro wz hSw; have hz6:(n:Int)≤(r.size:Int):=(by omega); go_simp <;> with_reducible rfl);try simp only [Act.put,Rg.s]
    refine Rg.rd (i:=2) rfl fun K hK=>?_;refine meetItem (x:=x) (by rfl) ⟨_,rfl,rfl⟩ ?_;rintro wv0 b2 h2 hbx;have HR0:=hid (HR1.out.below' hbx);have HI0:=hid (HI1.out.stays hbx);have HT0:=hid (HT1.out.below hbx);have HG0:=hid (gb_trans HG1.out (gb_of hbx));have HZ0:=hid (Nat.le_trans HZ1.out hbx.size);refine hK.out _ _ ?_ (fun hld=>?_)
    ·exact hld.below hbx
    clear hK K hbx;try simp only [Act.put,Rg.s]
    refine Rg.rd (i:=3) rfl fun K hK=>?_;refine meetPush (by rfl) ⟨_,_,rfl,rfl,rfl⟩ HR0.out h2 HI0.out HN.out HZ0.out ?_;rintro v' wv9 hr9 hg9;have HR9:=hid hr9;have HT9:=hid (HT0.out.gb hg9 (fun k hk=>(HOk.out k hk).2));have HG9:=hid (gb_up HG0.out hg9 (fun k hk=>(HOk.out k hk).1));have hown:=own_gb' hld hg9 (fun e=>HOw.out e);refine hK.out _ _ ?_ (fun hld=>?_)
    ·exact hown
    clear hK K hown hr9 hg9;try simp only [Act.put,Rg.s]
    refine Rg.tk (i:=7) rfl ?_;try simp only [Act.put,Rg.s]
    refine Rg.tk (i:=8) rfl ?_;try simp only [Act.put,Rg.s]
    refine wpAnyH_done (by kernel_rfl) ?_ _;refine NoPanic.normal ?_;have HE:Hid ((r.extract n r.size).data.toList=r.data.toList.drop n):=hid (rest_bytes r n p2);have hes:(r.extract n r.size).size=r.size-n:=by rw [ByteArray.size_extract]; omega
    obtain ⟨r2,hr2⟩:∃ r2,r.extract n r.size=r2:=⟨_,rfl⟩
    rw [hr2] at HE hes;simp only [hr2];clear hr2;go_wp2;go_roundw
    case rel=>exact ⟨r2,xs++[x],k2,rfl,by omega,p4,by rw [List.length_append,List.length_singleton]; omega,hid (by rw [HE.out]; exact HGl2.out),hid HR9.out,hid HT9.out,hid HG9.out⟩
    case measure=>simp [restSize]; omega
end Rl
end
section
open Go.RowKit
namespace Rl
open Pk
theorem read_tells (s:ByteArray) (hsz:s.size≤9223372036854775807) (hA:∀ t:ByteArray,t.size<s.size→AllC t):ReadC s:=by
 intro around k g ar w har ha hk hT;rw [readL_eq];by_cases h1:64<around
 ·rw [if_pos h1]; exact read_deep s around k g ar w har h1 hk hT
 ·rw [if_neg h1];by_cases h2:4096<k+1
  ·rw [if_pos h2]; exact read_big s around k g ar w har (by omega) hk h2 hT
  ·rw [if_neg h2];cases hh:headE s.data.toList with
   | error c=>exact read_head s around k g ar c w har (by omega) (by omega) hT hh
   | ok r =>
    obtain ⟨l,a,v⟩:=r;dsimp only;have hp:a≤s.size∧1≤a+v∧v<2 ^ 64∧(l=true→1≤a):=by
     cases hl:s.data.toList with
     | nil=>rw [hl] at hh; cases hh
     | cons c t =>
      rw [hl] at hh;have hsl:s.size=t.length+1:=by rw [size_len,hl]; rfl
      obtain ⟨q1,q2,q3,_,q5⟩:=headE_props hh;exact ⟨by omega,q2,q3,q5⟩
    obtain ⟨hp1,hp2,hp3,hp4⟩:=hp;rw [← size_len];by_cases h3:s.size-a<v
    ·rw [if_pos h3]; exact read_short s around k g ar w l a v har (by omega) (by omega) hT hh hsz hp1 h3
    ·rw [if_neg h3];have has:a+v≤s.size:=by omega
     cases l with
     | true =>
      rw [if_pos rfl];exact read_list s around k g ar w a v har (by omega) (by omega) hT hh hsz has (hA _ (by rw [ByteArray.size_extract]; have:=hp4 rfl; omega))
     | false =>
      rw [if_neg (by decide)];by_cases h4:a=1∧v=1∧((s.data.toList.drop 1).headD 0).toNat<128
      ·rw [if_pos h4];exact read_one s around k g ar w a v har (by omega) (by omega) hT hh hsz has h4.1 h4.2.1 h4.2.2
      ·rw [if_neg h4];by_cases h5:a=1
       ·by_cases h6:v=1
        ·exact read_text3 s around k g ar w a v har (by omega) (by omega) hT hh hsz has h5 h6 (by
          have:¬ ((s.data.toList.drop 1).headD 0).toNat<128:=fun e=>h4 ⟨h5,h6,e⟩;omega)
        ·exact read_text2 s around k g ar w a v har (by omega) (by omega) hT hh hsz has h5 h6
       ·exact read_text1 s around k g ar w a v har (by omega) (by omega) hT hh hsz has h5
theorem tells (N:Nat):∀ s:ByteArray,s.size≤N→s.size≤9223372036854775807→ReadC s∧AllC s:=by
 induction N using Nat.strongRecOn with
 | ind N ih =>
  have hr:∀ s:ByteArray,s.size≤N→s.size≤9223372036854775807→ReadC s:=fun s hN hs =>
   read_tells s hs fun t ht=>(ih t.size (by omega) t (Nat.le_refl _) (by omega)).2
  exact fun s hN hs=>⟨hr s hN hs,all_tells s hs fun t ht=>hr t (by omega) (by omega)⟩
structure Fr (ks:List Nat) (w w':World):Prop where
 os:w'.os=w.os
 tape:w'.tape=w.tape
 output:w'.output=w.output
 size:w.heap.size≤w'.heap.size
 block:∀ k,k<w.heap.size→k ∉ ks→w'.heap[k]? = w.heap[k]?
theorem Fr.of {g:Nat} {ks:List Nat} {w w':World} (h:w.grownBy w' (some g)) (hg:g∈ks):Fr ks w w' :=
 ⟨h.os,h.tape,h.output,h.size,fun k hk hn=>h.block k hk (fun e=>hn (by rw [Option.some.inj e]; exact hg))⟩
theorem Fr.row {g:Nat} {ks:List Nat} {w w1:World} (h:Fr ks w w1) (hg:g∈ks) (cs:Array Value):Fr ks w (w1.setRow g cs) :=
 ⟨h.os,h.tape,h.output,by simp; exact h.size,fun k hk hn=>(setRow_other w1 g k cs (fun e=>hn (e ▸ hg))).trans (h.block k hk hn)⟩
theorem Fr.below {ks:List Nat} {B:Nat} {w0 w w':World} (h:Fr ks w w') (hb:Below B w0 w) (hB:B≤w0.heap.size) (hk:∀ k,k∈ks→B≤k):Below B w0 w' :=
 ⟨h.os.trans hb.os,h.tape.trans hb.tape,h.output.trans hb.output,Nat.le_trans hb.size h.size,fun k hlt=>(h.block k (Nat.lt_of_lt_of_le hlt (Nat.le_trans hB hb.size)) (fun e=>by have:=hk k e; omega)).trans (hb.block k hlt)⟩
theorem Fr.own {ks:List Nat} {w w':World} {b:Nat} {cs:Array Value} {T:TypeId} (h:Fr ks w w') (ho:Rg.Own w b cs T) (hn:b ∉ ks):Rg.Own w' b cs T :=
 ⟨Nat.lt_of_lt_of_le ho.1 h.size,(h.block b ho.1 hn).trans ho.2⟩
theorem own_row {w:World} {b g:Nat} {cs cs':Array Value} {T:TypeId} (h:Rg.Own w b cs T) (hne:b≠g):Rg.Own (w.setRow g cs') b cs T :=
 ⟨by simp; exact h.1,(setRow_other w g b cs' hne).trans h.2⟩
theorem own_row_same {w:World} {b:Nat} {cs cs':Array Value} {T:TypeId} (h:Rg.Own w b cs T):Rg.Own (w.setRow b cs') b cs' T :=
 ⟨by simp; exact h.1,setRow_heap _ _ _ _ _ _ h.2⟩
theorem getDo_ok (s:ByteArray) (hC:ReadC s) (x:It) (n k':Nat) (hr:readL s.data.toList 0 0 = .ok (x,n,k')) (g bs bx bn:Nat) (w:World) (hT:Tal w g 0) (hS:Rg.Own w bs #[.string s] 9) (hX:Rg.Own w bx (itC it0 none 0 0) 168) (hN:Rg.Own w bn #[.int .i64 0] 3)
  (h2:bx≠g) (h3:bn≠g) (h4:bn≠bx) :
  Calls Tryz.prog 193 #[.pointer (some ⟨g,0,none⟩),.pointer (some ⟨bs,0,none⟩),.pointer (some ⟨bx,0,none⟩),.pointer (some ⟨bn,0,none⟩)] w fun e w' =>
   e = .returned (.tuple #[])∧∃ a nn cap,Rg.Own w' bx (itC x a nn cap) 168∧Rg.Own w' bn #[.int .i64 n] 3∧ItsIn w.heap.size w' x.xs a nn cap∧Fr [g,bx,bn] w w':=by
 have hd:=hC 0 0 g 0 w rfl (by omega) (by omega) hT;rw [hr] at hd;have HD:Hid (Calls Tryz.prog 194 #[.pointer (some ⟨g,0,none⟩),.string s,.int .i64 0] w fun e w' =>
   ∃ a nn cap,e = .returned (.tuple #[itV x a nn cap,.int .i64 n])∧ItsIn w.heap.size w' x.xs a nn cap∧Tal w' g k'∧w.grownBy w' (some g)):=hid hd
 obtain ⟨c0,_⟩:=own_one hS;have HX:=hid hX;have HN:=hid hN;unfold itV at HD;clear hd hC hr hT hS hX hN;go_enter Tryz.func193,Tryz.ntmps193;go_wp2_with fail
 with_reducible refine HD.out.mono ?_
 rintro e w1 ⟨a,nn,cap,rfl,hI,_,hg⟩;have HO1:=hid (own_gb HX.out hg h2);have HO2:=hid (own_gb HN.out hg h3);have HI:=hid hI;have HF:=hid (Fr.of (ks:=[g,bx,bn]) hg (by simp));have HO3:=hid (own_row HO2.out (cs':=itC x a nn cap) h4);clear hI hg c0;go_wp2_with (first | (refine wpList_store_rowTo rfl 168 _ _ rfl rfl _ (itC x a nn cap) rfl rfl 168 (itC it0 none 0 0) HO1.out.2 (info_itC _ _ _ _) rfl (itC_one _ _ _ _) ?_) | (refine wpList_store_oneTo rfl 3 _ _ rfl rfl _ (.int .i64 n) rfl rfl rfl 3 (.int .i64 0) HO3.out.2 (by kernel_rfl) ?_))
 go_end0;refine ⟨rfl,a,nn,cap,own_row (own_row_same HO1.out) (Ne.symm h4),own_row_same HO3.out,?_,(HF.out.row (by simp) _).row (by simp) _⟩;exact ItsIn_row (ItsIn_row HI.out HX.out.1 _) HN.out.1 _
theorem getDo_err (s:ByteArray) (hC:ReadC s) (c:Int) (hr:readL s.data.toList 0 0 = .error c) (g bs bx bn:Nat) (w:World) (hT:Tal w g 0) (hS:Rg.Own w bs #[.string s] 9) :
  Calls Tryz.prog 193 #[.pointer (some ⟨g,0,none⟩),.pointer (some ⟨bs,0,none⟩),.pointer (some ⟨bx,0,none⟩),.pointer (some ⟨bn,0,none⟩)] w fun e w'=>e = .panicked [errP c]∧w.grownBy w' (some g):=by
 have hd:=hC 0 0 g 0 w rfl (by omega) (by omega) hT;rw [hr] at hd;have HD:Hid (Calls Tryz.prog 194 #[.pointer (some ⟨g,0,none⟩),.string s,.int .i64 0] w fun e w'=>e = .panicked [errP c]∧w.grownBy w' (some g)):=hid hd;obtain ⟨c0,_⟩:=own_one hS;clear hd hC hr hT hS;go_enter Tryz.func193,Tryz.ntmps193;go_wp2_with fail
 with_reducible refine HD.out.mono ?_
 rintro e w1 ⟨rfl,hg⟩;have HG:=hid hg;clear hg;go_wp2;simp [bodyPost];exact HG.out
theorem its_upd {B g:Nat} {w w':World} {xs:List It} {a:Option Addr} {n cap:Nat} (h:ItsIn B w xs a n cap) (hu:Rg.Upd w g w') (hg:g<B):ItsIn B w' xs a n cap :=
 ItsIn.kept h (Nat.le_of_eq hu.size.symm) (fun b o hB _=>World.cell?_of_block (a:=⟨b,o,none⟩) (hu.block b (by omega)))
def getW (s:ByteArray) (w:World):World:=((((w.alloc (.cells #[.string s] 9)).alloc (.cells #[.bool false,.string ⟨#[]⟩,.slice none 0 0] 168)).alloc (.cells #[.int .i64 0] 197)).alloc (.cells #[.bool false,.string ⟨#[]⟩,.slice none 0 0] 168)).alloc (.cells #[.int .i64 0] 3)
abbrev getDo (w:World):Value:=.func (.func 193) #[] #[.pointer (some ⟨w.heap.size+2,0,none⟩),.pointer (some ⟨w.heap.size,0,none⟩),.pointer (some ⟨w.heap.size+3,0,none⟩),.pointer (some ⟨w.heap.size+4,0,none⟩)]
theorem getW_facts (s:ByteArray) (w:World):(getW s w).heap.size=w.heap.size+5∧Below w.heap.size w (getW s w)∧Rg.Own (getW s w) w.heap.size #[.string s] 9∧Rg.Own (getW s w) (w.heap.size+1) (itC it0 none 0 0) 168 ∧
  Rg.Own (getW s w) (w.heap.size+2) #[.int .i64 0] 197∧Rg.Own (getW s w) (w.heap.size+3) (itC it0 none 0 0) 168∧Rg.Own (getW s w) (w.heap.size+4) #[.int .i64 0] 3:=by
 unfold getW;obtain ⟨w1,h1⟩:∃ w1,w1=w.alloc (.cells #[.string s] 9):=⟨_,rfl⟩
 have s1:w1.heap.size=w.heap.size+1:=by rw [h1]; simp
 have o1:Rg.Own w1 w.heap.size #[.string s] 9:=by rw [h1]; exact Rg.Own.new _ _ _
 have b1:Below w.heap.size w w1:=by rw [h1]; exact al1 _ _
 rw [← h1];obtain ⟨w2,h2⟩:∃ w2,w2=w1.alloc (.cells #[.bool false,.string ⟨#[]⟩,.slice none 0 0] 168):=⟨_,rfl⟩
 have s2:w2.heap.size=w.heap.size+2:=by rw [h2]; simp; omega
 have o2:Rg.Own w2 w1.heap.size (itC it0 none 0 0) 168:=by rw [h2]; exact Rg.Own.new _ _ _
 have b2:Below w1.heap.size w1 w2:=by rw [h2]; exact al1 _ _
 rw [← h2];obtain ⟨w3,h3⟩:∃ w3,w3=w2.alloc (.cells #[.int .i64 0] 197):=⟨_,rfl⟩
 have s3:w3.heap.size=w.heap.size+3:=by rw [h3]; simp; omega
 have o3:Rg.Own w3 w2.heap.size #[.int .i64 0] 197:=by rw [h3]; exact Rg.Own.new _ _ _
 have b3:Below w2.heap.size w2 w3:=by rw [h3]; exact al1 _ _
 rw [← h3];obtain ⟨w4,h4⟩:∃ w4,w4=w3.alloc (.cells #[.bool false,.string ⟨#[]⟩,.slice none 0 0] 168):=⟨_,rfl⟩
 have s4:w4.heap.size=w.heap.size+4:=by rw [h4]; simp; omega
 have o4:Rg.Own w4 w3.heap.size (itC it0 none 0 0) 168:=by rw [h4]; exact Rg.Own.new _ _ _
 have b4:Below w3.heap.size w3 w4:=by rw [h4]; exact al1 _ _
 rw [← h4];obtain ⟨w5,h5⟩:∃ w5,w5=w4.alloc (.cells #[.int .i64 0] 3):=⟨_,rfl⟩
 have s5:w5.heap.size=w.heap.size+5:=by rw [h5]; simp; omega
 have o5:Rg.Own w5 w4.heap.size #[.int .i64 0] 3:=by rw [h5]; exact Rg.Own.new _ _ _
 have b5:Below w4.heap.size w4 w5:=by rw [h5]; exact al1 _ _
 rw [← h5];rw [s1] at o2;rw [s2] at o3;rw [s3] at o4;rw [s4] at o5;exact ⟨s5,bst (bst (bst (bst b1 b2) b3) b4) b5,(((o1.below b2).below b3).below b4).below b5,((o2.below b3).below b4).below b5,(o3.below b4).below b5,o4.below b5,o5⟩
theorem get_core (s:ByteArray) (x:It) (n c:Int) (w:World) (P:Option Addr→Nat→Nat→Prop) (H:Calls Tryz.prog 141 #[getDo w] (getW s w) fun e w'=>e = .returned (.int .i64 c) ∧
   ∃ a nn cap,Rg.Own w' (w.heap.size+3) (itC x a nn cap) 168∧Rg.Own w' (w.heap.size+4) #[.int .i64 n] 3∧Rg.Own w' (w.heap.size+1) (itC it0 none 0 0) 168∧P a nn cap∧ItsIn (w.heap.size+5) w' x.xs a nn cap∧Below w.heap.size w w') :
  Calls Tryz.prog 180 #[.string s] w fun e w'=>∃ a nn cap,e = .returned (.tuple #[itV x a nn cap,.int .i64 n,.int .i64 c])∧P a nn cap∧ItsIn (w.heap.size+5) w' x.xs a nn cap∧Below w.heap.size w w':=by
 have hmf:∀ (fn:Fn) (first cap:Array Value) (w:World),(Instr.makeFunc fn first cap).run Tryz.prog w = .ok (.func fn first cap) w:=fun _ _ _ _=>rfl;have HC:=hid H;clear H;obtain ⟨w5,hw5⟩:∃ w5,w5=getW s w:=⟨_,rfl⟩
 rw [← hw5] at HC;unfold getW at hw5;go_enter Tryz.func180,Tryz.ntmps180;go_wp2_with fail
 rw [← hw5]
 with_reducible refine HC.out.mono ?_
 rintro e w6 ⟨rfl,a,nn,cap,hX,hN,hO,hP,hI6,hB6⟩;have HP:=hid hP;have HI6:=hid hI6;have HB6:=hid hB6;clear hI6 hB6 hP HC hw5;go_wp2_with fail
 refine wp_region_noPanic ?_;refine wp_region_held_drew (S:=fun w'=>Rg.Own w' (w.heap.size+3) (itC x a nn cap) 168∧Rg.Own w' (w.heap.size+4) #[.int .i64 n] 3) (by kernel_rfl) (⟨hX.drew,hN.drew⟩) (fun hld=>?_);refine Rg.tk (i:=0) rfl ?_ (hy:=by intro wz hSw; obtain ⟨z0,z1,z2⟩:=lies_row hSw.1.2; go_simp <;> with_reducible rfl);try simp only [Act.put,Rg.s]
 refine Rg.tk (i:=1) rfl ?_ (hy:=by intro wz hSw; have z:=(own_one hSw.2).1; go_simp <;> with_reducible rfl);try simp only [Act.put,Rg.s]
 refine Rg.tk (i:=2) rfl ?_;try simp only [Act.put,Rg.s]
 refine Rg.rd (i:=3) rfl fun K hK=>?_;refine Rg.meetStore (by rfl) hO 168 (itC x a nn cap) ⟨_,_,rfl,rfl,rfl⟩ (info_itC _ _ _ _) rfl (itC_one _ _ _ _) ?_;rintro wv9 hn9 hu;have hx9:=hld.1.upd hu (by omega);have hm9:=hld.2.upd hu (by omega);have HB9:=hid (hu.below (B:=w.heap.size) HB6.out.drew (by omega));have HI9:=hid (its_upd (HI6.out.stays (Below.refl _ _).drew) hu (by omega));refine hK.out _ _ ?_ (fun hld=>?_)
 ·exact ⟨hx9,hm9⟩
 clear hK K hu hx9 hm9 hO;try simp only [Act.put]
 refine Rg.tk (i:=4) rfl ?_;try simp only [Act.put,Rg.s]
 refine Rg.tk (i:=5) rfl ?_;try simp only [Act.put,Rg.s]
 refine wpAnyH_done (by kernel_rfl) ?_ _;refine NoPanic.normal ?_;go_wp2;exact bodyPost_ret (res_item2 rfl _ rfl (lies_row hn9.2)) rfl ⟨a,nn,cap,rfl,HP.out,HI9.out,HB9.out⟩
def GetPost (w:World):Except Int (It × Nat × Nat)→Ending→World→Prop
 | .error c=>fun e w'=>e = .returned (.tuple #[itV it0 none 0 0,.int .i64 0,.int .i64 c])∧Below w.heap.size w w'
 | .ok (x,n,_)=>fun e w'=>∃ a nn cap,e = .returned (.tuple #[itV x a nn cap,.int .i64 n,.int .i64 0])∧ItsIn w.heap.size w' x.xs a nn cap∧Below w.heap.size w w'
theorem get_any (s:ByteArray) (hsz:s.size≤9223372036854775807) (w:World):Calls Tryz.prog 180 #[.string s] w (GetPost w (readL s.data.toList 0 0)):=by
 have hC:=(tells s.size s (Nat.le_refl _) hsz).1;obtain ⟨f0,f1,f2,f3,f4,f5,f6⟩:=getW_facts s w;have hE:Rg.Own ((getW s w).alloc (.cells #[.int .i64 0] 62)) (getW s w).heap.size #[.int .i64 0] 62:=Rg.Own.new _ _ _;have hA:=al1 (getW s w) (.cells #[.int .i64 0] 62);have g2:=f2.below hA;have g3:=f3.below hA;have g4:=f4.below hA;have g5:=f5.below hA;have g6:=f6.below hA;have g1:=bst f1 hA;have gs:((getW s w).alloc (.cells #[.int .i64 0] 62)).heap.size=w.heap.size+6:=by simp; omega
 cases hr:readL s.data.toList 0 0 with
 | error c =>
  refine (get_core s it0 0 c w (fun a nn cap=>a=none∧nn=0∧cap=0) ((caught_err 193 _ (by intro wx; kernel_rfl) (getW s w) c
   (fun w'=>((getW s w).alloc (.cells #[.int .i64 0] 62)).grownBy w' (some (w.heap.size+2))) (by
    refine (getDo_err s hC c hr (w.heap.size+2) w.heap.size (w.heap.size+3) (w.heap.size+4) _ (own_one g4) g2).mono ?_;rintro e w' ⟨rfl,hg⟩;exact ⟨rfl,own_one (own_gb hE hg (by omega)),hg⟩)).mono ?_)).mono ?_
  ·rintro e w' ⟨rfl,w1,hg,rfl⟩;exact ⟨rfl,none,0,0,own_set (own_gb g5 hg (by omega)) _ (by omega),own_set (own_gb g6 hg (by omega)) _ (by omega),own_set (own_gb g3 hg (by omega)) _ (by omega),⟨rfl,rfl,rfl⟩,ItsIn.nil _ _,
    (gb_below g1 hg (Nat.le_refl _) (by omega)).setCell (p:=⟨(getW s w).heap.size,0,none⟩) (by show w.heap.size≤(getW s w).heap.size; omega) _⟩
  ·rintro e w' ⟨a,nn,cap,rfl,⟨rfl,rfl,rfl⟩,_,hb⟩;exact ⟨rfl,hb⟩
 | ok r =>
  obtain ⟨x,n,k'⟩:=r;refine (get_core s x n 0 w (fun _ _ _=>True) ((caught_ok 193 _ (by intro wx; kernel_rfl) (getW s w)
   (fun w'=>∃ a nn cap,Rg.Own w' (w.heap.size+3) (itC x a nn cap) 168∧Rg.Own w' (w.heap.size+4) #[.int .i64 n] 3∧ItsIn (w.heap.size+6) w' x.xs a nn cap∧Fr [w.heap.size+2,w.heap.size+3,w.heap.size+4] ((getW s w).alloc (.cells #[.int .i64 0] 62)) w') (by
    refine (getDo_ok s hC x n k' hr (w.heap.size+2) w.heap.size (w.heap.size+3) (w.heap.size+4) _ (own_one g4) g2 g5 g6 (by omega) (by omega) (by omega)).mono ?_;rintro e w' ⟨rfl,a,nn,cap,e1,e2,e3,e4⟩;rw [gs] at e3;exact ⟨rfl,own_one (e4.own hE (by simp; omega)),a,nn,cap,e1,e2,e3,e4⟩)).mono ?_)).mono ?_
  ·rintro e w' ⟨rfl,w1,⟨a,nn,cap,e1,e2,e3,e4⟩,rfl⟩;refine ⟨rfl,a,nn,cap,own_set e1 _ (by omega),own_set e2 _ (by omega),own_set (e4.own g3 (by simp)) _ (by omega),trivial,?_,?_⟩
   ·refine ItsIn.weak (ItsIn.kept e3 (by simp) (fun b o hB _=>World.cell?_of_block (a:=⟨b,o,none⟩) (Below.heap_setCell w1 _ _ b (by show b≠(getW s w).heap.size; omega)))) (by omega)
   ·exact (e4.below g1 (Nat.le_refl _) (by simp)).setCell (p:=⟨(getW s w).heap.size,0,none⟩) (by show w.heap.size≤(getW s w).heap.size; omega) _
  ·rintro e w' ⟨a,nn,cap,rfl,_,hI,hb⟩;exact ⟨a,nn,cap,rfl,ItsIn.weak hI (by omega),hb⟩
end Rl
end
section
open Go.RowKit
namespace Rl
open Pk
def wholeL (s:List UInt8):Except Int It :=
 match readL s 0 0 with
 | .error c=>.error c
 | .ok (x,n,_)=>if n<s.length then .error 6 else .ok x
def WholePost (w:World):Except Int It→Ending→World→Prop
 | .error c=>fun e w'=>e = .returned (.tuple #[itV it0 none 0 0,.int .i64 c])∧Below w.heap.size w w'
 | .ok x=>fun e w'=>∃ a nn cap,e = .returned (.tuple #[itV x a nn cap,.int .i64 0])∧ItsIn w.heap.size w' x.xs a nn cap∧Below w.heap.size w w'
theorem head_codes {s:List UInt8} {c:Int} (h:headE s = .error c):0<c:=by
 cases s with
 | nil=>cases h; decide
 | cons d t =>
  dsimp only [headE] at h;generalize (if 192≤d.toNat then 192 else 128)=M at h;split at h
  ·cases h
  ·split at h
   ·cases h
   ·split at h
    ·cases h; decide
    ·split at h
     ·cases h; decide
     ·cases h
theorem codes (N:Nat):(∀ (s:List UInt8) (around k:Nat) (c:Int),s.length≤N→readL s around k = .error c→0<c)∧(∀ (s:List UInt8) (around k:Nat) (c:Int),s.length≤N→allL s around k = .error c→0<c):=by
 induction N using Nat.strongRecOn with
 | ind N ih =>
  have hread:∀ (s:List UInt8) (around k:Nat) (c:Int),s.length≤N→readL s around k = .error c→0<c:=by
   intro s around k c hN h;cases s with
   | nil =>
    rw [readL] at h;split at h
    ·cases h; decide
    ·split at h <;> (cases h; decide)
   | cons d t =>
    rw [readL] at h;split at h
    ·cases h; decide
    ·split at h
     ·cases h; decide
     ·split at h
      ·rename_i hh; cases h; exact head_codes hh
      ·rename_i a v hh;split at h
       ·cases h; decide
       ·split at h
        ·rename_i ha;cases h;rw [List.length_cons] at hN;exact (ih (N-1) (by omega)).2 _ _ _ _ (by rw [List.length_take,List.length_drop]; omega) ha
        ·cases h
      ·split at h
       ·cases h; decide
       ·split at h
        ·cases h; decide
        ·cases h
  refine ⟨hread,fun s around k c hN h=>?_⟩;cases s with
  | nil=>rw [allL] at h; cases h
  | cons d t =>
   rw [allL] at h;split at h
   ·rename_i hr; cases h; exact hread _ _ _ _ hN hr
   ·split at h
    ·rename_i ha;cases h;rw [List.length_cons] at hN;exact (ih (N-1) (by omega)).2 _ _ _ _ (by rw [List.length_drop]; omega) ha
    ·cases h
theorem whole_any (s:ByteArray) (hsz:s.size≤9223372036854775807) (w:World):Calls Tryz.prog 159 #[.string s] w (WholePost w (wholeL s.data.toList)):=by
 have hg:=get_any s hsz (w.alloc (.cells #[.bool false,.string ⟨#[]⟩,.slice none 0 0] 168));unfold wholeL;have hO:Rg.Own (w.alloc (.cells #[.bool false,.string ⟨#[]⟩,.slice none 0 0] 168)) w.heap.size (itC it0 none 0 0) 168:=Rg.Own.new _ _ _;have HO:=hid hO;clear hO;cases hr:readL s.data.toList 0 0 with
 | error c =>
  have hc:0<c:=(codes s.data.toList.length).1 _ _ _ _ (Nat.le_refl _) hr;rw [hr] at hg;have HG:Hid (Calls Tryz.prog 180 #[.string s] (w.alloc (.cells #[.bool false,.string ⟨#[]⟩,.slice none 0 0] 168)) fun e w'=>e = .returned (.tuple #[itV it0 none 0 0,.int .i64 0,.int .i64 c])∧Below (w.alloc (.cells #[.bool false,.string ⟨#[]⟩,.slice none 0 0] 168)).heap.size (w.alloc (.cells #[.bool false,.string ⟨#[]⟩,.slice none 0 0] 168)) w'):=hid hg;have hne:(c != 0)=true:=by simp; omega
  clear hg hr hc;dsimp only [WholePost];unfold itV at HG;dsimp only [it0,It.l,It.s] at HG;go_enter Tryz.func159,Tryz.ntmps159;go_wp2_with fail
  with_reducible refine HG.out.mono ?_
  rintro e w1 ⟨rfl,hb⟩;have HO1:=hid ((HO.out.below hb).below (al1 w1 (.cells #[.bool false,.string ⟨#[]⟩,.slice none 0 0] 168)));have HB1:=hid (bst (of_al (al_of hb)) (al1 w1 (.cells #[.bool false,.string ⟨#[]⟩,.slice none 0 0] 168)));clear hb;go_wp2_with (refine wpList_store_rowTo rfl 168 _ _ rfl rfl w.heap.size (itC it0 none 0 0) rfl rfl 168 (itC it0 none 0 0) HO1.out.2 (info_itC _ _ _ _) rfl (itC_one _ _ _ _) ?_)
  exact bodyPost_ret (res_item1 rfl _ rfl (lies_row (setRow_heap _ _ _ _ _ _ HO1.out.2))) rfl ⟨rfl,below_row HB1.out (Nat.le_refl _) _⟩
 | ok q =>
  obtain ⟨x,n,k'⟩:=q;obtain ⟨_,p2,_,_⟩:=(props s.data.toList.length).1 _ _ _ _ _ _ (Nat.le_refl _) hr;rw [hr] at hg;have HG:Hid (Calls Tryz.prog 180 #[.string s] (w.alloc (.cells #[.bool false,.string ⟨#[]⟩,.slice none 0 0] 168)) fun e w'=>∃ a nn cap,e = .returned (.tuple #[itV x a nn cap,.int .i64 n,.int .i64 0]) ∧
   ItsIn (w.alloc (.cells #[.bool false,.string ⟨#[]⟩,.slice none 0 0] 168)).heap.size w' x.xs a nn cap∧Below (w.alloc (.cells #[.bool false,.string ⟨#[]⟩,.slice none 0 0] 168)).heap.size (w.alloc (.cells #[.bool false,.string ⟨#[]⟩,.slice none 0 0] 168)) w'):=hid hg
  clear hg hr;unfold itV at HG;dsimp only;rw [← size_len] at p2 ⊢;by_cases hlt:n<s.size
  ·rw [if_pos hlt];dsimp only [WholePost];go_enter Tryz.func159,Tryz.ntmps159;go_wp2_with fail
   with_reducible refine HG.out.mono ?_
   rintro e w1 ⟨a,nn,cap,rfl,_,hb⟩;have HO1:=hid ((HO.out.below hb).below (al1 w1 (.cells #[.bool x.l,.string x.s,.slice a nn cap] 168)));have HB1:=hid (bst (of_al (al_of hb)) (al1 w1 (.cells #[.bool x.l,.string x.s,.slice a nn cap] 168)));clear hb;go_wp2_with (refine wpList_store_rowTo rfl 168 _ _ rfl rfl w.heap.size (itC it0 none 0 0) rfl rfl 168 (itC it0 none 0 0) HO1.out.2 (info_itC _ _ _ _) rfl (itC_one _ _ _ _) ?_)
   exact bodyPost_ret (res_item1 rfl _ rfl (lies_row (setRow_heap _ _ _ _ _ _ HO1.out.2))) rfl ⟨rfl,below_row HB1.out (Nat.le_refl _) _⟩
  ·rw [if_neg hlt];dsimp only [WholePost];go_enter Tryz.func159,Tryz.ntmps159;go_wp2_with fail
   with_reducible refine HG.out.mono ?_
   rintro e w1 ⟨a,nn,cap,rfl,hI,hb⟩;have HO1:=hid ((HO.out.below hb).below (al1 w1 (.cells #[.bool x.l,.string x.s,.slice a nn cap] 168)));have HB1:=hid (bst (of_al (al_of hb)) (al1 w1 (.cells #[.bool x.l,.string x.s,.slice a nn cap] 168)));have HI:=hid (hI.alloc (.cells #[.bool x.l,.string x.s,.slice a nn cap] 168));clear hb hI;go_wp2_with (refine wpList_store_rowTo rfl 168 _ _ rfl rfl w.heap.size (itC x a nn cap) rfl rfl 168 (itC it0 none 0 0) HO1.out.2 (info_itC _ _ _ _) rfl (itC_one _ _ _ _) ?_)
   exact bodyPost_ret (res_item1 rfl _ rfl (lies_row (setRow_heap _ _ _ _ _ _ HO1.out.2))) rfl ⟨a,nn,cap,rfl,ItsIn.weak (ItsIn_row HI.out (by simp) _) (by simp),below_row HB1.out (Nat.le_refl _) _⟩
end Rl
end
section
open Go.RowKit
namespace Rl
theorem valB_pos (l:List UInt8) (h:l.headD 0≠0):0<valB l:=by
 cases l with
 | nil=>exact absurd rfl h
 | cons c t =>
  have hc:0<c.toNat:=by
   rcases Nat.eq_zero_or_pos c.toNat with e | e
   ·exact absurd (UInt8.toNat_inj.1 (by simpa using e)) h
   ·exact e
  have key:∀ (t:List UInt8) (a:Nat),0<a→0<t.foldl (fun a b=>a*256+b.toNat) a:=by
   intro t
   induction t with
   | nil=>intro a ha; exact ha
   | cons d t ih=>intro a ha; exact ih (a*256+d.toNat) (by omega)
  unfold valB;exact key t (0*256+c.toNat) (by omega)
theorem bigL_valB (l:List UInt8) (h:l.headD 0≠0):bigL (valB l)=l:=by
 obtain ⟨N,hN⟩:∃ N,l.length=N:=⟨_,rfl⟩
 induction N generalizing l with
 | zero =>
  rw [List.eq_nil_of_length_eq_zero hN] at h;exact absurd rfl h
 | succ N ih =>
  have hne:l≠[]:=by rintro rfl; cases hN
  obtain ⟨d,c,rfl⟩:∃ d c,l=d++[c]:=⟨l.dropLast,l.getLast hne,(List.dropLast_concat_getLast hne).symm⟩
  have hd:d.length=N:=by simpa using hN
  have hpos:=valB_pos _ h;rw [valB_snoc] at hpos ⊢;rw [bigL_pos hpos];have hc:=c.toNat_lt;have e1:(valB d*256+c.toNat)/256=valB d:=by omega
  have e2:UInt8.ofNat (valB d*256+c.toNat)=c:=by
   apply UInt8.toNat_inj.1;simp only [UInt8.toNat_ofNat'];omega
  rw [e1,e2];cases d with
  | nil=>simp [valB,bigL_zero]
  | cons x y=>rw [ih (x::y) (by simpa using h) hd]
theorem valB_bigL (n:Nat):valB (bigL n)=n:=by
 induction n using Nat.strongRecOn with
 | ind n ih =>
  by_cases h:0<n
  ·rw [bigL_pos h,valB_snoc,ih (n/256) (by omega)];simp only [UInt8.toNat_ofNat'];omega
  ·obtain rfl:n=0:=by omega
   rw [bigL_zero]; rfl
theorem bigL_head (n:Nat) (h:0<n):(bigL n).headD 0≠0:=by
 induction n using Nat.strongRecOn with
 | ind n ih =>
  rw [bigL_pos h];by_cases h2:0<n/256
  ·have:=ih (n/256) (by omega) h2;cases hb:bigL (n/256) with
   | nil=>rw [hb] at this; exact absurd rfl this
   | cons c t=>rw [hb] at this; exact this
  ·rw [show n/256=0 by omega,bigL_zero];intro e;have e2:UInt8.ofNat n=0:=e;have:=congrArg UInt8.toNat e2;simp only [UInt8.toNat_ofNat'] at this;have e0:(0:UInt8).toNat=0:=rfl;omega
theorem mark_of (c:UInt8):(if 192≤c.toNat then 192 else 128)=mark (decide (192≤c.toNat)):=by
 unfold mark;by_cases h:192≤c.toNat <;> simp [h]
theorem mark_le (l:Bool):mark l=192∨mark l=128:=by cases l <;> simp [mark]
theorem head_back {c:UInt8} {t:List UInt8} {l:Bool} {a v:Nat} (h:headE (c::t) = .ok (l,a,v)) (ha:1≤a):(c::t).take a=headL v l:=by
 have hc:=c.toNat_lt;dsimp only [headE] at h;rw [mark_of] at h;obtain ⟨L,hL⟩:∃ L,decide (192≤c.toNat)=L:=⟨_,rfl⟩
 have hM:mark L≤c.toNat∨c.toNat<128:=by
  rw [← hL,← mark_of];split <;> omega
 rw [hL] at h;by_cases h1:c.toNat<128
 ·rw [if_pos h1] at h;have:=ok_inj h;simp only [Prod.mk.injEq] at this;omega
 ·rw [if_neg h1] at h;have hM2:mark L≤c.toNat:=by omega
  by_cases h2:c.toNat-mark L≤55
  ·rw [if_pos h2] at h;have:=ok_inj h;simp only [Prod.mk.injEq] at this;obtain ⟨rfl,rfl,rfl⟩:=this;unfold headL;rw [if_pos (by omega),show mark L+(c.toNat-mark L)=c.toNat by omega];simp
  ·rw [if_neg h2] at h;by_cases h3:t.length<c.toNat-mark L-55
   ·rw [if_pos h3] at h; cases h
   ·rw [if_neg h3] at h;obtain ⟨m,hm⟩:∃ m,c.toNat-mark L-55=m:=⟨_,rfl⟩
    rw [hm] at h h3;by_cases h4:t.headD 0=0∨valB (t.take m)≤55
    ·rw [if_pos h4] at h; cases h
    ·rw [if_neg h4] at h;have:=ok_inj h;simp only [Prod.mk.injEq] at this;obtain ⟨rfl,rfl,rfl⟩:=this;have hh:(t.take m).headD 0≠0:=by
      cases t with
      | nil=>exact absurd (.inl rfl) h4
      | cons x y =>
       have:0<m:=by omega
       rw [List.take_cons this];intro e;exact h4 (.inl e)
     unfold headL;rw [if_neg (by omega),bigL_valB _ hh,List.length_take,show min m t.length=m by omega,show mark L+55+m=c.toNat by omega,Nat.add_comm 1 m,List.take_succ_cons];simp
theorem headL_length (n:Nat) (l:Bool):1≤(headL n l).length:=by unfold headL; split <;> simp
theorem head_forth (n:Nat) (hn:n<2 ^ 64) (l:Bool) (t:List UInt8):headE (headL n l++t) = .ok (l,(headL n l).length,n):=by
 have hmk:=mark_le l;have hl:decide (192≤mark l)=l:=by cases l <;> rfl
 unfold headL;by_cases h:n<56
 ·rw [if_pos h];obtain ⟨c,hc⟩:∃ c,UInt8.ofNat (mark l+n)=c:=⟨_,rfl⟩
  have hcn:c.toNat=mark l+n:=by rw [← hc]; simp only [UInt8.toNat_ofNat']; omega
  rw [hc];show headE (c::t)=_;have hd:decide (192≤c.toNat)=l:=by
   rw [← hl,hcn];cases l <;> simp [mark] <;> omega
  dsimp only [headE];rw [mark_of,hd,if_neg (by omega),if_pos (by omega)];simp [hcn]
 ·rw [if_neg h];have h8:=bigL_length hn;have hv:=valB_bigL n;have hh:=bigL_head n (by omega);obtain ⟨B,hB⟩:∃ B,bigL n=B:=⟨_,rfl⟩
  rw [hB] at h8 hv hh ⊢;have h1:1≤B.length:=by
   cases B with
   | nil=>exact absurd rfl hh
   | cons _ _=>simp
  obtain ⟨c,hc⟩:∃ c,UInt8.ofNat (mark l+55+B.length)=c:=⟨_,rfl⟩
  have hcn:c.toNat=mark l+55+B.length:=by rw [← hc]; simp only [UInt8.toNat_ofNat']; omega
  rw [hc];show headE (c::(B++t))=_;have hd:decide (192≤c.toNat)=l:=by
   rw [← hl,hcn];cases l <;> simp [mark] <;> omega
  have e1:c.toNat-mark l-55=B.length:=by omega
  have e2:(B++t).take B.length=B:=by simp
  have e3:(B++t).headD 0=B.headD 0:=by
   cases B with
   | nil=>exact absurd rfl hh
   | cons _ _=>rfl
  dsimp only [headE];rw [mark_of,hd,if_neg (by omega),if_neg (by omega),if_neg (by rw [e1]; simp),e1,e2,e3,hv,if_neg (by
   rintro (e | e)
   ·exact hh e
   ·omega)]
  simp [Nat.add_comm]
theorem bytes_list (xs:List It) (h:((xs.map It.bytes).flatten).length≤4294967296):(It.mk true ⟨#[]⟩ xs).bytes=headL ((xs.map It.bytes).flatten).length true++(xs.map It.bytes).flatten:=by
 rw [It.bytes_eq,inner_mk];show frontL true _ ([]++_:List UInt8).length++([]++_)=_;rw [List.nil_append];unfold frontL;rw [if_neg (by simp),Nat.min_eq_left h]
theorem inner_text' (s:ByteArray):(It.mk false s []).inner=s.data.toList:=by
 rw [inner_mk,List.map_nil,List.flatten_nil,List.append_nil]
theorem bytes_text (s:ByteArray) (h:s.size≤4294967296):(It.mk false s []).bytes=(if s.size=1∧(s.data.toList.headD 0).toNat<128 then [] else headL s.size false)++s.data.toList:=by
 rw [It.bytes_eq,inner_text'];show frontL false s _++_=_;rw [len_s];unfold frontL;simp only [true_and];rw [Nat.min_eq_left h]
theorem back (N:Nat) (hN32:N≤4294967296):(∀ (s:List UInt8) (around k:Nat) (x:It) (n k':Nat),s.length≤N→readL s around k = .ok (x,n,k')→x.bytes=s.take n∧Fits around x∧k'=k+x.size) ∧
  (∀ (s:List UInt8) (around k:Nat) (xs:List It) (k':Nat),s.length≤N→allL s around k = .ok (xs,k')→(xs.map It.bytes).flatten=s∧(∀ y∈xs,Fits around y)∧k'=k+(xs.map It.size).sum):=by
 induction N using Nat.strongRecOn with
 | ind N ih =>
  have hread:∀ (s:List UInt8) (around k:Nat) (x:It) (n k':Nat),s.length≤N→readL s around k = .ok (x,n,k')→x.bytes=s.take n∧Fits around x∧k'=k+x.size:=by
   intro s around k x n k' hN h;cases s with
   | nil =>
    rw [readL] at h;split at h
    ·cases h
    ·split at h <;> cases h
   | cons c t =>
    rw [readL] at h;split at h
    ·cases h
    ·rename_i har;split at h
     ·cases h
     ·rename_i hk;rw [List.length_cons] at hN;split at h
      ·cases h
      ·rename_i a v hh;obtain ⟨h1,h2,h3,h4,h5⟩:=headE_props hh;have h6:=h5 rfl;split at h
       ·cases h
       ·rename_i hv;split at h
        ·cases h
        ·rename_i xs k2 hx;have:=ok_inj h;simp only [Prod.mk.injEq] at this;obtain ⟨rfl,rfl,rfl⟩:=this;have hl:((t.drop (a-1)).take v).length=v:=by rw [List.length_take,List.length_drop]; omega
         obtain ⟨g1,g2,g3⟩:=(ih (N-1) (by omega) (by omega)).2 _ _ _ _ _ (by rw [hl]; omega) hx;refine ⟨?_,.mk (by omega) (fun _=>rfl) (fun e=>by cases e) g2,?_⟩
         ·rw [bytes_list xs (by rw [g1,hl]; omega),g1,hl,List.take_add,← head_back hh h6];congr 2;obtain ⟨b,rfl⟩:∃ b,a=b+1:=⟨a-1,by omega⟩
          rfl
         ·rw [g3,It.size_mk]; omega
      ·rename_i a v hh;obtain ⟨h1,h2,h3,h4,h5⟩:=headE_props hh;split at h
       ·cases h
       ·rename_i hv;split at h
        ·cases h
        ·rename_i hbad;have:=ok_inj h;simp only [Prod.mk.injEq] at this;obtain ⟨rfl,rfl,rfl⟩:=this;have hl:(((c::t).drop a).take v).length=v:=by rw [List.length_take,List.length_drop,List.length_cons]; omega
         refine ⟨?_,.mk (by omega) (fun e=>by cases e) (fun _=>rfl) (fun y hy=>by cases hy),?_⟩
         ·have hsz:(⟨(((c::t).drop a).take v).toArray⟩:ByteArray).size=v:=by
           show (((c::t).drop a).take v).toArray.size=v;rw [List.size_toArray,hl]
          rw [bytes_text _ (by rw [hsz]; omega),hsz,List.take_add];show _++((c::t).drop a).take v=_;congr 1;by_cases ha:1≤a
          ·rw [if_neg,← head_back hh ha];rintro ⟨e1,e2⟩;apply hbad;obtain ⟨b,rfl⟩:∃ b,a=b+1:=⟨a-1,by omega⟩
           have hb:=head_back hh ha;rw [e1] at hb;have hlen:=congrArg List.length hb;rw [List.length_take,List.length_cons,show (headL 1 false).length=1 from rfl] at hlen;have hb0:b=0:=by omega
           subst hb0;refine ⟨rfl,e1,?_⟩;rw [e1] at e2;cases t with
           | nil=>simp at h1 hv; omega
           | cons d u=>exact e2
          ·obtain rfl:a=0:=by omega
           dsimp only [headE] at hh;rw [mark_of] at hh;by_cases hc:c.toNat<128
           ·rw [if_pos hc] at hh;have:=ok_inj hh;simp only [Prod.mk.injEq] at this;obtain ⟨_,_,rfl⟩:=this;rw [if_pos ⟨rfl,hc⟩];rfl
           ·exfalso;rw [if_neg hc] at hh;split at hh
            ·have:=ok_inj hh;simp only [Prod.mk.injEq] at this;omega
            ·split at hh
             ·cases hh
             ·split at hh
              ·cases hh
              ·have:=ok_inj hh;simp only [Prod.mk.injEq] at this;omega
         ·rw [It.size_mk]; simp
  refine ⟨hread,fun s around k xs k' hN h=>?_⟩;cases s with
  | nil =>
   rw [allL] at h;have:=ok_inj h;simp only [Prod.mk.injEq] at this;obtain ⟨rfl,rfl⟩:=this;exact ⟨rfl,(fun y hy=>absurd hy List.not_mem_nil),rfl⟩
  | cons c t =>
   rw [allL] at h;split at h
   ·cases h
   ·rename_i x n k2 hr;obtain ⟨p1,p2,p3,p4⟩:=(props N).1 _ _ _ _ _ _ hN hr;obtain ⟨g1,g2,g3⟩:=hread _ _ _ _ _ _ hN hr;split at h
    ·cases h
    ·rename_i ys k3 ha;have:=ok_inj h;simp only [Prod.mk.injEq] at this;obtain ⟨rfl,rfl⟩:=this;rw [List.length_cons] at hN;obtain ⟨e1,e2,e3⟩:=(ih (N-1) (by omega) (by omega)).2 _ _ _ _ _ (by rw [List.length_drop]; omega) ha;refine ⟨?_,fun y hy=>?_,?_⟩
     ·rw [List.map_cons,List.flatten_cons,g1,e1];obtain ⟨b,rfl⟩:∃ b,n=b+1:=⟨n-1,by omega⟩
      show (c::t).take (b+1)++t.drop b=_;rw [List.take_succ_cons,List.cons_append,List.take_append_drop]
     ·rcases List.mem_cons.1 hy with rfl | hy
      ·exact g2
      ·exact e2 y hy
     ·rw [e3,g3,List.map_cons,List.sum_cons]; omega
theorem bytes_pos {around:Nat} {x:It} (h:Fits around x) (hb:x.bytes.length≤4294967296):x.bytes≠[]:=by
 cases h with
 | mk ha hs hx h =>
  rename_i l s xs;have hi:=inner_le (.mk l s xs);cases l with
  | true =>
   obtain rfl:=hs rfl;rw [bytes_list xs (by rw [inner_mk] at hi; exact Nat.le_trans hi hb)];intro e;have h2:=headL_length ((xs.map It.bytes).flatten).length true;have h3:=congrArg List.length e;rw [List.length_append,List.length_nil] at h3;omega
  | false =>
   obtain rfl:=hx rfl;rw [inner_text',len_s] at hi;rw [bytes_text s (by omega)];intro e;by_cases h1:s.size=1∧(s.data.toList.headD 0).toNat<128
   ·rw [if_pos h1] at e;have h3:=congrArg List.length e;rw [List.nil_append,len_s,List.length_nil] at h3;omega
   ·rw [if_neg h1] at e;have h2:=headL_length s.size false;have h3:=congrArg List.length e;rw [List.length_append,List.length_nil] at h3;omega
theorem allL_forth (xs:List It):∀ (around k:Nat),(∀ y∈xs,Fits around y)→(∀ y∈xs,∀ (k:Nat) (t:List UInt8),y.bytes.length≤4294967296→k+y.size≤4096→readL (y.bytes++t) around k = .ok (y,y.bytes.length,k+y.size)) →
  ((xs.map It.bytes).flatten).length≤4294967296→k+(xs.map It.size).sum≤4096→allL ((xs.map It.bytes).flatten) around k = .ok (xs,k+(xs.map It.size).sum):=by
 induction xs with
 | nil=>intro around k _ _ _ _; show allL [] around k=_; rw [allL]; rfl
 | cons x xs ih =>
  intro around k hF hR hb hk;rw [List.map_cons,List.flatten_cons] at hb ⊢;rw [List.length_append] at hb;rw [List.map_cons,List.sum_cons] at hk ⊢;have hr:=hR x (List.mem_cons_self ..) k ((xs.map It.bytes).flatten) (by omega) (by omega);have hp:=bytes_pos (hF x (List.mem_cons_self ..)) (by omega);have hi:=ih around (k+x.size) (fun y hy=>hF y (List.mem_cons_of_mem _ hy)) (fun y hy=>hR y (List.mem_cons_of_mem _ hy)) (by omega) (by omega);cases hB:x.bytes with
  | nil=>exact absurd hB hp
  | cons c t =>
   rw [hB] at hr;rw [List.cons_append] at hr ⊢;rw [allL,hr];dsimp only;rw [List.length_cons,Nat.add_sub_cancel];have:(t++(xs.map It.bytes).flatten).drop t.length=(xs.map It.bytes).flatten:=by simp
   rw [this,hi];dsimp only;rw [Nat.add_assoc]
theorem forth (x:It):∀ (around k:Nat) (t:List UInt8),Fits around x→x.bytes.length≤4294967296→k+x.size≤4096→readL (x.bytes++t) around k = .ok (x,x.bytes.length,k+x.size):=by
 induction x using It.ind with
 | h l s xs ih =>
  intro around k t hF hb hk;have hi:=inner_le (.mk l s xs);cases hF with
  | mk ha hs hx h =>
   rw [It.size_mk] at hk ⊢;cases l with
   | true =>
    obtain rfl:=hs rfl;rw [inner_mk] at hi;have hi2:((xs.map It.bytes).flatten).length≤4294967296:=Nat.le_trans hi hb;have hall:=allL_forth xs (around+1) (k+1) h (fun y hy k t h1 h2=>ih y hy (around+1) k t (h y hy) h1 h2) hi2 (by omega);rw [bytes_list xs hi2] at hb ⊢;obtain ⟨B,hB⟩:∃ B,(xs.map It.bytes).flatten=B:=⟨_,rfl⟩
    rw [hB] at hall hi2 hb ⊢;have hh:=head_forth B.length (by omega) true (B++t);have h1:=headL_length B.length true;cases hH:headL B.length true with
    | nil=>rw [hH] at h1; simp at h1
    | cons c u =>
     rw [hH] at hh;rw [List.append_assoc,List.cons_append] at *
     rw [readL,if_neg (by omega),if_neg (by omega),hh];dsimp only;have e1:(u++(B++t)).length+1-(c::u).length=(B++t).length:=by simp <;> omega
     have e2:((u++(B++t)).drop ((c::u).length-1)).take B.length=B:=by simp
     rw [e1,if_neg (by simp),e2,hall];dsimp only;rw [List.length_append,Nat.add_assoc]
   | false =>
    obtain rfl:=hx rfl;rw [inner_text',len_s] at hi;have h32:s.size≤4294967296:=by omega
    rw [bytes_text s h32] at hb ⊢;have hsE:(⟨s.data.toList.toArray⟩:ByteArray)=s:=by simp
    by_cases h1:s.size=1∧(s.data.toList.headD 0).toNat<128
    ·rw [if_pos h1,List.nil_append] at hb ⊢;have hl:=len_s s;rw [h1.1] at hl;obtain ⟨c,hc⟩:=List.length_eq_one_iff.1 hl;rw [hc] at h1 hsE ⊢;have hcc:c.toNat<128:=h1.2;have hh:headE (c::t) = .ok (false,0,1):=by dsimp only [headE]; rw [if_pos hcc]
     show readL (c::t) around k=_;rw [readL,if_neg (by omega),if_neg (by simp at hk; omega),hh];dsimp only;rw [if_neg (by omega),if_neg (by omega)];simp only [List.drop_zero,List.take_succ_cons,List.take_zero];rw [hsE];simp
    ·rw [if_neg h1] at hb ⊢;have hh:=head_forth s.size (by omega) false (s.data.toList++t);have hl1:=headL_length s.size false;have hsh:(headL s.size false).length=1→s.size<56:=by
      intro e;apply Classical.byContradiction;intro hn;unfold headL at e;rw [if_neg hn,List.length_cons] at e;have:=bigL_head s.size (by omega);cases hb:bigL s.size with
      | nil=>rw [hb] at this; exact this rfl
      | cons _ _=>rw [hb] at e; simp at e
     cases hH:headL s.size false with
     | nil=>rw [hH] at hl1; simp at hl1
     | cons c u =>
      rw [hH] at hh hsh;rw [List.append_assoc,List.cons_append] at *
      rw [readL,if_neg (by omega),if_neg (by simp at hk; omega),hh];dsimp only;have e1:(u++(s.data.toList++t)).length+1-(c::u).length=s.size+t.length:=by
       rw [List.length_append,List.length_append,len_s,List.length_cons]; omega
      have e2:(((c::(u++(s.data.toList++t)))).drop (c::u).length).take s.size=s.data.toList:=by
       rw [List.length_cons,List.drop_succ_cons,List.drop_left,← len_s,List.take_left]
      rw [e1,if_neg (by omega),if_neg (by
       rintro ⟨g1,g2,g3⟩;apply h1;refine ⟨g2,?_⟩;have hu:u=[]:=List.eq_nil_of_length_eq_zero (by rw [List.length_cons] at g1; omega);subst hu;rw [List.nil_append] at g3;have hl:=len_s s;cases hd:s.data.toList with
       | nil=>rw [hd] at hl; simp at hl; omega
       | cons d e=>rw [hd] at g3; exact g3),e2,hsE]
      simp;omega
end Rl
end
section
open Go.RowKit
namespace Rl
theorem ba_app (a b:List UInt8):(⟨a.toArray⟩:ByteArray)++⟨b.toArray⟩=⟨(a++b).toArray⟩:=by
 apply ByteArray.ext;simp
theorem ba_self (s:ByteArray):(⟨s.data.toList.toArray⟩:ByteArray)=s:=by simp
theorem ba_size (l:List UInt8):(⟨l.toArray⟩:ByteArray).size=l.length:=by
 show l.toArray.size=_;simp
theorem headL_le (n:Nat) (l:Bool) (h:n<2 ^ 64):(headL n l).length≤9:=by
 have:=bigL_length h;unfold headL;split <;> simp; omega
theorem rput_any (x:It):∀ (d:Nat) (w:World) (v:Value),IsIt w x v→Fits d x→x.bytes.length≤4294967296 →
  Calls Tryz.prog 157 #[v] w fun e w'=>e = .returned (.string ⟨x.bytes.toArray⟩)∧Below w.heap.size w w':=by
 induction x using It.ind with
 | h l s xs ih =>
  rintro d w v ⟨a,n,cap,rfl,h⟩ hF hb;have hm:=h.max;have hnc:=h.le;unfold maxLen at hm;obtain ⟨w1,hw1⟩:∃ w1,w1=w.alloc (.cells #[.bool l,.string s,.slice a n cap] 168):=⟨_,rfl⟩
  have hO:Rg.Own w1 w.heap.size (itC (.mk l s xs) a n cap) 168:=by rw [hw1]; exact Rg.Own.new _ _ _
  obtain ⟨c0,c1,c2⟩:=lies_row hO.2;have HB:Hid (Below w.heap.size w w1):=hid (by rw [hw1]; exact al1 _ _);have HZ:Hid (w.heap.size<w1.heap.size):=hid hO.1;have HO:=hid hO;have H:=hid h;clear h hO;unfold itV;dsimp only [It.l,It.s,It.xs] at c0 c1 c2 H ⊢;have hin:=inner_le (.mk l s xs);cases hF with
  | mk ha hs hx hy =>
   cases l with
   | false =>
    obtain rfl:=hx rfl;rw [inner_text',len_s] at hin;have h32:s.size≤4294967296:=by omega
    have hbt:=bytes_text s h32;clear ih hx hs hy hin hb;by_cases h1:s.size=1∧(s.data.toList.headD 0).toNat<128
    ·rw [if_pos h1,List.nil_append] at hbt;have HF:Hid ((⟨(It.mk false s []).bytes.toArray⟩:ByteArray)=s):=hid (by rw [hbt,ba_self]);have hq:((s.size:Int)==1)=true:=by simp; omega
     have hg:=get_at s 0 (by omega);have hz0:0<s.size:=by omega
     have hfirst:(s[0]'hz0).toNat≤127:=by
      rw [hg];have:=h1.2;cases hd:s.data.toList with
      | nil=>rw [hd] at this; simp
      | cons y ys=>rw [hd] at this; simp at this ⊢; omega
     have hs0:0<s.size:=by omega
     have H1:=hid h1;clear hbt hg;subst hw1;go_enter Tryz.func157,Tryz.ntmps157;go_wp2;go_ret;exact ⟨by rw [HF.out]; rfl,HB.out⟩
    ·rw [if_neg h1] at hbt;have HF:Hid ((⟨(It.mk false s []).bytes.toArray⟩:ByteArray)=headS s.size false++s):=hid (by
      rw [hbt];unfold headS
      conv=>rhs; rw [← ba_self s]
      rw [ba_app])
     have hl9:=headL_le s.size false (by omega);have HSZ:Hid (¬ 9223372036854775807<(headS s.size false).size+s.size):=hid (by
      unfold headS;rw [ba_size];omega)
     have HH:=hid (fun w=>rhead_any s.size h32 false w);clear hbt hl9;by_cases hq1:s.size=1
     ·have hq:((s.size:Int)==1)=true:=by simp; omega
      have hs0:0<s.size:=by omega
      have hfirst:¬ (s[0]'hs0).toNat≤127:=by
       intro hc;apply h1;refine ⟨hq1,?_⟩;rw [get_at s 0 (by omega)] at hc;cases hd:s.data.toList with
       | nil=>simp
       | cons y ys=>rw [hd] at hc; simp at hc ⊢; omega
      clear h1 hq1;subst hw1;go_enter Tryz.func157,Tryz.ntmps157;go_wp2_with fail
      obtain ⟨w1,hw1⟩:∃ w1,w1=w.alloc (.cells #[.bool false,.string s,.slice a n cap] 168):=⟨_,rfl⟩
      rw [← hw1] at c0 c1 c2 HB HZ HO ⊢;clear hw1;refine wp_region_noPanic ?_;refine wp_region_held_drew (S:=fun w'=>Below w1.heap.size w1 w') (by kernel_rfl) ((Below.refl _ _).drew) (fun hld=>?_);refine Rg.tk (i:=0) rfl ?_;try simp only [Act.put,Rg.s]
      refine Rg.tk (i:=1) rfl ?_ (hy:=by intro wz hSw; have hcc:=hSw.cell (p:=⟨w.heap.size,1,none⟩) HZ.out; rw [c1] at hcc; (try dsimp only at hSw); go_simp <;> with_reducible rfl);try simp only [Act.put,Rg.s]
      refine Rg.tk (i:=2) rfl ?_;try simp only [Act.put,Rg.s]
      refine Rg.tk (i:=4) rfl ?_;try simp only [Act.put,Rg.s]
      refine Rg.tk (i:=5) rfl ?_ (hy:=by intro wz hSw; have hcc:=hSw.cell (p:=⟨w.heap.size,1,none⟩) HZ.out; rw [c1] at hcc; (try dsimp only at hSw); go_simp <;> with_reducible rfl);try simp only [Act.put,Rg.s]
      refine Rg.rd (i:=3) rfl fun K hK=>?_;go_simp;go_at_call 133
      (with_reducible refine (HH.out _).mono ?_)
      rintro e wv0 ⟨rfl,hbx⟩;refine hK.out _ _ ?_ (fun hld=>?_)
      ·exact Below.trans hld (hbx.mono hld.size)
      clear hK K;try simp only [Act.put,Rg.s]
      refine Rg.tk (i:=6) rfl ?_ (hy:=by intro wz hSw; have hz8:=HSZ.out; go_simp <;> with_reducible rfl);try simp only [Act.put,Rg.s]
      refine Rg.tk (i:=7) rfl ?_;try simp only [Act.put,Rg.s]
      refine wpAnyH_done (by kernel_rfl) ?_ _;refine NoPanic.normal ?_;go_wp2;go_ret;exact ⟨by rw [HF.out]; rfl,bst HB.out hld⟩
     ·have hq:((s.size:Int)==1)=false:=by simp; omega
      clear h1;subst hw1;go_enter Tryz.func157,Tryz.ntmps157;go_wp2_with fail
      obtain ⟨w1,hw1⟩:∃ w1,w1=w.alloc (.cells #[.bool false,.string s,.slice a n cap] 168):=⟨_,rfl⟩
      rw [← hw1] at c0 c1 c2 HB HZ HO ⊢;clear hw1;refine wp_region_noPanic ?_;refine wp_region_held_drew (S:=fun w'=>Below w1.heap.size w1 w') (by kernel_rfl) ((Below.refl _ _).drew) (fun hld=>?_);refine Rg.tk (i:=0) rfl ?_;try simp only [Act.put,Rg.s]
      refine Rg.tk (i:=1) rfl ?_ (hy:=by intro wz hSw; have hcc:=hSw.cell (p:=⟨w.heap.size,1,none⟩) HZ.out; rw [c1] at hcc; (try dsimp only at hSw); go_simp <;> with_reducible rfl);try simp only [Act.put,Rg.s]
      refine Rg.tk (i:=2) rfl ?_;try simp only [Act.put,Rg.s]
      refine Rg.tk (i:=4) rfl ?_;try simp only [Act.put,Rg.s]
      refine Rg.tk (i:=5) rfl ?_ (hy:=by intro wz hSw; have hcc:=hSw.cell (p:=⟨w.heap.size,1,none⟩) HZ.out; rw [c1] at hcc; (try dsimp only at hSw); go_simp <;> with_reducible rfl);try simp only [Act.put,Rg.s]
      refine Rg.rd (i:=3) rfl fun K hK=>?_;go_simp;go_at_call 133
      (with_reducible refine (HH.out _).mono ?_)
      rintro e wv0 ⟨rfl,hbx⟩;refine hK.out _ _ ?_ (fun hld=>?_)
      ·exact Below.trans hld (hbx.mono hld.size)
      clear hK K;try simp only [Act.put,Rg.s]
      refine Rg.tk (i:=6) rfl ?_ (hy:=by intro wz hSw; have hz8:=HSZ.out; go_simp <;> with_reducible rfl);try simp only [Act.put,Rg.s]
      refine Rg.tk (i:=7) rfl ?_;try simp only [Act.put,Rg.s]
      refine wpAnyH_done (by kernel_rfl) ?_ _;refine NoPanic.normal ?_;go_wp2;go_ret;exact ⟨by rw [HF.out]; rfl,bst HB.out hld⟩
   | true =>
    obtain rfl:=hs rfl;rw [inner_mk] at hin;have hin2:((xs.map It.bytes).flatten).length≤4294967296:=Nat.le_trans hin hb;have hbl:=bytes_list xs hin2;have HBy:Hid ((⟨(It.mk true ⟨#[]⟩ xs).bytes.toArray⟩:ByteArray)=headS ((xs.map It.bytes).flatten).length true++⟨((xs.map It.bytes).flatten).toArray⟩):=hid (by
     rw [hbl];unfold headS;rw [ba_app])
    have HLen:Hid (((xs.map It.bytes).flatten).length≤4294967296):=hid hin2;have HIh:=hid ih;have HY:=hid hy;clear ih hx hs hy hin hb hbl hin2;subst hw1;go_enter Tryz.func157,Tryz.ntmps157;go_wp2;go_loopw [3,4] (fun t i wr=>∃ (q:Nat),q≤n∧i = .int .i64 q∧t = .string ⟨(firstL xs q).toArray⟩∧Below (w.heap.size+1) (w.alloc (.cells #[.bool true,.string ⟨#[]⟩,.slice a n cap] 168)) wr) (fun _ i _=>n-(intOf i).toNat)
    case atStart=>exact ⟨0,Nat.zero_le _,rfl,rfl,Below.refl _ _⟩
    case round =>
     obtain ⟨q,hq,rfl,rfl,hB⟩:=hrel;have e2:wr.cell? ⟨w.heap.size,2,none⟩=some (.slice a n cap):=by
      rw [hB.cell (p:=⟨w.heap.size,2,none⟩) (Nat.lt_succ_self _)]; exact c2
     have HB1:=hid hB;clear hB;by_cases hlt:q<n
     ·obtain ⟨x,b,off,A,N,C,hx,rfl,hb,hL,hI⟩:=H.out.at' q hlt;have hBw:=of_al HB1.out;obtain ⟨e0,e1,e3⟩:=hL.stays hBw hb;have hstep:=firstL_step xs q x hx;have hle:=firstL_le xs (q+1);have hle2:=HLen.out;rw [hstep,List.length_append] at hle;have HS:Hid ((⟨(firstL xs (q+1)).toArray⟩:ByteArray)=⟨(firstL xs q).toArray⟩++⟨x.bytes.toArray⟩):=hid (by rw [hstep,ba_app]);have HI:=hid (HIh.out x (List.mem_of_getElem? hx) (d+1) wr (itV x A N C) ⟨A,N,C,rfl,hI.stays hBw⟩ (HY.out x (List.mem_of_getElem? hx)) (by omega))
      obtain ⟨T,hT⟩:∃ T,(⟨(firstL xs q).toArray⟩:ByteArray)=T:=⟨_,rfl⟩
      obtain ⟨X,hX⟩:∃ X,(⟨x.bytes.toArray⟩:ByteArray)=X:=⟨_,rfl⟩
      have hsz:T.size+X.size≤4294967296:=by rw [← hT,← hX,ba_size,ba_size]; omega
      rw [hT,hX] at HS;rw [hX] at HI;rw [hT];unfold itV at HI;clear hL hI hBw hx hT hX hstep hle hle2;go_wp2_with fail
      refine HI.out.mono ?_;rintro e w1 ⟨rfl,hb1⟩;go_wp2;go_roundw
      case rel=>exact ⟨q+1,by omega,by go_num,by rw [HS.out],al_step HB1.out hb1⟩
      case measure=>simp [intOf]; omega
     ·obtain rfl:q=n:=by omega
      have hfl:=firstL_all xs q H.out.len;rw [hfl];have HF:=HBy;obtain ⟨T,hT⟩:∃ T,(xs.map It.bytes).flatten=T:=⟨_,rfl⟩
      rw [hT] at HF HLen ⊢;have hlen:=HLen.out;have hl9:=headL_le T.length true (by omega);have HSz:Hid ((⟨T.toArray⟩:ByteArray).size=T.length):=hid (ba_size T);have HH:=hid (fun w=>rhead_any T.length hlen true w);have HSZ:(headS T.length true).size≤9:=by unfold headS; rw [ba_size]; exact hl9
      obtain ⟨X,hX⟩:∃ X,(⟨T.toArray⟩:ByteArray)=X:=⟨_,rfl⟩
      rw [hX] at HF HSz ⊢;have hxs:=HSz.out;rw [← hxs] at HF HH HSZ;have hxl:X.size≤4294967296:=by omega
      clear hX hfl hlen hl9 hT hxs HIh HY HLen HSz HBy;go_wp2_with fail
      refine (HH.out _).mono ?_;rintro e w1 ⟨rfl,hb1⟩;go_wp2;go_ret;exact ⟨by rw [HF.out]; rfl,bst (of_al HB1.out) hb1⟩
end Rl
end
end Go.Proofs.YtnecijeakeklaaaGreatDoor
