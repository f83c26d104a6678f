/-
 The plain answers' sum, as numbers: words, rounds, blocks.
-/
import Derived.Deep.DeepCutAuto
import Derived.Test.YtoipgepkhomfgaaGreatDoorPd2
open Go.Lib (hid)
open Go.Proofs.Tryz
set_option linter.unusedSimpArgs false
set_option linter.unusedVariables false
set_option maxHeartbeats 40000000
set_option maxRecDepth 100000
namespace Go.Proofs.YtoipgepkhomfgaaGreatDoor
variable {P:Program} {w w1:World} {ops:Array Oper} {o:Oper} {a:Act} {Q:Exit->Act->World->Prop} {B g j:Nat} {t:TypeId}
namespace Sh
def vL (x:Nat):Nat:=x/2+x%2*2147483648
def bQ:Nat->Nat->Nat
 | x,0=>x
 | x,n+1=>bQ (vL x) n
theorem Tj (x:Nat) (h:x<4294967296):vL x<4294967296:=by unfold vL; omega
theorem bY:∀ (n x:Nat),x<4294967296->bQ x n<4294967296
 | 0,_,h=>h
 | n+1,x,h=>bY n _ (Tj x h)
theorem zJ:∀ (n x:Nat),bQ x (n+1)=vL (bQ x n)
 | 0,_=>rfl
 | n+1,x=>by
  show bQ (vL x) (n+1)=vL (bQ (vL x) n);exact zJ n (vL x)
theorem Jc:∀ (n x:Nat),x<4294967296->n<=32->bQ x n=x/2 ^ n+x%2 ^ n*2 ^ (32-n)
 | 0,x,_,_=>by simp [bQ,Nat.mod_one]
 | n+1,x,h,hn=>by
  rw [zJ,Jc n x h (by omega)];unfold vL;have e1:2 ^ (32-n)=2*2 ^ (32-(n+1)):=by rw [<-Nat.pow_succ']; congr 1; omega
  have e2:(2:Nat) ^ (n+1)=2 ^ n*2:=Nat.pow_succ ..
  have e3:(2:Nat) ^ n*2 ^ (32-(n+1))=2147483648:=by
   rw [<-Nat.pow_add,show n+(32-(n+1))=31 by omega]
  have hp:0<2 ^ n:=Nat.pow_pos (by omega);generalize 2 ^ (32-(n+1))=A at *
  generalize 2 ^ n=B at *
  rw [e1,e2,<-Nat.div_div_eq_div_mul,Nat.mod_mul];generalize hq:x/B=q;generalize x%B=r;have h1:r*(2*A)=2*(r*A):=by rw [Nat.mul_left_comm]
  have h2:(r+B*(q%2))*A=r*A+q%2*2147483648:=by
   rw [Nat.add_mul,<-e3,Nat.mul_assoc,Nat.mul_left_comm (q%2) B A]
  rw [h1,h2];generalize r*A=z;omega
def uG:Nat->Nat->Nat
 | x,0=>x
 | x,n+1=>uG (x/2) n
theorem sM:∀ (n x:Nat),uG x n=x/2 ^ n
 | 0,x=>by simp [uG]
 | n+1,x=>by
  show uG (x/2) n=_;rw [sM n,Nat.div_div_eq_div_mul,Nat.pow_succ']
def aag:List Nat:=[
 1116352408,1899447441,3049323471,3921009573,961987163,1508970993,2453635748,2870763221,
 3624381080,310598401,607225278,1426881987,1925078388,2162078206,2614888103,3248222580,
 3835390401,4022224774,264347078,604807628,770255983,1249150122,1555081692,1996064986,
 2554220882,2821834349,2952996808,3210313671,3336571891,3584528711,113926993,338241895,
 666307205,773529912,1294757372,1396182291,1695183700,1986661051,2177026350,2456956037,
 2730485921,2820302411,3259730800,3345764771,3516065817,3600352804,4094571909,275423344,
 430227734,506948616,659060556,883997877,958139571,1322822218,1537002063,1747873779,
 1955562222,2024104815,2227730452,2361852424,2428436474,2756734187,3204031479,3329325298]
def kN (i:Nat):Nat:=aag.getD i 0
end Sh
section
open Go.RowKit
namespace Sh
theorem eZ {rest:List Oper} (hgd:o.guard=none) (v:Value) (w':World)
  (hr:(execOp a.eval o).run P w = .ok (.value v) w') (h:wpList P ops Q rest (a.put o.dst v) w'):wpList P ops Q (o::rest) a w :=
 wpList_plain hgd λK hK=>by
  unfold Oper.wp;rw [hr];exact hK _ _ h
end Sh
end
namespace Sh
def nW (g:Nat->Nat) (i:Nat):Nat->Nat
 | 0=>0
 | j+1=>256*nW g i j+g (4*i+j)
theorem Jt (g:Nat->Nat) (hg:∀ q,g q<256) (i:Nat):∀ j,nW g i j<256 ^ j
 | 0=>by simp [nW]
 | j+1=>by
  have:=Jt g hg i j;have:=hg (4*i+j);rw [nW,Nat.pow_succ];omega
def sg0 (x:Nat):Nat:=bQ x 7 ^^^ bQ x 18 ^^^ uG x 3
def sg1 (x:Nat):Nat:=bQ x 17 ^^^ bQ x 19 ^^^ uG x 10
def DC (g:Nat->Nat) (l:List Nat) (k:Nat):Nat :=
 if k<16 then nW g k 4 else (l.getD (k-16) 0+sg0 (l.getD (k-15) 0)+l.getD (k-7) 0+sg1 (l.getD (k-2) 0))%4294967296
def og (g:Nat->Nat):Nat->List Nat
 | 0=>[]
 | k+1=>og g k++[DC g (og g k) k]
theorem jZ (g:Nat->Nat):∀ k,(og g k).length=k
 | 0=>rfl
 | k+1=>by rw [og,List.length_append,jZ g k]; rfl
theorem UN (g:Nat->Nat) (hg:∀ q,g q<256) (l:List Nat) (k:Nat):DC g l k<4294967296:=by
 unfold DC;split
 .exact Jt g hg k 4
 .exact Nat.mod_lt _ (by omega)
theorem Es (g:Nat->Nat) (hg:∀ q,g q<256):∀ k,∀ x∈og g k,x<4294967296
 | 0,x,h=>by cases h
 | k+1,x,h=>by
  rw [og] at h;rcases List.mem_append.1 h with h | h
  .exact Es g hg k x h
  .rw [List.mem_singleton.1 h]; exact UN g hg _ _
theorem getD_lt {l:List Nat} (h:∀ x∈l,x<4294967296) (j:Nat):l.getD j 0<4294967296:=by
 by_cases hj:j<l.length
 .rw [List.getD,List.getElem?_eq_getElem hj]; exact h _ (List.getElem_mem hj)
 .rw [List.getD,List.getElem?_eq_none (by omega)]; decide
theorem yJ {a b c:Nat} (ha:a<4294967296) (hb:b<4294967296) (hc:c<4294967296):a ^^^ b ^^^ c<4294967296 :=
 Nat.xor_lt_two_pow (n:=32) (Nat.xor_lt_two_pow (n:=32) ha hb) hc
theorem Dp (x n:Nat) (h:x<4294967296):uG x n<4294967296:=by rw [sM]; exact Nat.lt_of_le_of_lt (Nat.div_le_self _ _) h
theorem YQ (x:Nat) (h:x<4294967296):sg0 x<4294967296:=yJ (bY _ _ h) (bY _ _ h) (Dp _ _ h)
theorem Zx (x:Nat) (h:x<4294967296):sg1 x<4294967296:=yJ (bY _ _ h) (bY _ _ h) (Dp _ _ h)
def bs1 (e:Nat):Nat:=bQ e 6 ^^^ bQ e 11 ^^^ bQ e 25
def bs0 (a:Nat):Nat:=bQ a 2 ^^^ bQ a 13 ^^^ bQ a 22
def GH (e f g:Nat):Nat:=(e &&& f) ||| ((4294967295-e) &&& g)
def rJ (a b c:Nat):Nat:=(a &&& b) ||| (a &&& c) ||| (b &&& c)
theorem Zm (x:Nat) (h:x<4294967296):bs1 x<4294967296:=yJ (bY _ _ h) (bY _ _ h) (bY _ _ h)
theorem Zh (x:Nat) (h:x<4294967296):bs0 x<4294967296:=yJ (bY _ _ h) (bY _ _ h) (bY _ _ h)
theorem UW (e f g:Nat) (he:e<4294967296):GH e f g<4294967296 :=
 Nat.or_lt_two_pow (n:=32) (Nat.lt_of_le_of_lt Nat.and_le_left he) (Nat.lt_of_le_of_lt Nat.and_le_left (by omega))
theorem TY (a b c:Nat) (ha:a<4294967296) (hb:b<4294967296):rJ a b c<4294967296 :=
 Nat.or_lt_two_pow (n:=32) (Nat.or_lt_two_pow (n:=32) (Nat.lt_of_le_of_lt Nat.and_le_left ha) (Nat.lt_of_le_of_lt Nat.and_le_left ha)) (Nat.lt_of_le_of_lt Nat.and_le_left hb)
def xN (k w e f g h:Nat):Nat:=(h+bs1 e+GH e f g+k+w)%4294967296
def yN (a b c:Nat):Nat:=(bs0 a+rJ a b c)%4294967296
def wY (k w:Nat) (v:List Nat):List Nat :=
 [(xN k w (v.getD 4 0) (v.getD 5 0) (v.getD 6 0) (v.getD 7 0)+yN (v.getD 0 0) (v.getD 1 0) (v.getD 2 0))%4294967296,v.getD 0 0,v.getD 1 0,v.getD 2 0,
  (v.getD 3 0+xN k w (v.getD 4 0) (v.getD 5 0) (v.getD 6 0) (v.getD 7 0))%4294967296,v.getD 4 0,v.getD 5 0,v.getD 6 0]
def BJ (ws:List Nat) (h:List Nat):Nat->List Nat
 | 0=>h
 | k+1=>wY (kN k) (ws.getD k 0) (BJ ws h k)
theorem xW (ws h:List Nat) (hh:h.length=8):∀ k,(BJ ws h k).length=8
 | 0=>hh
 | _+1=>rfl
theorem Fe (ws h:List Nat) (hh:∀ x∈h,x<4294967296):∀ k,∀ x∈BJ ws h k,x<4294967296
 | 0=>hh
 | k+1=>by
  have ih:=λj=>getD_lt (Fe ws h hh k) j;intro x hx;simp only [BJ,wY,List.mem_cons,List.not_mem_nil,or_false] at hx;rcases hx with rfl | rfl | rfl | rfl | rfl | rfl | rfl | rfl <;> first | exact ih _ | exact Nat.mod_lt _ (by omega)
def Lm (h v:List Nat) (k:Nat):List Nat:=(List.range k).map λi=>(h.getD i 0+v.getD i 0)%4294967296
def tQ (g:Nat->Nat) (h:List Nat):List Nat:=Lm h (BJ (og g 64) h 64) 8
theorem xU (h v:List Nat) (k:Nat):(Lm h v k).length=k:=by simp [Lm]
theorem MX (h v:List Nat) (k:Nat):∀ x∈Lm h v k,x<4294967296:=by
 intro x hx;simp only [Lm,List.mem_map] at hx;obtain ⟨_,_,rfl⟩:=hx;exact Nat.mod_lt _ (by omega)
def ug (h v:List Nat) (j:Nat):List Nat:=(List.range 8).map λi=>if i<j then (h.getD i 0+v.getD i 0)%4294967296 else h.getD i 0
theorem om (h v:List Nat) (j:Nat):(ug h v j).length=8:=by simp [ug]
theorem PS (h v:List Nat) (hh:h.length=8):ug h v 0=h:=by
 apply List.ext_getElem
 .rw [om,hh]
 .intro i h1 h2;simp [ug,List.getD,h2]
theorem Vv (h v:List Nat):ug h v 8=Lm h v 8:=by
 unfold ug Lm;apply List.map_congr_left;intro i hi;rw [if_pos (List.mem_range.1 hi)]
theorem RI (h v:List Nat) (j:Nat) (hj:j<8):(ug h v j).getD j 0=h.getD j 0:=by simp [ug,List.getD,hj]
theorem TS (h v:List Nat) (j:Nat) (hj:j<8):(ug h v j).set j ((h.getD j 0+v.getD j 0)%4294967296)=ug h v (j+1):=by
 apply List.ext_getElem
 .simp [om]
 .intro i h1 h2;rw [om] at h2;by_cases e:i=j
  .subst e; simp [ug]
  .rw [List.getElem_set_ne (by omega)];have:i<j+1↔i<j:=by omega
   simp [ug,this]
theorem eight (l:List Nat) (h:l.length=8):∃ x0 x1 x2 x3 x4 x5 x6 x7,l=[x0,x1,x2,x3,x4,x5,x6,x7]:=by
 match l,h with
 | [x0,x1,x2,x3,x4,x5,x6,x7],_=>exact ⟨_,_,_,_,_,_,_,_,rfl⟩
def kS (n:Nat):Nat:=(119-n%64)%64
def NC (l:aM) (k:Nat):aM:=l++[128]++List.replicate k 0
def beK (N k:Nat):aM:=((List.range k).map λj=>UInt8.ofNat (N/256 ^ j%256)).reverse
def kX (l:aM):aM:=NC l (kS l.length)++beK (8*l.length) 8
theorem Fq (l:aM) (k:Nat):(NC l k).length=l.length+1+k:=by simp [NC]; omega
theorem zC (N k:Nat):(beK N k).length=k:=by simp [beK]
theorem FH (l:aM):(kX l).length=l.length+9+kS l.length:=by simp [kX,Fq,zC]; omega
theorem Rt (l:aM):(kX l).length%64=0:=by rw [FH]; unfold kS; omega
def start:List Nat:=[1779033703,3144134277,1013904242,2773480762,1359893119,2600822924,528734635,1541459225]
def sW (t:aM) (k q:Nat):Nat:=(t.getD (64*k+q) 0).toNat
def vD (t:aM):Nat->List Nat
 | 0=>start
 | k+1=>tQ (sW t k) (vD t k)
def lY (t:aM) (h:List Nat):Nat->List Nat
 | 0=>h
 | k+1=>tQ (sW t k) (lY t h k)
theorem Bv (t:aM):∀ k,lY t start k=vD t k
 | 0=>rfl
 | k+1=>by rw [lY,vD,Bv t k]
theorem xO (t:aM) (h:List Nat) (hh:h.length=8):∀ k,(lY t h k).length=8
 | 0=>hh
 | _+1=>xU _ _ _
theorem NZ (t:aM) (h:List Nat) (hh:∀ x∈h,x<4294967296):∀ k,∀ x∈lY t h k,x<4294967296
 | 0=>hh
 | _+1=>MX _ _ _
theorem yc {g g':Nat->Nat} (i:Nat):∀ j,(∀ q,q<4*i+j->g q=g' q)->nW g i j=nW g' i j
 | 0,_=>rfl
 | j+1,h=>by rw [nW,nW,yc i j (λq hq=>h q (by omega)),h _ (by omega)]
theorem zF {g g':Nat->Nat} (h:∀ q,q<64->g q=g' q):∀ k,og g k=og g' k
 | 0=>rfl
 | k+1=>by
  rw [og,og,zF h k];congr 2;unfold DC;split
  .exact yc k 4 (λq hq=>h q (by omega))
  .rfl
theorem uX {g g':Nat->Nat} (h:∀ q,q<64->g q=g' q) (hs:List Nat):tQ g hs=tQ g' hs:=by
 unfold tQ;rw [zF h]
theorem Di (t u:aM) (a:Nat) (ht:t.length=64*a) (h:List Nat):∀ b,lY (t++u) h (a+b)=lY u (lY t h a) b
 | 0=>by
  have:∀ k,k<=a->lY (t++u) h k=lY t h k:=by
   intro k
   induction k with
   | zero=>intro _; rfl
   | succ k ih =>
    intro hk;rw [lY,lY,ih (by omega)];refine uX (λq hq=>?_) _;unfold sW;rw [List.getD,List.getD,List.getElem?_append_left (by omega)]
  exact this a aG
 | b+1=>by
  show lY (t++u) h (a+b+1)=_;rw [lY,lY,Di t u a ht h b];refine uX (λq _=>?_) _;unfold sW;rw [List.getD,List.getD,List.getElem?_append_right (by omega),ht,show 64*(a+b)+q-64*a=64*b+q by omega]
theorem EC (t:aM):∀ k,(vD t k).length=8
 | 0=>rfl
 | _+1=>xU _ _ _
theorem Sb (t:aM):∀ k,∀ x∈vD t k,x<4294967296
 | 0=>by show ∀ x∈start,x<4294967296; decide
 | _+1=>MX _ _ _
def tV (s:aL) (q:Nat):Nat:=(s.data.toList.getD q 0).toNat
theorem OM (s:aL) (q:Nat):tV s q<256:=UInt8.toNat_lt _
theorem QB (s:aL) (q:Nat) (h:q<s.size):s[q].toNat=tV s q:=by
 have hl:q<s.data.toList.length:=by simpa using h
 unfold tV;rw [List.getD,List.getElem?_eq_getElem hl]; rfl
def CW (h:List Nat) (i:Nat):Nat:=h.getD (i/4) 0/256 ^ (3-i%4)%256
def Ud (h:List Nat) (k:Nat):aM:=(List.range k).map λi=>UInt8.ofNat (CW h i)
theorem GD (h:List Nat) (k:Nat):(Ud h k).length=k:=by simp [Ud]
def uy (l:aM):aM:=Ud (vD (kX l) ((kX l).length/64)) 32
theorem rF (l:aM):(uy l).length=32:=GD _ _
end Sh
section
open Go.RowKit
namespace Sh
end Sh
end
section
open Go.RowKit
namespace Sm
open Sh
theorem Wz {a b:Int} (h:a=b):Ending.returned (.int .u32 a) = .returned (.int .u32 b):=by rw [h]
theorem WX (n:Nat) (h1:1<=n) (h2:n<=31):bits .and .u64 (IntKind.u64.wrap (-(n:Int))) 31=32-(n:Int):=by
 have e:IntKind.u64.wrap (-(n:Int))=((18446744073709551616-n:Nat):Int):=by rw [IntKind.wrap_u64]; omega
 rw [e,show (31:Int)=((31:Nat):Int) from rfl,u64_and_nat _ _ (by omega) (by omega),nat_mask5];omega
theorem Zj (x n:Nat) (hx:x<4294967296) (h2:n<=31) :
  bits .or .u32 ((x:Int)*2 ^ (32-n)%4294967296) ((x:Int)/2 ^ (32-(32-n)))=(bQ x n:Nat):=by
 have e0:32-(32-n)=n:=by omega
 have hp:2 ^ n*2 ^ (32-n)=4294967296:=by rw [<-Nat.pow_add,show n+(32-n)=32 by omega]
 have e1:x*2 ^ (32-n)%4294967296=x%2 ^ n*2 ^ (32-n):=by rw [<-hp,Nat.mul_mod_mul_right]
 have hb:x/2 ^ n<2 ^ (32-n):=by
  rw [Nat.div_lt_iff_lt_mul (Nat.pow_pos (by omega)),Nat.mul_comm,hp]; exact hx
 have ha:x*2 ^ (32-n)%4294967296<4294967296:=Nat.mod_lt _ (by omega);have c1:((x:Int)*2 ^ (32-n)%4294967296)=((x*2 ^ (32-n)%4294967296:Nat):Int):=by simp
 have c2:((x:Int)/2 ^ n)=((x/2 ^ n:Nat):Int):=by simp
 rw [e0,c1,c2,u32_or_nat _ _ ha (Nat.lt_of_le_of_lt (Nat.div_le_self _ _) hx),e1,nat_join (32-n) _ _ (Nat.mul_mod_left _ _) hb,Jc n x hx (by omega),Nat.add_comm]
theorem Xt (x n:Nat) (hx:x<4294967296) (h1:1<=n) (h2:n<=31) (w:World) :
  Calls prog 192 #[.int .u32 x,.int .i64 (-(n:Int))] w λe w'=>e = .returned (.int .u32 (bQ x n:Nat))/\w=w':=by
 have hA:=WX n h1 h2;have HO:=hid (Zj x n hx h2);go_enter func192,ntmps192;go_wp2;go_ret;exact ⟨Wz HO.out,rfl⟩
theorem eX (x n:Nat) (N:Int) (hN:N=n) (hx:x<4294967296) (h1:1<=n) (h2:n<=31) (w:World) :
  Calls prog 176 #[.int .u32 x,.int .i64 N] w λe w'=>e = .returned (.int .u32 (bQ x n:Nat))/\w=w':=by
 subst hN;have HR:=hid (Xt x n hx h1 h2);go_enter func176,ntmps176;go_wp2_with (go_at_call 192; refine (HR.out _).mono ?_; rintro e w1 ⟨rfl,rfl⟩)
 go_ret;exact ⟨rfl,rfl⟩
def upB (m n k:Nat):Nat:=n/256 ^ (m-1-k)%256
def oG (w:World) (g off m n:Nat):Nat->World
 | 0=>w
 | k+1=>(oG w g off m n k).setCell ⟨g,off+k,none⟩ (.int .u8 (upB m n k:Nat))
theorem sH {w:World} {g off m n N:Nat} {t:TypeId} {f:Nat->Value} (h:w.rowIs g t N f):∀ k,(oG w g off m n k).rowIs g t N (λj=>if off<=j/\j<off+k then .int .u8 (upB m n (j-off):Nat) else f j)
 | 0=>h.congr (λj _=>by rw [if_neg (by omega)])
 | k+1=>((sH h k).set (off+k) _).congr (λj _=>by
  by_cases e:j=off+k
  .subst e; simp
  .by_cases e2:off<=j/\j<off+k
   .rw [if_neg e,if_pos e2,if_pos (by omega)]
   .rw [if_neg e,if_neg e2,if_neg (by omega)])
theorem qX {B:Nat} {w0 w:World} (h:Below B w0 w) {g off m n:Nat} (hg:B<=g):∀ k,Below B w0 (oG w g off m n k)
 | 0=>h
 | k+1=>(qX h hg k).setCell (p:=⟨g,off+k,none⟩) hg _
theorem yT (g off m c n N:Nat) (t:TypeId) (f:Nat->Value) (w:World) (h:w.rowIs g t N f) (hm:off+m<=N) (rk:m<=8) :
  Calls prog 111 #[.slice (some ⟨g,off,none⟩) m c,.int .u64 n] w λe w'=>e = .returned (.tuple #[])/\w'=oG w g off m n m:=by
 have CI:=hid (λk=>sH (off:=off) (m:=m) (n:=n) h k);clear h;go_enter func111,ntmps111;go_wp2;go_loopw [7] (λi wr=>∃ k:Nat,k<=m/\i = .int .i64 k/\wr=oG w g off m n k) (λi _=>m-(intOf i).toNat)
 case atStart=>exact ⟨0,Nat.zero_le _,rfl,rfl⟩
 case round =>
  obtain ⟨k,hk,rfl,rfl⟩:=hrel;by_cases hlt:k<m
  .have hr:=CI.out k;have hc:=hr.cell (i:=off+k) (by omega);rw [if_neg (by omega)] at hc;have hf:=hr.frozen (off+k);clear hr;have HN:Hid ((oG w g off m n k).setCell ⟨g,off+k,none⟩ (.int .u8 (upB m n k:Nat))=oG w g off m n (k+1)):=hid rfl;obtain ⟨wk,hwk⟩:=ay (oG w g off m n k)
   rw [hwk] at hc hf HN ⊢;clear hwk;go_wp2;have HE:((n:Int)/2 ^ (8*(m-1-k))%256)=(upB m n k:Nat):=by
    unfold upB;rw [show 2 ^ (8*(m-1-k))=((256 ^ (m-1-k):Nat):Int) by rw [Int.natCast_pow,show ((256:Nat):Int)=2 ^ 8 from rfl,<-Int.pow_mul]];simp
   go_roundw
   case rel=>exact ⟨k+1,by omega,by go_num,by rw [HE,HN.out]⟩
   case measure=>simp [intOf]; omega
  .obtain rfl:k=m:=by omega
   have HW:Hid (oG w g off k n k=oG w g off k n k):=hid rfl;obtain ⟨wk,hwk⟩:=ay (oG w g off k n k)
   have HWK:=hid hwk;rw [hwk];clear CI hwk HW;go_wp2;go_end0;exact ⟨rfl,HWK.out.symm⟩
def pG (n:Nat):aM:=[128]++List.replicate (kS n) 0++beK (8*n) 8
theorem RG (l:aM):kX l=l++pG l.length:=by simp [kX,NC,pG]
theorem qN (n:Nat):(pG n).length=kS n+9:=by simp [pG,zC]
theorem Sw (n j:Nat) (h:j<8):((beK n 8).getD j 0).toNat=upB 8 n j:=by
 unfold upB;have:(beK n 8).getD j 0=UInt8.ofNat (n/256 ^ (7-j)%256):=by
  unfold beK;rw [List.getD,List.getElem?_reverse (by simpa using h)];simp only [List.length_map,List.length_range,List.getElem?_map];rw [List.getElem?_range (by omega)];simp only [Option.map_some,Option.getD_some]
 rw [this];simp
theorem OO (n j:Nat) (h:j<kS n+9):((pG n).getD j 0).toNat=if j=0 then 128 else if 1+kS n<=j then upB 8 (8*n) (j-(1+kS n)) else 0:=by
 unfold pG;by_cases h0:j=0
 .subst h0; simp
 .rw [if_neg h0];by_cases h1:1+kS n<=j
  .rw [if_pos h1,List.getD,List.getElem?_append_right (by simp; omega)];rw [<-Sw _ _ (by omega),List.getD];congr 3;simp;omega
  .rw [if_neg h1,List.getD,List.getElem?_append_left (by simp; omega),List.getElem?_append_right (by simp; omega)];simp only [List.length_singleton,List.getElem?_replicate];rw [if_pos (by omega)];rfl
theorem EN (n:Nat) (hn:n<=1000000) (w:World) :
  Calls prog 110 #[.int .i64 n] w λe w'=>e = .returned (.string ⟨(pG n).toArray⟩)/\Below w.heap.size w w':=by
 have hz:kS n<64:=Nat.mod_lt _ (by omega);obtain ⟨z,F8⟩:=ay (kS n)
 obtain ⟨m,hm⟩:=ay (z+9)
 have hmk:=run_make_row' (P:=prog) 40 5 (.int .u8 0) 1 underlying40 Bu.wX rfl .i64 .i64 m (by omega) (by omega);have e:((m:Nat):Int)=1+(z:Int)+8:=by omega
 rw [e] at hmk;have hr:(w.alloc (.cells ((madeCells #[Value.int IntKind.u8 0] m).setIfInBounds 0 (.int .u8 128)) 5)).rowIs w.heap.size 5 m (λj=>if j=0 then .int .u8 128 else .int .u8 0):=by
  have h0:=(World.rowIs_made w (.int .u8 0) m 5).set 0 (.int .u8 128);rw [World.setCell_alloc_at _ _ _ _ _ rfl] at h0;exact h0
 have rk:m-(1+z)=8:=by omega
 have hc0:=(World.rowIs_made w (.int .u8 0) m 5).cell (i:=0) (by omega);have hf0:=(World.rowIs_made w (.int .u8 0) m 5).frozen 0;have HL:=yT w.heap.size (1+z) (m-(1+z)) (m-(1+z)) (8*n) m 5 _ _ hr (by omega) (by omega);rw [show ((8*n:Nat):Int)=8*(n:Int) by omega] at HL;have HL:=hid HL;have hR:=sH (off:=1+z) (m:=m-(1+z)) (n:=8*n) hr (m-(1+z))
 have hB:=qX (g:=w.heap.size) (off:=1+z) (m:=m-(1+z)) (n:=8*n) ((Below.refl w.heap.size w).alloc aG (.cells ((madeCells #[Value.int IntKind.u8 0] m).setIfInBounds 0 (.int .u8 128)) 5)) aG (m-(1+z));obtain ⟨W,hW⟩:=ay (oG (w.alloc (.cells ((madeCells #[Value.int IntKind.u8 0] m).setIfInBounds 0 (.int .u8 128)) 5)) w.heap.size (1+z) (m-(1+z)) (8*n) (m-(1+z)))
 rw [hW] at hR hB HL;have hI:bf W (some ⟨w.heap.size,0,none⟩) m m (pG n):=by
  refine bf.ofRow (pG n) (by unfold maxLen; omega) hR (by rw [qN,F8,hm]) (λj hj=>?_);rw [OO n j (by omega),F8,rk];by_cases h0:j=0
  .subst h0; simp
  .by_cases h1:1+z<=j
   .rw [if_pos ⟨h1,by omega⟩,if_neg h0,if_pos h1]
   .rw [if_neg (by omega),if_neg h0,if_neg h0,if_neg h1]; rfl
 have hcv:=kQ hI;have hzi:(119-(n:Int)%64)%64=z:=by unfold kS at F8; omega
 clear hr e hR hI hW F8 rk;go_enter func110,ntmps110;go_wp2_with fail
 refine HL.out.mono ?_;rintro e w1 ⟨rfl,rfl⟩;clear hmk hc0 hf0;go_wp2;go_ret;exact ⟨rfl,hB⟩
def ac (l:List Nat):aN:=(l.map λ(x:Nat)=>Value.int .u32 (x:Int)).toArray
theorem bC (l:List Nat):(ac l).size=l.length:=by simp [ac]
theorem LX (l:List Nat) (j:Nat) (h:j<l.length):(ac l)[j]? = some (.int .u32 (l.getD j 0:Nat)):=by simp [ac,List.getD,h]
theorem iP (l:List Nat):(ac l).all (·.oneCell')=true:=by
 rw [Array.all_eq_true];intro i hi;simp [ac];rfl
theorem mV:(prog.info? 223).map (·.size)=some 64:=by kernel_rfl
theorem jy:(prog.info? 178).map (·.size)=some 8:=by kernel_rfl
theorem ZH {n:Nat} {f:Nat->Value} (l:List Nat) (h:w.rowIs g t n f) (hl:l.length=n) (hf:∀ j,j<n->f j = .int .u32 (l.getD j 0:Nat)):w.heap[g]? = some (.cells (ac l) t (0,0)):=by
 obtain ⟨c,hg,hs,hc⟩:=h;have:c=ac l:=by
  apply Array.ext
  .rw [hs,bC,hl]
  .intro i hi _;have h1:=hc i (by omega);rw [hf i (by omega),<-LX l i (by omega)] at h1;have h2:c[i]? = some c[i]:=Array.getElem?_eq_getElem hi;rw [h2] at h1;have h3:i<(ac l).size:=by rw [bC]; omega
   rw [Array.getElem?_eq_getElem h3] at h1;exact Option.some.inj h1
 rw [hg,this]
theorem eG (h:Below B w w1) (hg:B<=g) (cs:aN):Below B w (w1.setRow g cs) :=
 h.trans ⟨rfl,rfl,rfl,by simp,λk hk=>setRow_other w1 g k cs (by omega)⟩
def Row (w:World) (g:Nat) (t:TypeId) (n:Nat) (l:List Nat):Prop:=w.rowIs g t n (λj=>.int .u32 (l.getD j 0:Nat))
theorem Row.put {n:Nat} {l:List Nat} (h:Row w g t n l) (x:Nat):Row (w.setCell ⟨g,l.length,none⟩ (.int .u32 x)) g t n (l++[x]) :=
 (World.rowIs.set h l.length _).congr λj _=>by
  by_cases e:j=l.length
  .subst e; simp
  .rw [if_neg e];by_cases e2:j<l.length
   .simp [List.getD,List.getElem?_append_left e2]
   .rw [List.getD,List.getElem?_eq_none (by omega),List.getD,List.getElem?_eq_none (by simp; omega)]
def za (n:Nat):aN:=ac (List.replicate n 0)
theorem Row.zero (w:World) (t:TypeId) (n:Nat):Row (w.alloc (.cells (za n) t)) w.heap.size t n []:=by
 have h:=World.rowIs_alloc w (za n) t (λ_=>.int .u32 (([]:List Nat).getD 0 0:Nat)) (λi hi=>by
  have hi':i<n:=by simpa [za,ac] using hi
  simp [za,ac,hi'])
 have e:(za n).size=n:=by simp [za,ac]
 rw [e] at h;exact h.congr λj _=>by simp
theorem jm (ev:Operand->Value) (o:Oper) (ho:o.op = .alloc 223) (w:World) :
  (execOp ev o).run prog w = .ok (.value (.pointer (some ⟨w.heap.size,0,none⟩))) (w.alloc (.cells (za 64) 223)):=by
 unfold execOp;rw [ho];kernel_rfl
theorem jW (ev:Operand->Value) (o:Oper) (ho:o.op = .alloc 178) (w:World) :
  (execOp ev o).run prog w = .ok (.value (.pointer (some ⟨w.heap.size,0,none⟩))) (w.alloc (.cells (za 8) 178)):=by
 unfold execOp;rw [ho];kernel_rfl
theorem aat (a b:Nat) (ha:a<256) (hb:b<256):bits .or .u32 ((a:Int)*16777216) ((b:Int)*65536)=((a*16777216+b*65536:Nat):Int):=by
 have:=u32_or_nat (a*16777216) (b*65536) (by omega) (by omega);rw [nat_join 24 _ _ (by omega) (by omega)] at this;simpa using this
theorem aal (a c:Nat) (ha:a<65536) (hc:c<256):bits .or .u32 ((a*65536:Nat):Int) ((c:Int)*256)=((a*65536+c*256:Nat):Int):=by
 have:=u32_or_nat (a*65536) (c*256) (by omega) (by omega);rw [nat_join 16 _ _ (by omega) (by omega)] at this;simpa using this
theorem aak (a d:Nat) (ha:a<16777216) (hd:d<256):bits .or .u32 ((a*256:Nat):Int) (d:Int)=((a*256+d:Nat):Int):=by
 have:=u32_or_nat (a*256) d (by omega) (by omega);rw [nat_join 8 _ _ (by omega) (by omega)] at this;simpa using this
theorem Xk (g:Nat->Nat) (k:Nat):nW g k 4=((g (4*k)*256+g (4*k+1))*256+g (4*k+2))*256+g (4*k+3):=by
 simp only [nW,Nat.add_zero];omega
theorem Fh (t:TypeId) (ht:prog.underlying t=some .string) (s:aL) (i v:Nat) (n:Int) (hn:n=i) (hi:i<s.size) (hv:s[i].toNat=v) (w:World) :
  (Instr.index t (.string s) (.int .i64 n)).run prog w = .ok (.int .u8 v) w:=by
 subst hn hv;rw [run_index_string w _ _ _ _ ht];simp [hi]
theorem mZ (ev:Operand->Value) (o:Oper) (T:TypeId) (hT:prog.underlying T=some .string) (s:aL) (i v:Nat) (n:Int) (ho:∃ x y,o.op = .index T x y/\ev x = .string s/\ev y = .int .i64 n) (hn:n=i)
  (hv:∃ h:i<s.size,s[i].toNat=v) (w:World):(execOp ev o).run prog w = .ok (.value (.int .u8 v)) w:=by
 obtain ⟨x,y,ho,hx,hy⟩:=ho;have h:=Fh T hT s i v n hn hv.1 hv.2 w;unfold execOp;rw [ho];simp only [hx,hy];simp [h]
theorem Fb (s:aL) (hs:64<=s.size) (hsm:s.size<=1000000) (w:World) :
  Calls prog 156 #[.string s] w λe w'=>e = .returned (.agg (ac (og (tV s) 64)))/\Below w.heap.size w w':=by
 have HQ:=hid (QB s);have HG:=hid (OM s);have hR0:=Row.zero (w.alloc (.cells (za 64) 223)) 223 64;rw [show (w.alloc (.cells (za 64) 223)).heap.size=w.heap.size+1 by simp] at hR0;have il:=hid hR0;clear hR0;obtain ⟨g,hg⟩:=ay (tV s)
 rw [hg] at HQ HG ⊢;clear hg;go_enter func156,ntmps156;go_wp2_with (refine eZ rfl _ _ (jm _ _ rfl _) ?_)
 go_loopw [8] (λi wr=>∃ k:Nat,k<=16/\i = .int .i64 k/\Hid (Row wr (w.heap.size+1) 223 64 (og g k))/\Below (w.heap.size+1) (w.alloc (.cells (za 64) 223)) wr) (λi _=>16-(intOf i).toNat)
 case atStart=>exact ⟨0,by omega,rfl,il,aH.alloc (by simp) _⟩
 case round =>
  obtain ⟨k,hk,rfl,HR,hB⟩:=hrel;by_cases hlt:k<16
  .have p0:4*k<s.size:=by omega
   have p1:4*k+1<s.size:=by omega
   have p2:4*k+2<s.size:=by omega
   have p3:4*k+3<s.size:=by omega
   have q0:=HQ.out _ p0;have q1:=HQ.out _ p1;have q2:=HQ.out _ p2;have q3:=HQ.out _ p3;have g0:=HG.out (4*k);have g1:=HG.out (4*k+1);have g2:=HG.out (4*k+2);have g3:=HG.out (4*k+3);have hc:=HR.out.cell (i:=k) (by omega);have hf:=HR.out.frozen k;have HN:Hid (Row (wr.setCell ⟨w.heap.size+1,k,none⟩ (.int .u32 (nW g k 4:Nat))) (w.heap.size+1) 223 64 (og g (k+1))):=hid (by
    have:=Row.put HR.out (nW g k 4);rw [jZ] at this;rw [og,DC,if_pos hlt];exact this)
   have HW:=sec (Xk g k);obtain ⟨a,ha⟩:=ay (g (4*k))
   obtain ⟨b,hb⟩:=ay (g (4*k+1))
   obtain ⟨c,hc'⟩:=ay (g (4*k+2))
   obtain ⟨d,hd⟩:=ay (g (4*k+3))
   rw [ha,hb,hc',hd] at HW;rw [ha] at q0 g0;rw [hb] at q1 g1;rw [hc'] at q2 g2;rw [hd] at q3 g3;clear ha hb hc' hd;have o1:=aat a b g0 g1;have o2:=aal (a*256+b) c (by omega) g2;have o3:=aak ((a*256+b)*256+c) d (by omega) g3;rw [show (a*256+b)*65536=a*16777216+b*65536 by omega] at o2;rw [show ((a*256+b)*256+c)*256=a*16777216+b*65536+c*256 by omega] at o3;rw [show a*16777216+b*65536+c*256+d=nW g k 4 by rw [HW.out]; omega] at o3;obtain ⟨y2,hy2⟩:=ay (a*16777216+b*65536+c*256)
   rw [hy2] at o2 o3;obtain ⟨y1,hy1⟩:=ay (a*16777216+b*65536)
   rw [hy1] at o1 o2;clear hy1 hy2;obtain ⟨W,T8⟩:=ay (nW g k 4)
   rw [T8] at o3 HN;clear T8 HW;have O1:=sec o1;have O2:=sec o2;have O3:=sec o3;clear o1 o2 o3;have l4:(0:Int)<=(k:Int):=by omega
   have l5:(k:Int)<64:=by omega
   have va:IntKind.u32.wrap (a:Int)=a:=by rw [IntKind.wrap_u32']; omega
   have vb:IntKind.u32.wrap (b:Int)=b:=by rw [IntKind.wrap_u32']; omega
   have vc:IntKind.u32.wrap (c:Int)=c:=by rw [IntKind.wrap_u32']; omega
   have vd:IntKind.u32.wrap (d:Int)=d:=by rw [IntKind.wrap_u32']; omega
   have va2:IntKind.u32.wrap ((a:Int)*16777216)=(a:Int)*16777216:=by rw [IntKind.wrap_u32']; omega
   have vb2:IntKind.u32.wrap ((b:Int)*65536)=(b:Int)*65536:=by rw [IntKind.wrap_u32']; omega
   have vc2:IntKind.u32.wrap ((c:Int)*256)=(c:Int)*256:=by rw [IntKind.wrap_u32']; omega
   have w0:IntKind.i64.wrap (4*(k:Int))=4*(k:Int):=IntWalk.i64_in _ (by omega);have w1:IntKind.i64.wrap (4*(k:Int)+1)=4*(k:Int)+1:=IntWalk.i64_in _ (by omega);have w2:IntKind.i64.wrap (4*(k:Int)+2)=4*(k:Int)+2:=IntWalk.i64_in _ (by omega);have w3:IntKind.i64.wrap (4*(k:Int)+3)=4*(k:Int)+3:=IntWalk.i64_in _ (by omega);have Q0:Sec (∃ h:4*k<s.size,s[4*k].toNat=a):=sec ⟨p0,q0⟩;have Q1:Sec (∃ h:4*k+1<s.size,s[4*k+1].toNat=b):=sec ⟨p1,q1⟩
   have Q2:Sec (∃ h:4*k+2<s.size,s[4*k+2].toNat=c):=sec ⟨p2,q2⟩;have Q3:Sec (∃ h:4*k+3<s.size,s[4*k+3].toNat=d):=sec ⟨p3,q3⟩;clear p0 p1 p2 p3 q0 q1 q2 q3;go_wp2_with fail
   refine aC (S:=λ_=>True) (trivial) λhld=>?_;refine ah 0 ?_;try simp only [Act.put,ak]
   refine ah 1 ?_;try simp only [Act.put,ak]
   refine ah 2 ?_;try simp only [Act.put,ak]
   refine ah 3 ?_;try simp only [Act.put,ak]
   refine ah 4 ?_ (hy:=by intro wz hSw; refine mZ _ _ 9 underlying9 s (4*k) a (4*(k:Int)) ?_ (by omega) Q0.out wz; exact ⟨_,_,rfl,rfl,rfl⟩);try simp only [Act.put,ak]
   refine ah 5 ?_;try simp only [Act.put,ak]
   refine ah 6 ?_;try simp only [Act.put,ak]
   refine ah 7 ?_;try simp only [Act.put,ak]
   refine ah 8 ?_;try simp only [Act.put,ak]
   refine ah 9 ?_;try simp only [Act.put,ak]
   refine ah 10 ?_;try simp only [Act.put,ak]
   refine ah 11 ?_ (hy:=by intro wz hSw; refine mZ _ _ 9 underlying9 s (4*k+1) b (4*(k:Int)+1) ?_ (by omega) Q1.out wz; exact ⟨_,_,rfl,rfl,rfl⟩);try simp only [Act.put,ak]
   refine ah 12 ?_;try simp only [Act.put,ak]
   refine ah 13 ?_;try simp only [Act.put,ak]
   refine ah 14 ?_;try simp only [Act.put,ak]
   refine ah 15 ?_;try simp only [Act.put,ak]
   refine ah 16 ?_;try simp only [Act.put,ak]
   refine ah 17 ?_;try simp only [Act.put,ak]
   refine ah 18 ?_;try simp only [Act.put,ak]
   refine ah 19 ?_ (hy:=by intro wz hSw; refine mZ _ _ 9 underlying9 s (4*k+2) c (4*(k:Int)+2) ?_ (by omega) Q2.out wz; exact ⟨_,_,rfl,rfl,rfl⟩);try simp only [Act.put,ak]
   refine ah 20 ?_;try simp only [Act.put,ak]
   refine ah 21 ?_;try simp only [Act.put,ak]
   refine ah 22 ?_;try simp only [Act.put,ak]
   refine ah 23 ?_;try simp only [Act.put,ak]
   refine ah 24 ?_;try simp only [Act.put,ak]
   refine ah 25 ?_;try simp only [Act.put,ak]
   refine ah 26 ?_;try simp only [Act.put,ak]
   refine ah 27 ?_ (hy:=by intro wz hSw; refine mZ _ _ 9 underlying9 s (4*k+3) d (4*(k:Int)+3) ?_ (by omega) Q3.out wz; exact ⟨_,_,rfl,rfl,rfl⟩);try simp only [Act.put,ak]
   refine ah 28 ?_;try simp only [Act.put,ak]
   refine ah 29 ?_;try simp only [Act.put,ak]
   refine ah 30 ?_;try simp only [Act.put,ak]
   refine aj 31 λK hK=>?_;go_simp;refine hK.out _ _ ?_ (λhld=>?_)
   .trivial
   clear hK K;try simp only [Act.put,ak]
   refine aB ?_;go_wp2;go_roundw
   case rel=>exact ⟨k+1,by omega,by go_num,by rw [O1.out,O2.out,O3.out]; exact HN,(hB.setCell (p:=⟨w.heap.size+1,k,none⟩) (by simp) _).drew⟩
   case measure=>simp [intOf]; omega
  .have qq:k=16:=by omega
   rw [qq] at HR;clear qq;go_wp2;go_loopw [5,6,7] (λi _ _ wr=>∃ k:Nat,16<=k/\k<=64/\i = .int .i64 k/\Hid (Row wr (w.heap.size+1) 223 64 (og g k))/\Below (w.heap.size+1) (w.alloc (.cells (za 64) 223)) wr) (λi _ _ _=>64-(intOf i).toNat)
   case atStart=>exact ⟨16,by omega,by omega,rfl,HR,hB⟩
   case round =>
    clear HR hB hk hlt;obtain ⟨k,h16,hk,rfl,HR,hB⟩:=hrel;by_cases hlt:k<64
    .obtain ⟨p,rfl⟩:∃ p,k=p+16:=⟨k-16,by omega⟩
     obtain ⟨l,hl⟩:=ay (og g (p+16))
     have hll:l.length=p+16:=by rw [<-hl]; exact jZ g _
     have hlb:=λj=>getD_lt (l:=l) (by rw [<-hl]; exact Es g HG.out _) j;have hR:=HR.out;rw [hl] at hR;have c0:=hR.cell (i:=p) (by omega);have c1:=hR.cell (i:=p+1) (by omega);have c9:=hR.cell (i:=p+9) (by omega);have c14:=hR.cell (i:=p+14) (by omega);have cs:=hR.cell (i:=p+16) (by omega);have hfr:=hR.frozen (p+16)
     have HN:Hid (Row (wr.setCell ⟨w.heap.size+1,p+16,none⟩ (.int .u32 ((l.getD p 0+sg0 (l.getD (p+1) 0)+l.getD (p+9) 0+sg1 (l.getD (p+14) 0))%4294967296:Nat))) (w.heap.size+1) 223 64 (og g (p+16+1))):=hid (by
      have:=Row.put hR ((l.getD p 0+sg0 (l.getD (p+1) 0)+l.getD (p+9) 0+sg1 (l.getD (p+14) 0))%4294967296);rw [hll] at this;rw [og,hl,DC,if_neg (by omega),show p+16-16=p by omega,show p+16-15=p+1 by omega,show p+16-7=p+9 by omega,show p+16-2=p+14 by omega];exact this)
     have b0:=hlb p;have b1:=hlb (p+1);have b9:=hlb (p+9);have b14:=hlb (p+14);clear HR hl hll hlb hR;obtain ⟨x0,hx0⟩:=ay (l.getD p 0)
     obtain ⟨x1,hx1⟩:=ay (l.getD (p+1) 0)
     obtain ⟨x9,CC⟩:=ay (l.getD (p+9) 0)
     obtain ⟨dt,CL⟩:=ay (l.getD (p+14) 0)
     rw [hx0] at HN c0 b0;rw [hx1] at HN c1 b1;rw [CC] at HN c9 b9;rw [CL] at HN c14 b14;clear hx0 hx1 CC CL;have HT1:=hid (eX x1 7 7 rfl b1 (by omega) (by omega));have HT2:=hid (eX x1 18 18 rfl b1 (by omega) (by omega));have ia:=hid (eX dt 17 17 rfl b14 (by omega) (by omega));have wA:=hid (eX dt 19 19 rfl b14 (by omega) (by omega));have e1:=u32_xor_nat (bQ x1 7) (bQ x1 18) (bY 7 x1 b1) (bY 18 x1 b1);have e2:=u32_xor_nat (bQ x1 7 ^^^ bQ x1 18) (x1/8) (Nat.xor_lt_two_pow (n:=32) (bY 7 x1 b1) (bY 18 x1 b1)) (by omega)
     have e4:=u32_xor_nat (bQ dt 17) (bQ dt 19) (bY 17 dt b14) (bY 19 dt b14);have e5:=u32_xor_nat (bQ dt 17 ^^^ bQ dt 19) (dt/1024) (Nat.xor_lt_two_pow (n:=32) (bY 17 dt b14) (bY 19 dt b14)) (by omega);have q1:bQ x1 7 ^^^ bQ x1 18 ^^^ (x1/8)=sg0 x1:=by unfold sg0; rw [sM]
     have q2:bQ dt 17 ^^^ bQ dt 19 ^^^ (dt/1024)=sg1 dt:=by unfold sg1; rw [sM]
     rw [q1] at e2;rw [q2] at e5;have s0b:=YQ x1 b1;have s1b:=Zx dt b14;obtain ⟨z0,hz0⟩:=ay (sg0 x1)
     obtain ⟨z1,hz1⟩:=ay (sg1 dt)
     rw [hz0] at HN e2 s0b;rw [hz1] at HN e5 s1b;clear hz0 hz1 q1 q2;generalize bQ x1 7 ^^^ bQ x1 18=y1 at e1 e2;generalize bQ dt 17 ^^^ bQ dt 19=y4 at e4 e5;generalize bQ x1 7=a1 at HT1 e1;generalize bQ x1 18=a2 at HT2 e1;generalize bQ dt 17=a4 at ia e4;generalize bQ dt 19=a5 at wA e4;have E1:=sec e1;have E2:=sec e2;have E4:=sec e4;have E5:=sec e5;clear e1 e2 e4 e5;have l0:(0:Int)<=(p:Int)+1:=by omega
     have l1:(p:Int)+1<64:=by omega
     have l2:(0:Int)<=(p:Int)+14:=by omega
     have l3:(p:Int)+14<64:=by omega
     have l4:((p:Int)+14).toNat=p+14:=by omega
     have l5:((p:Int)+1).toNat=p+1:=by omega
     have w1:IntKind.i64.wrap ((p:Int)+16-15)=(p:Int)+1:=by rw [IntKind.wrap_i64]; omega
     have A0:IntKind.i64.wrap ((p:Int)+16-2)=(p:Int)+14:=by rw [IntKind.wrap_i64]; omega
     go_wp2_with fail
     go_quiet (fail)
     obtain ⟨n1,rfl⟩:=au nq
     clear l0 l1 l2 l3 l4 l5 w1 A0 c1 c14;have e1:=E1.out;have e2:=E2.out;have e4:=E4.out;have e5:=E5.out;rw [show ((x1/8:Nat):Int)=(x1:Int)/8 by omega] at e2;rw [show ((dt/1024:Nat):Int)=(dt:Int)/1024 by omega] at e5;clear E1 E2 E4 E5;go_wp2_with fail
     (with_reducible refine (HT1.out _).mono ?_)
     rintro e w3 ⟨rfl,rfl⟩;go_wp2_with fail
     (with_reducible refine (HT2.out _).mono ?_)
     rintro e w3 ⟨rfl,rfl⟩;go_wp2_with fail
     (with_reducible refine (ia.out _).mono ?_)
     rintro e w3 ⟨rfl,rfl⟩;go_wp2_with fail
     (with_reducible refine (wA.out _).mono ?_)
     rintro e w3 ⟨rfl,rfl⟩;go_wp2_with fail
     clear HT1 HT2 ia wA e1 e2 e4 e5;have l0:(0:Int)<=(p:Int):=by omega
     have l1:(p:Int)<64:=by omega
     have l2:(0:Int)<=(p:Int)+9:=by omega
     have l3:(p:Int)+9<64:=by omega
     have l4:((p:Int)+9).toNat=p+9:=by omega
     have w1:IntKind.i64.wrap (p:Int)=(p:Int):=by rw [IntKind.wrap_i64]; omega
     have w9:IntKind.i64.wrap ((p:Int)+16-7)=(p:Int)+9:=by rw [IntKind.wrap_i64]; omega
     have l6:(0:Int)<=(p:Int)+16:=by omega
     have l7:(p:Int)+16<64:=by omega
     have l8:((p:Int)+16).toNat=p+16:=by omega
     have HV:Sec (((((x0:Int)+z0)%4294967296+x9)%4294967296+z1)%4294967296=((x0+z0+x9+z1)%4294967296:Nat)):=sec (by omega);refine aC (S:=λw'=>w'.cell? ⟨w.heap.size+1,p,none⟩=some (.int .u32 (x0:Nat))/\w'.cell? ⟨w.heap.size+1,p+9,none⟩=some (.int .u32 (x9:Nat))) (⟨c0,c9⟩) λhld=>?_;refine ah 0 ?_;try simp only [Act.put,ak]
     refine ah 1 ?_;try simp only [Act.put,ak]
     refine ah 2 ?_;try simp only [Act.put,ak]
     refine ah 3 ?_;try simp only [Act.put,ak]
     refine ah 4 ?_;try simp only [Act.put,ak]
     refine ah 5 ?_;try simp only [Act.put,ak]
     refine ah 6 ?_;try simp only [Act.put,ak]
     refine ah 7 ?_;try simp only [Act.put,ak]
     refine ah 8 ?_;try simp only [Act.put,ak]
     refine ah 9 ?_;try simp only [Act.put,ak]
     refine ah 10 ?_;try simp only [Act.put,ak]
     refine ah 11 ?_;try simp only [Act.put,ak]
     refine ah 12 ?_;try simp only [Act.put,ak]
     refine ah 13 ?_;try simp only [Act.put,ak]
     refine ah 14 ?_;try simp only [Act.put,ak]
     refine aj 15 λK hK=>?_;go_simp;refine hK.out _ _ (⟨by rw [World.cell?_setCell_other _ _ _ _ (by simp; try omega)]; exact c0,by rw [World.cell?_setCell_other _ _ _ _ (by simp; try omega)]; exact c9⟩) λhld=>?_;clear hK K;try simp only [Act.put,ak]
     refine aB ?_;clear l0 l1 l2 l3 l4 l6 l7 l8 w1 w9 hld;go_wp2;go_roundw
     case rel=>exact ⟨p+16+1,by omega,by omega,by go_num,hid (by rw [HV.out]; exact HN.out),(below_drewN hB (n1+1)).setCell (p:=⟨w.heap.size+1,p+16,none⟩) (by simp) _⟩
     case measure=>simp [intOf]; omega
    .obtain rfl:k=64:=by omega
     have HG2:=hid (ZH (og g 64) HR.out (jZ g 64) (λ_ _=>rfl));have HB0:Hid (wr.heap[w.heap.size]? = some (.cells (za 64) 223 (0,0))):=hid (by rw [hB.block _ (by simp)]; exact heap_alloc_new _ _);obtain ⟨l,hl⟩:=ay (og g 64)
     have hll:l.length=64:=by rw [<-hl]; exact jZ g _
     rw [hl] at HG2;have lE:=sec hl;clear HR hl;go_wp2_with (first | (refine wpList_load_row rfl _ _ rfl (w.heap.size+1) rfl 223 (ac l) (0,0) _ HG2.out underlying223 rfl (by rw [bC,hll]; exact mV) ?_) | (refine wpList_store_rowTo rfl 223 _ _ rfl rfl _ (ac l) rfl rfl 223 (za 64) HB0.out (by rw [bC,hll]; exact mV) (by rw [bC,hll,za,bC]; simp) (iP _) ?_))
     exact bodyPost_ret (results_cell_row rfl _ _ w.heap.size 223 (ac l) (0,0) _ rfl (setRow_heap _ _ _ _ _ _ HB0.out) underlying223 rfl (by rw [bC,hll]; exact mV)) rfl ⟨by rw [lE.out],eG (((Below.refl w.heap.size w).alloc aG _).trans (hB.mono (by simp))) aG _⟩
theorem NM (e:Nat) (he:e<4294967296):4294967295 ^^^ e=4294967295-e:=by
 apply Nat.eq_of_testBit_eq;intro i;have h:=Nat.testBit_two_pow_sub_succ (n:=32) (x:=e) he i;rw [show 2 ^ 32-(e+1)=4294967295-e by omega] at h;have h1:=Nat.testBit_two_pow_sub_one (n:=32) (i:=i);rw [show 2 ^ 32-1=4294967295 by rfl] at h1;rw [Nat.testBit_xor,h,h1];by_cases hi:i<32
 .simp [hi]
 .have:e.testBit i=false:=Nat.testBit_lt_two_pow (aI he (Nat.pow_le_pow_right (n:=2) (by omega) (show 32<=i by omega)));simp [hi,this]
theorem Wh (e f g:Nat) (he:e<4294967296):(e &&& f) ^^^ ((4294967295-e) &&& g)=GH e f g:=by
 unfold GH;rw [<-NM e he];apply Nat.eq_of_testBit_eq;intro i;have h1:=Nat.testBit_two_pow_sub_one (n:=32) (i:=i);rw [show 2 ^ 32-1=4294967295 by rfl] at h1;simp only [Nat.testBit_xor,Nat.testBit_and,Nat.testBit_or,h1];by_cases hi:i<32
 .simp only [hi,decide_true];cases e.testBit i <;> cases f.testBit i <;> cases g.testBit i <;> rfl
 .have:e.testBit i=false:=Nat.testBit_lt_two_pow (aI he (Nat.pow_le_pow_right (n:=2) (by omega) (show 32<=i by omega)));simp [hi,this]
theorem TR (a b c:Nat):(a &&& b) ^^^ (a &&& c) ^^^ (b &&& c)=rJ a b c:=by
 unfold rJ;apply Nat.eq_of_testBit_eq;intro i;simp only [Nat.testBit_xor,Nat.testBit_and,Nat.testBit_or];cases a.testBit i <;> cases b.testBit i <;> cases c.testBit i <;> rfl
theorem Xw (x0 x1 x2 x3 x4 x5 x6 x7 v0 v1 v2 v3 v4 v5 v6 v7:Nat) :
  ((((((((ac [x0,x1,x2,x3,x4,x5,x6,x7]).setIfInBounds 0 (.int .u32 v0)).setIfInBounds 1 (.int .u32 v1)).setIfInBounds 2 (.int .u32 v2)).setIfInBounds 3 (.int .u32 v3)).setIfInBounds 4 (.int .u32 v4)).setIfInBounds 5 (.int .u32 v5)).setIfInBounds 6 (.int .u32 v6)).setIfInBounds 7 (.int .u32 v7)
   = ac [v0,v1,v2,v3,v4,v5,v6,v7]:=by
 simp [ac]
theorem ZK {r:Option Nat} (h:w.grownBy w1 r):w.grownBy w1.drew r:=⟨h.os,h.tape,h.output,h.size,h.block⟩
theorem Ir (v:Value) (h:w.grownBy w1 (some g)):w.grownBy (w1.setCell ⟨g,j,none⟩ v) (some g) :=
 ⟨h.os,h.tape,h.output,by have:=h.size; simp; omega,λk hk hne=>(heap_setCell_other _ _ _ _ (by simpa using hne)).trans (h.block k hk hne)⟩
theorem KE (n x:Nat) (w:World) :
  Calls prog 157 #[.int .u32 n,.int .u32 x] w λe w'=>e = .returned (.func (Fn.func 177) #[] #[.pointer (some ⟨w.heap.size,0,none⟩),.pointer (some ⟨w.heap.size+1,0,none⟩)])/\w'=(w.alloc (.cells #[.int .u32 n] 125)).alloc (.cells #[.int .u32 x] 125):=by
 go_enter func157,ntmps157;go_wp2;go_ret;exact ⟨rfl,rfl⟩
theorem Pm (g bn bw kk wk x0 x1 x2 x3 x4 x5 x6 x7:Nat) (b0:x0<4294967296) (b1:x1<4294967296) (b2:x2<4294967296) (b4:x4<4294967296) (b5:x5<4294967296) (b6:x6<4294967296)
  (w:World) (hg:w.heap[g]? = some (.cells (ac [x0,x1,x2,x3,x4,x5,x6,x7]) 178 (0,0))) (hn:w.cell? ⟨bn,0,none⟩=some (.int .u32 kk)) (hw:w.cell? ⟨bw,0,none⟩=some (.int .u32 wk)) :
  Calls prog 177 #[.pointer (some ⟨g,0,none⟩),.pointer (some ⟨bn,0,none⟩),.pointer (some ⟨bw,0,none⟩)] w λe w'=>e = .returned (.tuple #[])/\w'.heap[g]? = some (.cells (ac (wY kk wk [x0,x1,x2,x3,x4,x5,x6,x7])) 178 (0,0))/\w.grownBy w' (some g):=by
 have c0:w.cell? ⟨g,0,none⟩=some (.int .u32 x0):=cell_of_row w g 0 _ _ _ hg;have c1:w.cell? ⟨g,1,none⟩=some (.int .u32 x1):=cell_of_row w g 1 _ _ _ hg;have c2:w.cell? ⟨g,2,none⟩=some (.int .u32 x2):=cell_of_row w g 2 _ _ _ hg;have c3:w.cell? ⟨g,3,none⟩=some (.int .u32 x3):=cell_of_row w g 3 _ _ _ hg;have c4:w.cell? ⟨g,4,none⟩=some (.int .u32 x4):=cell_of_row w g 4 _ _ _ hg;have c5:w.cell? ⟨g,5,none⟩=some (.int .u32 x5):=cell_of_row w g 5 _ _ _ hg;have c6:w.cell? ⟨g,6,none⟩=some (.int .u32 x6):=cell_of_row w g 6 _ _ _ hg
 have c7:w.cell? ⟨g,7,none⟩=some (.int .u32 x7):=cell_of_row w g 7 _ _ _ hg;have fz:∀ j,w.frozen? ⟨g,j,none⟩=false:=λj=>frozen_of_row w g j _ _ hg;have HG:=sec hg;have HFZ:=sec fz;clear hg fz;go_enter func177,ntmps177;go_wp2_with fail
 go_quiet (fail)
 obtain ⟨n1,rfl⟩:=au nq
 go_wp2_with fail
 go_quiet (fail)
 obtain ⟨n2,rfl⟩:=au nq
 have hpk:=UW x4 x5 x6 b4;have A1:=u32_and_nat x4 x5 b4 b5;have A2:=u32_xor_nat 4294967295 x4 (by omega) b4;rw [NM x4 b4] at A2;have A3:=u32_and_nat (4294967295-x4) x6 (by omega) b6;have A4:=u32_xor_nat (x4 &&& x5) ((4294967295-x4) &&& x6) (Nat.lt_of_le_of_lt Nat.and_le_left b4) (Nat.lt_of_le_of_lt Nat.and_le_left (by omega));rw [Wh x4 x5 x6 b4] at A4;have A2:bits .xor .u32 IntKind.u32.max (x4:Int)=((4294967295-x4:Nat):Int):=A2;obtain ⟨pk,u2⟩:=ay (GH x4 x5 x6)
 rw [u2] at hpk A4;have HPK:=sec u2;clear u2;obtain ⟨m4,T9⟩:=ay (4294967295-x4)
 rw [T9] at A2 A3 A4;clear T9;generalize x4 &&& x5=p1 at A1 A4;generalize m4 &&& x6=p2 at A3 A4;go_wp2_with fail
 clear A1 A2 A3 A4;have HT1:=hid (eX x4 6 6 rfl b4 (by omega) (by omega));have HT2:=hid (eX x4 11 11 rfl b4 (by omega) (by omega));have HT3:=hid (eX x4 25 25 rfl b4 (by omega) (by omega));have e1:=u32_xor_nat (bQ x4 6) (bQ x4 11) (bY 6 x4 b4) (bY 11 x4 b4);have e2:=u32_xor_nat (bQ x4 6 ^^^ bQ x4 11) (bQ x4 25) (Nat.xor_lt_two_pow (n:=32) (bY 6 x4 b4) (bY 11 x4 b4)) (bY 25 x4 b4);have hq:bQ x4 6 ^^^ bQ x4 11 ^^^ bQ x4 25=bs1 x4:=rfl;rw [hq] at e2;have tB1:=Zm x4 b4;obtain ⟨B1,hB1⟩:=ay (bs1 x4)
 rw [hB1] at e2 tB1;have HB1:=sec hB1;clear hB1 hq;generalize bQ x4 6 ^^^ bQ x4 11=y1 at e1 e2;generalize bQ x4 6=a1 at HT1 e1;generalize bQ x4 11=a2 at HT2 e1;generalize bQ x4 25=a3 at HT3 e2;have HX:Sec ((x7+B1+pk+kk+wk)%4294967296=((((x7+B1)%4294967296+pk)%4294967296+kk)%4294967296+wk)%4294967296):=sec (by omega);have v1:IntKind.u32.wrap ((x7:Int)+B1)=((x7+B1)%4294967296:Nat):=by rw [IntKind.wrap_u32']; omega
 have v2:IntKind.u32.wrap ((((x7+B1)%4294967296:Nat):Int)+pk)=(((x7+B1)%4294967296+pk)%4294967296:Nat):=by rw [IntKind.wrap_u32']; omega
 have v3:IntKind.u32.wrap (((((x7+B1)%4294967296+pk)%4294967296:Nat):Int)+kk)=((((x7+B1)%4294967296+pk)%4294967296+kk)%4294967296:Nat):=by rw [IntKind.wrap_u32']; omega
 have v4:IntKind.u32.wrap ((((((x7+B1)%4294967296+pk)%4294967296+kk)%4294967296:Nat):Int)+wk)=(((((x7+B1)%4294967296+pk)%4294967296+kk)%4294967296+wk)%4294967296:Nat):=by rw [IntKind.wrap_u32']; omega
 obtain ⟨s1,h1⟩:=ay ((x7+B1)%4294967296)
 rw [h1] at v1 v2 v3 v4 HX;obtain ⟨s2,h2⟩:=ay ((s1+pk)%4294967296)
 rw [h2] at v2 v3 v4 HX;obtain ⟨s3,h3⟩:=ay ((s2+kk)%4294967296)
 rw [h3] at v3 v4 HX;have hXb:(s3+wk)%4294967296<4294967296:=Nat.mod_lt _ (by omega);obtain ⟨X,hX⟩:=ay ((s3+wk)%4294967296)
 rw [hX] at v4 HX hXb;clear h1 h2 h3 hX;refine aC (S:=λw'=>w'.cell? ⟨bn,0,none⟩=some (.int .u32 (kk:Nat))/\w'.cell? ⟨bw,0,none⟩=some (.int .u32 (wk:Nat))) (⟨hn,hw⟩) λhld=>?_;refine ah 0 ?_;try simp only [Act.put,ak]
 refine ah 1 ?_;try simp only [Act.put,ak]
 refine ah 3 ?_;try simp only [Act.put,ak]
 refine ah 6 ?_;try simp only [Act.put,ak]
 refine ah 10 ?_;try simp only [Act.put,ak]
 refine ah 12 ?_;try simp only [Act.put,ak]
 refine ah 14 ?_;try simp only [Act.put,ak]
 refine aj 2 λK hK=>?_;go_simp;go_at_call 176
 (with_reducible refine (HT1.out _).mono ?_)
 rintro e w3 ⟨rfl,rfl⟩;refine hK.out _ _ ?_ (λhld=>?_)
 .assumption
 clear hK K;try simp only [Act.put,ak]
 refine aj 4 λK hK=>?_;go_simp;go_at_call 176
 (with_reducible refine (HT2.out _).mono ?_)
 rintro e w3 ⟨rfl,rfl⟩;refine hK.out _ _ ?_ (λhld=>?_)
 .assumption
 clear hK K;try simp only [Act.put,ak]
 refine ah 5 ?_;try simp only [Act.put,ak]
 refine aj 7 λK hK=>?_;go_simp;go_at_call 176
 (with_reducible refine (HT3.out _).mono ?_)
 rintro e w3 ⟨rfl,rfl⟩;refine hK.out _ _ ?_ (λhld=>?_)
 .assumption
 clear hK K;try simp only [Act.put,ak]
 refine ah 8 ?_;try simp only [Act.put,ak]
 refine ah 9 ?_;try simp only [Act.put,ak]
 refine ah 11 ?_;try simp only [Act.put,ak]
 refine ah 13 ?_;try simp only [Act.put,ak]
 refine ah 15 ?_;try simp only [Act.put,ak]
 refine ah 16 ?_;try simp only [Act.put,ak]
 refine aB ?_;clear HT1 HT2 HT3 e1 e2 v1 v2 v3 v4 hld;have HT1:=hid (eX x0 2 2 rfl b0 (by omega) (by omega));have HT2:=hid (eX x0 13 13 rfl b0 (by omega) (by omega));have HT3:=hid (eX x0 22 22 rfl b0 (by omega) (by omega));have e1:=u32_xor_nat (bQ x0 2) (bQ x0 13) (bY 2 x0 b0) (bY 13 x0 b0);have e2:=u32_xor_nat (bQ x0 2 ^^^ bQ x0 13) (bQ x0 22) (Nat.xor_lt_two_pow (n:=32) (bY 2 x0 b0) (bY 13 x0 b0)) (bY 22 x0 b0);have hq:bQ x0 2 ^^^ bQ x0 13 ^^^ bQ x0 22=bs0 x0:=rfl;rw [hq] at e2;have tB0:=Zh x0 b0
 obtain ⟨B0,hB0⟩:=ay (bs0 x0)
 rw [hB0] at e2 tB0;have HB0:=sec hB0;clear hB0 hq;generalize bQ x0 2 ^^^ bQ x0 13=y1 at e1 e2;generalize bQ x0 2=a1 at HT1 e1;generalize bQ x0 13=a2 at HT2 e1;generalize bQ x0 22=a3 at HT3 e2;have hmo:=TY x0 x1 x2 b0 b1;have A1:=u32_and_nat x0 x1 b0 b1;have A2:=u32_and_nat x0 x2 b0 b2;have A3:=u32_xor_nat (x0 &&& x1) (x0 &&& x2) (Nat.lt_of_le_of_lt Nat.and_le_left b0) (Nat.lt_of_le_of_lt Nat.and_le_left b0);have A4:=u32_and_nat x1 x2 b1 b2
 have A5:=u32_xor_nat ((x0 &&& x1) ^^^ (x0 &&& x2)) (x1 &&& x2) (Nat.xor_lt_two_pow (n:=32) (Nat.lt_of_le_of_lt Nat.and_le_left b0) (Nat.lt_of_le_of_lt Nat.and_le_left b0)) (Nat.lt_of_le_of_lt Nat.and_le_left b1);rw [TR] at A5;obtain ⟨mo,u4⟩:=ay (rJ x0 x1 x2)
 rw [u4] at hmo A5;have HMO:=sec u4;clear u4;generalize (x0 &&& x1) ^^^ (x0 &&& x2)=q3 at A3 A5;generalize x0 &&& x1=q1 at A1 A3;generalize x0 &&& x2=q2 at A2 A3;generalize x1 &&& x2=q5 at A4 A5;go_wp2_with fail
 (with_reducible refine (HT1.out _).mono ?_)
 rintro e w3 ⟨rfl,rfl⟩;go_wp2_with fail
 (with_reducible refine (HT2.out _).mono ?_)
 rintro e w3 ⟨rfl,rfl⟩;go_wp2_with fail
 (with_reducible refine (HT3.out _).mono ?_)
 rintro e w3 ⟨rfl,rfl⟩;go_wp2_with fail
 clear A1 A2 A3 A4 A5 HT1 HT2 HT3 e1 e2;have hY:((B0:Int)+mo)%4294967296=((B0+mo)%4294967296:Nat):=by omega
 have HY:Sec (yN x0 x1 x2=(B0+mo)%4294967296):=sec (by unfold yN; rw [HB0.out,HMO.out]);have hYb:(B0+mo)%4294967296<4294967296:=Nat.mod_lt _ (by omega);obtain ⟨Y,Tb⟩:=ay ((B0+mo)%4294967296)
 rw [Tb] at hY HY hYb;rw [hY];clear hY Tb;have fz:=HFZ.out;have v1:IntKind.u32.wrap ((X:Int)+Y)=((X+Y)%4294967296:Nat):=by rw [IntKind.wrap_u32']; omega
 have v2:IntKind.u32.wrap ((x3:Int)+X)=((x3+X)%4294967296:Nat):=by rw [IntKind.wrap_u32']; omega
 have cF:Sec (wY kk wk [x0,x1,x2,x3,x4,x5,x6,x7]=[(X+Y)%4294967296,x0,x1,x2,(x3+X)%4294967296,x4,x5,x6]):=sec (by
  show [(xN kk wk x4 x5 x6 x7+yN x0 x1 x2)%4294967296,x0,x1,x2,(x3+xN kk wk x4 x5 x6 x7)%4294967296,x4,x5,x6]=_;rw [HY.out,show xN kk wk x4 x5 x6 x7=X by unfold xN; rw [HB1.out,HPK.out]; exact HX.out])
 obtain ⟨N0,hN0⟩:=ay ((X+Y)%4294967296)
 obtain ⟨N4,Th⟩:=ay ((x3+X)%4294967296)
 rw [hN0] at v1 cF;rw [Th] at v2 cF;clear hN0 Th;refine aC (S:=λ_=>True) (trivial) λhld=>?_;refine ah 0 ?_;try simp only [Act.put,ak]
 refine ah 1 ?_;try simp only [Act.put,ak]
 refine ah 2 ?_;try simp only [Act.put,ak]
 refine ah 3 ?_;try simp only [Act.put,ak]
 refine ah 4 ?_;try simp only [Act.put,ak]
 refine ah 5 ?_;try simp only [Act.put,ak]
 refine ah 6 ?_;try simp only [Act.put,ak]
 refine ah 7 ?_;try simp only [Act.put,ak]
 refine ah 8 ?_;try simp only [Act.put,ak]
 refine ah 9 ?_;try simp only [Act.put,ak]
 refine ah 10 ?_;try simp only [Act.put,ak]
 refine ah 11 ?_;try simp only [Act.put,ak]
 refine ah 13 ?_;try simp only [Act.put,ak]
 refine ah 16 ?_;try simp only [Act.put,ak]
 refine ah 19 ?_;try simp only [Act.put,ak]
 refine aj 12 λK hK=>?_;go_simp;refine hK.out _ _ ?_ (λhld=>?_)
 .trivial
 clear hK K;try simp only [Act.put,ak]
 refine ah 14 ?_;try simp only [Act.put,ak]
 refine aj 15 λK hK=>?_;go_simp;refine hK.out _ _ ?_ (λhld=>?_)
 .trivial
 clear hK K;try simp only [Act.put,ak]
 refine ah 17 ?_;try simp only [Act.put,ak]
 refine aj 18 λK hK=>?_;go_simp;refine hK.out _ _ ?_ (λhld=>?_)
 .trivial
 clear hK K;try simp only [Act.put,ak]
 refine ah 20 ?_;try simp only [Act.put,ak]
 refine aj 21 λK hK=>?_;go_simp;refine hK.out _ _ ?_ (λhld=>?_)
 .trivial
 clear hK K;try simp only [Act.put,ak]
 refine aB ?_;go_wp2_with fail
 refine aC (S:=λ_=>True) (trivial) λhld=>?_;refine ah 0 ?_;try simp only [Act.put,ak]
 refine ah 1 ?_;try simp only [Act.put,ak]
 refine ah 2 ?_;try simp only [Act.put,ak]
 refine ah 3 ?_;try simp only [Act.put,ak]
 refine ah 4 ?_;try simp only [Act.put,ak]
 refine ah 5 ?_;try simp only [Act.put,ak]
 refine ah 6 ?_;try simp only [Act.put,ak]
 refine ah 7 ?_;try simp only [Act.put,ak]
 refine ah 8 ?_;try simp only [Act.put,ak]
 refine ah 9 ?_;try simp only [Act.put,ak]
 refine ah 10 ?_;try simp only [Act.put,ak]
 refine ah 11 ?_;try simp only [Act.put,ak]
 refine ah 13 ?_;try simp only [Act.put,ak]
 refine ah 16 ?_;try simp only [Act.put,ak]
 refine ah 19 ?_;try simp only [Act.put,ak]
 refine aj 12 λK hK=>?_;go_simp;refine hK.out _ _ ?_ (λhld=>?_)
 .trivial
 clear hK K;try simp only [Act.put,ak]
 refine ah 14 ?_;try simp only [Act.put,ak]
 refine aj 15 λK hK=>?_;go_simp;refine hK.out _ _ ?_ (λhld=>?_)
 .trivial
 clear hK K;try simp only [Act.put,ak]
 refine ah 17 ?_;try simp only [Act.put,ak]
 refine aj 18 λK hK=>?_;go_simp;refine hK.out _ _ ?_ (λhld=>?_)
 .trivial
 clear hK K;try simp only [Act.put,ak]
 refine ah 20 ?_;try simp only [Act.put,ak]
 refine aj 21 λK hK=>?_;go_simp;refine hK.out _ _ ?_ (λhld=>?_)
 .trivial
 clear hK K;try simp only [Act.put,ak]
 refine aB ?_;clear v1 v2 hld fz c0 c1 c2 c3 c4 c5 c6 c7 hn hw;go_end0;have k0:(w.drewN (n1+n2+1+1)).heap[g]? = some (.cells (ac [x0,x1,x2,x3,x4,x5,x6,x7]) 178 (0,0)):=HG.out;have k1:=heap_setCell_same _ g 0 _ _ (.int .u32 N0) k0;have k2:=heap_setCell_same _ g 1 _ _ (.int .u32 x0) k1;have k3:=heap_setCell_same _ g 2 _ _ (.int .u32 x1) k2;have k4:=heap_setCell_same _ g 3 _ _ (.int .u32 x2) k3;have k5:=heap_setCell_same _ g 4 _ _ (.int .u32 N4) k4;have k6:=heap_setCell_same _ g 5 _ _ (.int .u32 x4) k5
 have k7:=heap_setCell_same _ g 6 _ _ (.int .u32 x5) k6;have k8:=heap_setCell_same _ g 7 _ _ (.int .u32 x6) k7;refine ⟨rfl,?_,?_⟩
 .rw [cF.out,heap_drew,k8,Xw]
 .exact ZK (Ir _ (Ir _ (Ir _ (Ir _ (Ir _ (Ir _ (Ir _ (Ir _ ⟨rfl,rfl,rfl,aG,λ_ _ _=>rfl⟩))))))))
theorem lS (ev:Operand->Value) (o:Oper) (g:Nat) (w:World) (l:List Nat) (ho:∃ x,o.op = .load 178 x/\ev x = .pointer (some ⟨g,0,none⟩)) (hg:w.heap[g]? = some (.cells (ac l) 178 (0,0))) (hl:l.length=8) :
  (execOp ev o).run prog w = .ok (.value (.agg (ac l))) w:=by
 obtain ⟨x,ho,hx⟩:=ho;have h:=run_loadVar_row (P:=prog) w g 178 178 (ac l) (0,0) _ hg underlying178 rfl (by rw [bC,hl]; exact jy);unfold execOp;rw [ho];simp only [hx];simp [Instr.loadAt,Instr.sureAddr,h]
theorem uW (ev:Operand->Value) (o:Oper) (ho:o.op = .alloc 178) (w:World) (n:Nat) (hn:w.heap.size=n) :
  (execOp ev o).run prog w = .ok (.value (.pointer (some ⟨n,0,none⟩))) (w.alloc (.cells (za 8) 178)):=by
 subst hn; exact jW ev o ho w
theorem YJ (l:List Nat) (j x:Nat):(ac l).setIfInBounds j (.int .u32 x)=ac (l.set j x):=by simp [ac,List.map_set]
theorem KH (n x:Nat) (w:World) :
  Calls prog 157 #[.int .u32 n,.int .u32 x] w λe w'=>∃ b1 b2,e = .returned (.func (Fn.func 177) #[] #[.pointer (some ⟨b1,0,none⟩),.pointer (some ⟨b2,0,none⟩)])/\Rg.Own w' b1 #[.int .u32 n] 125/\Rg.Own w' b2 #[.int .u32 x] 125/\b1≠b2/\w.heap.size<=b1/\w.heap.size<=b2/\Below w.heap.size w w':=by
 refine (KE n x w).mono ?_;rintro e w' ⟨rfl,rfl⟩;refine ⟨_,_,rfl,(Rg.Own.new w _ _).below (aH.alloc aG _),?_,by omega,by omega,by omega,(aH.alloc aG _).alloc (by simp) _⟩;have:=Rg.Own.new (w.alloc (.cells #[.int .u32 n] 125)) #[.int .u32 x] 125;rw [show (w.alloc (.cells #[.int .u32 n] 125)).heap.size=w.heap.size+1 by simp] at this;exact this
theorem Xa (g bn bw kk wk:Nat) (l:List Nat) (hl:l.length=8) (hlt:∀ x∈l,x<4294967296) (w:World) (hg:w.heap[g]? = some (.cells (ac l) 178 (0,0))) (hn:Rg.Own w bn #[.int .u32 kk] 125) (hw:Rg.Own w bw #[.int .u32 wk] 125) :
  Calls prog 177 #[.pointer (some ⟨g,0,none⟩),.pointer (some ⟨bn,0,none⟩),.pointer (some ⟨bw,0,none⟩)] w λe w'=>e = .returned (.tuple #[])/\w'.heap[g]? = some (.cells (ac (wY kk wk l)) 178 (0,0))/\w.grownBy w' (some g):=by
 obtain ⟨x0,x1,x2,x3,x4,x5,x6,x7,rfl⟩:=eight l hl;exact Pm g bn bw kk wk x0 x1 x2 x3 x4 x5 x6 x7 (hlt _ (by simp)) (hlt _ (by simp)) (hlt _ (by simp)) (hlt _ (by simp)) (hlt _ (by simp)) (hlt _ (by simp)) w hg (cell_of_row w bn 0 _ _ _ hn.2) (cell_of_row w bw 0 _ _ _ hw.2)
theorem vC (l:List Nat) (j:Nat) (hj:j<8) (hl:l.length=8) (w:World):(Instr.index 178 (.agg (ac l)) (.int .i64 j)).run prog w = .ok (.int .u32 (l.getD j 0:Nat)) w:=by
 obtain ⟨x0,x1,x2,x3,x4,x5,x6,x7,rfl⟩:=eight l hl;have hc:j=0\/j=1\/j=2\/j=3\/j=4\/j=5\/j=6\/j=7:=by omega
 rcases hc with rfl | rfl | rfl | rfl | rfl | rfl | rfl | rfl <;> rfl
theorem SQ (s:aL) (k:Nat):(s.extract (64*k) s.size).extract 64 (s.extract (64*k) s.size).size=s.extract (64*(k+1)) s.size:=by
 rw [ByteArray.extract_extract];congr 1;simp;omega
theorem IE (s:aL) (k:Nat):tV (s.extract (64*k) s.size)=sW s.data.toList k:=by
 funext q;unfold tV sW;have e:(s.extract (64*k) s.size).data.toList=s.data.toList.drop (64*k):=by
  simp only [ByteArray.data_extract,Array.toList_extract,List.extract_eq_take_drop];rw [List.take_of_length_le (by simp)]
 rw [e,List.getD,List.getD,List.getElem?_drop]
theorem MS (h:List Nat) (hh:h.length=8) (hlt:∀ x∈h,x<4294967296) (s:aL) (hs:s.size<=1000000) (w:World) (hK:∀ i,i<64->w.cell? ⟨0,i,none⟩=some (.int .u32 (kN i:Nat))) :
  Calls prog 109 #[.agg (ac h),.string s] w λe w'=>e = .returned (.agg (ac (lY s.data.toList h (s.size/64))))/\Below w.heap.size w w':=by
 have HL:=hid (xO s.data.toList h hh);have HT:=hid (NZ s.data.toList h hlt);have h0:0<w.heap.size:=World.block_lt_of_cell? w _ (hK 0 (by omega));have HK:=hid hK;have sX:Hid ((w.alloc (.cells (ac h) 178)).heap[w.heap.size]? = some (.cells (ac (lY s.data.toList h 0)) 178 (0,0))):=hid (heap_alloc_new _ _);have cw:Hid (s=s.extract (64*0) s.size):=hid (by simp);obtain ⟨A,hA⟩:=ay (ac h)
 rw [hA] at sX ⊢;clear hA hh hlt hK;go_enter func109,ntmps109;go_wp2_with (refine eZ rfl _ _ (uW _ _ rfl _ (w.heap.size+1) (by simp)) ?_)
 go_frame
 go_loopw [1] (λv wr=>∃ k:Nat,k<=s.size/64/\v = .string (s.extract (64*k) s.size)/\Hid (wr.heap[w.heap.size]? = some (.cells (ac (lY s.data.toList h k)) 178 (0,0)))/\Rg.Own wr (w.heap.size+1) (za 8) 178/\Below w.heap.size w wr) (λv _=>match v with | .string b=>b.size | _=>0)
 case atStart=>exact ⟨0,by omega,by rw [<-cw.out],hid ((Lib.alloc_old _ _ _ (by simp)).trans sX.out),by have:=Rg.Own.new (w.alloc (.cells A 178)) (za 8) 178; rwa [show (w.alloc (.cells A 178)).heap.size=w.heap.size+1 by simp] at this,(aH.alloc aG _).alloc (by simp) _⟩
 case round =>
  obtain ⟨k,hk,rfl,HH,b8,hB⟩:=hrel;have hsz:(s.extract (64*k) s.size).size=s.size-64*k:=by simp
  by_cases hlt:k<s.size/64
  .have h64:64<=(s.extract (64*k) s.size).size:=by omega
   have eC:=Fb (s.extract (64*k) s.size) h64 (by omega);rw [IE] at eC;have eC:=hid eC;have kh:=hid (jZ (sW s.data.toList k) 64);have HWt:=hid (Es (sW s.data.toList k) (λq=>UInt8.toNat_lt _) 64);have lg:=sec (show tQ (sW s.data.toList k) (lY s.data.toList h k)=lY s.data.toList h (k+1) from rfl);unfold tQ at lg;obtain ⟨ws,hws⟩:=ay (og (sW s.data.toList k) 64)
   rw [hws] at eC kh HWt lg;clear hws;have eE:=hid (HL.out k);have F9:=hid (HT.out k);have hBx:w.heap.size<wr.heap.size/\w.heap.size+1<wr.heap.size:=by have:=b8.1; omega
   obtain ⟨H,hH⟩:=ay (lY s.data.toList h k)
   rw [hH] at HH eE F9 lg;clear hH;obtain ⟨z,hz⟩:=ay (s.extract (64*k) s.size)
   rw [hz] at eC h64 hsz ⊢;have HZ:=sec hz;clear hz;go_upto_region 3 with fail
   go_cut [5,6] (λp q wx=>∃ b c,p = .pointer (some ⟨b,0,none⟩)/\q = .pointer (some ⟨c,0,none⟩)/\b≠c/\wr.heap.size<=b/\wr.heap.size<=c/\Hid (wx.heap[b]? = some (.cells (ac ws) 223 (0,0)))/\Hid (wx.heap[c]? = some (.cells (ac H) 178 (0,0)))/\Below wr.heap.size wr wx)
   case first =>
    refine aC (S:=λw'=>Below wr.heap.size wr w') (aH.drew) λhld=>?_;refine ah 0 ?_;try simp only [Act.put,ak]
    refine ah 2 ?_ (hy:=by intro wz hSw; refine lS _ _ w.heap.size wz H ?_ (by rw [hSw.block _ hBx.1]; exact HH.out) eE.out; exact ⟨_,rfl,rfl⟩);try simp only [Act.put,ak]
    refine wpAnyH_ready (rs:=[1,3,4]) (by kernel_rfl) (by simp) ?_;refine Rg.readyC (i:=1) rfl (λK hK=>?_) (Rg.readyC (i:=3) rfl (λK hK=>?_) (Rg.readyL (i:=4) rfl (λK hK=>?_)))
    .go_simp;go_at_call 156
     (with_reducible refine (eC.out _).mono ?_)
     rintro e gr ⟨rfl,hbx⟩;refine hK.out _ _ (Below.trans hld (hbx.mono hld.size)) λhld=>?_;clear hK K;try simp only [Act.put,ak]
     refine wpAnyH_ready (rs:=[3,4]) (by kernel_rfl) (by simp) ?_;refine Rg.readyC (i:=3) rfl (λK hK=>?_) (Rg.readyL (i:=4) rfl (λK hK=>?_))
     .refine Rg.meetAlloc (by rfl) (jm _ _ rfl _) ?_;rintro wv1 b3 gS h3 hbx;have fp:wr.heap.size<=b3:=by rw [gS]; exact Below.size hld
      clear gS;refine hK.out _ _ (Below.trans hld (hbx.mono hld.size)) λhld=>?_;clear hK K hbx;try simp only [Act.put,ak]
      refine aj 4 λK hK=>?_;refine Rg.meetAlloc (by rfl) (jW _ _ rfl _) ?_;rintro wv2 b4 kj h4 hbx;have ii:wr.heap.size<=b4:=by rw [kj]; exact Below.size hld
      have aw:b3≠b4:=by have:=h3.1; omega
      replace h3:=h3.below hbx;clear kj;refine hK.out _ _ (Below.trans hld (hbx.mono hld.size)) λhld=>?_;clear hK K hbx;try simp only [Act.put,ak]
      refine aj 5 λK hK=>?_;refine Rg.meetStore (by rfl) h3 223 (ac ws) ⟨_,_,rfl,rfl,rfl⟩ (by rw [bC,kh.out]; exact mV) (by rw [bC,kh.out,za,bC]; simp) (iP _) ?_;rintro pw hn hu;replace h4:=h4.upd hu (Ne.symm aw);refine hK.out _ _ ?_ (λhld=>?_)
      .exact hu.below hld fp
      replace h3:=hn;clear hK K hn hu;try simp only [Act.put]
      refine aj 6 λK hK=>?_;refine Rg.meetStore (by rfl) h4 178 (ac H) ⟨_,_,rfl,rfl,rfl⟩ (by rw [bC,eE.out]; exact jy) (by rw [bC,eE.out,za,bC]; simp) (iP _) ?_;rintro CM hn hu;replace h3:=h3.upd hu aw;refine hK.out _ _ ?_ (λhld=>?_)
      .exact hu.below hld ii
      replace h4:=hn;clear hK K hn hu;try simp only [Act.put]
      refine aB ?_;go_wp2_with fail
      go_meet
      exact ⟨b3,b4,rfl,rfl,aw,fp,ii,hid h3.2,hid h4.2,hld⟩
     .refine Rg.meetAlloc (by rfl) (jW _ _ rfl _) ?_;rintro wv1 b4 kj h4 hbx;have ii:wr.heap.size<=b4:=by rw [kj]; exact Below.size hld
      clear kj;refine hK.out _ _ (Below.trans hld (hbx.mono hld.size)) λhld=>?_;clear hK K hbx;try simp only [Act.put,ak]
      refine aj 3 λK hK=>?_;refine Rg.meetAlloc (by rfl) (jm _ _ rfl _) ?_;rintro wv2 b3 gS h3 hbx;have fp:wr.heap.size<=b3:=by rw [gS]; exact Below.size hld
      have aw:b3≠b4:=by have:=h4.1; omega
      replace h4:=h4.below hbx;clear gS;refine hK.out _ _ (Below.trans hld (hbx.mono hld.size)) λhld=>?_;clear hK K hbx;try simp only [Act.put,ak]
      refine aj 5 λK hK=>?_;refine Rg.meetStore (by rfl) h3 223 (ac ws) ⟨_,_,rfl,rfl,rfl⟩ (by rw [bC,kh.out]; exact mV) (by rw [bC,kh.out,za,bC]; simp) (iP _) ?_;rintro pw hn hu;replace h4:=h4.upd hu (Ne.symm aw);refine hK.out _ _ ?_ (λhld=>?_)
      .exact hu.below hld fp
      replace h3:=hn;clear hK K hn hu;try simp only [Act.put]
      refine aj 6 λK hK=>?_;refine Rg.meetStore (by rfl) h4 178 (ac H) ⟨_,_,rfl,rfl,rfl⟩ (by rw [bC,eE.out]; exact jy) (by rw [bC,eE.out,za,bC]; simp) (iP _) ?_;rintro CM hn hu;replace h3:=h3.upd hu aw;refine hK.out _ _ ?_ (λhld=>?_)
      .exact hu.below hld ii
      replace h4:=hn;clear hK K hn hu;try simp only [Act.put]
      refine aB ?_;go_wp2_with fail
      go_meet
      exact ⟨b3,b4,rfl,rfl,aw,fp,ii,hid h3.2,hid h4.2,hld⟩
    .refine Rg.meetAlloc (by rfl) (jm _ _ rfl _) ?_;rintro gr b3 gS h3 hbx;have fp:wr.heap.size<=b3:=by rw [gS]; exact Below.size hld
     clear gS;refine hK.out _ _ (Below.trans hld (hbx.mono hld.size)) λhld=>?_;clear hK K hbx;try simp only [Act.put,ak]
     refine wpAnyH_ready (rs:=[1,4]) (by kernel_rfl) (by simp) ?_;refine Rg.readyC (i:=1) rfl (λK hK=>?_) (Rg.readyL (i:=4) rfl (λK hK=>?_))
     .go_simp;go_at_call 156
      (with_reducible refine (eC.out _).mono ?_)
      rintro e wv1 ⟨rfl,hbx⟩;replace h3:=h3.below hbx;refine hK.out _ _ (Below.trans hld (hbx.mono hld.size)) λhld=>?_;clear hK K;try simp only [Act.put,ak]
      refine aj 4 λK hK=>?_;refine Rg.meetAlloc (by rfl) (jW _ _ rfl _) ?_;rintro wv2 b4 kj h4 hbx;have ii:wr.heap.size<=b4:=by rw [kj]; exact Below.size hld
      have aw:b3≠b4:=by have:=h3.1; omega
      replace h3:=h3.below hbx;clear kj;refine hK.out _ _ (Below.trans hld (hbx.mono hld.size)) λhld=>?_;clear hK K hbx;try simp only [Act.put,ak]
      refine aj 5 λK hK=>?_;refine Rg.meetStore (by rfl) h3 223 (ac ws) ⟨_,_,rfl,rfl,rfl⟩ (by rw [bC,kh.out]; exact mV) (by rw [bC,kh.out,za,bC]; simp) (iP _) ?_;rintro pw hn hu;replace h4:=h4.upd hu (Ne.symm aw);refine hK.out _ _ ?_ (λhld=>?_)
      .exact hu.below hld fp
      replace h3:=hn;clear hK K hn hu;try simp only [Act.put]
      refine aj 6 λK hK=>?_;refine Rg.meetStore (by rfl) h4 178 (ac H) ⟨_,_,rfl,rfl,rfl⟩ (by rw [bC,eE.out]; exact jy) (by rw [bC,eE.out,za,bC]; simp) (iP _) ?_;rintro CM hn hu;replace h3:=h3.upd hu aw;refine hK.out _ _ ?_ (λhld=>?_)
      .exact hu.below hld ii
      replace h4:=hn;clear hK K hn hu;try simp only [Act.put]
      refine aB ?_;go_wp2_with fail
      go_meet
      exact ⟨b3,b4,rfl,rfl,aw,fp,ii,hid h3.2,hid h4.2,hld⟩
     .refine Rg.meetAlloc (by rfl) (jW _ _ rfl _) ?_;rintro wv1 b4 kj h4 hbx;have ii:wr.heap.size<=b4:=by rw [kj]; exact Below.size hld
      have aw:b3≠b4:=by have:=h3.1; omega
      replace h3:=h3.below hbx;clear kj;refine hK.out _ _ (Below.trans hld (hbx.mono hld.size)) λhld=>?_;clear hK K hbx;try simp only [Act.put,ak]
      refine aj 1 λK hK=>?_;go_simp;go_at_call 156
      (with_reducible refine (eC.out _).mono ?_)
      rintro e wv2 ⟨rfl,hbx⟩;replace h3:=h3.below hbx;replace h4:=h4.below hbx;refine hK.out _ _ (Below.trans hld (hbx.mono hld.size)) λhld=>?_;clear hK K;try simp only [Act.put,ak]
      refine aj 5 λK hK=>?_;refine Rg.meetStore (by rfl) h3 223 (ac ws) ⟨_,_,rfl,rfl,rfl⟩ (by rw [bC,kh.out]; exact mV) (by rw [bC,kh.out,za,bC]; simp) (iP _) ?_;rintro pw hn hu;replace h4:=h4.upd hu (Ne.symm aw);refine hK.out _ _ ?_ (λhld=>?_)
      .exact hu.below hld fp
      replace h3:=hn;clear hK K hn hu;try simp only [Act.put]
      refine aj 6 λK hK=>?_;refine Rg.meetStore (by rfl) h4 178 (ac H) ⟨_,_,rfl,rfl,rfl⟩ (by rw [bC,eE.out]; exact jy) (by rw [bC,eE.out,za,bC]; simp) (iP _) ?_;rintro CM hn hu;replace h3:=h3.upd hu aw;refine hK.out _ _ ?_ (λhld=>?_)
      .exact hu.below hld ii
      replace h4:=hn;clear hK K hn hu;try simp only [Act.put]
      refine aB ?_;go_wp2_with fail
      go_meet
      exact ⟨b3,b4,rfl,rfl,aw,fp,ii,hid h3.2,hid h4.2,hld⟩
    .refine Rg.meetAlloc (by rfl) (jW _ _ rfl _) ?_;rintro gr b4 kj h4 hbx;have ii:wr.heap.size<=b4:=by rw [kj]; exact Below.size hld
     clear kj;refine hK.out _ _ (Below.trans hld (hbx.mono hld.size)) λhld=>?_;clear hK K hbx;try simp only [Act.put,ak]
     refine wpAnyH_ready (rs:=[1,3]) (by kernel_rfl) (by simp) ?_;refine Rg.readyC (i:=1) rfl (λK hK=>?_) (Rg.readyL (i:=3) rfl (λK hK=>?_))
     .go_simp;go_at_call 156
      (with_reducible refine (eC.out _).mono ?_)
      rintro e wv1 ⟨rfl,hbx⟩;replace h4:=h4.below hbx;refine hK.out _ _ (Below.trans hld (hbx.mono hld.size)) λhld=>?_;clear hK K;try simp only [Act.put,ak]
      refine aj 3 λK hK=>?_;refine Rg.meetAlloc (by rfl) (jm _ _ rfl _) ?_;rintro wv2 b3 gS h3 hbx;have fp:wr.heap.size<=b3:=by rw [gS]; exact Below.size hld
      have aw:b3≠b4:=by have:=h4.1; omega
      replace h4:=h4.below hbx;clear gS;refine hK.out _ _ (Below.trans hld (hbx.mono hld.size)) λhld=>?_;clear hK K hbx;try simp only [Act.put,ak]
      refine aj 5 λK hK=>?_;refine Rg.meetStore (by rfl) h3 223 (ac ws) ⟨_,_,rfl,rfl,rfl⟩ (by rw [bC,kh.out]; exact mV) (by rw [bC,kh.out,za,bC]; simp) (iP _) ?_;rintro pw hn hu;replace h4:=h4.upd hu (Ne.symm aw);refine hK.out _ _ ?_ (λhld=>?_)
      .exact hu.below hld fp
      replace h3:=hn;clear hK K hn hu;try simp only [Act.put]
      refine aj 6 λK hK=>?_;refine Rg.meetStore (by rfl) h4 178 (ac H) ⟨_,_,rfl,rfl,rfl⟩ (by rw [bC,eE.out]; exact jy) (by rw [bC,eE.out,za,bC]; simp) (iP _) ?_;rintro CM hn hu;replace h3:=h3.upd hu aw;refine hK.out _ _ ?_ (λhld=>?_)
      .exact hu.below hld ii
      replace h4:=hn;clear hK K hn hu;try simp only [Act.put]
      refine aB ?_;go_wp2_with fail
      go_meet
      exact ⟨b3,b4,rfl,rfl,aw,fp,ii,hid h3.2,hid h4.2,hld⟩
     .refine Rg.meetAlloc (by rfl) (jm _ _ rfl _) ?_;rintro wv1 b3 gS h3 hbx;have fp:wr.heap.size<=b3:=by rw [gS]; exact Below.size hld
      have aw:b3≠b4:=by have:=h4.1; omega
      replace h4:=h4.below hbx;clear gS;refine hK.out _ _ (Below.trans hld (hbx.mono hld.size)) λhld=>?_;clear hK K hbx;try simp only [Act.put,ak]
      refine aj 1 λK hK=>?_;go_simp;go_at_call 156
      (with_reducible refine (eC.out _).mono ?_)
      rintro e wv2 ⟨rfl,hbx⟩;replace h4:=h4.below hbx;replace h3:=h3.below hbx;refine hK.out _ _ (Below.trans hld (hbx.mono hld.size)) λhld=>?_;clear hK K;try simp only [Act.put,ak]
      refine aj 5 λK hK=>?_;refine Rg.meetStore (by rfl) h3 223 (ac ws) ⟨_,_,rfl,rfl,rfl⟩ (by rw [bC,kh.out]; exact mV) (by rw [bC,kh.out,za,bC]; simp) (iP _) ?_;rintro pw hn hu;replace h4:=h4.upd hu (Ne.symm aw);refine hK.out _ _ ?_ (λhld=>?_)
      .exact hu.below hld fp
      replace h3:=hn;clear hK K hn hu;try simp only [Act.put]
      refine aj 6 λK hK=>?_;refine Rg.meetStore (by rfl) h4 178 (ac H) ⟨_,_,rfl,rfl,rfl⟩ (by rw [bC,eE.out]; exact jy) (by rw [bC,eE.out,za,bC]; simp) (iP _) ?_;rintro CM hn hu;replace h3:=h3.upd hu aw;refine hK.out _ _ ?_ (λhld=>?_)
      .exact hu.below hld ii
      replace h4:=hn;clear hK K hn hu;try simp only [Act.put]
      refine aB ?_;go_wp2_with fail
      go_meet
      exact ⟨b3,b4,rfl,rfl,aw,fp,ii,hid h3.2,hid h4.2,hld⟩
   case rest =>
    obtain ⟨b,c,rfl,rfl,hbc,hgb,hgc,ry,lx,yW⟩:=hcut;obtain ⟨wo,rfl⟩:∃ wo:World,wo=wr:=⟨_,rfl⟩
    clear eC;have hlb:b<wc.heap.size:=by have:=ry.out; rcases Nat.lt_or_ge b wc.heap.size with h' | h'; exact h'; rw [Array.getElem?_eq_none h'] at this; cases this
    have hlc:c<wc.heap.size:=by have:=lx.out; rcases Nat.lt_or_ge c wc.heap.size with h' | h'; exact h'; rw [Array.getElem?_eq_none h'] at this; cases this
    have HB:=hid hB;have ie:=hid yW;have eJ:=sec hsz;clear hB yW hsz;go_wp2_with fail
    go_loopw [19] (λi wx=>∃ j:Nat,j<=64/\i = .int .i64 j/\Hid (Rg.Own wx b (ac ws) 223)/\Hid (Rg.Own wx c (ac (BJ ws H j)) 178)/\Hid (Below wo.heap.size wo wx)) (λi _=>64-(intOf i).toNat)
    case atStart=>exact ⟨0,by omega,rfl,hid ⟨hlb,ry.out⟩,hid ⟨hlc,lx.out⟩,ie⟩
    case round =>
     clear ry lx ie hlb hlc;obtain ⟨j,hj,rfl,ry,lx,ie⟩:=hrel;by_cases hlt2:j<64
     .have hkj:=(ie.out.cell (p:=⟨0,j,none⟩) (by show 0<wo.heap.size; omega)).trans ((HB.out.cell (p:=⟨0,j,none⟩) h0).trans (HK.out j hlt2));have Tl:wr.cell? ⟨b,j,none⟩=some (.int .u32 (ws.getD j 0:Nat)):=(cell_of_row wr b j _ _ _ ry.out.2).trans (LX ws j (by rw [kh.out]; exact hlt2));have Mb:=hid hkj;have Mm:=hid Tl;have h0r:0<wr.heap.size:=by have:=ie.out.size; omega
      have hbr:=ry.out.1;have mw:=hid (xW ws H eE.out j);have yr:=hid (Fe ws H F9.out j);have Fc:=sec (show wY (kN j) (ws.getD j 0) (BJ ws H j)=BJ ws H (j+1) from rfl);obtain ⟨L,hL⟩:=ay (BJ ws H j)
      obtain ⟨kk,hkk⟩:=ay (kN j)
      obtain ⟨wk,hwk⟩:=ay (ws.getD j 0)
      rw [hL] at lx mw yr Fc;rw [hkk] at Mb Fc;rw [hwk] at Mm Fc;clear hL hkk hwk hkj Tl;have To:=hid (KH kk wk);have l0:(0:Int)<=(j:Int):=by omega
      have l1:(j:Int)<64:=by omega
      go_wp2_with fail
      refine aC (S:=λw'=>Below wr.heap.size wr w') (aH.drew) λhld=>?_;refine ah 0 ?_;try simp only [Act.put,ak]
      refine ah 1 ?_;try simp only [Act.put,ak]
      refine ah 2 ?_ (hy:=by intro wz hSw; (have hc:=(hSw.cell (p:=⟨0,j,none⟩) h0r).trans Mb.out); go_simp <;> with_reducible rfl);try simp only [Act.put,ak]
      refine ah 3 ?_;try simp only [Act.put,ak]
      refine ah 4 ?_;try simp only [Act.put,ak]
      refine ah 5 ?_ (hy:=by intro wz hSw; (have hc:=(hSw.cell (p:=⟨b,j,none⟩) hbr).trans Mm.out); go_simp <;> with_reducible rfl);try simp only [Act.put,ak]
      refine aj 6 λK hK=>?_;go_simp;go_at_call 157
      (with_reducible refine (To.out _).mono ?_)
      rintro e gr ⟨q1,q2,rfl,ho1,ho2,hq12,hg1,hg2,hbx⟩;refine hK.out _ _ (Below.trans hld (hbx.mono hld.size)) λhld=>?_;clear hK K;try simp only [Act.put,ak]
      refine ah 7 ?_;try simp only [Act.put,ak]
      refine aB ?_;clear l0 l1 To Mb Mm;go_wp2_with fail
      refine (Xa c q1 q2 kk wk L mw.out yr.out _ (by rw [hbx.block _ lx.out.1]; exact lx.out.2) ho1 ho2).mono ?_;rintro e w4 ⟨rfl,hc4,hg4⟩;have Fd:=hid hc4;clear hc4;go_wp2_with fail
      go_roundw
      case rel =>
       have hbl:=ry.out.below hld;refine ⟨j+1,by omega,by go_num,hid ⟨aI hbl.1 hg4.size,(hg4.block _ hbl.1 (by simpa using hbc)).trans hbl.2⟩,hid ⟨aI (lx.out.below hld).1 hg4.size,by rw [<-Fc.out]; exact Fd.out⟩,hid ((ie.out.trans (hld.mono ie.out.size)).grown hg4 (ie.out.trans (hld.mono ie.out.size)).size (λg hg=>by cases hg; exact hgc))⟩
      case measure=>simp [intOf]; omega
     .have CN:j=64:=by omega
      rw [CN] at lx;clear CN;have Mn:=hid (xW ws H eE.out 64);have Ts:=hid (Fe ws H F9.out 64);obtain ⟨V,hV⟩:=ay (BJ ws H 64)
      rw [hV] at lx Mn Ts lg;clear hV;have qu:Hid (Rg.Own wr w.heap.size (ac (ug H V 0)) 178):=hid ⟨by have:=ie.out.size; omega,by rw [ie.out.block _ hBx.1,PS _ _ eE.out]; exact HH.out⟩;have az:Hid (Rg.Own wr (w.heap.size+1) (za 8) 178):=hid ((b8.below (ie.out.mono aG)));have ov:=hid (λj hj wz=>vC V j hj Mn.out wz);obtain ⟨AV,Mo⟩:=ay (ac V)
      have hAs:AV.size=8:=by rw [<-Mo,bC,Mn.out]
      rw [Mo] at lx ov;have Mu:=hid hAs;clear Mo hAs ry;go_wp2_with (first | (refine wpList_load_row rfl _ _ rfl c rfl 178 AV (0,0) _ lx.out.2 underlying178 rfl (by rw [Mu.out]; exact jy) ?_))
      obtain ⟨wp,rfl⟩:∃ wp:World,wp=wr:=⟨_,rfl⟩
      clear hlt2;go_loopw [33] (λi wx=>∃ q:Nat,q<=8/\i = .int .i64 q/\Hid (Rg.Own wx w.heap.size (ac (ug H V q)) 178)/\Hid (Rg.Upd wp w.heap.size wx)) (λi _=>8-(intOf i).toNat)
      case atStart=>exact ⟨0,by omega,rfl,qu,hid ⟨rfl,rfl,rfl,rfl,λ_ _=>rfl⟩⟩
      case round =>
       clear qu;obtain ⟨q,hq,rfl,qu,rB⟩:=hrel;by_cases hlt3:q<8
       .have hix:=ov.out q hlt3;have hcl:=(cell_of_row wr w.heap.size q _ _ _ qu.out.2).trans (LX (ug H V q) q (by rw [om]; exact hlt3));have hfz:=frozen_of_row wr w.heap.size q _ _ qu.out.2;rw [RI H V q hlt3] at hcl;have HN:=sec (TS H V q hlt3);have bx:=getD_lt F9.out q;have bv:=getD_lt Ts.out q;obtain ⟨x,hx⟩:=ay (H.getD q 0)
        obtain ⟨y,hy⟩:=ay (V.getD q 0)
        rw [hx] at hcl bx HN;rw [hy] at hix bv HN;clear hx hy;have hv:((x:Int)+y)%4294967296=((x+y)%4294967296:Nat):=by omega
        have HVs:=sec hv;clear hv;go_wp2;go_roundw
        case rel =>
         refine ⟨q+1,by omega,by go_num,?_,?_⟩
         .rw [HVs.out];exact hid ⟨by simpa using qu.out.1,by rw [heap_setCell_same _ _ _ _ _ _ qu.out.2,YJ,HN.out]⟩
         .exact hid ⟨rB.out.os,rB.out.tape,rB.out.output,by simpa using rB.out.size,λk hk=>(heap_setCell_other _ _ _ _ hk).trans (rB.out.block k hk)⟩
        case measure=>simp [intOf]; omega
       .obtain rfl:q=8:=by omega
        have HF:Hid (Rg.Own wr w.heap.size (ac (lY s.data.toList h (k+1))) 178):=hid (by rw [<-lg.out,<-Vv]; exact qu.out);have cA:Hid (Rg.Own wr (w.heap.size+1) (za 8) 178):=hid (az.out.upd rB.out (by omega));have bi:Hid (Below w.heap.size w wr):=hid (rB.out.below (HB.out.trans (ie.out.mono HB.out.size)) aG);have HE:Hid (z.extract 64 (s.size-64*k)=s.extract (64*(k+1)) s.size):=hid (by rw [<-eJ.out,<-HZ.out]; exact SQ s k);have hz3:z.size=s.size-64*k:=eJ.out
        have HES:Hid ((s.extract (64*(k+1)) s.size).size=s.size-64*(k+1)):=hid (by simp);have hzs:64<=(z.size:Int):=by omega
        clear qu rB az ov hlt3 hq;go_wp2;go_roundw
        case rel=>exact ⟨k+1,by omega,by rw [<-HE.out],hid HF.out.2,cA.out,bi.out⟩
        case measure =>
         show (z.extract 64 (s.size-64*k)).size<z.size;rw [HE.out,HES.out];omega
  .obtain rfl:k=s.size/64:=by omega
   have eE:=hid (HL.out (s.size/64));obtain ⟨H,hH⟩:=ay (lY s.data.toList h (s.size/64))
   have Rr:=sec hH;rw [hH] at HH eE;have b8:=hid b8;clear hH sX cw;have hsz2:((s.extract (64*(s.size/64)) s.size).size:Int)<64:=by omega
   obtain ⟨z,hz⟩:=ay (s.extract (64*(s.size/64)) s.size)
   rw [hz] at hsz2 ⊢;clear hz hsz hlt hk;go_wp2_with (first | (refine wpList_load_row rfl _ _ rfl w.heap.size rfl 178 (ac H) (0,0) _ HH.out underlying178 rfl (by rw [bC,eE.out]; exact jy) ?_) | (refine wpList_store_rowTo rfl 178 _ _ rfl rfl _ (ac H) rfl rfl 178 (za 8) b8.out.2 (by rw [bC,eE.out]; exact jy) (by rw [bC,eE.out,za,bC]; simp) (iP _) ?_))
   exact bodyPost_ret (results_cell_row rfl _ _ (w.heap.size+1) 178 (ac H) (0,0) _ rfl (setRow_heap _ _ _ _ _ _ b8.out.2) underlying178 rfl (by rw [bC,eE.out]; exact jy)) rfl ⟨by rw [Rr.out],eG hB (by omega) _⟩
def kc (k:aM):aN:=(k.map λb=>Value.int .u8 b.toNat).toArray
theorem iq (k:aM):(kc k).size=k.length:=by simp [kc]
theorem xg (k:aM):(kc k).all (·.oneCell')=true:=by
 rw [Array.all_eq_true];intro i hi;simp [kc];rfl
theorem Ut:(prog.info? 48).map (·.size)=some 32:=by kernel_rfl
theorem jk (k:aM) (h:k.length=32):(prog.info? 48).map (·.size)=some (kc k).size:=by rw [iq,h]; exact Ut
def zk:aM:=List.replicate 32 0
theorem jA (ev:Operand->Value) (o:Oper) (ho:o.op = .alloc 48) (w:World) (n:Nat) (hn:w.heap.size=n) :
  (execOp ev o).run prog w = .ok (.value (.pointer (some ⟨n,0,none⟩))) (w.alloc (.cells (kc zk) 48)):=by
 subst hn;unfold execOp;rw [ho];kernel_rfl
theorem YR (l:aM) {f:Nat->Value} (h:w.rowIs g t 32 f) (hl:l.length=32) (hf:∀ j,j<32->f j = .int .u8 (l.getD j 0).toNat):w.heap[g]? = some (.cells (kc l) t (0,0)):=by
 obtain ⟨c,hg,hs,hc⟩:=h;have:c=kc l:=by
  apply Array.ext
  .rw [hs,iq,hl]
  .intro i hi h2;have h1:=hc i (by omega);rw [hf i (by omega),Array.getElem?_eq_getElem hi] at h1;have h3:=Option.some.inj h1;rw [h3];have h4:i<l.length:=by omega
   simp [kc,List.getD,h4]
 rw [hg,this]
theorem YI (h:w.heap[g]? = some (.cells (kc zk) t (0,0))):w.rowIs g t 32 (λ_=>.int .u8 0) :=
 ⟨_,h,rfl,λi hi=>by
  show ((zk.map λb=>Value.int .u8 b.toNat).toArray)[i]? = _;have hz:zk[i]? = some 0:=by
   unfold zk;rw [List.getElem?_replicate,if_pos hi]
  rw [List.getElem?_toArray,List.getElem?_map,hz];rfl⟩
theorem start_lt:∀ x∈Sh.start,x<4294967296:=by decide
theorem Ux (s:aL) (m:Nat) (hm:m=s.size-s.size%64) :
  lY ((s.extract m s.size).data.toList++pG s.size) (lY (s.extract 0 m).data.toList Sh.start ((s.extract 0 m).size/64)) (((s.extract m s.size).data.toList++pG s.size).length/64)=vD (kX s.data.toList) ((kX s.data.toList).length/64):=by
 have e1:(s.extract 0 m).data.toList=s.data.toList.take m:=by simp
 have e2:(s.extract m s.size).data.toList=s.data.toList.drop m:=by
  simp only [ByteArray.data_extract,Array.toList_extract,List.extract_eq_take_drop];rw [List.take_of_length_le (by simp)]
 have hl:s.data.toList.length=s.size:=by simp
 have e3:(s.extract 0 m).size=m:=by simp; omega
 have e4:kX s.data.toList=s.data.toList.take m++(s.data.toList.drop m++pG s.size):=by
  rw [RG,hl,<-List.append_assoc,List.take_append_drop]
 have hmd:=Rt s.data.toList;rw [e1,e2,e3,<-Bv,e4];rw [e4] at hmd;have hlen:(s.data.toList.take m++(s.data.toList.drop m++pG s.size)).length=m+(s.data.toList.drop m++pG s.size).length:=by
  rw [List.length_append,List.length_take,hl];congr 1;omega
 rw [hlen] at hmd ⊢;rw [show (m+(s.data.toList.drop m++pG s.size).length)/64=m/64+(s.data.toList.drop m++pG s.size).length/64 by omega];exact (Di _ _ (m/64) (by rw [List.length_take,hl]; omega) _ _).symm
theorem FU (s:aL) (hs:s.size<=900000) (w:World) (hK:∀ i,i<64->w.cell? ⟨0,i,none⟩=some (.int .u32 (kN i:Nat))) :
  Calls prog 65 #[.string s] w λe w'=>e = .returned (.agg (kc (uy s.data.toList)))/\Below w.heap.size w w':=by
 have h0:0<w.heap.size:=World.block_lt_of_cell? w _ (hK 0 (by omega));have HK:=hid hK;have ae:=hid (EN s.size (by omega));obtain ⟨m,hm⟩:=ay (s.size-s.size%64)
 have hmi:(s.size:Int)-s.size%64=m:=by omega
 have hml:m<=s.size:=by omega
 have hF:=Ux s m hm.symm;have ox:=hid (xO (s.extract 0 m).data.toList Sh.start rfl ((s.extract 0 m).size/64));have hT1:=NZ (s.extract 0 m).data.toList Sh.start start_lt ((s.extract 0 m).size/64);have cM:=hid (λW hk=>MS Sh.start rfl start_lt (s.extract 0 m) (by simp; omega) W hk);obtain ⟨M1,hM1⟩:=ay (lY (s.extract 0 m).data.toList Sh.start ((s.extract 0 m).size/64))
 rw [hM1] at ox hT1 hF cM;obtain ⟨s2,hs2⟩:=ay (s.extract m s.size++⟨(pG s.size).toArray⟩)
 have hd2:s2.data.toList=(s.extract m s.size).data.toList++pG s.size:=by rw [<-hs2,ByteArray.data_append]; simp
 have hz2:s2.size=((s.extract m s.size).data.toList++pG s.size).length:=by rw [<-hd2]; simp
 have hz:kS s.size<64:=Nat.mod_lt _ (by omega);have cF:=hid (λW hk=>MS M1 ox.out hT1 s2 (by rw [hz2,List.length_append,qN]; simp; omega) W hk);rw [<-hd2,show s2.data.toList.length=s2.size by simp] at hF;rw [hF] at cF;have j0:=hid (EC (kX s.data.toList) ((kX s.data.toList).length/64));have HT2:=hid (Sb (kX s.data.toList) ((kX s.data.toList).length/64));have HS:=sec (show Ud (vD (kX s.data.toList) ((kX s.data.toList).length/64)) 32=uy s.data.toList from rfl);obtain ⟨M2,hM2⟩:=ay (vD (kX s.data.toList) ((kX s.data.toList).length/64))
 rw [hM2] at cF j0 HT2 HS;have HS2:=hid hs2;clear hT1 hF hd2 hz2 hz hM2 hs2;clear hK hm hM1;go_enter func65,ntmps65;go_upto_region 3 with (first | (refine eZ rfl _ _ (jA _ _ rfl _ w.heap.size rfl) ?_) | (refine eZ rfl _ _ (uW _ _ rfl _ (w.heap.size+1) (by simp)) ?_) | (refine wpList_store_rowTo rfl 178 _ _ rfl rfl (w.heap.size+1) (ac Sh.start) rfl rfl 178 (za 8) (by have:=heap_alloc_new (w.alloc (.cells (kc zk) 48)) (.cells (za 8) 178); simpa using this) jy rfl (iP _) ?_))
 have h2:Rg.Own (((w.alloc (.cells (kc zk) 48)).alloc (.cells (za 8) 178)).setRow (w.heap.size+1) (ac Sh.start)) w.heap.size (kc zk) 48 :=
  ((Rg.Own.new w _ _).below (aH.alloc aG _)).upd (Rg.Upd.set _ _ _) (by omega)
 have h3:Rg.Own (((w.alloc (.cells (kc zk) 48)).alloc (.cells (za 8) 178)).setRow (w.heap.size+1) (ac Sh.start)) (w.heap.size+1) (ac Sh.start) 178 :=
  ⟨by simp,setRow_heap _ _ _ _ _ _ (by have:=heap_alloc_new (w.alloc (.cells (kc zk) 48)) (.cells (za 8) 178); simpa using this)⟩
 have hB0:Below w.heap.size w (((w.alloc (.cells (kc zk) 48)).alloc (.cells (za 8) 178)).setRow (w.heap.size+1) (ac Sh.start)) :=
  eG ((aH.alloc aG _).alloc (by simp) _) (by omega) _
 generalize (((w.alloc (.cells (kc zk) 48)).alloc (.cells (za 8) 178)).setRow (w.heap.size+1) (ac Sh.start))=W0 at h2 h3 hB0 ⊢;have ge2:w.heap.size<=w.heap.size:=aG;have fp:w.heap.size<=w.heap.size+1:=by omega
 have nz:w.heap.size≠w.heap.size+1:=by omega
 refine aC (S:=λw'=>Below w.heap.size w w') (hB0.drew) λhld=>?_;replace h2:=h2.drew;replace h3:=h3.drew;refine ah 1 ?_;try simp only [Act.put,ak]
 refine ah 2 ?_;try simp only [Act.put,ak]
 refine ah 3 ?_;try simp only [Act.put,ak]
 refine aj 0 λK hK=>?_;refine Rg.meet (by rfl) _ _ (lS _ _ (w.heap.size+1) _ Sh.start ?_ h3.2 rfl) ?_
 .exact ⟨_,rfl,rfl⟩
 refine hK.out _ _ (hld) λhld=>?_;clear hK K;try simp only [Act.put,ak]
 refine aj 4 λK hK=>?_;go_simp;go_at_call 109
 (with_reducible refine (cM.out _ (λi hi=>(hld.cell (p:=⟨0,i,none⟩) h0).trans (HK.out i hi))).mono ?_)
 rintro e gr ⟨rfl,hbx⟩;replace h2:=h2.below hbx;replace h3:=h3.below hbx;refine hK.out _ _ (Below.trans hld (hbx.mono hld.size)) λhld=>?_;clear hK K;try simp only [Act.put,ak]
 refine aj 5 λK hK=>?_;refine Rg.meetStore (by rfl) h3 178 (ac M1) ⟨_,_,rfl,rfl,rfl⟩ (by rw [bC,ox.out]; exact jy) (by rw [bC,bC,ox.out]; exact rfl) (iP _) ?_;rintro wv1 hn hu;replace h2:=h2.upd hu nz;refine hK.out _ _ ?_ (λhld=>?_)
 .exact hu.below hld fp
 replace h3:=hn;clear hK K hn hu;try simp only [Act.put]
 refine aB ?_;go_wp2_with fail
 have hB1:=hld;clear hld;go_cut [3] (λp wx=>p = .pointer (some ⟨w.heap.size+1,0,none⟩)/\Hid (Rg.Own wx w.heap.size (kc zk) 48)/\Hid (Rg.Own wx (w.heap.size+1) (ac M2) 178)/\Hid (Below w.heap.size w wx))
 case first =>
  have hs2:=HS2.out;have Ek:Hid (¬ 9223372036854775807<s.size-m+(pG s.size).length):=hid (by have hz:kS s.size<64:=Nat.mod_lt _ (by omega); rw [qN]; omega);refine aC (S:=λw'=>Below w.heap.size w w') (hB1.drew) λhld=>?_;replace h2:=h2.drew;replace h3:=h3.drew;refine ah 1 ?_;try simp only [Act.put,ak]
  refine ah 2 ?_;try simp only [Act.put,ak]
  refine ah 3 ?_;try simp only [Act.put,ak]
  refine ah 4 ?_;try simp only [Act.put,ak]
  refine ah 5 ?_;try simp only [Act.put,ak]
  refine wpAnyH_ready (rs:=[0,6]) (by kernel_rfl) (by simp) ?_;refine Rg.readyC (i:=0) rfl (λK hK=>?_) (Rg.readyL (i:=6) rfl (λK hK=>?_))
  .refine Rg.meet (by rfl) _ _ (lS _ _ (w.heap.size+1) _ M1 ?_ h3.2 ox.out) ?_
   .exact ⟨_,rfl,rfl⟩
   refine hK.out _ _ (hld) λhld=>?_;clear hK K;try simp only [Act.put,ak]
   refine aj 6 λK hK=>?_;go_simp;go_at_call 110
   (with_reducible refine (ae.out _).mono ?_)
   rintro e gr ⟨rfl,hbx⟩;replace h2:=h2.below hbx;replace h3:=h3.below hbx;refine hK.out _ _ (Below.trans hld (hbx.mono hld.size)) λhld=>?_;clear hK K;try simp only [Act.put,ak]
   refine ah 7 ?_ (hy:=by intro wz hSw; (have hcc:=Ek.out); go_simp <;> with_reducible rfl);try simp only [Act.put,ak]
   refine aj 8 λK hK=>?_;go_simp;go_at_call 109
   (with_reducible refine (cF.out _ (λi hi=>(hld.cell (p:=⟨0,i,none⟩) h0).trans (HK.out i hi))).mono ?_)
   rintro e wv1 ⟨rfl,hbx⟩;replace h2:=h2.below hbx;replace h3:=h3.below hbx;refine hK.out _ _ (Below.trans hld (hbx.mono hld.size)) λhld=>?_;clear hK K;try simp only [Act.put,ak]
   refine aj 9 λK hK=>?_;refine Rg.meetStore (by rfl) h3 178 (ac M2) ⟨_,_,rfl,rfl,rfl⟩ (by rw [bC,j0.out]; exact jy) (by rw [bC,bC,j0.out]; exact ox.out) (iP _) ?_;rintro wv2 hn hu;replace h2:=h2.upd hu nz;refine hK.out _ _ ?_ (λhld=>?_)
   .exact hu.below hld fp
   replace h3:=hn;clear hK K hn hu;try simp only [Act.put]
   refine aB ?_;go_wp2_with fail
   go_meet
   exact ⟨rfl,hid h2,hid h3,hid hld⟩
  .go_simp;go_at_call 110
   (with_reducible refine (ae.out _).mono ?_)
   rintro e gr ⟨rfl,hbx⟩;replace h2:=h2.below hbx;replace h3:=h3.below hbx;refine hK.out _ _ (Below.trans hld (hbx.mono hld.size)) λhld=>?_;clear hK K;try simp only [Act.put,ak]
   refine ah 7 ?_ (hy:=by intro wz hSw; (have hcc:=Ek.out); go_simp <;> with_reducible rfl);try simp only [Act.put,ak]
   refine aj 0 λK hK=>?_;refine Rg.meet (by rfl) _ _ (lS _ _ (w.heap.size+1) _ M1 ?_ h3.2 ox.out) ?_
   .exact ⟨_,rfl,rfl⟩
   refine hK.out _ _ (hld) λhld=>?_;clear hK K;try simp only [Act.put,ak]
   refine aj 8 λK hK=>?_;go_simp;go_at_call 109
   (with_reducible refine (cF.out _ (λi hi=>(hld.cell (p:=⟨0,i,none⟩) h0).trans (HK.out i hi))).mono ?_)
   rintro e wv1 ⟨rfl,hbx⟩;replace h2:=h2.below hbx;replace h3:=h3.below hbx;refine hK.out _ _ (Below.trans hld (hbx.mono hld.size)) λhld=>?_;clear hK K;try simp only [Act.put,ak]
   refine aj 9 λK hK=>?_;refine Rg.meetStore (by rfl) h3 178 (ac M2) ⟨_,_,rfl,rfl,rfl⟩ (by rw [bC,j0.out]; exact jy) (by rw [bC,bC,j0.out]; exact ox.out) (iP _) ?_;rintro wv2 hn hu;replace h2:=h2.upd hu nz;refine hK.out _ _ ?_ (λhld=>?_)
   .exact hu.below hld fp
   replace h3:=hn;clear hK K hn hu;try simp only [Act.put]
   refine aB ?_;go_wp2_with fail
   go_meet
   exact ⟨rfl,hid h2,hid h3,hid hld⟩
 case rest =>
  obtain ⟨rfl,H2,H3,HB⟩:=hcut;obtain ⟨W,rfl⟩:∃ W:World,W=wc:=⟨_,rfl⟩
  have h3:=H3.out;have Tu:Hid ((W.alloc (.cells (kc zk) 48)).heap[w.heap.size+1]? = some (.cells (ac M2) 178 (0,0))):=hid ((Lib.alloc_old _ _ _ h3.1).trans h3.2);have il:Hid ((W.alloc (.cells (kc zk) 48)).rowIs W.heap.size 48 32 (λj=>.int .u8 (if j<4*0 then CW M2 j else 0:Nat))):=hid ((YI (heap_alloc_new _ _)).congr (λj _=>by rw [if_neg (by omega)]; rfl));have ov:=hid (λj hj wz=>vC M2 j hj j0.out wz);have Cs:=hid (λj=>getD_lt HT2.out j);obtain ⟨A,hA⟩:=ay (ac M2)
  have Mu:Hid (A.size=8):=hid (by rw [<-hA,bC,j0.out]);rw [hA] at Tu ov;clear h3 hA ae cM cF hmi h2 hB1 hld hbx;go_wp2_with (first | (refine eZ rfl _ _ (jA _ _ rfl _ _ rfl) ?_) | (refine wpList_load_row rfl _ _ rfl (w.heap.size+1) rfl 178 A (0,0) _ Tu.out underlying178 rfl (by rw [Mu.out]; exact jy) ?_))
  go_loopw [30] (λi wx=>∃ q:Nat,q<=8/\i = .int .i64 q/\Hid (wx.rowIs W.heap.size 48 32 (λj=>.int .u8 (if j<4*q then CW M2 j else 0:Nat)))/\Hid (Below W.heap.size W wx)) (λi _=>8-(intOf i).toNat)
  case atStart=>exact ⟨0,by omega,rfl,il,hid (aH.alloc aG _)⟩
  case round =>
   clear il;obtain ⟨q,hq,rfl,HR,pD⟩:=hrel;by_cases hlt:q<8
   .have hix:=ov.out q hlt;have hxl:=Cs.out q;have nB:=yT W.heap.size (4*q) 4 (32-4*q) (M2.getD q 0) 32 48 _ wr HR.out (by omega) (by omega);have E3:Hid ((oG wr W.heap.size (4*q) 4 (M2.getD q 0) 4).rowIs W.heap.size 48 32 (λj=>.int .u8 (if j<4*(q+1) then CW M2 j else 0:Nat))):=hid ((sH HR.out 4).congr (λj _=>by
     by_cases h1:4*q<=j/\j<4*q+4
     .rw [if_pos h1,if_pos (by omega)];unfold upB CW;rw [show j/4=q by omega,show 4-1-(j-4*q)=3-j%4 by omega]
     .rw [if_neg h1];by_cases h2:j<4*q
      .rw [if_pos h2,if_pos (by omega)]
      .rw [if_neg h2,if_neg (by omega)]))
    have vm:Hid (Below W.heap.size W (oG wr W.heap.size (4*q) 4 (M2.getD q 0) 4)):=hid (qX pD.out aG 4);obtain ⟨x,hx⟩:=ay (M2.getD q 0)
    rw [hx] at hix hxl nB E3 vm;have nB:=hid nB;clear hx;have l0:(0:Int)<=4*(q:Int):=by omega
    have l1:4*(q:Int)<=4*(q:Int)+4:=by omega
    have l2:4*(q:Int)+4<=32:=by omega
    have l3:(4*(q:Int)).toNat=4*q:=by omega
    have l4:(4*(q:Int)+4).toNat=4*q+4:=by omega
    have l5:¬ 32=4*q:=by omega
    go_wp2_with fail
    refine nB.out.mono ?_;rintro e w3 ⟨rfl,rfl⟩;clear l0 l1 l2 l3 l4 l5 nB hix;go_wp2;go_roundw
    case rel=>exact ⟨q+1,by omega,by go_num,E3,vm⟩
    case measure=>simp [intOf]; omega
   .obtain rfl:q=8:=by omega
    have HF:Hid (wr.heap[W.heap.size]? = some (.cells (kc (uy s.data.toList)) 48 (0,0))):=hid (YR _ HR.out (rF _) (λj hj=>by
     rw [if_pos (by omega),<-HS.out];simp [Ud,List.getD,hj];unfold CW;omega))
    have Ty:Hid (Rg.Own wr w.heap.size (kc zk) 48):=hid (H2.out.below pD.out);have HB2:Hid (Below w.heap.size w wr):=hid (HB.out.trans (pD.out.mono HB.out.size));have hkl:=rF s.data.toList;obtain ⟨K,hK⟩:=ay (uy s.data.toList)
    have HKK:=sec hK;rw [hK] at hkl HF;have Ff:=hid hkl;clear hK hkl HR ov Cs;go_wp2_with (first | (refine wpList_load_row rfl _ _ rfl W.heap.size rfl 48 (kc K) (0,0) _ HF.out underlying48 rfl (jk K Ff.out) ?_) | (refine wpList_store_rowTo rfl 48 _ _ rfl rfl _ (kc K) rfl rfl 48 (kc zk) Ty.out.2 (jk K Ff.out) (by rw [iq,iq,Ff.out]; rfl) (xg _) ?_))
    exact bodyPost_ret (results_cell_row rfl _ _ w.heap.size 48 (kc K) (0,0) _ rfl (setRow_heap _ _ _ _ _ _ Ty.out.2) underlying48 rfl (jk K Ff.out)) rfl ⟨by rw [HKK.out],eG HB2.out (by omega) _⟩
end Sm
end
section
namespace kl
end kl
end
section
open Go.RowKit kl
end
section
open Go.RowKit kl
end
section
open Go.RowKit kl
namespace Tx
end Tx
namespace Rx
end Rx
end
end Go.Proofs.YtoipgepkhomfgaaGreatDoor
