/-
 Contracts of sum.right, sum.lay, sum.end.
-/
import Derived.Test.YtlcplcgigjagpaaGreatDoorSd4
import Derived.Deep.DeepCutAuto
import Derived.Lib.BufferWrite
import Derived.Lib.SlBuf
open Go.Lib (hid)
open Go.Proofs.Tryz
set_option linter.unusedSimpArgs false
set_option linter.unusedVariables false
set_option maxHeartbeats 40000000
set_option maxRecDepth 100000
namespace Go.Proofs.YtlcplcgigjagpaaGreatDoor
variable {w w1:World} {B g j:Nat} {t:TypeId}
section
open Go.RowKit
namespace Sm
open Sh
theorem XA {a b:Int} (h:a=b):Ending.returned (.int .u32 a) = .returned (.int .u32 b):=by rw [h]
theorem Xu (n:Nat) (h1:1<=n) (h2:n<=31):bits .and .u64 (IntKind.u64.wrap (-(n:Int))) 31=32-(n:Int):=by
 have e:IntKind.u64.wrap (-(n:Int))=((18446744073709551616-n:Nat):Int):=by rw [IntKind.wrap_u64]; omega
 rw [e,show (31:Int)=((31:Nat):Int) from rfl,u64_and_nat _ _ (by omega) (by omega),nat_mask5];omega
theorem Yq (x n:Nat) (hx:x<4294967296) (h2:n<=31) :
  bits .or .u32 ((x:Int)*2 ^ (32-n)%4294967296) ((x:Int)/2 ^ (32-(32-n)))=(bg x n:Nat):=by
 have e0:32-(32-n)=n:=by omega
 have hp:2 ^ n*2 ^ (32-n)=4294967296:=by rw [<-Nat.pow_add,show n+(32-n)=32 by omega]
 have e1:x*2 ^ (32-n)%4294967296=x%2 ^ n*2 ^ (32-n):=by rw [<-hp,Nat.mul_mod_mul_right]
 have hb:x/2 ^ n<2 ^ (32-n):=by
  rw [Nat.div_lt_iff_lt_mul (Nat.pow_pos (by omega)),Nat.mul_comm,hp]; exact hx
 have ha:x*2 ^ (32-n)%4294967296<4294967296:=Nat.mod_lt _ (by omega);have c1:((x:Int)*2 ^ (32-n)%4294967296)=((x*2 ^ (32-n)%4294967296:Nat):Int):=by simp
 have c2:((x:Int)/2 ^ n)=((x/2 ^ n:Nat):Int):=by simp
 rw [e0,c1,c2,u32_or_nat _ _ ha (Nat.lt_of_le_of_lt (Nat.div_le_self _ _) hx),e1,nat_join (32-n) _ _ (Nat.mul_mod_left _ _) hb,JF n x hx (by omega),Nat.add_comm]
theorem VR (x n:Nat) (hx:x<4294967296) (h1:1<=n) (h2:n<=31) (w:World) :
  Calls prog 192 #[.int .u32 x,.int .i64 (-(n:Int))] w λe w'=>e = .returned (.int .u32 (bg x n:Nat))/\w=w':=by
 have hA:=Xu n h1 h2;have HO:=hid (Yq x n hx h2);go_enter func192,ntmps192;go_wp2;go_ret;exact ⟨XA HO.out,rfl⟩
theorem fu (x n:Nat) (N:Int) (hN:N=n) (hx:x<4294967296) (h1:1<=n) (h2:n<=31) (w:World) :
  Calls prog 177 #[.int .u32 x,.int .i64 N] w λe w'=>e = .returned (.int .u32 (bg x n:Nat))/\w=w':=by
 subst hN;have HR:=hid (VR x n hx h1 h2);go_enter func177,ntmps177;go_wp2_with (go_at_call 192; refine (HR.out _).mono ?_; rintro e w1 ⟨rfl,rfl⟩)
 go_ret;exact ⟨rfl,rfl⟩
def upB (m n k:Nat):Nat:=n/256 ^ (m-1-k)%256
def qb (w:World) (g off m n:Nat):Nat->World
 | 0=>w
 | k+1=>(qb w g off m n k).setCell ⟨g,off+k,none⟩ (.int .u8 (upB m n k:Nat))
theorem uG {w:World} {g off m n N:Nat} {t:TypeId} {f:Nat->Value} (h:w.rowIs g t N f):∀ k,(qb w g off m n k).rowIs g t N (λj=>if off<=j/\j<off+k then .int .u8 (upB m n (j-off):Nat) else f j)
 | 0=>h.congr (λj _=>by rw [if_neg (by omega)])
 | k+1=>((uG h k).set (off+k) _).congr (λj _=>by
  by_cases e:j=off+k
  .subst e; simp
  .by_cases e2:off<=j/\j<off+k
   .rw [if_neg e,if_pos e2,if_pos (by omega)]
   .rw [if_neg e,if_neg e2,if_neg (by omega)])
theorem sP {B:Nat} {w0 w:World} (h:Below B w0 w) {g off m n:Nat} (hg:B<=g):∀ k,Below B w0 (qb w g off m n k)
 | 0=>h
 | k+1=>(sP h hg k).setCell (p:=⟨g,off+k,none⟩) hg _
theorem Ad (g off m c n N:Nat) (t:TypeId) (f:Nat->Value) (w:World) (h:w.rowIs g t N f) (hm:off+m<=N) (K4:m<=8) :
  Calls prog 127 #[.slice (some ⟨g,off,none⟩) m c,.int .u64 n] w λe w'=>e = .returned (.tuple #[])/\w'=qb w g off m n m:=by
 have C7:=hid (λk=>uG (off:=off) (m:=m) (n:=n) h k);clear h;go_enter func127,ntmps127;go_wp2;go_loopw [7] (λi wr=>∃ k:Nat,k<=m/\i = .int .i64 k/\wr=qb w g off m n k) (λi _=>m-(intOf i).toNat)
 case atStart=>exact ⟨0,Nat.zero_le _,rfl,rfl⟩
 case round =>
  obtain ⟨k,hk,rfl,rfl⟩:=hrel;by_cases hlt:k<m
  .have hr:=C7.out k;have hc:=hr.cell (i:=off+k) (by omega);rw [if_neg (by omega)] at hc;have hf:=hr.frozen (off+k);clear hr;have HN:Hid ((qb w g off m n k).setCell ⟨g,off+k,none⟩ (.int .u8 (upB m n k:Nat))=qb w g off m n (k+1)):=hid rfl;obtain ⟨wk,hwk⟩:=av (qb w g off m n k)
   rw [hwk] at hc hf HN ⊢;clear hwk;go_wp2;have HE:((n:Int)/2 ^ (8*(m-1-k))%256)=(upB m n k:Nat):=by
    unfold upB;rw [show 2 ^ (8*(m-1-k))=((256 ^ (m-1-k):Nat):Int) by rw [Int.natCast_pow,show ((256:Nat):Int)=2 ^ 8 from rfl,<-Int.pow_mul]];simp
   go_roundw
   case rel=>exact ⟨k+1,by omega,by go_num,by rw [HE,HN.out]⟩
   case measure=>simp [intOf]; omega
  .obtain rfl:k=m:=by omega
   have HW:Hid (qb w g off k n k=qb w g off k n k):=hid rfl;obtain ⟨wk,hwk⟩:=av (qb w g off k n k)
   have X5:=hid hwk;rw [hwk];clear C7 hwk HW;go_wp2;go_end0;exact ⟨rfl,X5.out.symm⟩
def qD (n:Nat):aL:=[128]++List.replicate (ig n) 0++beK (8*n) 8
theorem Qk (l:aL):iR l=l++qD l.length:=by simp [iR,nL,qD]
theorem rY (n:Nat):(qD n).length=ig n+9:=by simp [qD,vJ]
theorem Vu (n j:Nat) (h:j<8):((beK n 8).getD j 0).toNat=upB 8 n j:=by
 unfold upB;have:(beK n 8).getD j 0=UInt8.ofNat (n/256 ^ (7-j)%256):=by
  unfold beK;rw [List.getD,List.getElem?_reverse (by simpa using h)];simp only [List.length_map,List.length_range,List.getElem?_map];rw [List.getElem?_range (by omega)];simp only [Option.map_some,Option.getD_some]
 rw [this];simp
theorem Qh (n j:Nat) (h:j<ig n+9):((qD n).getD j 0).toNat=if j=0 then 128 else if 1+ig n<=j then upB 8 (8*n) (j-(1+ig n)) else 0:=by
 unfold qD;by_cases h0:j=0
 .subst h0; simp
 .rw [if_neg h0];by_cases h1:1+ig n<=j
  .rw [if_pos h1,List.getD,List.getElem?_append_right (by simp; omega)];rw [<-Vu _ _ (by omega),List.getD];congr 3;simp;omega
  .rw [if_neg h1,List.getD,List.getElem?_append_left (by simp; omega),List.getElem?_append_right (by simp; omega)];simp only [List.length_singleton,List.getElem?_replicate];rw [if_pos (by omega)];rfl
theorem FQ (n:Nat) (hn:n<=1000000) (w:World) :
  Calls prog 126 #[.int .i64 n] w λe w'=>e = .returned (.string ⟨(qD n).toArray⟩)/\Below w.heap.size w w':=by
 have hz:ig n<64:=Nat.mod_lt _ (by omega);obtain ⟨z,DQ⟩:=av (ig n)
 obtain ⟨m,hm⟩:=av (z+9)
 have hmk:=run_make_row' (P:=prog) 42 5 (.int .u8 0) 1 underlying42 Bu.yP rfl .i64 .i64 m (by omega) (by omega);have e:((m:Nat):Int)=1+(z:Int)+8:=by omega
 rw [e] at hmk;have hr:(w.alloc (.cells ((madeCells #[Value.int IntKind.u8 0] m).setIfInBounds 0 (.int .u8 128)) 5)).rowIs w.heap.size 5 m (λj=>if j=0 then .int .u8 128 else .int .u8 0):=by
  have h0:=(World.rowIs_made w (.int .u8 0) m 5).set 0 (.int .u8 128);rw [World.setCell_alloc_at _ _ _ _ _ rfl] at h0;exact h0
 have K4:m-(1+z)=8:=by omega
 have hc0:=(World.rowIs_made w (.int .u8 0) m 5).cell (i:=0) (by omega);have hf0:=(World.rowIs_made w (.int .u8 0) m 5).frozen 0;have HL:=Ad w.heap.size (1+z) (m-(1+z)) (m-(1+z)) (8*n) m 5 _ _ hr (by omega) (by omega);rw [show ((8*n:Nat):Int)=8*(n:Int) by omega] at HL;have HL:=hid HL;have hR:=uG (off:=1+z) (m:=m-(1+z)) (n:=8*n) hr (m-(1+z))
 have hB:=sP (g:=w.heap.size) (off:=1+z) (m:=m-(1+z)) (n:=8*n) ((Below.refl w.heap.size w).alloc aF (.cells ((madeCells #[Value.int IntKind.u8 0] m).setIfInBounds 0 (.int .u8 128)) 5)) aF (m-(1+z));obtain ⟨W,hW⟩:=av (qb (w.alloc (.cells ((madeCells #[Value.int IntKind.u8 0] m).setIfInBounds 0 (.int .u8 128)) 5)) w.heap.size (1+z) (m-(1+z)) (8*n) (m-(1+z)))
 rw [hW] at hR hB HL;have hI:bA W (some ⟨w.heap.size,0,none⟩) m m (qD n):=by
  refine bA.ofRow (qD n) (by unfold maxLen; omega) hR (by rw [rY,DQ,hm]) (λj hj=>?_);rw [Qh n j (by omega),DQ,K4];by_cases h0:j=0
  .subst h0; simp
  .by_cases h1:1+z<=j
   .rw [if_pos ⟨h1,by omega⟩,if_neg h0,if_pos h1]
   .rw [if_neg (by omega),if_neg h0,if_neg h0,if_neg h1]; rfl
 have hcv:=kZ hI;have hzi:(119-(n:Int)%64)%64=z:=by unfold ig at DQ; omega
 clear hr e hR hI hW DQ K4;go_enter func126,ntmps126;go_wp2_with fail
 refine HL.out.mono ?_;rintro e w1 ⟨rfl,rfl⟩;clear hmk hc0 hf0;go_wp2;go_ret;exact ⟨rfl,hB⟩
def ac (l:List Nat):aM:=(l.map λ(x:Nat)=>Value.int .u32 (x:Int)).toArray
theorem bF (l:List Nat):(ac l).size=l.length:=by simp [ac]
theorem Ki (l:List Nat) (j:Nat) (h:j<l.length):(ac l)[j]? = some (.int .u32 (l.getD j 0:Nat)):=by simp [ac,List.getD,h]
theorem iZ (l:List Nat):(ac l).all (·.oneCell')=true:=by
 rw [Array.all_eq_true];intro i hi;simp [ac];rfl
theorem nS:(prog.info? 214).map (·.size)=some 64:=by kernel_rfl
theorem jP:(prog.info? 183).map (·.size)=some 8:=by kernel_rfl
theorem Zb {n:Nat} {f:Nat->Value} (l:List Nat) (h:w.rowIs g t n f) (hl:l.length=n) (hf:∀ j,j<n->f j = .int .u32 (l.getD j 0:Nat)):w.heap[g]? = some (.cells (ac l) t (0,0)):=by
 obtain ⟨c,hg,hs,hc⟩:=h;have:c=ac l:=by
  apply Array.ext
  .rw [hs,bF,hl]
  .intro i hi _;have h1:=hc i (by omega);rw [hf i (by omega),<-Ki l i (by omega)] at h1;have h2:c[i]? = some c[i]:=Array.getElem?_eq_getElem hi;rw [h2] at h1;have h3:i<(ac l).size:=by rw [bF]; omega
   rw [Array.getElem?_eq_getElem h3] at h1;exact Option.some.inj h1
 rw [hg,this]
theorem fP (h:Below B w w1) (hg:B<=g) (cs:aM):Below B w (w1.setRow g cs) :=
 h.trans ⟨rfl,rfl,rfl,by simp,λk hk=>setRow_other w1 g k cs (by omega)⟩
def Row (w:World) (g:Nat) (t:TypeId) (n:Nat) (l:List Nat):Prop:=w.rowIs g t n (λj=>.int .u32 (l.getD j 0:Nat))
theorem Row.put {n:Nat} {l:List Nat} (h:Row w g t n l) (x:Nat):Row (w.setCell ⟨g,l.length,none⟩ (.int .u32 x)) g t n (l++[x]) :=
 (World.rowIs.set h l.length _).congr λj _=>by
  by_cases e:j=l.length
  .subst e; simp
  .rw [if_neg e];by_cases e2:j<l.length
   .simp [List.getD,List.getElem?_append_left e2]
   .rw [List.getD,List.getElem?_eq_none (by omega),List.getD,List.getElem?_eq_none (by simp; omega)]
def za (n:Nat):aM:=ac (List.replicate n 0)
theorem Row.zero (w:World) (t:TypeId) (n:Nat):Row (w.alloc (.cells (za n) t)) w.heap.size t n []:=by
 have h:=World.rowIs_alloc w (za n) t (λ_=>.int .u32 (([]:List Nat).getD 0 0:Nat)) (λi hi=>by
  have hi':i<n:=by simpa [za,ac] using hi
  simp [za,ac,hi'])
 have e:(za n).size=n:=by simp [za,ac]
 rw [e] at h;exact h.congr λj _=>by simp
theorem jH (ev:Operand->Value) (o:Oper) (ho:o.op = .alloc 214) (w:World) :
  (execOp ev o).run prog w = .ok (.value (.pointer (some ⟨w.heap.size,0,none⟩))) (w.alloc (.cells (za 64) 214)):=by
 unfold execOp;rw [ho];kernel_rfl
theorem kS (ev:Operand->Value) (o:Oper) (ho:o.op = .alloc 183) (w:World) :
  (execOp ev o).run prog w = .ok (.value (.pointer (some ⟨w.heap.size,0,none⟩))) (w.alloc (.cells (za 8) 183)):=by
 unfold execOp;rw [ho];kernel_rfl
theorem ZK (a b:Nat) (ha:a<256) (hb:b<256):bits .or .u32 ((a:Int)*16777216) ((b:Int)*65536)=((a*16777216+b*65536:Nat):Int):=by
 have:=u32_or_nat (a*16777216) (b*65536) (by omega) (by omega);rw [nat_join 24 _ _ (by omega) (by omega)] at this;simpa using this
theorem ZP (a c:Nat) (ha:a<65536) (hc:c<256):bits .or .u32 ((a*65536:Nat):Int) ((c:Int)*256)=((a*65536+c*256:Nat):Int):=by
 have:=u32_or_nat (a*65536) (c*256) (by omega) (by omega);rw [nat_join 16 _ _ (by omega) (by omega)] at this;simpa using this
theorem ZG (a d:Nat) (ha:a<16777216) (hd:d<256):bits .or .u32 ((a*256:Nat):Int) (d:Int)=((a*256+d:Nat):Int):=by
 have:=u32_or_nat (a*256) d (by omega) (by omega);rw [nat_join 8 _ _ (by omega) (by omega)] at this;simpa using this
theorem VI (g:Nat->Nat) (k:Nat):jd g k 4=((g (4*k)*256+g (4*k+1))*256+g (4*k+2))*256+g (4*k+3):=by
 simp only [jd,Nat.add_zero];omega
theorem FW (t:TypeId) (ht:prog.underlying t=some .string) (s:aK) (i v:Nat) (n:Int) (hn:n=i) (hi:i<s.size) (hv:s[i].toNat=v) (w:World) :
  (Instr.index t (.string s) (.int .i64 n)).run prog w = .ok (.int .u8 v) w:=by
 subst hn hv;rw [run_index_string w _ _ _ _ ht];simp [hi]
theorem nR (ev:Operand->Value) (o:Oper) (T:TypeId) (hT:prog.underlying T=some .string) (s:aK) (i v:Nat) (n:Int) (ho:∃ x y,o.op = .index T x y/\ev x = .string s/\ev y = .int .i64 n) (hn:n=i)
  (hv:∃ h:i<s.size,s[i].toNat=v) (w:World):(execOp ev o).run prog w = .ok (.value (.int .u8 v)) w:=by
 obtain ⟨x,y,ho,hx,hy⟩:=ho;have h:=FW T hT s i v n hn hv.1 hv.2 w;unfold execOp;rw [ho];simp only [hx,hy];simp [h]
theorem FB (s:aK) (hs:64<=s.size) (hsm:s.size<=1000000) (w:World) :
  Calls prog 157 #[.string s] w λe w'=>e = .returned (.agg (ac (jT (nH s) 64)))/\Below w.heap.size w w':=by
 have HQ:=hid (Ei s);have HG:=hid (EP s);have hR0:=Row.zero (w.alloc (.cells (za 64) 214)) 214 64;rw [show (w.alloc (.cells (za 64) 214)).heap.size=w.heap.size+1 by simp] at hR0;have gh:=hid hR0;clear hR0;obtain ⟨g,hg⟩:=av (nH s)
 rw [hg] at HQ HG ⊢;clear hg;go_enter func157,ntmps157;go_wp2_with (refine iw rfl _ _ (jH _ _ rfl _) ?_)
 go_loopw [8] (λi wr=>∃ k:Nat,k<=16/\i = .int .i64 k/\Hid (Row wr (w.heap.size+1) 214 64 (jT g k))/\Below (w.heap.size+1) (w.alloc (.cells (za 64) 214)) wr) (λi _=>16-(intOf i).toNat)
 case atStart=>exact ⟨0,by omega,rfl,gh,aG.alloc (by simp) _⟩
 case round =>
  obtain ⟨k,hk,rfl,HR,hB⟩:=hrel;by_cases hlt:k<16
  .have p0:4*k<s.size:=by omega
   have p1:4*k+1<s.size:=by omega
   have p2:4*k+2<s.size:=by omega
   have p3:4*k+3<s.size:=by omega
   have q0:=HQ.out _ p0;have q1:=HQ.out _ p1;have q2:=HQ.out _ p2;have q3:=HQ.out _ p3;have g0:=HG.out (4*k);have g1:=HG.out (4*k+1);have g2:=HG.out (4*k+2);have g3:=HG.out (4*k+3);have hc:=HR.out.cell (i:=k) (by omega);have hf:=HR.out.frozen k;have HN:Hid (Row (wr.setCell ⟨w.heap.size+1,k,none⟩ (.int .u32 (jd g k 4:Nat))) (w.heap.size+1) 214 64 (jT g (k+1))):=hid (by
    have:=Row.put HR.out (jd g k 4);rw [iO] at this;rw [jT,zL,if_pos hlt];exact this)
   have HW:=sec (VI g k);obtain ⟨a,ha⟩:=av (g (4*k))
   obtain ⟨b,hb⟩:=av (g (4*k+1))
   obtain ⟨c,hc'⟩:=av (g (4*k+2))
   obtain ⟨d,hd⟩:=av (g (4*k+3))
   rw [ha,hb,hc',hd] at HW;rw [ha] at q0 g0;rw [hb] at q1 g1;rw [hc'] at q2 g2;rw [hd] at q3 g3;clear ha hb hc' hd;have o1:=ZK a b g0 g1;have o2:=ZP (a*256+b) c (by omega) g2;have o3:=ZG ((a*256+b)*256+c) d (by omega) g3;rw [show (a*256+b)*65536=a*16777216+b*65536 by omega] at o2;rw [show ((a*256+b)*256+c)*256=a*16777216+b*65536+c*256 by omega] at o3;rw [show a*16777216+b*65536+c*256+d=jd g k 4 by rw [HW.out]; omega] at o3;obtain ⟨y2,hy2⟩:=av (a*16777216+b*65536+c*256)
   rw [hy2] at o2 o3;obtain ⟨y1,hy1⟩:=av (a*16777216+b*65536)
   rw [hy1] at o1 o2;clear hy1 hy2;obtain ⟨W,Q8⟩:=av (jd g k 4)
   rw [Q8] at o3 HN;clear Q8 HW;have O1:=sec o1;have O2:=sec o2;have O3:=sec o3;clear o1 o2 o3;have l4:(0:Int)<=(k:Int):=by omega
   have l5:(k:Int)<64:=by omega
   have va:IntKind.u32.wrap (a:Int)=a:=by rw [IntKind.wrap_u32']; omega
   have vb:IntKind.u32.wrap (b:Int)=b:=by rw [IntKind.wrap_u32']; omega
   have vc:IntKind.u32.wrap (c:Int)=c:=by rw [IntKind.wrap_u32']; omega
   have vd:IntKind.u32.wrap (d:Int)=d:=by rw [IntKind.wrap_u32']; omega
   have va2:IntKind.u32.wrap ((a:Int)*16777216)=(a:Int)*16777216:=by rw [IntKind.wrap_u32']; omega
   have vb2:IntKind.u32.wrap ((b:Int)*65536)=(b:Int)*65536:=by rw [IntKind.wrap_u32']; omega
   have vc2:IntKind.u32.wrap ((c:Int)*256)=(c:Int)*256:=by rw [IntKind.wrap_u32']; omega
   have w0:IntKind.i64.wrap (4*(k:Int))=4*(k:Int):=IntWalk.i64_in _ (by omega);have w1:IntKind.i64.wrap (4*(k:Int)+1)=4*(k:Int)+1:=IntWalk.i64_in _ (by omega);have w2:IntKind.i64.wrap (4*(k:Int)+2)=4*(k:Int)+2:=IntWalk.i64_in _ (by omega);have w3:IntKind.i64.wrap (4*(k:Int)+3)=4*(k:Int)+3:=IntWalk.i64_in _ (by omega);have Q0:Sec (∃ h:4*k<s.size,s[4*k].toNat=a):=sec ⟨p0,q0⟩;have Q1:Sec (∃ h:4*k+1<s.size,s[4*k+1].toNat=b):=sec ⟨p1,q1⟩
   have Q2:Sec (∃ h:4*k+2<s.size,s[4*k+2].toNat=c):=sec ⟨p2,q2⟩;have Q3:Sec (∃ h:4*k+3<s.size,s[4*k+3].toNat=d):=sec ⟨p3,q3⟩;clear p0 p1 p2 p3 q0 q1 q2 q3;go_wp2_with fail
   refine aB (S:=λ_=>True) (trivial) λhld=>?_;refine ah 0 ?_;try simp only [ak]
   refine ah 1 ?_;try simp only [ak]
   refine ah 2 ?_;try simp only [ak]
   refine ah 3 ?_;try simp only [ak]
   refine ah 4 ?_ (hy:=by intro wz hSw; refine nR _ _ 9 underlying9 s (4*k) a (4*(k:Int)) ?_ (by omega) Q0.out wz; exact ⟨_,_,rfl,rfl,rfl⟩);try simp only [ak]
   refine ah 5 ?_;try simp only [ak]
   refine ah 6 ?_;try simp only [ak]
   refine ah 7 ?_;try simp only [ak]
   refine ah 8 ?_;try simp only [ak]
   refine ah 9 ?_;try simp only [ak]
   refine ah 10 ?_;try simp only [ak]
   refine ah 11 ?_ (hy:=by intro wz hSw; refine nR _ _ 9 underlying9 s (4*k+1) b (4*(k:Int)+1) ?_ (by omega) Q1.out wz; exact ⟨_,_,rfl,rfl,rfl⟩);try simp only [ak]
   refine ah 12 ?_;try simp only [ak]
   refine ah 13 ?_;try simp only [ak]
   refine ah 14 ?_;try simp only [ak]
   refine ah 15 ?_;try simp only [ak]
   refine ah 16 ?_;try simp only [ak]
   refine ah 17 ?_;try simp only [ak]
   refine ah 18 ?_;try simp only [ak]
   refine ah 19 ?_ (hy:=by intro wz hSw; refine nR _ _ 9 underlying9 s (4*k+2) c (4*(k:Int)+2) ?_ (by omega) Q2.out wz; exact ⟨_,_,rfl,rfl,rfl⟩);try simp only [ak]
   refine ah 20 ?_;try simp only [ak]
   refine ah 21 ?_;try simp only [ak]
   refine ah 22 ?_;try simp only [ak]
   refine ah 23 ?_;try simp only [ak]
   refine ah 24 ?_;try simp only [ak]
   refine ah 25 ?_;try simp only [ak]
   refine ah 26 ?_;try simp only [ak]
   refine ah 27 ?_ (hy:=by intro wz hSw; refine nR _ _ 9 underlying9 s (4*k+3) d (4*(k:Int)+3) ?_ (by omega) Q3.out wz; exact ⟨_,_,rfl,rfl,rfl⟩);try simp only [ak]
   refine ah 28 ?_;try simp only [ak]
   refine ah 29 ?_;try simp only [ak]
   refine ah 30 ?_;try simp only [ak]
   refine aj 31 λK hK=>?_;go_simp;refine hK.out _ _ ?_ (λhld=>?_)
   .trivial
   clear hK K;try simp only [ak]
   refine aA ?_;go_wp2;go_roundw
   case rel=>exact ⟨k+1,by omega,by go_num,by rw [O1.out,O2.out,O3.out]; exact HN,(hB.setCell (p:=⟨w.heap.size+1,k,none⟩) (by simp) _).drew⟩
   case measure=>simp [intOf]; omega
  .have qT:k=16:=by omega
   rw [qT] at HR;clear qT;go_wp2;go_loopw [5,6,7] (λi _ _ wr=>∃ k:Nat,16<=k/\k<=64/\i = .int .i64 k/\Hid (Row wr (w.heap.size+1) 214 64 (jT g k))/\Below (w.heap.size+1) (w.alloc (.cells (za 64) 214)) wr) (λi _ _ _=>64-(intOf i).toNat)
   case atStart=>exact ⟨16,by omega,by omega,rfl,HR,hB⟩
   case round =>
    clear HR hB hk hlt;obtain ⟨k,h16,hk,rfl,HR,hB⟩:=hrel;by_cases hlt:k<64
    .obtain ⟨p,rfl⟩:∃ p,k=p+16:=⟨k-16,by omega⟩
     obtain ⟨l,hl⟩:=av (jT g (p+16))
     have hll:l.length=p+16:=by rw [<-hl]; exact iO g _
     have hlb:=λj=>getD_lt (l:=l) (by rw [<-hl]; exact wN g HG.out _) j;have hR:=HR.out;rw [hl] at hR;have c0:=hR.cell (i:=p) (by omega);have c1:=hR.cell (i:=p+1) (by omega);have c9:=hR.cell (i:=p+9) (by omega);have c14:=hR.cell (i:=p+14) (by omega);have cs:=hR.cell (i:=p+16) (by omega);have hfr:=hR.frozen (p+16)
     have HN:Hid (Row (wr.setCell ⟨w.heap.size+1,p+16,none⟩ (.int .u32 ((l.getD p 0+sg0 (l.getD (p+1) 0)+l.getD (p+9) 0+sg1 (l.getD (p+14) 0))%4294967296:Nat))) (w.heap.size+1) 214 64 (jT g (p+16+1))):=hid (by
      have:=Row.put hR ((l.getD p 0+sg0 (l.getD (p+1) 0)+l.getD (p+9) 0+sg1 (l.getD (p+14) 0))%4294967296);rw [hll] at this;rw [jT,hl,zL,if_neg (by omega),show p+16-16=p by omega,show p+16-15=p+1 by omega,show p+16-7=p+9 by omega,show p+16-2=p+14 by omega];exact this)
     have b0:=hlb p;have b1:=hlb (p+1);have b9:=hlb (p+9);have b14:=hlb (p+14);clear HR hl hll hlb hR;obtain ⟨x0,hx0⟩:=av (l.getD p 0)
     obtain ⟨x1,hx1⟩:=av (l.getD (p+1) 0)
     obtain ⟨x9,ph⟩:=av (l.getD (p+9) 0)
     obtain ⟨cE,pm⟩:=av (l.getD (p+14) 0)
     rw [hx0] at HN c0 b0;rw [hx1] at HN c1 b1;rw [ph] at HN c9 b9;rw [pm] at HN c14 b14;clear hx0 hx1 ph pm;have HT1:=hid (fu x1 7 7 rfl b1 (by omega) (by omega));have HT2:=hid (fu x1 18 18 rfl b1 (by omega) (by omega));have j7:=hid (fu cE 17 17 rfl b14 (by omega) (by omega));have rv:=hid (fu cE 19 19 rfl b14 (by omega) (by omega));have e1:=u32_xor_nat (bg x1 7) (bg x1 18) (bH 7 x1 b1) (bH 18 x1 b1);have e2:=u32_xor_nat (bg x1 7 ^^^ bg x1 18) (x1/8) (Nat.xor_lt_two_pow (n:=32) (bH 7 x1 b1) (bH 18 x1 b1)) (by omega)
     have e4:=u32_xor_nat (bg cE 17) (bg cE 19) (bH 17 cE b14) (bH 19 cE b14);have e5:=u32_xor_nat (bg cE 17 ^^^ bg cE 19) (cE/1024) (Nat.xor_lt_two_pow (n:=32) (bH 17 cE b14) (bH 19 cE b14)) (by omega);have q1:bg x1 7 ^^^ bg x1 18 ^^^ (x1/8)=sg0 x1:=by unfold sg0; rw [lW]
     have q2:bg cE 17 ^^^ bg cE 19 ^^^ (cE/1024)=sg1 cE:=by unfold sg1; rw [lW]
     rw [q1] at e2;rw [q2] at e5;have K5:=TR x1 b1;have K6:=Us cE b14;obtain ⟨z0,hz0⟩:=av (sg0 x1)
     obtain ⟨z1,hz1⟩:=av (sg1 cE)
     rw [hz0] at HN e2 K5;rw [hz1] at HN e5 K6;clear hz0 hz1 q1 q2;generalize bg x1 7 ^^^ bg x1 18=y1 at e1 e2;generalize bg cE 17 ^^^ bg cE 19=y4 at e4 e5;generalize bg x1 7=a1 at HT1 e1;generalize bg x1 18=a2 at HT2 e1;generalize bg cE 17=a4 at j7 e4;generalize bg cE 19=a5 at rv e4;have E1:=sec e1;have E2:=sec e2;have E4:=sec e4;have E5:=sec e5;clear e1 e2 e4 e5;have l0:(0:Int)<=(p:Int)+1:=by omega
     have l1:(p:Int)+1<64:=by omega
     have l2:(0:Int)<=(p:Int)+14:=by omega
     have l3:(p:Int)+14<64:=by omega
     have l4:((p:Int)+14).toNat=p+14:=by omega
     have l5:((p:Int)+1).toNat=p+1:=by omega
     have w1:IntKind.i64.wrap ((p:Int)+16-15)=(p:Int)+1:=by rw [IntKind.wrap_i64]; omega
     have X6:IntKind.i64.wrap ((p:Int)+16-2)=(p:Int)+14:=by rw [IntKind.wrap_i64]; omega
     go_wp2_with fail
     go_quiet (fail)
     obtain ⟨n1,rfl⟩:=au nq
     clear l0 l1 l2 l3 l4 l5 w1 X6 c1 c14;have e1:=E1.out;have e2:=E2.out;have e4:=E4.out;have e5:=E5.out;rw [show ((x1/8:Nat):Int)=(x1:Int)/8 by omega] at e2;rw [show ((cE/1024:Nat):Int)=(cE:Int)/1024 by omega] at e5;clear E1 E2 E4 E5;go_wp2_with fail
     (with_reducible refine (HT1.out _).mono ?_)
     rintro e w3 ⟨rfl,rfl⟩;go_wp2_with fail
     (with_reducible refine (HT2.out _).mono ?_)
     rintro e w3 ⟨rfl,rfl⟩;go_wp2_with fail
     (with_reducible refine (j7.out _).mono ?_)
     rintro e w3 ⟨rfl,rfl⟩;go_wp2_with fail
     (with_reducible refine (rv.out _).mono ?_)
     rintro e w3 ⟨rfl,rfl⟩;go_wp2_with fail
     clear HT1 HT2 j7 rv e1 e2 e4 e5;have l0:(0:Int)<=(p:Int):=by omega
     have l1:(p:Int)<64:=by omega
     have l2:(0:Int)<=(p:Int)+9:=by omega
     have l3:(p:Int)+9<64:=by omega
     have l4:((p:Int)+9).toNat=p+9:=by omega
     have w1:IntKind.i64.wrap (p:Int)=(p:Int):=by rw [IntKind.wrap_i64]; omega
     have w9:IntKind.i64.wrap ((p:Int)+16-7)=(p:Int)+9:=by rw [IntKind.wrap_i64]; omega
     have l6:(0:Int)<=(p:Int)+16:=by omega
     have l7:(p:Int)+16<64:=by omega
     have l8:((p:Int)+16).toNat=p+16:=by omega
     have HV:Sec (((((x0:Int)+z0)%4294967296+x9)%4294967296+z1)%4294967296=((x0+z0+x9+z1)%4294967296:Nat)):=sec (by omega);refine aB (S:=λw'=>w'.cell? ⟨w.heap.size+1,p,none⟩=some (.int .u32 (x0:Nat))/\w'.cell? ⟨w.heap.size+1,p+9,none⟩=some (.int .u32 (x9:Nat))) (⟨c0,c9⟩) λhld=>?_;refine ah 0 ?_;try simp only [ak]
     refine ah 1 ?_;try simp only [ak]
     refine ah 2 ?_;try simp only [ak]
     refine ah 3 ?_;try simp only [ak]
     refine ah 4 ?_;try simp only [ak]
     refine ah 5 ?_;try simp only [ak]
     refine ah 6 ?_;try simp only [ak]
     refine ah 7 ?_;try simp only [ak]
     refine ah 8 ?_;try simp only [ak]
     refine ah 9 ?_;try simp only [ak]
     refine ah 10 ?_;try simp only [ak]
     refine ah 11 ?_;try simp only [ak]
     refine ah 12 ?_;try simp only [ak]
     refine ah 13 ?_;try simp only [ak]
     refine ah 14 ?_;try simp only [ak]
     refine aj 15 λK hK=>?_;go_simp;refine hK.out _ _ (⟨by rw [World.cell?_setCell_other _ _ _ _ (by simp; try omega)]; exact c0,by rw [World.cell?_setCell_other _ _ _ _ (by simp; try omega)]; exact c9⟩) λhld=>?_;clear hK K;try simp only [ak]
     refine aA ?_;clear l0 l1 l2 l3 l4 l6 l7 l8 w1 w9 hld;go_wp2;go_roundw
     case rel=>exact ⟨p+16+1,by omega,by omega,by go_num,hid (by rw [HV.out]; exact HN.out),(below_drewN hB (n1+1)).setCell (p:=⟨w.heap.size+1,p+16,none⟩) (by simp) _⟩
     case measure=>simp [intOf]; omega
    .obtain rfl:k=64:=by omega
     have HG2:=hid (Zb (jT g 64) HR.out (iO g 64) (λ_ _=>rfl));have HB0:Hid (wr.heap[w.heap.size]? = some (.cells (za 64) 214 (0,0))):=hid (by rw [hB.block _ (by simp)]; exact heap_alloc_new _ _);obtain ⟨l,hl⟩:=av (jT g 64)
     have hll:l.length=64:=by rw [<-hl]; exact iO g _
     rw [hl] at HG2;have o8:=sec hl;clear HR hl;go_wp2_with (first | (refine wpList_load_row rfl _ _ rfl (w.heap.size+1) rfl 214 (ac l) (0,0) _ HG2.out underlying214 rfl (by rw [bF,hll]; exact nS) ?_) | (refine wpList_store_rowTo rfl 214 _ _ rfl rfl _ (ac l) rfl rfl 214 (za 64) HB0.out (by rw [bF,hll]; exact nS) (by rw [bF,hll,za,bF]; simp) (iZ _) ?_))
     exact bodyPost_ret (results_cell_row rfl _ _ w.heap.size 214 (ac l) (0,0) _ rfl (setRow_heap _ _ _ _ _ _ HB0.out) underlying214 rfl (by rw [bF,hll]; exact nS)) rfl ⟨by rw [o8.out],fP (((Below.refl w.heap.size w).alloc aF _).trans (hB.mono (by simp))) aF _⟩
theorem MK (e:Nat) (he:e<4294967296):4294967295 ^^^ e=4294967295-e:=by
 apply Nat.eq_of_testBit_eq;intro i;have h:=Nat.testBit_two_pow_sub_succ (n:=32) (x:=e) he i;rw [show 2 ^ 32-(e+1)=4294967295-e by omega] at h;have h1:=Nat.testBit_two_pow_sub_one (n:=32) (i:=i);rw [show 2 ^ 32-1=4294967295 by rfl] at h1;rw [Nat.testBit_xor,h,h1];by_cases hi:i<32
 .simp [hi]
 .have:e.testBit i=false:=Nat.testBit_lt_two_pow (aH he (Nat.pow_le_pow_right (n:=2) (by omega) (show 32<=i by omega)));simp [hi,this]
theorem Uv (e f g:Nat) (he:e<4294967296):(e &&& f) ^^^ ((4294967295-e) &&& g)=zl e f g:=by
 unfold zl;rw [<-MK e he];apply Nat.eq_of_testBit_eq;intro i;have h1:=Nat.testBit_two_pow_sub_one (n:=32) (i:=i);rw [show 2 ^ 32-1=4294967295 by rfl] at h1;simp only [Nat.testBit_xor,Nat.testBit_and,Nat.testBit_or,h1];by_cases hi:i<32
 .simp only [hi,decide_true];cases e.testBit i <;> cases f.testBit i <;> cases g.testBit i <;> rfl
 .have:e.testBit i=false:=Nat.testBit_lt_two_pow (aH he (Nat.pow_le_pow_right (n:=2) (by omega) (show 32<=i by omega)));simp [hi,this]
theorem TB (a b c:Nat):(a &&& b) ^^^ (a &&& c) ^^^ (b &&& c)=Ce a b c:=by
 unfold Ce;apply Nat.eq_of_testBit_eq;intro i;simp only [Nat.testBit_xor,Nat.testBit_and,Nat.testBit_or];cases a.testBit i <;> cases b.testBit i <;> cases c.testBit i <;> rfl
theorem Wq (x0 x1 x2 x3 x4 x5 x6 x7 v0 v1 v2 v3 v4 v5 v6 v7:Nat) :
  ((((((((ac [x0,x1,x2,x3,x4,x5,x6,x7]).setIfInBounds 0 (.int .u32 v0)).setIfInBounds 1 (.int .u32 v1)).setIfInBounds 2 (.int .u32 v2)).setIfInBounds 3 (.int .u32 v3)).setIfInBounds 4 (.int .u32 v4)).setIfInBounds 5 (.int .u32 v5)).setIfInBounds 6 (.int .u32 v6)).setIfInBounds 7 (.int .u32 v7)
   = ac [v0,v1,v2,v3,v4,v5,v6,v7]:=by
 simp [ac]
theorem Zu {r:Option Nat} (h:w.grownBy w1 r):w.grownBy w1.drew r:=⟨h.os,h.tape,h.output,h.size,h.block⟩
theorem Gv (v:Value) (h:w.grownBy w1 (some g)):w.grownBy (w1.setCell ⟨g,j,none⟩ v) (some g) :=
 ⟨h.os,h.tape,h.output,by have:=h.size; simp; omega,λk hk hne=>(heap_setCell_other _ _ _ _ (by simpa using hne)).trans (h.block k hk hne)⟩
theorem KH (n x:Nat) (w:World) :
  Calls prog 158 #[.int .u32 n,.int .u32 x] w λe w'=>e = .returned (.func (Fn.func 178) #[] #[.pointer (some ⟨w.heap.size,0,none⟩),.pointer (some ⟨w.heap.size+1,0,none⟩)])/\w'=(w.alloc (.cells #[.int .u32 n] 98)).alloc (.cells #[.int .u32 x] 98):=by
 go_enter func158,ntmps158;go_wp2;go_ret;exact ⟨rfl,rfl⟩
theorem OE (g bn bw kk wk x0 x1 x2 x3 x4 x5 x6 x7:Nat) (b0:x0<4294967296) (b1:x1<4294967296) (b2:x2<4294967296) (b4:x4<4294967296) (b5:x5<4294967296) (b6:x6<4294967296)
  (w:World) (hg:w.heap[g]? = some (.cells (ac [x0,x1,x2,x3,x4,x5,x6,x7]) 183 (0,0))) (hn:w.cell? ⟨bn,0,none⟩=some (.int .u32 kk)) (hw:w.cell? ⟨bw,0,none⟩=some (.int .u32 wk)) :
  Calls prog 178 #[.pointer (some ⟨g,0,none⟩),.pointer (some ⟨bn,0,none⟩),.pointer (some ⟨bw,0,none⟩)] w λe w'=>e = .returned (.tuple #[])/\w'.heap[g]? = some (.cells (ac (tO kk wk [x0,x1,x2,x3,x4,x5,x6,x7])) 183 (0,0))/\w.grownBy w' (some g):=by
 have c0:w.cell? ⟨g,0,none⟩=some (.int .u32 x0):=cell_of_row w g 0 _ _ _ hg;have c1:w.cell? ⟨g,1,none⟩=some (.int .u32 x1):=cell_of_row w g 1 _ _ _ hg;have c2:w.cell? ⟨g,2,none⟩=some (.int .u32 x2):=cell_of_row w g 2 _ _ _ hg;have c3:w.cell? ⟨g,3,none⟩=some (.int .u32 x3):=cell_of_row w g 3 _ _ _ hg;have c4:w.cell? ⟨g,4,none⟩=some (.int .u32 x4):=cell_of_row w g 4 _ _ _ hg;have c5:w.cell? ⟨g,5,none⟩=some (.int .u32 x5):=cell_of_row w g 5 _ _ _ hg;have c6:w.cell? ⟨g,6,none⟩=some (.int .u32 x6):=cell_of_row w g 6 _ _ _ hg
 have c7:w.cell? ⟨g,7,none⟩=some (.int .u32 x7):=cell_of_row w g 7 _ _ _ hg;have fz:∀ j,w.frozen? ⟨g,j,none⟩=false:=λj=>frozen_of_row w g j _ _ hg;have HG:=sec hg;have X7:=sec fz;clear hg fz;go_enter func178,ntmps178;go_wp2_with fail
 go_quiet (fail)
 obtain ⟨n1,rfl⟩:=au nq
 go_wp2_with fail
 go_quiet (fail)
 obtain ⟨n2,rfl⟩:=au nq
 have hpk:=Iy x4 x5 x6 b4;have A1:=u32_and_nat x4 x5 b4 b5;have A2:=u32_xor_nat 4294967295 x4 (by omega) b4;rw [MK x4 b4] at A2;have A3:=u32_and_nat (4294967295-x4) x6 (by omega) b6;have A4:=u32_xor_nat (x4 &&& x5) ((4294967295-x4) &&& x6) (Nat.lt_of_le_of_lt Nat.and_le_left b4) (Nat.lt_of_le_of_lt Nat.and_le_left (by omega));rw [Uv x4 x5 x6 b4] at A4;have A2:bits .xor .u32 IntKind.u32.max (x4:Int)=((4294967295-x4:Nat):Int):=A2;obtain ⟨pk,li⟩:=av (zl x4 x5 x6)
 rw [li] at hpk A4;have DS:=sec li;clear li;obtain ⟨m4,C8⟩:=av (4294967295-x4)
 rw [C8] at A2 A3 A4;clear C8;generalize x4 &&& x5=p1 at A1 A4;generalize m4 &&& x6=p2 at A3 A4;go_wp2_with fail
 clear A1 A2 A3 A4;have HT1:=hid (fu x4 6 6 rfl b4 (by omega) (by omega));have HT2:=hid (fu x4 11 11 rfl b4 (by omega) (by omega));have HT3:=hid (fu x4 25 25 rfl b4 (by omega) (by omega));have e1:=u32_xor_nat (bg x4 6) (bg x4 11) (bH 6 x4 b4) (bH 11 x4 b4);have e2:=u32_xor_nat (bg x4 6 ^^^ bg x4 11) (bg x4 25) (Nat.xor_lt_two_pow (n:=32) (bH 6 x4 b4) (bH 11 x4 b4)) (bH 25 x4 b4);have hq:bg x4 6 ^^^ bg x4 11 ^^^ bg x4 25=bs1 x4:=rfl;rw [hq] at e2;have X8:=RS x4 b4;obtain ⟨B1,hB1⟩:=av (bs1 x4)
 rw [hB1] at e2 X8;have HB1:=sec hB1;clear hB1 hq;generalize bg x4 6 ^^^ bg x4 11=y1 at e1 e2;generalize bg x4 6=a1 at HT1 e1;generalize bg x4 11=a2 at HT2 e1;generalize bg x4 25=a3 at HT3 e2;have HX:Sec ((x7+B1+pk+kk+wk)%4294967296=((((x7+B1)%4294967296+pk)%4294967296+kk)%4294967296+wk)%4294967296):=sec (by omega);have v1:IntKind.u32.wrap ((x7:Int)+B1)=((x7+B1)%4294967296:Nat):=by rw [IntKind.wrap_u32']; omega
 have v2:IntKind.u32.wrap ((((x7+B1)%4294967296:Nat):Int)+pk)=(((x7+B1)%4294967296+pk)%4294967296:Nat):=by rw [IntKind.wrap_u32']; omega
 have v3:IntKind.u32.wrap (((((x7+B1)%4294967296+pk)%4294967296:Nat):Int)+kk)=((((x7+B1)%4294967296+pk)%4294967296+kk)%4294967296:Nat):=by rw [IntKind.wrap_u32']; omega
 have v4:IntKind.u32.wrap ((((((x7+B1)%4294967296+pk)%4294967296+kk)%4294967296:Nat):Int)+wk)=(((((x7+B1)%4294967296+pk)%4294967296+kk)%4294967296+wk)%4294967296:Nat):=by rw [IntKind.wrap_u32']; omega
 obtain ⟨s1,h1⟩:=av ((x7+B1)%4294967296)
 rw [h1] at v1 v2 v3 v4 HX;obtain ⟨s2,h2⟩:=av ((s1+pk)%4294967296)
 rw [h2] at v2 v3 v4 HX;obtain ⟨s3,h3⟩:=av ((s2+kk)%4294967296)
 rw [h3] at v3 v4 HX;have K7:(s3+wk)%4294967296<4294967296:=Nat.mod_lt _ (by omega);obtain ⟨X,hX⟩:=av ((s3+wk)%4294967296)
 rw [hX] at v4 HX K7;clear h1 h2 h3 hX;refine aB (S:=λw'=>w'.cell? ⟨bn,0,none⟩=some (.int .u32 (kk:Nat))/\w'.cell? ⟨bw,0,none⟩=some (.int .u32 (wk:Nat))) (⟨hn,hw⟩) λhld=>?_;refine ah 0 ?_;try simp only [ak]
 refine ah 1 ?_;try simp only [ak]
 refine ah 3 ?_;try simp only [ak]
 refine ah 6 ?_;try simp only [ak]
 refine ah 10 ?_;try simp only [ak]
 refine ah 12 ?_;try simp only [ak]
 refine ah 14 ?_;try simp only [ak]
 refine aj 2 λK hK=>?_;go_simp;go_at_call 177
 (with_reducible refine (HT1.out _).mono ?_)
 rintro e w3 ⟨rfl,rfl⟩;refine hK.out _ _ ?_ (λhld=>?_)
 .assumption
 clear hK K;try simp only [ak]
 refine aj 4 λK hK=>?_;go_simp;go_at_call 177
 (with_reducible refine (HT2.out _).mono ?_)
 rintro e w3 ⟨rfl,rfl⟩;refine hK.out _ _ ?_ (λhld=>?_)
 .assumption
 clear hK K;try simp only [ak]
 refine ah 5 ?_;try simp only [ak]
 refine aj 7 λK hK=>?_;go_simp;go_at_call 177
 (with_reducible refine (HT3.out _).mono ?_)
 rintro e w3 ⟨rfl,rfl⟩;refine hK.out _ _ ?_ (λhld=>?_)
 .assumption
 clear hK K;try simp only [ak]
 refine ah 8 ?_;try simp only [ak]
 refine ah 9 ?_;try simp only [ak]
 refine ah 11 ?_;try simp only [ak]
 refine ah 13 ?_;try simp only [ak]
 refine ah 15 ?_;try simp only [ak]
 refine ah 16 ?_;try simp only [ak]
 refine aA ?_;clear HT1 HT2 HT3 e1 e2 v1 v2 v3 v4 hld;have HT1:=hid (fu x0 2 2 rfl b0 (by omega) (by omega));have HT2:=hid (fu x0 13 13 rfl b0 (by omega) (by omega));have HT3:=hid (fu x0 22 22 rfl b0 (by omega) (by omega));have e1:=u32_xor_nat (bg x0 2) (bg x0 13) (bH 2 x0 b0) (bH 13 x0 b0);have e2:=u32_xor_nat (bg x0 2 ^^^ bg x0 13) (bg x0 22) (Nat.xor_lt_two_pow (n:=32) (bH 2 x0 b0) (bH 13 x0 b0)) (bH 22 x0 b0);have hq:bg x0 2 ^^^ bg x0 13 ^^^ bg x0 22=bs0 x0:=rfl;rw [hq] at e2;have K8:=Tw x0 b0
 obtain ⟨B0,hB0⟩:=av (bs0 x0)
 rw [hB0] at e2 K8;have HB0:=sec hB0;clear hB0 hq;generalize bg x0 2 ^^^ bg x0 13=y1 at e1 e2;generalize bg x0 2=a1 at HT1 e1;generalize bg x0 13=a2 at HT2 e1;generalize bg x0 22=a3 at HT3 e2;have hmo:=Iz x0 x1 x2 b0 b1;have A1:=u32_and_nat x0 x1 b0 b1;have A2:=u32_and_nat x0 x2 b0 b2;have A3:=u32_xor_nat (x0 &&& x1) (x0 &&& x2) (Nat.lt_of_le_of_lt Nat.and_le_left b0) (Nat.lt_of_le_of_lt Nat.and_le_left b0);have A4:=u32_and_nat x1 x2 b1 b2
 have A5:=u32_xor_nat ((x0 &&& x1) ^^^ (x0 &&& x2)) (x1 &&& x2) (Nat.xor_lt_two_pow (n:=32) (Nat.lt_of_le_of_lt Nat.and_le_left b0) (Nat.lt_of_le_of_lt Nat.and_le_left b0)) (Nat.lt_of_le_of_lt Nat.and_le_left b1);rw [TB] at A5;obtain ⟨mo,lj⟩:=av (Ce x0 x1 x2)
 rw [lj] at hmo A5;have E0:=sec lj;clear lj;generalize (x0 &&& x1) ^^^ (x0 &&& x2)=q3 at A3 A5;generalize x0 &&& x1=q1 at A1 A3;generalize x0 &&& x2=q2 at A2 A3;generalize x1 &&& x2=q5 at A4 A5;go_wp2_with fail
 (with_reducible refine (HT1.out _).mono ?_)
 rintro e w3 ⟨rfl,rfl⟩;go_wp2_with fail
 (with_reducible refine (HT2.out _).mono ?_)
 rintro e w3 ⟨rfl,rfl⟩;go_wp2_with fail
 (with_reducible refine (HT3.out _).mono ?_)
 rintro e w3 ⟨rfl,rfl⟩;go_wp2_with fail
 clear A1 A2 A3 A4 A5 HT1 HT2 HT3 e1 e2;have hY:((B0:Int)+mo)%4294967296=((B0+mo)%4294967296:Nat):=by omega
 have HY:Sec (yN x0 x1 x2=(B0+mo)%4294967296):=sec (by unfold yN; rw [HB0.out,E0.out]);have K9:(B0+mo)%4294967296<4294967296:=Nat.mod_lt _ (by omega);obtain ⟨Y,Q9⟩:=av ((B0+mo)%4294967296)
 rw [Q9] at hY HY K9;rw [hY];clear hY Q9;have fz:=X7.out;have v1:IntKind.u32.wrap ((X:Int)+Y)=((X+Y)%4294967296:Nat):=by rw [IntKind.wrap_u32']; omega
 have v2:IntKind.u32.wrap ((x3:Int)+X)=((x3+X)%4294967296:Nat):=by rw [IntKind.wrap_u32']; omega
 have cv:Sec (tO kk wk [x0,x1,x2,x3,x4,x5,x6,x7]=[(X+Y)%4294967296,x0,x1,x2,(x3+X)%4294967296,x4,x5,x6]):=sec (by
  show [(xN kk wk x4 x5 x6 x7+yN x0 x1 x2)%4294967296,x0,x1,x2,(x3+xN kk wk x4 x5 x6 x7)%4294967296,x4,x5,x6]=_;rw [HY.out,show xN kk wk x4 x5 x6 x7=X by unfold xN; rw [HB1.out,DS.out]; exact HX.out])
 obtain ⟨N0,hN0⟩:=av ((X+Y)%4294967296)
 obtain ⟨N4,C9⟩:=av ((x3+X)%4294967296)
 rw [hN0] at v1 cv;rw [C9] at v2 cv;clear hN0 C9;refine aB (S:=λ_=>True) (trivial) λhld=>?_;refine ah 0 ?_;try simp only [ak]
 refine ah 1 ?_;try simp only [ak]
 refine ah 2 ?_;try simp only [ak]
 refine ah 3 ?_;try simp only [ak]
 refine ah 4 ?_;try simp only [ak]
 refine ah 5 ?_;try simp only [ak]
 refine ah 6 ?_;try simp only [ak]
 refine ah 7 ?_;try simp only [ak]
 refine ah 8 ?_;try simp only [ak]
 refine ah 9 ?_;try simp only [ak]
 refine ah 10 ?_;try simp only [ak]
 refine ah 11 ?_;try simp only [ak]
 refine ah 13 ?_;try simp only [ak]
 refine ah 16 ?_;try simp only [ak]
 refine ah 19 ?_;try simp only [ak]
 refine aj 12 λK hK=>?_;go_simp;refine hK.out _ _ ?_ (λhld=>?_)
 .trivial
 clear hK K;try simp only [ak]
 refine ah 14 ?_;try simp only [ak]
 refine aj 15 λK hK=>?_;go_simp;refine hK.out _ _ ?_ (λhld=>?_)
 .trivial
 clear hK K;try simp only [ak]
 refine ah 17 ?_;try simp only [ak]
 refine aj 18 λK hK=>?_;go_simp;refine hK.out _ _ ?_ (λhld=>?_)
 .trivial
 clear hK K;try simp only [ak]
 refine ah 20 ?_;try simp only [ak]
 refine aj 21 λK hK=>?_;go_simp;refine hK.out _ _ ?_ (λhld=>?_)
 .trivial
 clear hK K;try simp only [ak]
 refine aA ?_;go_wp2_with fail
 refine aB (S:=λ_=>True) (trivial) λhld=>?_;refine ah 0 ?_;try simp only [ak]
 refine ah 1 ?_;try simp only [ak]
 refine ah 2 ?_;try simp only [ak]
 refine ah 3 ?_;try simp only [ak]
 refine ah 4 ?_;try simp only [ak]
 refine ah 5 ?_;try simp only [ak]
 refine ah 6 ?_;try simp only [ak]
 refine ah 7 ?_;try simp only [ak]
 refine ah 8 ?_;try simp only [ak]
 refine ah 9 ?_;try simp only [ak]
 refine ah 10 ?_;try simp only [ak]
 refine ah 11 ?_;try simp only [ak]
 refine ah 13 ?_;try simp only [ak]
 refine ah 16 ?_;try simp only [ak]
 refine ah 19 ?_;try simp only [ak]
 refine aj 12 λK hK=>?_;go_simp;refine hK.out _ _ ?_ (λhld=>?_)
 .trivial
 clear hK K;try simp only [ak]
 refine ah 14 ?_;try simp only [ak]
 refine aj 15 λK hK=>?_;go_simp;refine hK.out _ _ ?_ (λhld=>?_)
 .trivial
 clear hK K;try simp only [ak]
 refine ah 17 ?_;try simp only [ak]
 refine aj 18 λK hK=>?_;go_simp;refine hK.out _ _ ?_ (λhld=>?_)
 .trivial
 clear hK K;try simp only [ak]
 refine ah 20 ?_;try simp only [ak]
 refine aj 21 λK hK=>?_;go_simp;refine hK.out _ _ ?_ (λhld=>?_)
 .trivial
 clear hK K;try simp only [ak]
 refine aA ?_;clear v1 v2 hld fz c0 c1 c2 c3 c4 c5 c6 c7 hn hw;go_end0;have k0:(w.drewN (n1+n2+1+1)).heap[g]? = some (.cells (ac [x0,x1,x2,x3,x4,x5,x6,x7]) 183 (0,0)):=HG.out;have k1:=heap_setCell_same _ g 0 _ _ (.int .u32 N0) k0;have k2:=heap_setCell_same _ g 1 _ _ (.int .u32 x0) k1;have k3:=heap_setCell_same _ g 2 _ _ (.int .u32 x1) k2;have k4:=heap_setCell_same _ g 3 _ _ (.int .u32 x2) k3;have k5:=heap_setCell_same _ g 4 _ _ (.int .u32 N4) k4;have k6:=heap_setCell_same _ g 5 _ _ (.int .u32 x4) k5
 have k7:=heap_setCell_same _ g 6 _ _ (.int .u32 x5) k6;have k8:=heap_setCell_same _ g 7 _ _ (.int .u32 x6) k7;refine ⟨rfl,?_,?_⟩
 .rw [cv.out,heap_drew,k8,Wq]
 .exact Zu (Gv _ (Gv _ (Gv _ (Gv _ (Gv _ (Gv _ (Gv _ (Gv _ ⟨rfl,rfl,rfl,aF,λ_ _ _=>rfl⟩))))))))
theorem mO (ev:Operand->Value) (o:Oper) (g:Nat) (w:World) (l:List Nat) (ho:∃ x,o.op = .load 183 x/\ev x = .pointer (some ⟨g,0,none⟩)) (hg:w.heap[g]? = some (.cells (ac l) 183 (0,0))) (hl:l.length=8) :
  (execOp ev o).run prog w = .ok (.value (.agg (ac l))) w:=by
 obtain ⟨x,ho,hx⟩:=ho;have h:=run_loadVar_row (P:=prog) w g 183 183 (ac l) (0,0) _ hg underlying183 rfl (by rw [bF,hl]; exact jP);unfold execOp;rw [ho];simp only [hx];simp [Instr.loadAt,Instr.sureAddr,h]
theorem wU (ev:Operand->Value) (o:Oper) (ho:o.op = .alloc 183) (w:World) (n:Nat) (hn:w.heap.size=n) :
  (execOp ev o).run prog w = .ok (.value (.pointer (some ⟨n,0,none⟩))) (w.alloc (.cells (za 8) 183)):=by
 subst hn; exact kS ev o ho w
theorem Yw (l:List Nat) (j x:Nat):(ac l).setIfInBounds j (.int .u32 x)=ac (l.set j x):=by simp [ac,List.map_set]
theorem Mj (n x:Nat) (w:World) :
  Calls prog 158 #[.int .u32 n,.int .u32 x] w λe w'=>∃ b1 b2,e = .returned (.func (Fn.func 178) #[] #[.pointer (some ⟨b1,0,none⟩),.pointer (some ⟨b2,0,none⟩)])/\Rg.Own w' b1 #[.int .u32 n] 98/\Rg.Own w' b2 #[.int .u32 x] 98/\b1≠b2/\w.heap.size<=b1/\w.heap.size<=b2/\Below w.heap.size w w':=by
 refine (KH n x w).mono ?_;rintro e w' ⟨rfl,rfl⟩;refine ⟨_,_,rfl,(Rg.Own.new w _ _).below (aG.alloc aF _),?_,by omega,by omega,by omega,(aG.alloc aF _).alloc (by simp) _⟩;have:=Rg.Own.new (w.alloc (.cells #[.int .u32 n] 98)) #[.int .u32 x] 98;rw [show (w.alloc (.cells #[.int .u32 n] 98)).heap.size=w.heap.size+1 by simp] at this;exact this
theorem Wx (g bn bw kk wk:Nat) (l:List Nat) (hl:l.length=8) (hlt:∀ x∈l,x<4294967296) (w:World) (hg:w.heap[g]? = some (.cells (ac l) 183 (0,0))) (hn:Rg.Own w bn #[.int .u32 kk] 98) (hw:Rg.Own w bw #[.int .u32 wk] 98) :
  Calls prog 178 #[.pointer (some ⟨g,0,none⟩),.pointer (some ⟨bn,0,none⟩),.pointer (some ⟨bw,0,none⟩)] w λe w'=>e = .returned (.tuple #[])/\w'.heap[g]? = some (.cells (ac (tO kk wk l)) 183 (0,0))/\w.grownBy w' (some g):=by
 obtain ⟨x0,x1,x2,x3,x4,x5,x6,x7,rfl⟩:=eight l hl;exact OE g bn bw kk wk x0 x1 x2 x3 x4 x5 x6 x7 (hlt _ (by simp)) (hlt _ (by simp)) (hlt _ (by simp)) (hlt _ (by simp)) (hlt _ (by simp)) (hlt _ (by simp)) w hg (cell_of_row w bn 0 _ _ _ hn.2) (cell_of_row w bw 0 _ _ _ hw.2)
theorem xP (l:List Nat) (j:Nat) (hj:j<8) (hl:l.length=8) (w:World):(Instr.index 183 (.agg (ac l)) (.int .i64 j)).run prog w = .ok (.int .u32 (l.getD j 0:Nat)) w:=by
 obtain ⟨x0,x1,x2,x3,x4,x5,x6,x7,rfl⟩:=eight l hl;have hc:j=0\/j=1\/j=2\/j=3\/j=4\/j=5\/j=6\/j=7:=by omega
 rcases hc with rfl | rfl | rfl | rfl | rfl | rfl | rfl | rfl <;> rfl
theorem Ux (s:aK) (k:Nat):(s.extract (64*k) s.size).extract 64 (s.extract (64*k) s.size).size=s.extract (64*(k+1)) s.size:=by
 rw [ByteArray.extract_extract];congr 1;simp;omega
theorem Hr (s:aK) (k:Nat):nH (s.extract (64*k) s.size)=pK s.data.toList k:=by
 funext q;unfold nH pK;have e:(s.extract (64*k) s.size).data.toList=s.data.toList.drop (64*k):=by
  simp only [ByteArray.data_extract,Array.toList_extract,List.extract_eq_take_drop];rw [List.take_of_length_le (by simp)]
 rw [e,List.getD,List.getD,List.getElem?_drop]
theorem Nw (h:List Nat) (hh:h.length=8) (hlt:∀ x∈h,x<4294967296) (s:aK) (hs:s.size<=1000000) (w:World) (hK:∀ i,i<64->w.cell? ⟨0,i,none⟩=some (.int .u32 (kN i:Nat))) :
  Calls prog 125 #[.agg (ac h),.string s] w λe w'=>e = .returned (.agg (ac (nA s.data.toList h (s.size/64))))/\Below w.heap.size w w':=by
 have HL:=hid (zh s.data.toList h hh);have HT:=hid (MQ s.data.toList h hlt);have h0:0<w.heap.size:=World.block_lt_of_cell? w _ (hK 0 (by omega));have HK:=hid hK;have xh:Hid ((w.alloc (.cells (ac h) 183)).heap[w.heap.size]? = some (.cells (ac (nA s.data.toList h 0)) 183 (0,0))):=hid (heap_alloc_new _ _);have cX:Hid (s=s.extract (64*0) s.size):=hid (by simp);obtain ⟨A,hA⟩:=av (ac h)
 rw [hA] at xh ⊢;clear hA hh hlt hK;go_enter func125,ntmps125;go_wp2_with (refine iw rfl _ _ (wU _ _ rfl _ (w.heap.size+1) (by simp)) ?_)
 go_frame
 go_loopw [1] (λv wr=>∃ k:Nat,k<=s.size/64/\v = .string (s.extract (64*k) s.size)/\Hid (wr.heap[w.heap.size]? = some (.cells (ac (nA s.data.toList h k)) 183 (0,0)))/\Rg.Own wr (w.heap.size+1) (za 8) 183/\Below w.heap.size w wr) (λv _=>match v with | .string b=>b.size | _=>0)
 case atStart=>exact ⟨0,by omega,by rw [<-cX.out],hid ((Lib.alloc_old _ _ _ (by simp)).trans xh.out),by have:=Rg.Own.new (w.alloc (.cells A 183)) (za 8) 183; rwa [show (w.alloc (.cells A 183)).heap.size=w.heap.size+1 by simp] at this,(aG.alloc aF _).alloc (by simp) _⟩
 case round =>
  obtain ⟨k,hk,rfl,HH,cn,hB⟩:=hrel;have hsz:(s.extract (64*k) s.size).size=s.size-64*k:=by simp
  by_cases hlt:k<s.size/64
  .have h64:64<=(s.extract (64*k) s.size).size:=by omega
   have fd:=FB (s.extract (64*k) s.size) h64 (by omega);rw [Hr] at fd;have fd:=hid fd;have gA:=hid (iO (pK s.data.toList k) 64);have X9:=hid (wN (pK s.data.toList k) (λq=>UInt8.toNat_lt _) 64);have dl:=sec (show lH (pK s.data.toList k) (nA s.data.toList h k)=nA s.data.toList h (k+1) from rfl);unfold lH at dl;obtain ⟨ws,hws⟩:=av (jT (pK s.data.toList k) 64)
   rw [hws] at fd gA X9 dl;clear hws;have fe:=hid (HL.out k);have E3:=hid (HT.out k);have hBx:w.heap.size<wr.heap.size/\w.heap.size+1<wr.heap.size:=by have:=cn.1; omega
   obtain ⟨H,hH⟩:=av (nA s.data.toList h k)
   rw [hH] at HH fe E3 dl;clear hH;obtain ⟨z,hz⟩:=av (s.extract (64*k) s.size)
   rw [hz] at fd h64 hsz ⊢;have HZ:=sec hz;clear hz;go_upto_region 3 with fail
   go_cut [5,6] (λp q wx=>∃ b c,p = .pointer (some ⟨b,0,none⟩)/\q = .pointer (some ⟨c,0,none⟩)/\b≠c/\wr.heap.size<=b/\wr.heap.size<=c/\Hid (wx.heap[b]? = some (.cells (ac ws) 214 (0,0)))/\Hid (wx.heap[c]? = some (.cells (ac H) 183 (0,0)))/\Below wr.heap.size wr wx)
   case first =>
    refine aB (S:=λw'=>Below wr.heap.size wr w') (aG.drew) λhld=>?_;refine ah 0 ?_;try simp only [ak]
    refine ah 2 ?_ (hy:=by intro wz hSw; refine mO _ _ w.heap.size wz H ?_ (by rw [hSw.block _ hBx.1]; exact HH.out) fe.out; exact ⟨_,rfl,rfl⟩);try simp only [ak]
    refine wpAnyH_ready (rs:=[1,3,4]) (by kernel_rfl) (by simp) ?_;refine Rg.readyC (i:=1) rfl (λK hK=>?_) (Rg.readyC (i:=3) rfl (λK hK=>?_) (Rg.readyL (i:=4) rfl (λK hK=>?_)))
    .go_simp;go_at_call 157
     (with_reducible refine (fd.out _).mono ?_)
     rintro e eq ⟨rfl,hbx⟩;refine hK.out _ _ (Below.trans hld (hbx.mono hld.size)) λhld=>?_;clear hK K;try simp only [ak]
     refine wpAnyH_ready (rs:=[3,4]) (by kernel_rfl) (by simp) ?_;refine Rg.readyC (i:=3) rfl (λK hK=>?_) (Rg.readyL (i:=4) rfl (λK hK=>?_))
     .refine Rg.meetAlloc (by rfl) (jH _ _ rfl _) ?_;rintro wv1 b3 lL h3 hbx;have ge:wr.heap.size<=b3:=by rw [lL]; exact Below.size hld
      clear lL;refine hK.out _ _ (Below.trans hld (hbx.mono hld.size)) λhld=>?_;clear hK K hbx;try simp only [ak]
      refine aj 4 λK hK=>?_;refine Rg.meetAlloc (by rfl) (kS _ _ rfl _) ?_;rintro wv2 b4 lO h4 hbx;have kj:wr.heap.size<=b4:=by rw [lO]; exact Below.size hld
      have bu:b3≠b4:=by have:=h3.1; omega
      replace h3:=h3.below hbx;clear lO;refine hK.out _ _ (Below.trans hld (hbx.mono hld.size)) λhld=>?_;clear hK K hbx;try simp only [ak]
      refine aj 5 λK hK=>?_;refine Rg.meetStore (by rfl) h3 214 (ac ws) ⟨_,_,rfl,rfl,rfl⟩ (by rw [bF,gA.out]; exact nS) (by rw [bF,gA.out,za,bF]; simp) (iZ _) ?_;rintro mu hn hu;replace h4:=h4.upd hu (Ne.symm bu);refine hK.out _ _ ?_ (λhld=>?_)
      .exact hu.below hld ge
      replace h3:=hn;clear hK K hn hu;try simp only [Act.put]
      refine aj 6 λK hK=>?_;refine Rg.meetStore (by rfl) h4 183 (ac H) ⟨_,_,rfl,rfl,rfl⟩ (by rw [bF,fe.out]; exact jP) (by rw [bF,fe.out,za,bF]; simp) (iZ _) ?_;rintro Cd hn hu;replace h3:=h3.upd hu bu;refine hK.out _ _ ?_ (λhld=>?_)
      .exact hu.below hld kj
      replace h4:=hn;clear hK K hn hu;try simp only [Act.put]
      refine aA ?_;go_wp2_with fail
      go_meet
      exact ⟨b3,b4,rfl,rfl,bu,ge,kj,hid h3.2,hid h4.2,hld⟩
     .refine Rg.meetAlloc (by rfl) (kS _ _ rfl _) ?_;rintro wv1 b4 lO h4 hbx;have kj:wr.heap.size<=b4:=by rw [lO]; exact Below.size hld
      clear lO;refine hK.out _ _ (Below.trans hld (hbx.mono hld.size)) λhld=>?_;clear hK K hbx;try simp only [ak]
      refine aj 3 λK hK=>?_;refine Rg.meetAlloc (by rfl) (jH _ _ rfl _) ?_;rintro wv2 b3 lL h3 hbx;have ge:wr.heap.size<=b3:=by rw [lL]; exact Below.size hld
      have bu:b3≠b4:=by have:=h4.1; omega
      replace h4:=h4.below hbx;clear lL;refine hK.out _ _ (Below.trans hld (hbx.mono hld.size)) λhld=>?_;clear hK K hbx;try simp only [ak]
      refine aj 5 λK hK=>?_;refine Rg.meetStore (by rfl) h3 214 (ac ws) ⟨_,_,rfl,rfl,rfl⟩ (by rw [bF,gA.out]; exact nS) (by rw [bF,gA.out,za,bF]; simp) (iZ _) ?_;rintro mu hn hu;replace h4:=h4.upd hu (Ne.symm bu);refine hK.out _ _ ?_ (λhld=>?_)
      .exact hu.below hld ge
      replace h3:=hn;clear hK K hn hu;try simp only [Act.put]
      refine aj 6 λK hK=>?_;refine Rg.meetStore (by rfl) h4 183 (ac H) ⟨_,_,rfl,rfl,rfl⟩ (by rw [bF,fe.out]; exact jP) (by rw [bF,fe.out,za,bF]; simp) (iZ _) ?_;rintro Cd hn hu;replace h3:=h3.upd hu bu;refine hK.out _ _ ?_ (λhld=>?_)
      .exact hu.below hld kj
      replace h4:=hn;clear hK K hn hu;try simp only [Act.put]
      refine aA ?_;go_wp2_with fail
      go_meet
      exact ⟨b3,b4,rfl,rfl,bu,ge,kj,hid h3.2,hid h4.2,hld⟩
    .refine Rg.meetAlloc (by rfl) (jH _ _ rfl _) ?_;rintro eq b3 lL h3 hbx;have ge:wr.heap.size<=b3:=by rw [lL]; exact Below.size hld
     clear lL;refine hK.out _ _ (Below.trans hld (hbx.mono hld.size)) λhld=>?_;clear hK K hbx;try simp only [ak]
     refine wpAnyH_ready (rs:=[1,4]) (by kernel_rfl) (by simp) ?_;refine Rg.readyC (i:=1) rfl (λK hK=>?_) (Rg.readyL (i:=4) rfl (λK hK=>?_))
     .go_simp;go_at_call 157
      (with_reducible refine (fd.out _).mono ?_)
      rintro e wv1 ⟨rfl,hbx⟩;replace h3:=h3.below hbx;refine hK.out _ _ (Below.trans hld (hbx.mono hld.size)) λhld=>?_;clear hK K;try simp only [ak]
      refine aj 4 λK hK=>?_;refine Rg.meetAlloc (by rfl) (kS _ _ rfl _) ?_;rintro wv2 b4 lO h4 hbx;have kj:wr.heap.size<=b4:=by rw [lO]; exact Below.size hld
      have bu:b3≠b4:=by have:=h3.1; omega
      replace h3:=h3.below hbx;clear lO;refine hK.out _ _ (Below.trans hld (hbx.mono hld.size)) λhld=>?_;clear hK K hbx;try simp only [ak]
      refine aj 5 λK hK=>?_;refine Rg.meetStore (by rfl) h3 214 (ac ws) ⟨_,_,rfl,rfl,rfl⟩ (by rw [bF,gA.out]; exact nS) (by rw [bF,gA.out,za,bF]; simp) (iZ _) ?_;rintro mu hn hu;replace h4:=h4.upd hu (Ne.symm bu);refine hK.out _ _ ?_ (λhld=>?_)
      .exact hu.below hld ge
      replace h3:=hn;clear hK K hn hu;try simp only [Act.put]
      refine aj 6 λK hK=>?_;refine Rg.meetStore (by rfl) h4 183 (ac H) ⟨_,_,rfl,rfl,rfl⟩ (by rw [bF,fe.out]; exact jP) (by rw [bF,fe.out,za,bF]; simp) (iZ _) ?_;rintro Cd hn hu;replace h3:=h3.upd hu bu;refine hK.out _ _ ?_ (λhld=>?_)
      .exact hu.below hld kj
      replace h4:=hn;clear hK K hn hu;try simp only [Act.put]
      refine aA ?_;go_wp2_with fail
      go_meet
      exact ⟨b3,b4,rfl,rfl,bu,ge,kj,hid h3.2,hid h4.2,hld⟩
     .refine Rg.meetAlloc (by rfl) (kS _ _ rfl _) ?_;rintro wv1 b4 lO h4 hbx;have kj:wr.heap.size<=b4:=by rw [lO]; exact Below.size hld
      have bu:b3≠b4:=by have:=h3.1; omega
      replace h3:=h3.below hbx;clear lO;refine hK.out _ _ (Below.trans hld (hbx.mono hld.size)) λhld=>?_;clear hK K hbx;try simp only [ak]
      refine aj 1 λK hK=>?_;go_simp;go_at_call 157
      (with_reducible refine (fd.out _).mono ?_)
      rintro e wv2 ⟨rfl,hbx⟩;replace h3:=h3.below hbx;replace h4:=h4.below hbx;refine hK.out _ _ (Below.trans hld (hbx.mono hld.size)) λhld=>?_;clear hK K;try simp only [ak]
      refine aj 5 λK hK=>?_;refine Rg.meetStore (by rfl) h3 214 (ac ws) ⟨_,_,rfl,rfl,rfl⟩ (by rw [bF,gA.out]; exact nS) (by rw [bF,gA.out,za,bF]; simp) (iZ _) ?_;rintro mu hn hu;replace h4:=h4.upd hu (Ne.symm bu);refine hK.out _ _ ?_ (λhld=>?_)
      .exact hu.below hld ge
      replace h3:=hn;clear hK K hn hu;try simp only [Act.put]
      refine aj 6 λK hK=>?_;refine Rg.meetStore (by rfl) h4 183 (ac H) ⟨_,_,rfl,rfl,rfl⟩ (by rw [bF,fe.out]; exact jP) (by rw [bF,fe.out,za,bF]; simp) (iZ _) ?_;rintro Cd hn hu;replace h3:=h3.upd hu bu;refine hK.out _ _ ?_ (λhld=>?_)
      .exact hu.below hld kj
      replace h4:=hn;clear hK K hn hu;try simp only [Act.put]
      refine aA ?_;go_wp2_with fail
      go_meet
      exact ⟨b3,b4,rfl,rfl,bu,ge,kj,hid h3.2,hid h4.2,hld⟩
    .refine Rg.meetAlloc (by rfl) (kS _ _ rfl _) ?_;rintro eq b4 lO h4 hbx;have kj:wr.heap.size<=b4:=by rw [lO]; exact Below.size hld
     clear lO;refine hK.out _ _ (Below.trans hld (hbx.mono hld.size)) λhld=>?_;clear hK K hbx;try simp only [ak]
     refine wpAnyH_ready (rs:=[1,3]) (by kernel_rfl) (by simp) ?_;refine Rg.readyC (i:=1) rfl (λK hK=>?_) (Rg.readyL (i:=3) rfl (λK hK=>?_))
     .go_simp;go_at_call 157
      (with_reducible refine (fd.out _).mono ?_)
      rintro e wv1 ⟨rfl,hbx⟩;replace h4:=h4.below hbx;refine hK.out _ _ (Below.trans hld (hbx.mono hld.size)) λhld=>?_;clear hK K;try simp only [ak]
      refine aj 3 λK hK=>?_;refine Rg.meetAlloc (by rfl) (jH _ _ rfl _) ?_;rintro wv2 b3 lL h3 hbx;have ge:wr.heap.size<=b3:=by rw [lL]; exact Below.size hld
      have bu:b3≠b4:=by have:=h4.1; omega
      replace h4:=h4.below hbx;clear lL;refine hK.out _ _ (Below.trans hld (hbx.mono hld.size)) λhld=>?_;clear hK K hbx;try simp only [ak]
      refine aj 5 λK hK=>?_;refine Rg.meetStore (by rfl) h3 214 (ac ws) ⟨_,_,rfl,rfl,rfl⟩ (by rw [bF,gA.out]; exact nS) (by rw [bF,gA.out,za,bF]; simp) (iZ _) ?_;rintro mu hn hu;replace h4:=h4.upd hu (Ne.symm bu);refine hK.out _ _ ?_ (λhld=>?_)
      .exact hu.below hld ge
      replace h3:=hn;clear hK K hn hu;try simp only [Act.put]
      refine aj 6 λK hK=>?_;refine Rg.meetStore (by rfl) h4 183 (ac H) ⟨_,_,rfl,rfl,rfl⟩ (by rw [bF,fe.out]; exact jP) (by rw [bF,fe.out,za,bF]; simp) (iZ _) ?_;rintro Cd hn hu;replace h3:=h3.upd hu bu;refine hK.out _ _ ?_ (λhld=>?_)
      .exact hu.below hld kj
      replace h4:=hn;clear hK K hn hu;try simp only [Act.put]
      refine aA ?_;go_wp2_with fail
      go_meet
      exact ⟨b3,b4,rfl,rfl,bu,ge,kj,hid h3.2,hid h4.2,hld⟩
     .refine Rg.meetAlloc (by rfl) (jH _ _ rfl _) ?_;rintro wv1 b3 lL h3 hbx;have ge:wr.heap.size<=b3:=by rw [lL]; exact Below.size hld
      have bu:b3≠b4:=by have:=h4.1; omega
      replace h4:=h4.below hbx;clear lL;refine hK.out _ _ (Below.trans hld (hbx.mono hld.size)) λhld=>?_;clear hK K hbx;try simp only [ak]
      refine aj 1 λK hK=>?_;go_simp;go_at_call 157
      (with_reducible refine (fd.out _).mono ?_)
      rintro e wv2 ⟨rfl,hbx⟩;replace h4:=h4.below hbx;replace h3:=h3.below hbx;refine hK.out _ _ (Below.trans hld (hbx.mono hld.size)) λhld=>?_;clear hK K;try simp only [ak]
      refine aj 5 λK hK=>?_;refine Rg.meetStore (by rfl) h3 214 (ac ws) ⟨_,_,rfl,rfl,rfl⟩ (by rw [bF,gA.out]; exact nS) (by rw [bF,gA.out,za,bF]; simp) (iZ _) ?_;rintro mu hn hu;replace h4:=h4.upd hu (Ne.symm bu);refine hK.out _ _ ?_ (λhld=>?_)
      .exact hu.below hld ge
      replace h3:=hn;clear hK K hn hu;try simp only [Act.put]
      refine aj 6 λK hK=>?_;refine Rg.meetStore (by rfl) h4 183 (ac H) ⟨_,_,rfl,rfl,rfl⟩ (by rw [bF,fe.out]; exact jP) (by rw [bF,fe.out,za,bF]; simp) (iZ _) ?_;rintro Cd hn hu;replace h3:=h3.upd hu bu;refine hK.out _ _ ?_ (λhld=>?_)
      .exact hu.below hld kj
      replace h4:=hn;clear hK K hn hu;try simp only [Act.put]
      refine aA ?_;go_wp2_with fail
      go_meet
      exact ⟨b3,b4,rfl,rfl,bu,ge,kj,hid h3.2,hid h4.2,hld⟩
   case rest =>
    obtain ⟨b,c,rfl,rfl,hbc,hgb,hgc,sd,np,ut⟩:=hcut;obtain ⟨wo,rfl⟩:∃ wo:World,wo=wr:=⟨_,rfl⟩
    clear fd;have hlb:b<wc.heap.size:=by have:=sd.out; rcases Nat.lt_or_ge b wc.heap.size with h' | h'; exact h'; rw [Array.getElem?_eq_none h'] at this; cases this
    have hlc:c<wc.heap.size:=by have:=np.out; rcases Nat.lt_or_ge c wc.heap.size with h' | h'; exact h'; rw [Array.getElem?_eq_none h'] at this; cases this
    have HB:=hid hB;have kf:=hid ut;have dd:=sec hsz;clear hB ut hsz;go_wp2_with fail
    go_loopw [19] (λi wx=>∃ j:Nat,j<=64/\i = .int .i64 j/\Hid (Rg.Own wx b (ac ws) 214)/\Hid (Rg.Own wx c (ac (sK ws H j)) 183)/\Hid (Below wo.heap.size wo wx)) (λi _=>64-(intOf i).toNat)
    case atStart=>exact ⟨0,by omega,rfl,hid ⟨hlb,sd.out⟩,hid ⟨hlc,np.out⟩,kf⟩
    case round =>
     clear sd np kf hlb hlc;obtain ⟨j,hj,rfl,sd,np,kf⟩:=hrel;by_cases hlt2:j<64
     .have hkj:=(kf.out.cell (p:=⟨0,j,none⟩) (by show 0<wo.heap.size; omega)).trans ((HB.out.cell (p:=⟨0,j,none⟩) h0).trans (HK.out j hlt2));have QP:wr.cell? ⟨b,j,none⟩=some (.int .u32 (ws.getD j 0:Nat)):=(cell_of_row wr b j _ _ _ sd.out.2).trans (Ki ws j (by rw [gA.out]; exact hlt2));have Kb:=hid hkj;have Kd:=hid QP;have h0r:0<wr.heap.size:=by have:=kf.out.size; omega
      have hbr:=sd.out.1;have vq:=hid (zn ws H fe.out j);have QQ:=hid (xM ws H E3.out j);have q9:=sec (show tO (kN j) (ws.getD j 0) (sK ws H j)=sK ws H (j+1) from rfl);obtain ⟨L,hL⟩:=av (sK ws H j)
      obtain ⟨kk,hkk⟩:=av (kN j)
      obtain ⟨wk,hwk⟩:=av (ws.getD j 0)
      rw [hL] at np vq QQ q9;rw [hkk] at Kb q9;rw [hwk] at Kd q9;clear hL hkk hwk hkj QP;have QR:=hid (Mj kk wk);have l0:(0:Int)<=(j:Int):=by omega
      have l1:(j:Int)<64:=by omega
      go_wp2_with fail
      refine aB (S:=λw'=>Below wr.heap.size wr w') (aG.drew) λhld=>?_;refine ah 0 ?_;try simp only [ak]
      refine ah 1 ?_;try simp only [ak]
      refine ah 2 ?_ (hy:=by intro wz hSw; (have hc:=(hSw.cell (p:=⟨0,j,none⟩) h0r).trans Kb.out); go_simp <;> with_reducible rfl);try simp only [ak]
      refine ah 3 ?_;try simp only [ak]
      refine ah 4 ?_;try simp only [ak]
      refine ah 5 ?_ (hy:=by intro wz hSw; (have hc:=(hSw.cell (p:=⟨b,j,none⟩) hbr).trans Kd.out); go_simp <;> with_reducible rfl);try simp only [ak]
      refine aj 6 λK hK=>?_;go_simp;go_at_call 158
      (with_reducible refine (QR.out _).mono ?_)
      rintro e eq ⟨q1,q2,rfl,ho1,ho2,hq12,hg1,hg2,hbx⟩;refine hK.out _ _ (Below.trans hld (hbx.mono hld.size)) λhld=>?_;clear hK K;try simp only [ak]
      refine ah 7 ?_;try simp only [ak]
      refine aA ?_;clear l0 l1 QR Kb Kd;go_wp2_with fail
      refine (Wx c q1 q2 kk wk L vq.out QQ.out _ (by rw [hbx.block _ np.out.1]; exact np.out.2) ho1 ho2).mono ?_;rintro e w4 ⟨rfl,hc4,hg4⟩;have tU:=hid hc4;clear hc4;go_wp2_with fail
      go_roundw
      case rel =>
       have hbl:=sd.out.below hld;refine ⟨j+1,by omega,by go_num,hid ⟨aH hbl.1 hg4.size,(hg4.block _ hbl.1 (by simpa using hbc)).trans hbl.2⟩,hid ⟨aH (np.out.below hld).1 hg4.size,by rw [<-q9.out]; exact tU.out⟩,hid ((kf.out.trans (hld.mono kf.out.size)).grown hg4 (kf.out.trans (hld.mono kf.out.size)).size (λg hg=>by cases hg; exact hgc))⟩
      case measure=>simp [intOf]; omega
     .have Cf:j=64:=by omega
      rw [Cf] at np;clear Cf;have Kf:=hid (zn ws H fe.out 64);have R0:=hid (xM ws H E3.out 64);obtain ⟨V,hV⟩:=av (sK ws H 64)
      rw [hV] at np Kf R0 dl;clear hV;have rd:Hid (Rg.Own wr w.heap.size (ac (vO H V 0)) 183):=hid ⟨by have:=kf.out.size; omega,by rw [kf.out.block _ hBx.1,Pf _ _ fe.out]; exact HH.out⟩;have bz:Hid (Rg.Own wr (w.heap.size+1) (za 8) 183):=hid ((cn.below (kf.out.mono aF)));have uu:=hid (λj hj wz=>xP V j hj Kf.out wz);obtain ⟨AV,Kx⟩:=av (ac V)
      have hAs:AV.size=8:=by rw [<-Kx,bF,Kf.out]
      rw [Kx] at np uu;have KK:=hid hAs;clear Kx hAs sd;go_wp2_with (first | (refine wpList_load_row rfl _ _ rfl c rfl 183 AV (0,0) _ np.out.2 underlying183 rfl (by rw [KK.out]; exact jP) ?_))
      obtain ⟨wp,rfl⟩:∃ wp:World,wp=wr:=⟨_,rfl⟩
      clear hlt2;go_loopw [33] (λi wx=>∃ q:Nat,q<=8/\i = .int .i64 q/\Hid (Rg.Own wx w.heap.size (ac (vO H V q)) 183)/\Hid (Rg.Upd wp w.heap.size wx)) (λi _=>8-(intOf i).toNat)
      case atStart=>exact ⟨0,by omega,rfl,rd,hid ⟨rfl,rfl,rfl,rfl,λ_ _=>rfl⟩⟩
      case round =>
       clear rd;obtain ⟨q,hq,rfl,rd,se⟩:=hrel;by_cases hlt3:q<8
       .have hix:=uu.out q hlt3;have hcl:=(cell_of_row wr w.heap.size q _ _ _ rd.out.2).trans (Ki (vO H V q) q (by rw [pV]; exact hlt3));have hfz:=frozen_of_row wr w.heap.size q _ _ rd.out.2;rw [PX H V q hlt3] at hcl;have HN:=sec (SY H V q hlt3);have bx:=getD_lt E3.out q;have bv:=getD_lt R0.out q;obtain ⟨x,hx⟩:=av (H.getD q 0)
        obtain ⟨y,hy⟩:=av (V.getD q 0)
        rw [hx] at hcl bx HN;rw [hy] at hix bv HN;clear hx hy;have hv:((x:Int)+y)%4294967296=((x+y)%4294967296:Nat):=by omega
        have Xs:=sec hv;clear hv;go_wp2;go_roundw
        case rel =>
         refine ⟨q+1,by omega,by go_num,?_,?_⟩
         .rw [Xs.out];exact hid ⟨by simpa using rd.out.1,by rw [heap_setCell_same _ _ _ _ _ _ rd.out.2,Yw,HN.out]⟩
         .exact hid ⟨se.out.os,se.out.tape,se.out.output,by simpa using se.out.size,λk hk=>(heap_setCell_other _ _ _ _ hk).trans (se.out.block k hk)⟩
        case measure=>simp [intOf]; omega
       .obtain rfl:q=8:=by omega
        have HF:Hid (Rg.Own wr w.heap.size (ac (nA s.data.toList h (k+1))) 183):=hid (by rw [<-dl.out,<-Tq]; exact rd.out);have cS:Hid (Rg.Own wr (w.heap.size+1) (za 8) 183):=hid (bz.out.upd se.out (by omega));have cq:Hid (Below w.heap.size w wr):=hid (se.out.below (HB.out.trans (kf.out.mono HB.out.size)) aF);have HE:Hid (z.extract 64 (s.size-64*k)=s.extract (64*(k+1)) s.size):=hid (by rw [<-dd.out,<-HZ.out]; exact Ux s k);have hz3:z.size=s.size-64*k:=dd.out
        have XN:Hid ((s.extract (64*(k+1)) s.size).size=s.size-64*(k+1)):=hid (by simp);have hzs:64<=(z.size:Int):=by omega
        clear rd se bz uu hlt3 hq;go_wp2;go_roundw
        case rel=>exact ⟨k+1,by omega,by rw [<-HE.out],hid HF.out.2,cS.out,cq.out⟩
        case measure =>
         show (z.extract 64 (s.size-64*k)).size<z.size;rw [HE.out,XN.out];omega
  .obtain rfl:k=s.size/64:=by omega
   have fe:=hid (HL.out (s.size/64));obtain ⟨H,hH⟩:=av (nA s.data.toList h (s.size/64))
   have XS:=sec hH;rw [hH] at HH fe;have cn:=hid cn;clear hH xh cX;have hsz2:((s.extract (64*(s.size/64)) s.size).size:Int)<64:=by omega
   obtain ⟨z,hz⟩:=av (s.extract (64*(s.size/64)) s.size)
   rw [hz] at hsz2 ⊢;clear hz hsz hlt hk;go_wp2_with (first | (refine wpList_load_row rfl _ _ rfl w.heap.size rfl 183 (ac H) (0,0) _ HH.out underlying183 rfl (by rw [bF,fe.out]; exact jP) ?_) | (refine wpList_store_rowTo rfl 183 _ _ rfl rfl _ (ac H) rfl rfl 183 (za 8) cn.out.2 (by rw [bF,fe.out]; exact jP) (by rw [bF,fe.out,za,bF]; simp) (iZ _) ?_))
   exact bodyPost_ret (results_cell_row rfl _ _ (w.heap.size+1) 183 (ac H) (0,0) _ rfl (setRow_heap _ _ _ _ _ _ cn.out.2) underlying183 rfl (by rw [bF,fe.out]; exact jP)) rfl ⟨by rw [XS.out],fP hB (by omega) _⟩
def kc (k:aL):aM:=(k.map λb=>Value.int .u8 b.toNat).toArray
theorem jX (k:aL):(kc k).size=k.length:=by simp [kc]
theorem Ga (k:aL):(kc k).all (·.oneCell')=true:=by
 rw [Array.all_eq_true];intro i hi;simp [kc];rfl
theorem Ud:(prog.info? 152).map (·.size)=some 32:=by kernel_rfl
theorem rO (k:aL) (h:k.length=32):(prog.info? 152).map (·.size)=some (kc k).size:=by rw [jX,h]; exact Ud
def zk:aL:=List.replicate 32 0
theorem uY (ev:Operand->Value) (o:Oper) (ho:o.op = .alloc 152) (w:World) (n:Nat) (hn:w.heap.size=n) :
  (execOp ev o).run prog w = .ok (.value (.pointer (some ⟨n,0,none⟩))) (w.alloc (.cells (kc zk) 152)):=by
 subst hn;unfold execOp;rw [ho];kernel_rfl
theorem Ym (l:aL) {f:Nat->Value} (h:w.rowIs g t 32 f) (hl:l.length=32) (hf:∀ j,j<32->f j = .int .u8 (l.getD j 0).toNat):w.heap[g]? = some (.cells (kc l) t (0,0)):=by
 obtain ⟨c,hg,hs,hc⟩:=h;have:c=kc l:=by
  apply Array.ext
  .rw [hs,jX,hl]
  .intro i hi h2;have h1:=hc i (by omega);rw [hf i (by omega),Array.getElem?_eq_getElem hi] at h1;have h3:=Option.some.inj h1;rw [h3];have h4:i<l.length:=by omega
   simp [kc,List.getD,h4]
 rw [hg,this]
theorem Yb (h:w.heap[g]? = some (.cells (kc zk) t (0,0))):w.rowIs g t 32 (λ_=>.int .u8 0) :=
 ⟨_,h,rfl,λi hi=>by
  show ((zk.map λb=>Value.int .u8 b.toNat).toArray)[i]? = _;have hz:zk[i]? = some 0:=by
   unfold zk;rw [List.getElem?_replicate,if_pos hi]
  rw [List.getElem?_toArray,List.getElem?_map,hz];rfl⟩
theorem start_lt:∀ x∈Sh.start,x<4294967296:=by decide
theorem Vs (s:aK) (m:Nat) (hm:m=s.size-s.size%64) :
  nA ((s.extract m s.size).data.toList++qD s.size) (nA (s.extract 0 m).data.toList Sh.start ((s.extract 0 m).size/64)) (((s.extract m s.size).data.toList++qD s.size).length/64)=oH (iR s.data.toList) ((iR s.data.toList).length/64):=by
 have e1:(s.extract 0 m).data.toList=s.data.toList.take m:=by simp
 have e2:(s.extract m s.size).data.toList=s.data.toList.drop m:=by
  simp only [ByteArray.data_extract,Array.toList_extract,List.extract_eq_take_drop];rw [List.take_of_length_le (by simp)]
 have hl:s.data.toList.length=s.size:=by simp
 have e3:(s.extract 0 m).size=m:=by simp; omega
 have e4:iR s.data.toList=s.data.toList.take m++(s.data.toList.drop m++qD s.size):=by
  rw [Qk,hl,<-List.append_assoc,List.take_append_drop]
 have hmd:=EK s.data.toList;rw [e1,e2,e3,<-CU,e4];rw [e4] at hmd;have hlen:(s.data.toList.take m++(s.data.toList.drop m++qD s.size)).length=m+(s.data.toList.drop m++qD s.size).length:=by
  rw [List.length_append,List.length_take,hl];congr 1;omega
 rw [hlen] at hmd ⊢;rw [show (m+(s.data.toList.drop m++qD s.size).length)/64=m/64+(s.data.toList.drop m++qD s.size).length/64 by omega];exact (Ec _ _ (m/64) (by rw [List.length_take,hl]; omega) _ _).symm
theorem Fu (s:aK) (hs:s.size<=900000) (w:World) (hK:∀ i,i<64->w.cell? ⟨0,i,none⟩=some (.int .u32 (kN i:Nat))) :
  Calls prog 93 #[.string s] w λe w'=>e = .returned (.agg (kc (FR s.data.toList)))/\Below w.heap.size w w':=by
 have h0:0<w.heap.size:=World.block_lt_of_cell? w _ (hK 0 (by omega));have HK:=hid hK;have af:=hid (FQ s.size (by omega));obtain ⟨m,hm⟩:=av (s.size-s.size%64)
 have XX:(s.size:Int)-s.size%64=m:=by omega
 have hml:m<=s.size:=by omega
 have hF:=Vs s m hm.symm;have sf:=hid (zh (s.extract 0 m).data.toList Sh.start rfl ((s.extract 0 m).size/64));have hT1:=MQ (s.extract 0 m).data.toList Sh.start start_lt ((s.extract 0 m).size/64);have bd:=hid (λW hk=>Nw Sh.start rfl start_lt (s.extract 0 m) (by simp; omega) W hk);obtain ⟨M1,hM1⟩:=av (nA (s.extract 0 m).data.toList Sh.start ((s.extract 0 m).size/64))
 rw [hM1] at sf hT1 hF bd;obtain ⟨s2,hs2⟩:=av (s.extract m s.size++⟨(qD s.size).toArray⟩)
 have hd2:s2.data.toList=(s.extract m s.size).data.toList++qD s.size:=by rw [<-hs2,ByteArray.data_append]; simp
 have hz2:s2.size=((s.extract m s.size).data.toList++qD s.size).length:=by rw [<-hd2]; simp
 have hz:ig s.size<64:=Nat.mod_lt _ (by omega);have cv:=hid (λW hk=>Nw M1 sf.out hT1 s2 (by rw [hz2,List.length_append,rY]; simp; omega) W hk);rw [<-hd2,show s2.data.toList.length=s2.size by simp] at hF;rw [hF] at cv;have uv:=hid (wO (iR s.data.toList) ((iR s.data.toList).length/64));have HT2:=hid (Gs (iR s.data.toList) ((iR s.data.toList).length/64));have HS:=sec (show vR (oH (iR s.data.toList) ((iR s.data.toList).length/64)) 32=FR s.data.toList from rfl);obtain ⟨M2,hM2⟩:=av (oH (iR s.data.toList) ((iR s.data.toList).length/64))
 rw [hM2] at cv uv HT2 HS;have HS2:=hid hs2;clear hT1 hF hd2 hz2 hz hM2 hs2;clear hK hm hM1;go_enter func93,ntmps93;go_upto_region 3 with (first | (refine iw rfl _ _ (uY _ _ rfl _ w.heap.size rfl) ?_) | (refine iw rfl _ _ (wU _ _ rfl _ (w.heap.size+1) (by simp)) ?_) | (refine wpList_store_rowTo rfl 183 _ _ rfl rfl (w.heap.size+1) (ac Sh.start) rfl rfl 183 (za 8) (by have:=heap_alloc_new (w.alloc (.cells (kc zk) 152)) (.cells (za 8) 183); simpa using this) jP rfl (iZ _) ?_))
 have h2:Rg.Own (((w.alloc (.cells (kc zk) 152)).alloc (.cells (za 8) 183)).setRow (w.heap.size+1) (ac Sh.start)) w.heap.size (kc zk) 152 :=
  ((Rg.Own.new w _ _).below (aG.alloc aF _)).upd (Rg.Upd.set _ _ _) (by omega)
 have h3:Rg.Own (((w.alloc (.cells (kc zk) 152)).alloc (.cells (za 8) 183)).setRow (w.heap.size+1) (ac Sh.start)) (w.heap.size+1) (ac Sh.start) 183 :=
  ⟨by simp,setRow_heap _ _ _ _ _ _ (by have:=heap_alloc_new (w.alloc (.cells (kc zk) 152)) (.cells (za 8) 183); simpa using this)⟩
 have hB0:Below w.heap.size w (((w.alloc (.cells (kc zk) 152)).alloc (.cells (za 8) 183)).setRow (w.heap.size+1) (ac Sh.start)) :=
  fP ((aG.alloc aF _).alloc (by simp) _) (by omega) _
 generalize (((w.alloc (.cells (kc zk) 152)).alloc (.cells (za 8) 183)).setRow (w.heap.size+1) (ac Sh.start))=W0 at h2 h3 hB0 ⊢;have ge2:w.heap.size<=w.heap.size:=aF;have ge:w.heap.size<=w.heap.size+1:=by omega
 have pp:w.heap.size≠w.heap.size+1:=by omega
 refine aB (S:=λw'=>Below w.heap.size w w') (hB0.drew) λhld=>?_;replace h2:=h2.drew;replace h3:=h3.drew;refine ah 1 ?_;try simp only [ak]
 refine ah 2 ?_;try simp only [ak]
 refine ah 3 ?_;try simp only [ak]
 refine aj 0 λK hK=>?_;refine Rg.meet (by rfl) _ _ (mO _ _ (w.heap.size+1) _ Sh.start ?_ h3.2 rfl) ?_
 .exact ⟨_,rfl,rfl⟩
 refine hK.out _ _ (hld) λhld=>?_;clear hK K;try simp only [ak]
 refine aj 4 λK hK=>?_;go_simp;go_at_call 125
 (with_reducible refine (bd.out _ (λi hi=>(hld.cell (p:=⟨0,i,none⟩) h0).trans (HK.out i hi))).mono ?_)
 rintro e eq ⟨rfl,hbx⟩;replace h2:=h2.below hbx;replace h3:=h3.below hbx;refine hK.out _ _ (Below.trans hld (hbx.mono hld.size)) λhld=>?_;clear hK K;try simp only [ak]
 refine aj 5 λK hK=>?_;refine Rg.meetStore (by rfl) h3 183 (ac M1) ⟨_,_,rfl,rfl,rfl⟩ (by rw [bF,sf.out]; exact jP) (by rw [bF,bF,sf.out]; exact rfl) (iZ _) ?_;rintro wv1 hn hu;replace h2:=h2.upd hu pp;refine hK.out _ _ ?_ (λhld=>?_)
 .exact hu.below hld ge
 replace h3:=hn;clear hK K hn hu;try simp only [Act.put]
 refine aA ?_;go_wp2_with fail
 have hB1:=hld;clear hld;go_cut [3] (λp wx=>p = .pointer (some ⟨w.heap.size+1,0,none⟩)/\Hid (Rg.Own wx w.heap.size (kc zk) 152)/\Hid (Rg.Own wx (w.heap.size+1) (ac M2) 183)/\Hid (Below w.heap.size w wx))
 case first =>
  have hs2:=HS2.out;have D9:Hid (¬ 9223372036854775807<s.size-m+(qD s.size).length):=hid (by have hz:ig s.size<64:=Nat.mod_lt _ (by omega); rw [rY]; omega);refine aB (S:=λw'=>Below w.heap.size w w') (hB1.drew) λhld=>?_;replace h2:=h2.drew;replace h3:=h3.drew;refine ah 1 ?_;try simp only [ak]
  refine ah 2 ?_;try simp only [ak]
  refine ah 3 ?_;try simp only [ak]
  refine ah 4 ?_;try simp only [ak]
  refine ah 5 ?_;try simp only [ak]
  refine wpAnyH_ready (rs:=[0,6]) (by kernel_rfl) (by simp) ?_;refine Rg.readyC (i:=0) rfl (λK hK=>?_) (Rg.readyL (i:=6) rfl (λK hK=>?_))
  .refine Rg.meet (by rfl) _ _ (mO _ _ (w.heap.size+1) _ M1 ?_ h3.2 sf.out) ?_
   .exact ⟨_,rfl,rfl⟩
   refine hK.out _ _ (hld) λhld=>?_;clear hK K;try simp only [ak]
   refine aj 6 λK hK=>?_;go_simp;go_at_call 126
   (with_reducible refine (af.out _).mono ?_)
   rintro e eq ⟨rfl,hbx⟩;replace h2:=h2.below hbx;replace h3:=h3.below hbx;refine hK.out _ _ (Below.trans hld (hbx.mono hld.size)) λhld=>?_;clear hK K;try simp only [ak]
   refine ah 7 ?_ (hy:=by intro wz hSw; (have hcc:=D9.out); go_simp <;> with_reducible rfl);try simp only [ak]
   refine aj 8 λK hK=>?_;go_simp;go_at_call 125
   (with_reducible refine (cv.out _ (λi hi=>(hld.cell (p:=⟨0,i,none⟩) h0).trans (HK.out i hi))).mono ?_)
   rintro e wv1 ⟨rfl,hbx⟩;replace h2:=h2.below hbx;replace h3:=h3.below hbx;refine hK.out _ _ (Below.trans hld (hbx.mono hld.size)) λhld=>?_;clear hK K;try simp only [ak]
   refine aj 9 λK hK=>?_;refine Rg.meetStore (by rfl) h3 183 (ac M2) ⟨_,_,rfl,rfl,rfl⟩ (by rw [bF,uv.out]; exact jP) (by rw [bF,bF,uv.out]; exact sf.out) (iZ _) ?_;rintro wv2 hn hu;replace h2:=h2.upd hu pp;refine hK.out _ _ ?_ (λhld=>?_)
   .exact hu.below hld ge
   replace h3:=hn;clear hK K hn hu;try simp only [Act.put]
   refine aA ?_;go_wp2_with fail
   go_meet
   exact ⟨rfl,hid h2,hid h3,hid hld⟩
  .go_simp;go_at_call 126
   (with_reducible refine (af.out _).mono ?_)
   rintro e eq ⟨rfl,hbx⟩;replace h2:=h2.below hbx;replace h3:=h3.below hbx;refine hK.out _ _ (Below.trans hld (hbx.mono hld.size)) λhld=>?_;clear hK K;try simp only [ak]
   refine ah 7 ?_ (hy:=by intro wz hSw; (have hcc:=D9.out); go_simp <;> with_reducible rfl);try simp only [ak]
   refine aj 0 λK hK=>?_;refine Rg.meet (by rfl) _ _ (mO _ _ (w.heap.size+1) _ M1 ?_ h3.2 sf.out) ?_
   .exact ⟨_,rfl,rfl⟩
   refine hK.out _ _ (hld) λhld=>?_;clear hK K;try simp only [ak]
   refine aj 8 λK hK=>?_;go_simp;go_at_call 125
   (with_reducible refine (cv.out _ (λi hi=>(hld.cell (p:=⟨0,i,none⟩) h0).trans (HK.out i hi))).mono ?_)
   rintro e wv1 ⟨rfl,hbx⟩;replace h2:=h2.below hbx;replace h3:=h3.below hbx;refine hK.out _ _ (Below.trans hld (hbx.mono hld.size)) λhld=>?_;clear hK K;try simp only [ak]
   refine aj 9 λK hK=>?_;refine Rg.meetStore (by rfl) h3 183 (ac M2) ⟨_,_,rfl,rfl,rfl⟩ (by rw [bF,uv.out]; exact jP) (by rw [bF,bF,uv.out]; exact sf.out) (iZ _) ?_;rintro wv2 hn hu;replace h2:=h2.upd hu pp;refine hK.out _ _ ?_ (λhld=>?_)
   .exact hu.below hld ge
   replace h3:=hn;clear hK K hn hu;try simp only [Act.put]
   refine aA ?_;go_wp2_with fail
   go_meet
   exact ⟨rfl,hid h2,hid h3,hid hld⟩
 case rest =>
  obtain ⟨rfl,H2,H3,HB⟩:=hcut;obtain ⟨W,rfl⟩:∃ W:World,W=wc:=⟨_,rfl⟩
  have h3:=H3.out;have R1:Hid ((W.alloc (.cells (kc zk) 152)).heap[w.heap.size+1]? = some (.cells (ac M2) 183 (0,0))):=hid ((Lib.alloc_old _ _ _ h3.1).trans h3.2);have gh:Hid ((W.alloc (.cells (kc zk) 152)).rowIs W.heap.size 152 32 (λj=>.int .u8 (if j<4*0 then uX M2 j else 0:Nat))):=hid ((Yb (heap_alloc_new _ _)).congr (λj _=>by rw [if_neg (by omega)]; rfl));have uu:=hid (λj hj wz=>xP M2 j hj uv.out wz);have C1:=hid (λj=>getD_lt HT2.out j);obtain ⟨A,hA⟩:=av (ac M2)
  have KK:Hid (A.size=8):=hid (by rw [<-hA,bF,uv.out]);rw [hA] at R1 uu;clear h3 hA af bd cv XX h2 hB1 hld hbx;go_wp2_with (first | (refine iw rfl _ _ (uY _ _ rfl _ _ rfl) ?_) | (refine wpList_load_row rfl _ _ rfl (w.heap.size+1) rfl 183 A (0,0) _ R1.out underlying183 rfl (by rw [KK.out]; exact jP) ?_))
  go_loopw [30] (λi wx=>∃ q:Nat,q<=8/\i = .int .i64 q/\Hid (wx.rowIs W.heap.size 152 32 (λj=>.int .u8 (if j<4*q then uX M2 j else 0:Nat)))/\Hid (Below W.heap.size W wx)) (λi _=>8-(intOf i).toNat)
  case atStart=>exact ⟨0,by omega,rfl,gh,hid (aG.alloc aF _)⟩
  case round =>
   clear gh;obtain ⟨q,hq,rfl,HR,ke⟩:=hrel;by_cases hlt:q<8
   .have hix:=uu.out q hlt;have hxl:=C1.out q;have ef:=Ad W.heap.size (4*q) 4 (32-4*q) (M2.getD q 0) 32 152 _ wr HR.out (by omega) (by omega);have D8:Hid ((qb wr W.heap.size (4*q) 4 (M2.getD q 0) 4).rowIs W.heap.size 152 32 (λj=>.int .u8 (if j<4*(q+1) then uX M2 j else 0:Nat))):=hid ((uG HR.out 4).congr (λj _=>by
     by_cases h1:4*q<=j/\j<4*q+4
     .rw [if_pos h1,if_pos (by omega)];unfold upB uX;rw [show j/4=q by omega,show 4-1-(j-4*q)=3-j%4 by omega]
     .rw [if_neg h1];by_cases h2:j<4*q
      .rw [if_pos h2,if_pos (by omega)]
      .rw [if_neg h2,if_neg (by omega)]))
    have R2:Hid (Below W.heap.size W (qb wr W.heap.size (4*q) 4 (M2.getD q 0) 4)):=hid (sP ke.out aF 4);obtain ⟨x,hx⟩:=av (M2.getD q 0)
    rw [hx] at hix hxl ef D8 R2;have ef:=hid ef;clear hx;have l0:(0:Int)<=4*(q:Int):=by omega
    have l1:4*(q:Int)<=4*(q:Int)+4:=by omega
    have l2:4*(q:Int)+4<=32:=by omega
    have l3:(4*(q:Int)).toNat=4*q:=by omega
    have l4:(4*(q:Int)+4).toNat=4*q+4:=by omega
    have l5:¬ 32=4*q:=by omega
    go_wp2_with fail
    refine ef.out.mono ?_;rintro e w3 ⟨rfl,rfl⟩;clear l0 l1 l2 l3 l4 l5 ef hix;go_wp2;go_roundw
    case rel=>exact ⟨q+1,by omega,by go_num,D8,R2⟩
    case measure=>simp [intOf]; omega
   .obtain rfl:q=8:=by omega
    have HF:Hid (wr.heap[W.heap.size]? = some (.cells (kc (FR s.data.toList)) 152 (0,0))):=hid (Ym _ HR.out (sQ _) (λj hj=>by
     rw [if_pos (by omega),<-HS.out];simp [vR,List.getD,hj];unfold uX;omega))
    have R3:Hid (Rg.Own wr w.heap.size (kc zk) 152):=hid (H2.out.below ke.out);have HB2:Hid (Below w.heap.size w wr):=hid (HB.out.trans (ke.out.mono HB.out.size));have hkl:=sQ s.data.toList;obtain ⟨K,hK⟩:=av (FR s.data.toList)
    have HKK:=sec hK;rw [hK] at hkl HF;have E6:=hid hkl;clear hK hkl HR uu C1;go_wp2_with (first | (refine wpList_load_row rfl _ _ rfl W.heap.size rfl 152 (kc K) (0,0) _ HF.out underlying152 rfl (rO K E6.out) ?_) | (refine wpList_store_rowTo rfl 152 _ _ rfl rfl _ (kc K) rfl rfl 152 (kc zk) R3.out.2 (rO K E6.out) (by rw [jX,jX,E6.out]; rfl) (Ga _) ?_))
    exact bodyPost_ret (results_cell_row rfl _ _ w.heap.size 152 (kc K) (0,0) _ rfl (setRow_heap _ _ _ _ _ _ R3.out.2) underlying152 rfl (rO K E6.out)) rfl ⟨by rw [HKK.out],fP HB2.out (by omega) _⟩
end Sm
end
section
namespace lP
end lP
end
section
open Go.RowKit lP
end
section
open Go.RowKit lP
end
section
open Go.RowKit lP
namespace Tx
end Tx
namespace Rx
theorem UW (a b:Int) (w:World) :
  Calls prog 17 #[.int .i64 a,.int .i64 b] w λe w'=>e = .returned (.int .i64 (if b<a then a else b))/\w=w':=by
 by_cases h:b<a
 .rw [if_pos h];go_enter func17,ntmps17;go_wp2;go_ret;exact ⟨rfl,rfl⟩
 .rw [if_neg h];go_enter func17,ntmps17;go_wp2;go_ret;exact ⟨rfl,rfl⟩
end Rx
end
section
open Go.RowKit
namespace Ni
end Ni
end
section
open Go.RowKit
namespace Sm
open Sh
def Tab (w:World):Prop:=∀ i,i<64->w.cell? ⟨0,i,none⟩=some (.int .u32 (kN i:Nat))
theorem Tab.pos (h:Tab w):0<w.heap.size:=World.block_lt_of_cell? w _ (h 0 (by omega))
theorem Tab.below {w':World} (h:Tab w) (hb:Below B w w') (hB:0<B):Tab w':=λi hi=>(hb.cell (p:=⟨0,i,none⟩) hB).trans (h i hi)
theorem WX (w:World) (k:aL) (hk:k.length=32):bA (w.alloc (.cells (kc k) 152)) (some ⟨w.heap.size,0,none⟩) 32 32 k:=by
 have h:=bA.new w k (by unfold maxLen; omega) (kc k) 152 rfl;rw [hk] at h;exact h
theorem lJ (k:aL) (hk:k.length=32) (w:World) :
  Calls prog 92 #[.agg (kc k)] w λe w'=>e = .returned (.string ⟨k.toArray⟩)/\Below w.heap.size w w':=by
 have hcv:=kZ (WX w k hk);obtain ⟨C,hC⟩:=av (kc k)
 obtain ⟨T,hT⟩:=av (⟨k.toArray⟩:aK)
 rw [hC,hT] at hcv;rw [hC,hT];clear hC hT hk;go_enter func92,ntmps92;go_wp2;go_ret;exact ⟨rfl,aG.alloc aF _⟩
end Sm
end
end Go.Proofs.YtlcplcgigjagpaaGreatDoor
