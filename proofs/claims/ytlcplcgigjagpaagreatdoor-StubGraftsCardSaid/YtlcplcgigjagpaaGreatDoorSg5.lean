/-
 Contracts of sum.right, sum.lay, sum.end.
-/
import Derived.Test.YtlcplcgigjagpaaGreatDoorSg4
import Derived.Deep.DeepCutAuto
import Derived.Lib.BufferWrite
import Derived.Lib.SlBuf
open Go.Lib (hid)
open Go.Proofs.Tryz
set_option linter.unusedSimpArgs false
set_option linter.unusedVariables false
set_option maxHeartbeats 40000000
set_option maxRecDepth 100000
namespace Go.Proofs.YtlcplcgigjagpaaGreatDoor
variable {w w1:World} {B g j:Nat} {t:TypeId}
section
open Go.RowKit
namespace Sm
open Sh
theorem Xu {a b:Int} (h:a=b):Ending.returned (.int .u32 a) = .returned (.int .u32 b):=by rw [h]
theorem VH (n:Nat) (h1:1<=n) (h2:n<=31):bits .and .u64 (IntKind.u64.wrap (-(n:Int))) 31=32-(n:Int):=by
 have e:IntKind.u64.wrap (-(n:Int))=((18446744073709551616-n:Nat):Int):=by rw [IntKind.wrap_u64]; omega
 rw [e,show (31:Int)=((31:Nat):Int) from rfl,u64_and_nat _ _ (by omega) (by omega),nat_mask5];omega
theorem Yj (x n:Nat) (hx:x<4294967296) (h2:n<=31) :
  bits .or .u32 ((x:Int)*2 ^ (32-n)%4294967296) ((x:Int)/2 ^ (32-(32-n)))=(bg x n:Nat):=by
 have e0:32-(32-n)=n:=by omega
 have hp:2 ^ n*2 ^ (32-n)=4294967296:=by rw [<-Nat.pow_add,show n+(32-n)=32 by omega]
 have e1:x*2 ^ (32-n)%4294967296=x%2 ^ n*2 ^ (32-n):=by rw [<-hp,Nat.mul_mod_mul_right]
 have hb:x/2 ^ n<2 ^ (32-n):=by
  rw [Nat.div_lt_iff_lt_mul (Nat.pow_pos (by omega)),Nat.mul_comm,hp]; exact hx
 have ha:x*2 ^ (32-n)%4294967296<4294967296:=Nat.mod_lt _ (by omega);have c1:((x:Int)*2 ^ (32-n)%4294967296)=((x*2 ^ (32-n)%4294967296:Nat):Int):=by simp
 have c2:((x:Int)/2 ^ n)=((x/2 ^ n:Nat):Int):=by simp
 rw [e0,c1,c2,u32_or_nat _ _ ha (Nat.lt_of_le_of_lt (Nat.div_le_self _ _) hx),e1,nat_join (32-n) _ _ (Nat.mul_mod_left _ _) hb,Gx n x hx (by omega),Nat.add_comm]
theorem VK (x n:Nat) (hx:x<4294967296) (h1:1<=n) (h2:n<=31) (w:World) :
  Calls prog 192 #[.int .u32 x,.int .i64 (-(n:Int))] w λe w'=>e = .returned (.int .u32 (bg x n:Nat))/\w=w':=by
 have hA:=VH n h1 h2;have HO:=hid (Yj x n hx h2);go_enter func192,ntmps192;go_wp2;go_ret;exact ⟨Xu HO.out,rfl⟩
theorem fC (x n:Nat) (N:Int) (hN:N=n) (hx:x<4294967296) (h1:1<=n) (h2:n<=31) (w:World) :
  Calls prog 177 #[.int .u32 x,.int .i64 N] w λe w'=>e = .returned (.int .u32 (bg x n:Nat))/\w=w':=by
 subst hN;have HR:=hid (VK x n hx h1 h2);go_enter func177,ntmps177;go_wp2_with (go_at_call 192; refine (HR.out _).mono ?_; rintro e w1 ⟨rfl,rfl⟩)
 go_ret;exact ⟨rfl,rfl⟩
def upB (m n k:Nat):Nat:=n/256 ^ (m-1-k)%256
def oU (w:World) (g off m n:Nat):Nat->World
 | 0=>w
 | k+1=>(oU w g off m n k).setCell ⟨g,off+k,none⟩ (.int .u8 (upB m n k:Nat))
theorem uq {w:World} {g off m n N:Nat} {t:TypeId} {f:Nat->Value} (h:w.rowIs g t N f):∀ k,(oU w g off m n k).rowIs g t N (λj=>if off<=j/\j<off+k then .int .u8 (upB m n (j-off):Nat) else f j)
 | 0=>h.congr (λj _=>by rw [if_neg (by omega)])
 | k+1=>((uq h k).set (off+k) _).congr (λj _=>by
  by_cases e:j=off+k
  .subst e; simp
  .by_cases e2:off<=j/\j<off+k
   .rw [if_neg e,if_pos e2,if_pos (by omega)]
   .rw [if_neg e,if_neg e2,if_neg (by omega)])
theorem rP {B:Nat} {w0 w:World} (h:Below B w0 w) {g off m n:Nat} (hg:B<=g):∀ k,Below B w0 (oU w g off m n k)
 | 0=>h
 | k+1=>(rP h hg k).setCell (p:=⟨g,off+k,none⟩) hg _
theorem zC (g off m c n N:Nat) (t:TypeId) (f:Nat->Value) (w:World) (h:w.rowIs g t N f) (hm:off+m<=N) (J5:m<=8) :
  Calls prog 127 #[.slice (some ⟨g,off,none⟩) m c,.int .u64 n] w λe w'=>e = .returned (.tuple #[])/\w'=oU w g off m n m:=by
 have Bi:=hid (λk=>uq (off:=off) (m:=m) (n:=n) h k);clear h;go_enter func127,ntmps127;go_wp2;go_loopw [7] (λi wr=>∃ k:Nat,k<=m/\i = .int .i64 k/\wr=oU w g off m n k) (λi _=>m-(intOf i).toNat)
 case atStart=>exact ⟨0,Nat.zero_le _,rfl,rfl⟩
 case round =>
  obtain ⟨k,hk,rfl,rfl⟩:=hrel;by_cases hlt:k<m
  .have hr:=Bi.out k;have hc:=hr.cell (i:=off+k) (by omega);rw [if_neg (by omega)] at hc;have hf:=hr.frozen (off+k);clear hr;have HN:Hid ((oU w g off m n k).setCell ⟨g,off+k,none⟩ (.int .u8 (upB m n k:Nat))=oU w g off m n (k+1)):=hid rfl;obtain ⟨wk,hwk⟩:=av (oU w g off m n k)
   rw [hwk] at hc hf HN ⊢;clear hwk;go_wp2;have HE:((n:Int)/2 ^ (8*(m-1-k))%256)=(upB m n k:Nat):=by
    unfold upB;rw [show 2 ^ (8*(m-1-k))=((256 ^ (m-1-k):Nat):Int) by rw [Int.natCast_pow,show ((256:Nat):Int)=2 ^ 8 from rfl,<-Int.pow_mul]];simp
   go_roundw
   case rel=>exact ⟨k+1,by omega,by go_num,by rw [HE,HN.out]⟩
   case measure=>simp [intOf]; omega
  .obtain rfl:k=m:=by omega
   have HW:Hid (oU w g off k n k=oU w g off k n k):=hid rfl;obtain ⟨wk,hwk⟩:=av (oU w g off k n k)
   have X1:=hid hwk;rw [hwk];clear Bi hwk HW;go_wp2;go_end0;exact ⟨rfl,X1.out.symm⟩
def qC (n:Nat):aL:=[128]++List.replicate (gV n) 0++beK (8*n) 8
theorem Qt (l:aL):iL l=l++qC l.length:=by simp [iL,nk,qC]
theorem sV (n:Nat):(qC n).length=gV n+9:=by simp [qC,vv]
theorem UM (n j:Nat) (h:j<8):((beK n 8).getD j 0).toNat=upB 8 n j:=by
 unfold upB;have:(beK n 8).getD j 0=UInt8.ofNat (n/256 ^ (7-j)%256):=by
  unfold beK;rw [List.getD,List.getElem?_reverse (by simpa using h)];simp only [List.length_map,List.length_range,List.getElem?_map];rw [List.getElem?_range (by omega)];simp only [Option.map_some,Option.getD_some]
 rw [this];simp
theorem Oe (n j:Nat) (h:j<gV n+9):((qC n).getD j 0).toNat=if j=0 then 128 else if 1+gV n<=j then upB 8 (8*n) (j-(1+gV n)) else 0:=by
 unfold qC;by_cases h0:j=0
 .subst h0; simp
 .rw [if_neg h0];by_cases h1:1+gV n<=j
  .rw [if_pos h1,List.getD,List.getElem?_append_right (by simp; omega)];rw [<-UM _ _ (by omega),List.getD];congr 3;simp;omega
  .rw [if_neg h1,List.getD,List.getElem?_append_left (by simp; omega),List.getElem?_append_right (by simp; omega)];simp only [List.length_singleton,List.getElem?_replicate];rw [if_pos (by omega)];rfl
theorem Fq (n:Nat) (hn:n<=1000000) (w:World) :
  Calls prog 126 #[.int .i64 n] w λe w'=>e = .returned (.string ⟨(qC n).toArray⟩)/\Below w.heap.size w w':=by
 have hz:gV n<64:=Nat.mod_lt _ (by omega);obtain ⟨z,D6⟩:=av (gV n)
 obtain ⟨m,hm⟩:=av (z+9)
 have hmk:=run_make_row' (P:=prog) 42 5 (.int .u8 0) 1 underlying42 Bu.yj rfl .i64 .i64 m (by omega) (by omega);have e:((m:Nat):Int)=1+(z:Int)+8:=by omega
 rw [e] at hmk;have hr:(w.alloc (.cells ((madeCells #[Value.int IntKind.u8 0] m).setIfInBounds 0 (.int .u8 128)) 5)).rowIs w.heap.size 5 m (λj=>if j=0 then .int .u8 128 else .int .u8 0):=by
  have h0:=(World.rowIs_made w (.int .u8 0) m 5).set 0 (.int .u8 128);rw [World.setCell_alloc_at _ _ _ _ _ rfl] at h0;exact h0
 have J5:m-(1+z)=8:=by omega
 have hc0:=(World.rowIs_made w (.int .u8 0) m 5).cell (i:=0) (by omega);have hf0:=(World.rowIs_made w (.int .u8 0) m 5).frozen 0;have HL:=zC w.heap.size (1+z) (m-(1+z)) (m-(1+z)) (8*n) m 5 _ _ hr (by omega) (by omega);rw [show ((8*n:Nat):Int)=8*(n:Int) by omega] at HL;have HL:=hid HL;have hR:=uq (off:=1+z) (m:=m-(1+z)) (n:=8*n) hr (m-(1+z))
 have hB:=rP (g:=w.heap.size) (off:=1+z) (m:=m-(1+z)) (n:=8*n) ((Below.refl w.heap.size w).alloc aF (.cells ((madeCells #[Value.int IntKind.u8 0] m).setIfInBounds 0 (.int .u8 128)) 5)) aF (m-(1+z));obtain ⟨W,hW⟩:=av (oU (w.alloc (.cells ((madeCells #[Value.int IntKind.u8 0] m).setIfInBounds 0 (.int .u8 128)) 5)) w.heap.size (1+z) (m-(1+z)) (8*n) (m-(1+z)))
 rw [hW] at hR hB HL;have hI:bq W (some ⟨w.heap.size,0,none⟩) m m (qC n):=by
  refine bq.ofRow (qC n) (by unfold maxLen; omega) hR (by rw [sV,D6,hm]) (λj hj=>?_);rw [Oe n j (by omega),D6,J5];by_cases h0:j=0
  .subst h0; simp
  .by_cases h1:1+z<=j
   .rw [if_pos ⟨h1,by omega⟩,if_neg h0,if_pos h1]
   .rw [if_neg (by omega),if_neg h0,if_neg h0,if_neg h1]; rfl
 have hcv:=lu hI;have hzi:(119-(n:Int)%64)%64=z:=by unfold gV at D6; omega
 clear hr e hR hI hW D6 J5;go_enter func126,ntmps126;go_wp2_with fail
 refine HL.out.mono ?_;rintro e w1 ⟨rfl,rfl⟩;clear hmk hc0 hf0;go_wp2;go_ret;exact ⟨rfl,hB⟩
def ac (l:List Nat):aM:=(l.map λ(x:Nat)=>Value.int .u32 (x:Int)).toArray
theorem bC (l:List Nat):(ac l).size=l.length:=by simp [ac]
theorem KM (l:List Nat) (j:Nat) (h:j<l.length):(ac l)[j]? = some (.int .u32 (l.getD j 0:Nat)):=by simp [ac,List.getD,h]
theorem iZ (l:List Nat):(ac l).all (·.oneCell')=true:=by
 rw [Array.all_eq_true];intro i hi;simp [ac];rfl
theorem nC:(prog.info? 214).map (·.size)=some 64:=by kernel_rfl
theorem jL:(prog.info? 183).map (·.size)=some 8:=by kernel_rfl
theorem YU {n:Nat} {f:Nat->Value} (l:List Nat) (h:w.rowIs g t n f) (hl:l.length=n) (hf:∀ j,j<n->f j = .int .u32 (l.getD j 0:Nat)):w.heap[g]? = some (.cells (ac l) t (0,0)):=by
 obtain ⟨c,hg,hs,hc⟩:=h;have:c=ac l:=by
  apply Array.ext
  .rw [hs,bC,hl]
  .intro i hi _;have h1:=hc i (by omega);rw [hf i (by omega),<-KM l i (by omega)] at h1;have h2:c[i]? = some c[i]:=Array.getElem?_eq_getElem hi;rw [h2] at h1;have h3:i<(ac l).size:=by rw [bC]; omega
   rw [Array.getElem?_eq_getElem h3] at h1;exact Option.some.inj h1
 rw [hg,this]
theorem fQ (h:Below B w w1) (hg:B<=g) (cs:aM):Below B w (w1.setRow g cs) :=
 h.trans ⟨rfl,rfl,rfl,by simp,λk hk=>setRow_other w1 g k cs (by omega)⟩
def Row (w:World) (g:Nat) (t:TypeId) (n:Nat) (l:List Nat):Prop:=w.rowIs g t n (λj=>.int .u32 (l.getD j 0:Nat))
theorem Row.put {n:Nat} {l:List Nat} (h:Row w g t n l) (x:Nat):Row (w.setCell ⟨g,l.length,none⟩ (.int .u32 x)) g t n (l++[x]) :=
 (World.rowIs.set h l.length _).congr λj _=>by
  by_cases e:j=l.length
  .subst e; simp
  .rw [if_neg e];by_cases e2:j<l.length
   .simp [List.getD,List.getElem?_append_left e2]
   .rw [List.getD,List.getElem?_eq_none (by omega),List.getD,List.getElem?_eq_none (by simp; omega)]
def za (n:Nat):aM:=ac (List.replicate n 0)
theorem Row.zero (w:World) (t:TypeId) (n:Nat):Row (w.alloc (.cells (za n) t)) w.heap.size t n []:=by
 have h:=World.rowIs_alloc w (za n) t (λ_=>.int .u32 (([]:List Nat).getD 0 0:Nat)) (λi hi=>by
  have hi':i<n:=by simpa [za,ac] using hi
  simp [za,ac,hi'])
 have e:(za n).size=n:=by simp [za,ac]
 rw [e] at h;exact h.congr λj _=>by simp
theorem jH (ev:Operand->Value) (o:Oper) (ho:o.op = .alloc 214) (w:World) :
  (execOp ev o).run prog w = .ok (.value (.pointer (some ⟨w.heap.size,0,none⟩))) (w.alloc (.cells (za 64) 214)):=by
 unfold execOp;rw [ho];kernel_rfl
theorem kM (ev:Operand->Value) (o:Oper) (ho:o.op = .alloc 183) (w:World) :
  (execOp ev o).run prog w = .ok (.value (.pointer (some ⟨w.heap.size,0,none⟩))) (w.alloc (.cells (za 8) 183)):=by
 unfold execOp;rw [ho];kernel_rfl
theorem Zt (a b:Nat) (ha:a<256) (hb:b<256):bits .or .u32 ((a:Int)*16777216) ((b:Int)*65536)=((a*16777216+b*65536:Nat):Int):=by
 have:=u32_or_nat (a*16777216) (b*65536) (by omega) (by omega);rw [nat_join 24 _ _ (by omega) (by omega)] at this;simpa using this
theorem Zy (a c:Nat) (ha:a<65536) (hc:c<256):bits .or .u32 ((a*65536:Nat):Int) ((c:Int)*256)=((a*65536+c*256:Nat):Int):=by
 have:=u32_or_nat (a*65536) (c*256) (by omega) (by omega);rw [nat_join 16 _ _ (by omega) (by omega)] at this;simpa using this
theorem ZA (a d:Nat) (ha:a<16777216) (hd:d<256):bits .or .u32 ((a*256:Nat):Int) (d:Int)=((a*256+d:Nat):Int):=by
 have:=u32_or_nat (a*256) d (by omega) (by omega);rw [nat_join 8 _ _ (by omega) (by omega)] at this;simpa using this
theorem Xd (g:Nat->Nat) (k:Nat):je g k 4=((g (4*k)*256+g (4*k+1))*256+g (4*k+2))*256+g (4*k+3):=by
 simp only [je,Nat.add_zero];omega
theorem EU (t:TypeId) (ht:prog.underlying t=some .string) (s:aK) (i v:Nat) (n:Int) (hn:n=i) (hi:i<s.size) (hv:s[i].toNat=v) (w:World) :
  (Instr.index t (.string s) (.int .i64 n)).run prog w = .ok (.int .u8 v) w:=by
 subst hn hv;rw [run_index_string w _ _ _ _ ht];simp [hi]
theorem nH (ev:Operand->Value) (o:Oper) (T:TypeId) (hT:prog.underlying T=some .string) (s:aK) (i v:Nat) (n:Int) (ho:∃ x y,o.op = .index T x y/\ev x = .string s/\ev y = .int .i64 n) (hn:n=i)
  (hv:∃ h:i<s.size,s[i].toNat=v) (w:World):(execOp ev o).run prog w = .ok (.value (.int .u8 v)) w:=by
 obtain ⟨x,y,ho,hx,hy⟩:=ho;have h:=EU T hT s i v n hn hv.1 hv.2 w;unfold execOp;rw [ho];simp only [hx,hy];simp [h]
theorem FQ (s:aK) (hs:64<=s.size) (hsm:s.size<=1000000) (w:World) :
  Calls prog 157 #[.string s] w λe w'=>e = .returned (.agg (ac (jR (ng s) 64)))/\Below w.heap.size w w':=by
 have HQ:=hid (Dz s);have HG:=hid (CW s);have hR0:=Row.zero (w.alloc (.cells (za 64) 214)) 214 64;rw [show (w.alloc (.cells (za 64) 214)).heap.size=w.heap.size+1 by simp] at hR0;have im:=hid hR0;clear hR0;obtain ⟨g,hg⟩:=av (ng s)
 rw [hg] at HQ HG ⊢;clear hg;go_enter func157,ntmps157;go_wp2_with (refine gU rfl _ _ (jH _ _ rfl _) ?_)
 go_loopw [8] (λi wr=>∃ k:Nat,k<=16/\i = .int .i64 k/\Hid (Row wr (w.heap.size+1) 214 64 (jR g k))/\Below (w.heap.size+1) (w.alloc (.cells (za 64) 214)) wr) (λi _=>16-(intOf i).toNat)
 case atStart=>exact ⟨0,by omega,rfl,im,aG.alloc (by simp) _⟩
 case round =>
  obtain ⟨k,hk,rfl,HR,hB⟩:=hrel;by_cases hlt:k<16
  .have p0:4*k<s.size:=by omega
   have p1:4*k+1<s.size:=by omega
   have p2:4*k+2<s.size:=by omega
   have p3:4*k+3<s.size:=by omega
   have q0:=HQ.out _ p0;have q1:=HQ.out _ p1;have q2:=HQ.out _ p2;have q3:=HQ.out _ p3;have g0:=HG.out (4*k);have g1:=HG.out (4*k+1);have g2:=HG.out (4*k+2);have g3:=HG.out (4*k+3);have hc:=HR.out.cell (i:=k) (by omega);have hf:=HR.out.frozen k;have HN:Hid (Row (wr.setCell ⟨w.heap.size+1,k,none⟩ (.int .u32 (je g k 4:Nat))) (w.heap.size+1) 214 64 (jR g (k+1))):=hid (by
    have:=Row.put HR.out (je g k 4);rw [iO] at this;rw [jR,zm,if_pos hlt];exact this)
   have HW:=sec (Xd g k);obtain ⟨a,ha⟩:=av (g (4*k))
   obtain ⟨b,hb⟩:=av (g (4*k+1))
   obtain ⟨c,hc'⟩:=av (g (4*k+2))
   obtain ⟨d,hd⟩:=av (g (4*k+3))
   rw [ha,hb,hc',hd] at HW;rw [ha] at q0 g0;rw [hb] at q1 g1;rw [hc'] at q2 g2;rw [hd] at q3 g3;clear ha hb hc' hd;have o1:=Zt a b g0 g1;have o2:=Zy (a*256+b) c (by omega) g2;have o3:=ZA ((a*256+b)*256+c) d (by omega) g3;rw [show (a*256+b)*65536=a*16777216+b*65536 by omega] at o2;rw [show ((a*256+b)*256+c)*256=a*16777216+b*65536+c*256 by omega] at o3;rw [show a*16777216+b*65536+c*256+d=je g k 4 by rw [HW.out]; omega] at o3;obtain ⟨y2,hy2⟩:=av (a*16777216+b*65536+c*256)
   rw [hy2] at o2 o3;obtain ⟨y1,hy1⟩:=av (a*16777216+b*65536)
   rw [hy1] at o1 o2;clear hy1 hy2;obtain ⟨W,PH⟩:=av (je g k 4)
   rw [PH] at o3 HN;clear PH HW;have O1:=sec o1;have O2:=sec o2;have O3:=sec o3;clear o1 o2 o3;have l4:(0:Int)<=(k:Int):=by omega
   have l5:(k:Int)<64:=by omega
   have va:IntKind.u32.wrap (a:Int)=a:=by rw [IntKind.wrap_u32']; omega
   have vb:IntKind.u32.wrap (b:Int)=b:=by rw [IntKind.wrap_u32']; omega
   have vc:IntKind.u32.wrap (c:Int)=c:=by rw [IntKind.wrap_u32']; omega
   have vd:IntKind.u32.wrap (d:Int)=d:=by rw [IntKind.wrap_u32']; omega
   have ZV:IntKind.u32.wrap ((a:Int)*16777216)=(a:Int)*16777216:=by rw [IntKind.wrap_u32']; omega
   have ZW:IntKind.u32.wrap ((b:Int)*65536)=(b:Int)*65536:=by rw [IntKind.wrap_u32']; omega
   have ZX:IntKind.u32.wrap ((c:Int)*256)=(c:Int)*256:=by rw [IntKind.wrap_u32']; omega
   have w0:IntKind.i64.wrap (4*(k:Int))=4*(k:Int):=IntWalk.i64_in _ (by omega);have w1:IntKind.i64.wrap (4*(k:Int)+1)=4*(k:Int)+1:=IntWalk.i64_in _ (by omega);have w2:IntKind.i64.wrap (4*(k:Int)+2)=4*(k:Int)+2:=IntWalk.i64_in _ (by omega);have w3:IntKind.i64.wrap (4*(k:Int)+3)=4*(k:Int)+3:=IntWalk.i64_in _ (by omega);have Q0:Sec (∃ h:4*k<s.size,s[4*k].toNat=a):=sec ⟨p0,q0⟩;have Q1:Sec (∃ h:4*k+1<s.size,s[4*k+1].toNat=b):=sec ⟨p1,q1⟩
   have Q2:Sec (∃ h:4*k+2<s.size,s[4*k+2].toNat=c):=sec ⟨p2,q2⟩;have Q3:Sec (∃ h:4*k+3<s.size,s[4*k+3].toNat=d):=sec ⟨p3,q3⟩;clear p0 p1 p2 p3 q0 q1 q2 q3;go_wp2_with fail
   refine aB (S:=λ_=>True) (trivial) λhld=>?_;refine ah 0 ?_;try simp only [ak]
   refine ah 1 ?_;try simp only [ak]
   refine ah 2 ?_;try simp only [ak]
   refine ah 3 ?_;try simp only [ak]
   refine ah 4 ?_ (hy:=by intro wz hSw; refine nH _ _ 9 underlying9 s (4*k) a (4*(k:Int)) ?_ (by omega) Q0.out wz; exact ⟨_,_,rfl,rfl,rfl⟩);try simp only [ak]
   refine ah 5 ?_;try simp only [ak]
   refine ah 6 ?_;try simp only [ak]
   refine ah 7 ?_;try simp only [ak]
   refine ah 8 ?_;try simp only [ak]
   refine ah 9 ?_;try simp only [ak]
   refine ah 10 ?_;try simp only [ak]
   refine ah 11 ?_ (hy:=by intro wz hSw; refine nH _ _ 9 underlying9 s (4*k+1) b (4*(k:Int)+1) ?_ (by omega) Q1.out wz; exact ⟨_,_,rfl,rfl,rfl⟩);try simp only [ak]
   refine ah 12 ?_;try simp only [ak]
   refine ah 13 ?_;try simp only [ak]
   refine ah 14 ?_;try simp only [ak]
   refine ah 15 ?_;try simp only [ak]
   refine ah 16 ?_;try simp only [ak]
   refine ah 17 ?_;try simp only [ak]
   refine ah 18 ?_;try simp only [ak]
   refine ah 19 ?_ (hy:=by intro wz hSw; refine nH _ _ 9 underlying9 s (4*k+2) c (4*(k:Int)+2) ?_ (by omega) Q2.out wz; exact ⟨_,_,rfl,rfl,rfl⟩);try simp only [ak]
   refine ah 20 ?_;try simp only [ak]
   refine ah 21 ?_;try simp only [ak]
   refine ah 22 ?_;try simp only [ak]
   refine ah 23 ?_;try simp only [ak]
   refine ah 24 ?_;try simp only [ak]
   refine ah 25 ?_;try simp only [ak]
   refine ah 26 ?_;try simp only [ak]
   refine ah 27 ?_ (hy:=by intro wz hSw; refine nH _ _ 9 underlying9 s (4*k+3) d (4*(k:Int)+3) ?_ (by omega) Q3.out wz; exact ⟨_,_,rfl,rfl,rfl⟩);try simp only [ak]
   refine ah 28 ?_;try simp only [ak]
   refine ah 29 ?_;try simp only [ak]
   refine ah 30 ?_;try simp only [ak]
   refine aj 31 λK hK=>?_;go_simp;refine hK.out _ _ ?_ (λhld=>?_)
   .trivial
   clear hK K;try simp only [ak]
   refine aA ?_;go_wp2;go_roundw
   case rel=>exact ⟨k+1,by omega,by go_num,by rw [O1.out,O2.out,O3.out]; exact HN,(hB.setCell (p:=⟨w.heap.size+1,k,none⟩) (by simp) _).drew⟩
   case measure=>simp [intOf]; omega
  .have pA:k=16:=by omega
   rw [pA] at HR;clear pA;go_wp2;go_loopw [5,6,7] (λi _ _ wr=>∃ k:Nat,16<=k/\k<=64/\i = .int .i64 k/\Hid (Row wr (w.heap.size+1) 214 64 (jR g k))/\Below (w.heap.size+1) (w.alloc (.cells (za 64) 214)) wr) (λi _ _ _=>64-(intOf i).toNat)
   case atStart=>exact ⟨16,by omega,by omega,rfl,HR,hB⟩
   case round =>
    clear HR hB hk hlt;obtain ⟨k,h16,hk,rfl,HR,hB⟩:=hrel;by_cases hlt:k<64
    .obtain ⟨p,rfl⟩:∃ p,k=p+16:=⟨k-16,by omega⟩
     obtain ⟨l,hl⟩:=av (jR g (p+16))
     have hll:l.length=p+16:=by rw [<-hl]; exact iO g _
     have hlb:=λj=>getD_lt (l:=l) (by rw [<-hl]; exact vU g HG.out _) j;have hR:=HR.out;rw [hl] at hR;have c0:=hR.cell (i:=p) (by omega);have c1:=hR.cell (i:=p+1) (by omega);have c9:=hR.cell (i:=p+9) (by omega);have c14:=hR.cell (i:=p+14) (by omega);have cs:=hR.cell (i:=p+16) (by omega);have hfr:=hR.frozen (p+16)
     have HN:Hid (Row (wr.setCell ⟨w.heap.size+1,p+16,none⟩ (.int .u32 ((l.getD p 0+sg0 (l.getD (p+1) 0)+l.getD (p+9) 0+sg1 (l.getD (p+14) 0))%4294967296:Nat))) (w.heap.size+1) 214 64 (jR g (p+16+1))):=hid (by
      have:=Row.put hR ((l.getD p 0+sg0 (l.getD (p+1) 0)+l.getD (p+9) 0+sg1 (l.getD (p+14) 0))%4294967296);rw [hll] at this;rw [jR,hl,zm,if_neg (by omega),show p+16-16=p by omega,show p+16-15=p+1 by omega,show p+16-7=p+9 by omega,show p+16-2=p+14 by omega];exact this)
     have b0:=hlb p;have b1:=hlb (p+1);have b9:=hlb (p+9);have b14:=hlb (p+14);clear HR hl hll hlb hR;obtain ⟨x0,hx0⟩:=av (l.getD p 0)
     obtain ⟨x1,hx1⟩:=av (l.getD (p+1) 0)
     obtain ⟨x9,nt⟩:=av (l.getD (p+9) 0)
     obtain ⟨cr,nF⟩:=av (l.getD (p+14) 0)
     rw [hx0] at HN c0 b0;rw [hx1] at HN c1 b1;rw [nt] at HN c9 b9;rw [nF] at HN c14 b14;clear hx0 hx1 nt nF;have HT1:=hid (fC x1 7 7 rfl b1 (by omega) (by omega));have HT2:=hid (fC x1 18 18 rfl b1 (by omega) (by omega));have gr:=hid (fC cr 17 17 rfl b14 (by omega) (by omega));have mx:=hid (fC cr 19 19 rfl b14 (by omega) (by omega));have e1:=u32_xor_nat (bg x1 7) (bg x1 18) (bG 7 x1 b1) (bG 18 x1 b1);have e2:=u32_xor_nat (bg x1 7 ^^^ bg x1 18) (x1/8) (Nat.xor_lt_two_pow (n:=32) (bG 7 x1 b1) (bG 18 x1 b1)) (by omega)
     have e4:=u32_xor_nat (bg cr 17) (bg cr 19) (bG 17 cr b14) (bG 19 cr b14);have e5:=u32_xor_nat (bg cr 17 ^^^ bg cr 19) (cr/1024) (Nat.xor_lt_two_pow (n:=32) (bG 17 cr b14) (bG 19 cr b14)) (by omega);have q1:bg x1 7 ^^^ bg x1 18 ^^^ (x1/8)=sg0 x1:=by unfold sg0; rw [lK]
     have q2:bg cr 17 ^^^ bg cr 19 ^^^ (cr/1024)=sg1 cr:=by unfold sg1; rw [lK]
     rw [q1] at e2;rw [q2] at e5;have J6:=Tn x1 b1;have J7:=Vs cr b14;obtain ⟨z0,hz0⟩:=av (sg0 x1)
     obtain ⟨z1,hz1⟩:=av (sg1 cr)
     rw [hz0] at HN e2 J6;rw [hz1] at HN e5 J7;clear hz0 hz1 q1 q2;generalize bg x1 7 ^^^ bg x1 18=y1 at e1 e2;generalize bg cr 17 ^^^ bg cr 19=y4 at e4 e5;generalize bg x1 7=a1 at HT1 e1;generalize bg x1 18=a2 at HT2 e1;generalize bg cr 17=a4 at gr e4;generalize bg cr 19=a5 at mx e4;have E1:=sec e1;have E2:=sec e2;have E4:=sec e4;have E5:=sec e5;clear e1 e2 e4 e5;have l0:(0:Int)<=(p:Int)+1:=by omega
     have l1:(p:Int)+1<64:=by omega
     have l2:(0:Int)<=(p:Int)+14:=by omega
     have l3:(p:Int)+14<64:=by omega
     have l4:((p:Int)+14).toNat=p+14:=by omega
     have l5:((p:Int)+1).toNat=p+1:=by omega
     have w1:IntKind.i64.wrap ((p:Int)+16-15)=(p:Int)+1:=by rw [IntKind.wrap_i64]; omega
     have X2:IntKind.i64.wrap ((p:Int)+16-2)=(p:Int)+14:=by rw [IntKind.wrap_i64]; omega
     go_wp2_with fail
     go_quiet (fail)
     obtain ⟨n1,rfl⟩:=au nq
     clear l0 l1 l2 l3 l4 l5 w1 X2 c1 c14;have e1:=E1.out;have e2:=E2.out;have e4:=E4.out;have e5:=E5.out;rw [show ((x1/8:Nat):Int)=(x1:Int)/8 by omega] at e2;rw [show ((cr/1024:Nat):Int)=(cr:Int)/1024 by omega] at e5;clear E1 E2 E4 E5;go_wp2_with fail
     (with_reducible refine (HT1.out _).mono ?_)
     rintro e w3 ⟨rfl,rfl⟩;go_wp2_with fail
     (with_reducible refine (HT2.out _).mono ?_)
     rintro e w3 ⟨rfl,rfl⟩;go_wp2_with fail
     (with_reducible refine (gr.out _).mono ?_)
     rintro e w3 ⟨rfl,rfl⟩;go_wp2_with fail
     (with_reducible refine (mx.out _).mono ?_)
     rintro e w3 ⟨rfl,rfl⟩;go_wp2_with fail
     clear HT1 HT2 gr mx e1 e2 e4 e5;have l0:(0:Int)<=(p:Int):=by omega
     have l1:(p:Int)<64:=by omega
     have l2:(0:Int)<=(p:Int)+9:=by omega
     have l3:(p:Int)+9<64:=by omega
     have l4:((p:Int)+9).toNat=p+9:=by omega
     have w1:IntKind.i64.wrap (p:Int)=(p:Int):=by rw [IntKind.wrap_i64]; omega
     have w9:IntKind.i64.wrap ((p:Int)+16-7)=(p:Int)+9:=by rw [IntKind.wrap_i64]; omega
     have l6:(0:Int)<=(p:Int)+16:=by omega
     have l7:(p:Int)+16<64:=by omega
     have l8:((p:Int)+16).toNat=p+16:=by omega
     have HV:Sec (((((x0:Int)+z0)%4294967296+x9)%4294967296+z1)%4294967296=((x0+z0+x9+z1)%4294967296:Nat)):=sec (by omega);refine aB (S:=λw'=>w'.cell? ⟨w.heap.size+1,p,none⟩=some (.int .u32 (x0:Nat))/\w'.cell? ⟨w.heap.size+1,p+9,none⟩=some (.int .u32 (x9:Nat))) (⟨c0,c9⟩) λhld=>?_;refine ah 0 ?_;try simp only [ak]
     refine ah 1 ?_;try simp only [ak]
     refine ah 2 ?_;try simp only [ak]
     refine ah 3 ?_;try simp only [ak]
     refine ah 4 ?_;try simp only [ak]
     refine ah 5 ?_;try simp only [ak]
     refine ah 6 ?_;try simp only [ak]
     refine ah 7 ?_;try simp only [ak]
     refine ah 8 ?_;try simp only [ak]
     refine ah 9 ?_;try simp only [ak]
     refine ah 10 ?_;try simp only [ak]
     refine ah 11 ?_;try simp only [ak]
     refine ah 12 ?_;try simp only [ak]
     refine ah 13 ?_;try simp only [ak]
     refine ah 14 ?_;try simp only [ak]
     refine aj 15 λK hK=>?_;go_simp;refine hK.out _ _ (⟨by rw [World.cell?_setCell_other _ _ _ _ (by simp; try omega)]; exact c0,by rw [World.cell?_setCell_other _ _ _ _ (by simp; try omega)]; exact c9⟩) λhld=>?_;clear hK K;try simp only [ak]
     refine aA ?_;clear l0 l1 l2 l3 l4 l6 l7 l8 w1 w9 hld;go_wp2;go_roundw
     case rel=>exact ⟨p+16+1,by omega,by omega,by go_num,hid (by rw [HV.out]; exact HN.out),(below_drewN hB (n1+1)).setCell (p:=⟨w.heap.size+1,p+16,none⟩) (by simp) _⟩
     case measure=>simp [intOf]; omega
    .obtain rfl:k=64:=by omega
     have HG2:=hid (YU (jR g 64) HR.out (iO g 64) (λ_ _=>rfl));have HB0:Hid (wr.heap[w.heap.size]? = some (.cells (za 64) 214 (0,0))):=hid (by rw [hB.block _ (by simp)]; exact heap_alloc_new _ _);obtain ⟨l,hl⟩:=av (jR g 64)
     have hll:l.length=64:=by rw [<-hl]; exact iO g _
     rw [hl] at HG2;have mu:=sec hl;clear HR hl;go_wp2_with (first | (refine wpList_load_row rfl _ _ rfl (w.heap.size+1) rfl 214 (ac l) (0,0) _ HG2.out underlying214 rfl (by rw [bC,hll]; exact nC) ?_) | (refine wpList_store_rowTo rfl 214 _ _ rfl rfl _ (ac l) rfl rfl 214 (za 64) HB0.out (by rw [bC,hll]; exact nC) (by rw [bC,hll,za,bC]; simp) (iZ _) ?_))
     exact bodyPost_ret (results_cell_row rfl _ _ w.heap.size 214 (ac l) (0,0) _ rfl (setRow_heap _ _ _ _ _ _ HB0.out) underlying214 rfl (by rw [bC,hll]; exact nC)) rfl ⟨by rw [mu.out],fQ (((Below.refl w.heap.size w).alloc aF _).trans (hB.mono (by simp))) aF _⟩
theorem MS (e:Nat) (he:e<4294967296):4294967295 ^^^ e=4294967295-e:=by
 apply Nat.eq_of_testBit_eq;intro i;have h:=Nat.testBit_two_pow_sub_succ (n:=32) (x:=e) he i;rw [show 2 ^ 32-(e+1)=4294967295-e by omega] at h;have h1:=Nat.testBit_two_pow_sub_one (n:=32) (i:=i);rw [show 2 ^ 32-1=4294967295 by rfl] at h1;rw [Nat.testBit_xor,h,h1];by_cases hi:i<32
 .simp [hi]
 .have:e.testBit i=false:=Nat.testBit_lt_two_pow (aH he (Nat.pow_le_pow_right (n:=2) (by omega) (show 32<=i by omega)));simp [hi,this]
theorem Rh (e f g:Nat) (he:e<4294967296):(e &&& f) ^^^ ((4294967295-e) &&& g)=yX e f g:=by
 unfold yX;rw [<-MS e he];apply Nat.eq_of_testBit_eq;intro i;have h1:=Nat.testBit_two_pow_sub_one (n:=32) (i:=i);rw [show 2 ^ 32-1=4294967295 by rfl] at h1;simp only [Nat.testBit_xor,Nat.testBit_and,Nat.testBit_or,h1];by_cases hi:i<32
 .simp only [hi,decide_true];cases e.testBit i <;> cases f.testBit i <;> cases g.testBit i <;> rfl
 .have:e.testBit i=false:=Nat.testBit_lt_two_pow (aH he (Nat.pow_le_pow_right (n:=2) (by omega) (show 32<=i by omega)));simp [hi,this]
theorem TA (a b c:Nat):(a &&& b) ^^^ (a &&& c) ^^^ (b &&& c)=BR a b c:=by
 unfold BR;apply Nat.eq_of_testBit_eq;intro i;simp only [Nat.testBit_xor,Nat.testBit_and,Nat.testBit_or];cases a.testBit i <;> cases b.testBit i <;> cases c.testBit i <;> rfl
theorem WO (x0 x1 x2 x3 x4 x5 x6 x7 v0 v1 v2 v3 v4 v5 v6 v7:Nat) :
  ((((((((ac [x0,x1,x2,x3,x4,x5,x6,x7]).setIfInBounds 0 (.int .u32 v0)).setIfInBounds 1 (.int .u32 v1)).setIfInBounds 2 (.int .u32 v2)).setIfInBounds 3 (.int .u32 v3)).setIfInBounds 4 (.int .u32 v4)).setIfInBounds 5 (.int .u32 v5)).setIfInBounds 6 (.int .u32 v6)).setIfInBounds 7 (.int .u32 v7)
   = ac [v0,v1,v2,v3,v4,v5,v6,v7]:=by
 simp [ac]
theorem YN {r:Option Nat} (h:w.grownBy w1 r):w.grownBy w1.drew r:=⟨h.os,h.tape,h.output,h.size,h.block⟩
theorem Iy (v:Value) (h:w.grownBy w1 (some g)):w.grownBy (w1.setCell ⟨g,j,none⟩ v) (some g) :=
 ⟨h.os,h.tape,h.output,by have:=h.size; simp; omega,λk hk hne=>(heap_setCell_other _ _ _ _ (by simpa using hne)).trans (h.block k hk hne)⟩
theorem Le (n x:Nat) (w:World) :
  Calls prog 158 #[.int .u32 n,.int .u32 x] w λe w'=>e = .returned (.func (Fn.func 178) #[] #[.pointer (some ⟨w.heap.size,0,none⟩),.pointer (some ⟨w.heap.size+1,0,none⟩)])/\w'=(w.alloc (.cells #[.int .u32 n] 98)).alloc (.cells #[.int .u32 x] 98):=by
 go_enter func158,ntmps158;go_wp2;go_ret;exact ⟨rfl,rfl⟩
theorem Qv (g bn bw kk wk x0 x1 x2 x3 x4 x5 x6 x7:Nat) (b0:x0<4294967296) (b1:x1<4294967296) (b2:x2<4294967296) (b4:x4<4294967296) (b5:x5<4294967296) (b6:x6<4294967296)
  (w:World) (hg:w.heap[g]? = some (.cells (ac [x0,x1,x2,x3,x4,x5,x6,x7]) 183 (0,0))) (hn:w.cell? ⟨bn,0,none⟩=some (.int .u32 kk)) (hw:w.cell? ⟨bw,0,none⟩=some (.int .u32 wk)) :
  Calls prog 178 #[.pointer (some ⟨g,0,none⟩),.pointer (some ⟨bn,0,none⟩),.pointer (some ⟨bw,0,none⟩)] w λe w'=>e = .returned (.tuple #[])/\w'.heap[g]? = some (.cells (ac (sP kk wk [x0,x1,x2,x3,x4,x5,x6,x7])) 183 (0,0))/\w.grownBy w' (some g):=by
 have c0:w.cell? ⟨g,0,none⟩=some (.int .u32 x0):=cell_of_row w g 0 _ _ _ hg;have c1:w.cell? ⟨g,1,none⟩=some (.int .u32 x1):=cell_of_row w g 1 _ _ _ hg;have c2:w.cell? ⟨g,2,none⟩=some (.int .u32 x2):=cell_of_row w g 2 _ _ _ hg;have c3:w.cell? ⟨g,3,none⟩=some (.int .u32 x3):=cell_of_row w g 3 _ _ _ hg;have c4:w.cell? ⟨g,4,none⟩=some (.int .u32 x4):=cell_of_row w g 4 _ _ _ hg;have c5:w.cell? ⟨g,5,none⟩=some (.int .u32 x5):=cell_of_row w g 5 _ _ _ hg;have c6:w.cell? ⟨g,6,none⟩=some (.int .u32 x6):=cell_of_row w g 6 _ _ _ hg
 have c7:w.cell? ⟨g,7,none⟩=some (.int .u32 x7):=cell_of_row w g 7 _ _ _ hg;have fz:∀ j,w.frozen? ⟨g,j,none⟩=false:=λj=>frozen_of_row w g j _ _ hg;have HG:=sec hg;have X3:=sec fz;clear hg fz;go_enter func178,ntmps178;go_wp2_with fail
 go_quiet (fail)
 obtain ⟨n1,rfl⟩:=au nq
 go_wp2_with fail
 go_quiet (fail)
 obtain ⟨n2,rfl⟩:=au nq
 have hpk:=Jv x4 x5 x6 b4;have A1:=u32_and_nat x4 x5 b4 b5;have A2:=u32_xor_nat 4294967295 x4 (by omega) b4;rw [MS x4 b4] at A2;have A3:=u32_and_nat (4294967295-x4) x6 (by omega) b6;have A4:=u32_xor_nat (x4 &&& x5) ((4294967295-x4) &&& x6) (Nat.lt_of_le_of_lt Nat.and_le_left b4) (Nat.lt_of_le_of_lt Nat.and_le_left (by omega));rw [Rh x4 x5 x6 b4] at A4;have A2:bits .xor .u32 IntKind.u32.max (x4:Int)=((4294967295-x4:Nat):Int):=A2;obtain ⟨pk,j1⟩:=av (yX x4 x5 x6)
 rw [j1] at hpk A4;have D7:=sec j1;clear j1;obtain ⟨m4,Bk⟩:=av (4294967295-x4)
 rw [Bk] at A2 A3 A4;clear Bk;generalize x4 &&& x5=p1 at A1 A4;generalize m4 &&& x6=p2 at A3 A4;go_wp2_with fail
 clear A1 A2 A3 A4;have HT1:=hid (fC x4 6 6 rfl b4 (by omega) (by omega));have HT2:=hid (fC x4 11 11 rfl b4 (by omega) (by omega));have HT3:=hid (fC x4 25 25 rfl b4 (by omega) (by omega));have e1:=u32_xor_nat (bg x4 6) (bg x4 11) (bG 6 x4 b4) (bG 11 x4 b4);have e2:=u32_xor_nat (bg x4 6 ^^^ bg x4 11) (bg x4 25) (Nat.xor_lt_two_pow (n:=32) (bG 6 x4 b4) (bG 11 x4 b4)) (bG 25 x4 b4);have hq:bg x4 6 ^^^ bg x4 11 ^^^ bg x4 25=bs1 x4:=rfl;rw [hq] at e2;have X4:=Sv x4 b4;obtain ⟨B1,hB1⟩:=av (bs1 x4)
 rw [hB1] at e2 X4;have HB1:=sec hB1;clear hB1 hq;generalize bg x4 6 ^^^ bg x4 11=y1 at e1 e2;generalize bg x4 6=a1 at HT1 e1;generalize bg x4 11=a2 at HT2 e1;generalize bg x4 25=a3 at HT3 e2;have HX:Sec ((x7+B1+pk+kk+wk)%4294967296=((((x7+B1)%4294967296+pk)%4294967296+kk)%4294967296+wk)%4294967296):=sec (by omega);have v1:IntKind.u32.wrap ((x7:Int)+B1)=((x7+B1)%4294967296:Nat):=by rw [IntKind.wrap_u32']; omega
 have v2:IntKind.u32.wrap ((((x7+B1)%4294967296:Nat):Int)+pk)=(((x7+B1)%4294967296+pk)%4294967296:Nat):=by rw [IntKind.wrap_u32']; omega
 have v3:IntKind.u32.wrap (((((x7+B1)%4294967296+pk)%4294967296:Nat):Int)+kk)=((((x7+B1)%4294967296+pk)%4294967296+kk)%4294967296:Nat):=by rw [IntKind.wrap_u32']; omega
 have v4:IntKind.u32.wrap ((((((x7+B1)%4294967296+pk)%4294967296+kk)%4294967296:Nat):Int)+wk)=(((((x7+B1)%4294967296+pk)%4294967296+kk)%4294967296+wk)%4294967296:Nat):=by rw [IntKind.wrap_u32']; omega
 obtain ⟨s1,h1⟩:=av ((x7+B1)%4294967296)
 rw [h1] at v1 v2 v3 v4 HX;obtain ⟨s2,h2⟩:=av ((s1+pk)%4294967296)
 rw [h2] at v2 v3 v4 HX;obtain ⟨s3,h3⟩:=av ((s2+kk)%4294967296)
 rw [h3] at v3 v4 HX;have J8:(s3+wk)%4294967296<4294967296:=Nat.mod_lt _ (by omega);obtain ⟨X,hX⟩:=av ((s3+wk)%4294967296)
 rw [hX] at v4 HX J8;clear h1 h2 h3 hX;refine aB (S:=λw'=>w'.cell? ⟨bn,0,none⟩=some (.int .u32 (kk:Nat))/\w'.cell? ⟨bw,0,none⟩=some (.int .u32 (wk:Nat))) (⟨hn,hw⟩) λhld=>?_;refine ah 0 ?_;try simp only [ak]
 refine ah 1 ?_;try simp only [ak]
 refine ah 3 ?_;try simp only [ak]
 refine ah 6 ?_;try simp only [ak]
 refine ah 10 ?_;try simp only [ak]
 refine ah 12 ?_;try simp only [ak]
 refine ah 14 ?_;try simp only [ak]
 refine aj 2 λK hK=>?_;go_simp;go_at_call 177
 (with_reducible refine (HT1.out _).mono ?_)
 rintro e w3 ⟨rfl,rfl⟩;refine hK.out _ _ ?_ (λhld=>?_)
 .assumption
 clear hK K;try simp only [ak]
 refine aj 4 λK hK=>?_;go_simp;go_at_call 177
 (with_reducible refine (HT2.out _).mono ?_)
 rintro e w3 ⟨rfl,rfl⟩;refine hK.out _ _ ?_ (λhld=>?_)
 .assumption
 clear hK K;try simp only [ak]
 refine ah 5 ?_;try simp only [ak]
 refine aj 7 λK hK=>?_;go_simp;go_at_call 177
 (with_reducible refine (HT3.out _).mono ?_)
 rintro e w3 ⟨rfl,rfl⟩;refine hK.out _ _ ?_ (λhld=>?_)
 .assumption
 clear hK K;try simp only [ak]
 refine ah 8 ?_;try simp only [ak]
 refine ah 9 ?_;try simp only [ak]
 refine ah 11 ?_;try simp only [ak]
 refine ah 13 ?_;try simp only [ak]
 refine ah 15 ?_;try simp only [ak]
 refine ah 16 ?_;try simp only [ak]
 refine aA ?_;clear HT1 HT2 HT3 e1 e2 v1 v2 v3 v4 hld;have HT1:=hid (fC x0 2 2 rfl b0 (by omega) (by omega));have HT2:=hid (fC x0 13 13 rfl b0 (by omega) (by omega));have HT3:=hid (fC x0 22 22 rfl b0 (by omega) (by omega));have e1:=u32_xor_nat (bg x0 2) (bg x0 13) (bG 2 x0 b0) (bG 13 x0 b0);have e2:=u32_xor_nat (bg x0 2 ^^^ bg x0 13) (bg x0 22) (Nat.xor_lt_two_pow (n:=32) (bG 2 x0 b0) (bG 13 x0 b0)) (bG 22 x0 b0);have hq:bg x0 2 ^^^ bg x0 13 ^^^ bg x0 22=bs0 x0:=rfl;rw [hq] at e2;have J9:=Uu x0 b0
 obtain ⟨B0,hB0⟩:=av (bs0 x0)
 rw [hB0] at e2 J9;have HB0:=sec hB0;clear hB0 hq;generalize bg x0 2 ^^^ bg x0 13=y1 at e1 e2;generalize bg x0 2=a1 at HT1 e1;generalize bg x0 13=a2 at HT2 e1;generalize bg x0 22=a3 at HT3 e2;have hmo:=Ia x0 x1 x2 b0 b1;have A1:=u32_and_nat x0 x1 b0 b1;have A2:=u32_and_nat x0 x2 b0 b2;have A3:=u32_xor_nat (x0 &&& x1) (x0 &&& x2) (Nat.lt_of_le_of_lt Nat.and_le_left b0) (Nat.lt_of_le_of_lt Nat.and_le_left b0);have A4:=u32_and_nat x1 x2 b1 b2
 have A5:=u32_xor_nat ((x0 &&& x1) ^^^ (x0 &&& x2)) (x1 &&& x2) (Nat.xor_lt_two_pow (n:=32) (Nat.lt_of_le_of_lt Nat.and_le_left b0) (Nat.lt_of_le_of_lt Nat.and_le_left b0)) (Nat.lt_of_le_of_lt Nat.and_le_left b1);rw [TA] at A5;obtain ⟨mo,j5⟩:=av (BR x0 x1 x2)
 rw [j5] at hmo A5;have D8:=sec j5;clear j5;generalize (x0 &&& x1) ^^^ (x0 &&& x2)=q3 at A3 A5;generalize x0 &&& x1=q1 at A1 A3;generalize x0 &&& x2=q2 at A2 A3;generalize x1 &&& x2=q5 at A4 A5;go_wp2_with fail
 (with_reducible refine (HT1.out _).mono ?_)
 rintro e w3 ⟨rfl,rfl⟩;go_wp2_with fail
 (with_reducible refine (HT2.out _).mono ?_)
 rintro e w3 ⟨rfl,rfl⟩;go_wp2_with fail
 (with_reducible refine (HT3.out _).mono ?_)
 rintro e w3 ⟨rfl,rfl⟩;go_wp2_with fail
 clear A1 A2 A3 A4 A5 HT1 HT2 HT3 e1 e2;have hY:((B0:Int)+mo)%4294967296=((B0+mo)%4294967296:Nat):=by omega
 have HY:Sec (yN x0 x1 x2=(B0+mo)%4294967296):=sec (by unfold yN; rw [HB0.out,D8.out]);have Jn:(B0+mo)%4294967296<4294967296:=Nat.mod_lt _ (by omega);obtain ⟨Y,PJ⟩:=av ((B0+mo)%4294967296)
 rw [PJ] at hY HY Jn;rw [hY];clear hY PJ;have fz:=X3.out;have v1:IntKind.u32.wrap ((X:Int)+Y)=((X+Y)%4294967296:Nat):=by rw [IntKind.wrap_u32']; omega
 have v2:IntKind.u32.wrap ((x3:Int)+X)=((x3+X)%4294967296:Nat):=by rw [IntKind.wrap_u32']; omega
 have cm:Sec (sP kk wk [x0,x1,x2,x3,x4,x5,x6,x7]=[(X+Y)%4294967296,x0,x1,x2,(x3+X)%4294967296,x4,x5,x6]):=sec (by
  show [(xN kk wk x4 x5 x6 x7+yN x0 x1 x2)%4294967296,x0,x1,x2,(x3+xN kk wk x4 x5 x6 x7)%4294967296,x4,x5,x6]=_;rw [HY.out,show xN kk wk x4 x5 x6 x7=X by unfold xN; rw [HB1.out,D7.out]; exact HX.out])
 obtain ⟨N0,hN0⟩:=av ((X+Y)%4294967296)
 obtain ⟨N4,Bm⟩:=av ((x3+X)%4294967296)
 rw [hN0] at v1 cm;rw [Bm] at v2 cm;clear hN0 Bm;refine aB (S:=λ_=>True) (trivial) λhld=>?_;refine ah 0 ?_;try simp only [ak]
 refine ah 1 ?_;try simp only [ak]
 refine ah 2 ?_;try simp only [ak]
 refine ah 3 ?_;try simp only [ak]
 refine ah 4 ?_;try simp only [ak]
 refine ah 5 ?_;try simp only [ak]
 refine ah 6 ?_;try simp only [ak]
 refine ah 7 ?_;try simp only [ak]
 refine ah 8 ?_;try simp only [ak]
 refine ah 9 ?_;try simp only [ak]
 refine ah 10 ?_;try simp only [ak]
 refine ah 11 ?_;try simp only [ak]
 refine ah 13 ?_;try simp only [ak]
 refine ah 16 ?_;try simp only [ak]
 refine ah 19 ?_;try simp only [ak]
 refine aj 12 λK hK=>?_;go_simp;refine hK.out _ _ ?_ (λhld=>?_)
 .trivial
 clear hK K;try simp only [ak]
 refine ah 14 ?_;try simp only [ak]
 refine aj 15 λK hK=>?_;go_simp;refine hK.out _ _ ?_ (λhld=>?_)
 .trivial
 clear hK K;try simp only [ak]
 refine ah 17 ?_;try simp only [ak]
 refine aj 18 λK hK=>?_;go_simp;refine hK.out _ _ ?_ (λhld=>?_)
 .trivial
 clear hK K;try simp only [ak]
 refine ah 20 ?_;try simp only [ak]
 refine aj 21 λK hK=>?_;go_simp;refine hK.out _ _ ?_ (λhld=>?_)
 .trivial
 clear hK K;try simp only [ak]
 refine aA ?_;go_wp2_with fail
 refine aB (S:=λ_=>True) (trivial) λhld=>?_;refine ah 0 ?_;try simp only [ak]
 refine ah 1 ?_;try simp only [ak]
 refine ah 2 ?_;try simp only [ak]
 refine ah 3 ?_;try simp only [ak]
 refine ah 4 ?_;try simp only [ak]
 refine ah 5 ?_;try simp only [ak]
 refine ah 6 ?_;try simp only [ak]
 refine ah 7 ?_;try simp only [ak]
 refine ah 8 ?_;try simp only [ak]
 refine ah 9 ?_;try simp only [ak]
 refine ah 10 ?_;try simp only [ak]
 refine ah 11 ?_;try simp only [ak]
 refine ah 13 ?_;try simp only [ak]
 refine ah 16 ?_;try simp only [ak]
 refine ah 19 ?_;try simp only [ak]
 refine aj 12 λK hK=>?_;go_simp;refine hK.out _ _ ?_ (λhld=>?_)
 .trivial
 clear hK K;try simp only [ak]
 refine ah 14 ?_;try simp only [ak]
 refine aj 15 λK hK=>?_;go_simp;refine hK.out _ _ ?_ (λhld=>?_)
 .trivial
 clear hK K;try simp only [ak]
 refine ah 17 ?_;try simp only [ak]
 refine aj 18 λK hK=>?_;go_simp;refine hK.out _ _ ?_ (λhld=>?_)
 .trivial
 clear hK K;try simp only [ak]
 refine ah 20 ?_;try simp only [ak]
 refine aj 21 λK hK=>?_;go_simp;refine hK.out _ _ ?_ (λhld=>?_)
 .trivial
 clear hK K;try simp only [ak]
 refine aA ?_;clear v1 v2 hld fz c0 c1 c2 c3 c4 c5 c6 c7 hn hw;go_end0;have k0:(w.drewN (n1+n2+1+1)).heap[g]? = some (.cells (ac [x0,x1,x2,x3,x4,x5,x6,x7]) 183 (0,0)):=HG.out;have k1:=heap_setCell_same _ g 0 _ _ (.int .u32 N0) k0;have k2:=heap_setCell_same _ g 1 _ _ (.int .u32 x0) k1;have k3:=heap_setCell_same _ g 2 _ _ (.int .u32 x1) k2;have k4:=heap_setCell_same _ g 3 _ _ (.int .u32 x2) k3;have k5:=heap_setCell_same _ g 4 _ _ (.int .u32 N4) k4;have k6:=heap_setCell_same _ g 5 _ _ (.int .u32 x4) k5
 have k7:=heap_setCell_same _ g 6 _ _ (.int .u32 x5) k6;have k8:=heap_setCell_same _ g 7 _ _ (.int .u32 x6) k7;refine ⟨rfl,?_,?_⟩
 .rw [cm.out,heap_drew,k8,WO]
 .exact YN (Iy _ (Iy _ (Iy _ (Iy _ (Iy _ (Iy _ (Iy _ (Iy _ ⟨rfl,rfl,rfl,aF,λ_ _ _=>rfl⟩))))))))
theorem mE (ev:Operand->Value) (o:Oper) (g:Nat) (w:World) (l:List Nat) (ho:∃ x,o.op = .load 183 x/\ev x = .pointer (some ⟨g,0,none⟩)) (hg:w.heap[g]? = some (.cells (ac l) 183 (0,0))) (hl:l.length=8) :
  (execOp ev o).run prog w = .ok (.value (.agg (ac l))) w:=by
 obtain ⟨x,ho,hx⟩:=ho;have h:=run_loadVar_row (P:=prog) w g 183 183 (ac l) (0,0) _ hg underlying183 rfl (by rw [bC,hl]; exact jL);unfold execOp;rw [ho];simp only [hx];simp [Instr.loadAt,Instr.sureAddr,h]
theorem vX (ev:Operand->Value) (o:Oper) (ho:o.op = .alloc 183) (w:World) (n:Nat) (hn:w.heap.size=n) :
  (execOp ev o).run prog w = .ok (.value (.pointer (some ⟨n,0,none⟩))) (w.alloc (.cells (za 8) 183)):=by
 subst hn; exact kM ev o ho w
theorem Yh (l:List Nat) (j x:Nat):(ac l).setIfInBounds j (.int .u32 x)=ac (l.set j x):=by simp [ac,List.map_set]
theorem Kl (n x:Nat) (w:World) :
  Calls prog 158 #[.int .u32 n,.int .u32 x] w λe w'=>∃ b1 b2,e = .returned (.func (Fn.func 178) #[] #[.pointer (some ⟨b1,0,none⟩),.pointer (some ⟨b2,0,none⟩)])/\Rg.Own w' b1 #[.int .u32 n] 98/\Rg.Own w' b2 #[.int .u32 x] 98/\b1≠b2/\w.heap.size<=b1/\w.heap.size<=b2/\Below w.heap.size w w':=by
 refine (Le n x w).mono ?_;rintro e w' ⟨rfl,rfl⟩;refine ⟨_,_,rfl,(Rg.Own.new w _ _).below (aG.alloc aF _),?_,by omega,by omega,by omega,(aG.alloc aF _).alloc (by simp) _⟩;have:=Rg.Own.new (w.alloc (.cells #[.int .u32 n] 98)) #[.int .u32 x] 98;rw [show (w.alloc (.cells #[.int .u32 n] 98)).heap.size=w.heap.size+1 by simp] at this;exact this
theorem VE (g bn bw kk wk:Nat) (l:List Nat) (hl:l.length=8) (hlt:∀ x∈l,x<4294967296) (w:World) (hg:w.heap[g]? = some (.cells (ac l) 183 (0,0))) (hn:Rg.Own w bn #[.int .u32 kk] 98) (hw:Rg.Own w bw #[.int .u32 wk] 98) :
  Calls prog 178 #[.pointer (some ⟨g,0,none⟩),.pointer (some ⟨bn,0,none⟩),.pointer (some ⟨bw,0,none⟩)] w λe w'=>e = .returned (.tuple #[])/\w'.heap[g]? = some (.cells (ac (sP kk wk l)) 183 (0,0))/\w.grownBy w' (some g):=by
 obtain ⟨x0,x1,x2,x3,x4,x5,x6,x7,rfl⟩:=eight l hl;exact Qv g bn bw kk wk x0 x1 x2 x3 x4 x5 x6 x7 (hlt _ (by simp)) (hlt _ (by simp)) (hlt _ (by simp)) (hlt _ (by simp)) (hlt _ (by simp)) (hlt _ (by simp)) w hg (cell_of_row w bn 0 _ _ _ hn.2) (cell_of_row w bw 0 _ _ _ hw.2)
theorem wM (l:List Nat) (j:Nat) (hj:j<8) (hl:l.length=8) (w:World):(Instr.index 183 (.agg (ac l)) (.int .i64 j)).run prog w = .ok (.int .u32 (l.getD j 0:Nat)) w:=by
 obtain ⟨x0,x1,x2,x3,x4,x5,x6,x7,rfl⟩:=eight l hl;have hc:j=0\/j=1\/j=2\/j=3\/j=4\/j=5\/j=6\/j=7:=by omega
 rcases hc with rfl | rfl | rfl | rfl | rfl | rfl | rfl | rfl <;> rfl
theorem TS (s:aK) (k:Nat):(s.extract (64*k) s.size).extract 64 (s.extract (64*k) s.size).size=s.extract (64*(k+1)) s.size:=by
 rw [ByteArray.extract_extract];congr 1;simp;omega
theorem Jg (s:aK) (k:Nat):ng (s.extract (64*k) s.size)=pq s.data.toList k:=by
 funext q;unfold ng pq;have e:(s.extract (64*k) s.size).data.toList=s.data.toList.drop (64*k):=by
  simp only [ByteArray.data_extract,Array.toList_extract,List.extract_eq_take_drop];rw [List.take_of_length_le (by simp)]
 rw [e,List.getD,List.getD,List.getElem?_drop]
theorem MR (h:List Nat) (hh:h.length=8) (hlt:∀ x∈h,x<4294967296) (s:aK) (hs:s.size<=1000000) (w:World) (hK:∀ i,i<64->w.cell? ⟨0,i,none⟩=some (.int .u32 (kN i:Nat))) :
  Calls prog 125 #[.agg (ac h),.string s] w λe w'=>e = .returned (.agg (ac (mP s.data.toList h (s.size/64))))/\Below w.heap.size w w':=by
 have HL:=hid (yO s.data.toList h hh);have HT:=hid (NC s.data.toList h hlt);have h0:0<w.heap.size:=World.block_lt_of_cell? w _ (hK 0 (by omega));have HK:=hid hK;have vf:Hid ((w.alloc (.cells (ac h) 183)).heap[w.heap.size]? = some (.cells (ac (mP s.data.toList h 0)) 183 (0,0))):=hid (heap_alloc_new _ _);have cS:Hid (s=s.extract (64*0) s.size):=hid (by simp);obtain ⟨A,hA⟩:=av (ac h)
 rw [hA] at vf ⊢;clear hA hh hlt hK;go_enter func125,ntmps125;go_wp2_with (refine gU rfl _ _ (vX _ _ rfl _ (w.heap.size+1) (by simp)) ?_)
 go_frame
 go_loopw [1] (λv wr=>∃ k:Nat,k<=s.size/64/\v = .string (s.extract (64*k) s.size)/\Hid (wr.heap[w.heap.size]? = some (.cells (ac (mP s.data.toList h k)) 183 (0,0)))/\Rg.Own wr (w.heap.size+1) (za 8) 183/\Below w.heap.size w wr) (λv _=>match v with | .string b=>b.size | _=>0)
 case atStart=>exact ⟨0,by omega,by rw [<-cS.out],hid ((Lib.alloc_old _ _ _ (by simp)).trans vf.out),by have:=Rg.Own.new (w.alloc (.cells A 183)) (za 8) 183; rwa [show (w.alloc (.cells A 183)).heap.size=w.heap.size+1 by simp] at this,(aG.alloc aF _).alloc (by simp) _⟩
 case round =>
  obtain ⟨k,hk,rfl,HH,ch,hB⟩:=hrel;have hsz:(s.extract (64*k) s.size).size=s.size-64*k:=by simp
  by_cases hlt:k<s.size/64
  .have h64:64<=(s.extract (64*k) s.size).size:=by omega
   have ei:=FQ (s.extract (64*k) s.size) h64 (by omega);rw [Jg] at ei;have ei:=hid ei;have ke:=hid (iO (pq s.data.toList k) 64);have X5:=hid (vU (pq s.data.toList k) (λq=>UInt8.toNat_lt _) 64);have dl:=sec (show kU (pq s.data.toList k) (mP s.data.toList h k)=mP s.data.toList h (k+1) from rfl);unfold kU at dl;obtain ⟨ws,hws⟩:=av (jR (pq s.data.toList k) 64)
   rw [hws] at ei ke X5 dl;clear hws;have ej:=hid (HL.out k);have D9:=hid (HT.out k);have hBx:w.heap.size<wr.heap.size/\w.heap.size+1<wr.heap.size:=by have:=ch.1; omega
   obtain ⟨H,hH⟩:=av (mP s.data.toList h k)
   rw [hH] at HH ej D9 dl;clear hH;obtain ⟨z,hz⟩:=av (s.extract (64*k) s.size)
   rw [hz] at ei h64 hsz ⊢;have HZ:=sec hz;clear hz;go_upto_region 3 with fail
   go_cut [5,6] (λp q wx=>∃ b c,p = .pointer (some ⟨b,0,none⟩)/\q = .pointer (some ⟨c,0,none⟩)/\b≠c/\wr.heap.size<=b/\wr.heap.size<=c/\Hid (wx.heap[b]? = some (.cells (ac ws) 214 (0,0)))/\Hid (wx.heap[c]? = some (.cells (ac H) 183 (0,0)))/\Below wr.heap.size wr wx)
   case first =>
    refine aB (S:=λw'=>Below wr.heap.size wr w') (aG.drew) λhld=>?_;refine ah 0 ?_;try simp only [ak]
    refine ah 2 ?_ (hy:=by intro wz hSw; refine mE _ _ w.heap.size wz H ?_ (by rw [hSw.block _ hBx.1]; exact HH.out) ej.out; exact ⟨_,rfl,rfl⟩);try simp only [ak]
    refine wpAnyH_ready (rs:=[1,3,4]) (by kernel_rfl) (by simp) ?_;refine Rg.readyC (i:=1) rfl (λK hK=>?_) (Rg.readyC (i:=3) rfl (λK hK=>?_) (Rg.readyL (i:=4) rfl (λK hK=>?_)))
    .go_simp;go_at_call 157
     (with_reducible refine (ei.out _).mono ?_)
     rintro e du ⟨rfl,hbx⟩;refine hK.out _ _ (Below.trans hld (hbx.mono hld.size)) λhld=>?_;clear hK K;try simp only [ak]
     refine wpAnyH_ready (rs:=[3,4]) (by kernel_rfl) (by simp) ?_;refine Rg.readyC (i:=3) rfl (λK hK=>?_) (Rg.readyL (i:=4) rfl (λK hK=>?_))
     .refine Rg.meetAlloc (by rfl) (jH _ _ rfl _) ?_;rintro wv1 b3 kf h3 hbx;have fd:wr.heap.size<=b3:=by rw [kf]; exact Below.size hld
      clear kf;refine hK.out _ _ (Below.trans hld (hbx.mono hld.size)) λhld=>?_;clear hK K hbx;try simp only [ak]
      refine aj 4 λK hK=>?_;refine Rg.meetAlloc (by rfl) (kM _ _ rfl _) ?_;rintro wv2 b4 kh h4 hbx;have ik:wr.heap.size<=b4:=by rw [kh]; exact Below.size hld
      have bz:b3≠b4:=by have:=h3.1; omega
      replace h3:=h3.below hbx;clear kh;refine hK.out _ _ (Below.trans hld (hbx.mono hld.size)) λhld=>?_;clear hK K hbx;try simp only [ak]
      refine aj 5 λK hK=>?_;refine Rg.meetStore (by rfl) h3 214 (ac ws) ⟨_,_,rfl,rfl,rfl⟩ (by rw [bC,ke.out]; exact nC) (by rw [bC,ke.out,za,bC]; simp) (iZ _) ?_;rintro lg hn hu;replace h4:=h4.upd hu (Ne.symm bz);refine hK.out _ _ ?_ (λhld=>?_)
      .exact hu.below hld fd
      replace h3:=hn;clear hK K hn hu;try simp only [Act.put]
      refine aj 6 λK hK=>?_;refine Rg.meetStore (by rfl) h4 183 (ac H) ⟨_,_,rfl,rfl,rfl⟩ (by rw [bC,ej.out]; exact jL) (by rw [bC,ej.out,za,bC]; simp) (iZ _) ?_;rintro By hn hu;replace h3:=h3.upd hu bz;refine hK.out _ _ ?_ (λhld=>?_)
      .exact hu.below hld ik
      replace h4:=hn;clear hK K hn hu;try simp only [Act.put]
      refine aA ?_;go_wp2_with fail
      go_meet
      exact ⟨b3,b4,rfl,rfl,bz,fd,ik,hid h3.2,hid h4.2,hld⟩
     .refine Rg.meetAlloc (by rfl) (kM _ _ rfl _) ?_;rintro wv1 b4 kh h4 hbx;have ik:wr.heap.size<=b4:=by rw [kh]; exact Below.size hld
      clear kh;refine hK.out _ _ (Below.trans hld (hbx.mono hld.size)) λhld=>?_;clear hK K hbx;try simp only [ak]
      refine aj 3 λK hK=>?_;refine Rg.meetAlloc (by rfl) (jH _ _ rfl _) ?_;rintro wv2 b3 kf h3 hbx;have fd:wr.heap.size<=b3:=by rw [kf]; exact Below.size hld
      have bz:b3≠b4:=by have:=h4.1; omega
      replace h4:=h4.below hbx;clear kf;refine hK.out _ _ (Below.trans hld (hbx.mono hld.size)) λhld=>?_;clear hK K hbx;try simp only [ak]
      refine aj 5 λK hK=>?_;refine Rg.meetStore (by rfl) h3 214 (ac ws) ⟨_,_,rfl,rfl,rfl⟩ (by rw [bC,ke.out]; exact nC) (by rw [bC,ke.out,za,bC]; simp) (iZ _) ?_;rintro lg hn hu;replace h4:=h4.upd hu (Ne.symm bz);refine hK.out _ _ ?_ (λhld=>?_)
      .exact hu.below hld fd
      replace h3:=hn;clear hK K hn hu;try simp only [Act.put]
      refine aj 6 λK hK=>?_;refine Rg.meetStore (by rfl) h4 183 (ac H) ⟨_,_,rfl,rfl,rfl⟩ (by rw [bC,ej.out]; exact jL) (by rw [bC,ej.out,za,bC]; simp) (iZ _) ?_;rintro By hn hu;replace h3:=h3.upd hu bz;refine hK.out _ _ ?_ (λhld=>?_)
      .exact hu.below hld ik
      replace h4:=hn;clear hK K hn hu;try simp only [Act.put]
      refine aA ?_;go_wp2_with fail
      go_meet
      exact ⟨b3,b4,rfl,rfl,bz,fd,ik,hid h3.2,hid h4.2,hld⟩
    .refine Rg.meetAlloc (by rfl) (jH _ _ rfl _) ?_;rintro du b3 kf h3 hbx;have fd:wr.heap.size<=b3:=by rw [kf]; exact Below.size hld
     clear kf;refine hK.out _ _ (Below.trans hld (hbx.mono hld.size)) λhld=>?_;clear hK K hbx;try simp only [ak]
     refine wpAnyH_ready (rs:=[1,4]) (by kernel_rfl) (by simp) ?_;refine Rg.readyC (i:=1) rfl (λK hK=>?_) (Rg.readyL (i:=4) rfl (λK hK=>?_))
     .go_simp;go_at_call 157
      (with_reducible refine (ei.out _).mono ?_)
      rintro e wv1 ⟨rfl,hbx⟩;replace h3:=h3.below hbx;refine hK.out _ _ (Below.trans hld (hbx.mono hld.size)) λhld=>?_;clear hK K;try simp only [ak]
      refine aj 4 λK hK=>?_;refine Rg.meetAlloc (by rfl) (kM _ _ rfl _) ?_;rintro wv2 b4 kh h4 hbx;have ik:wr.heap.size<=b4:=by rw [kh]; exact Below.size hld
      have bz:b3≠b4:=by have:=h3.1; omega
      replace h3:=h3.below hbx;clear kh;refine hK.out _ _ (Below.trans hld (hbx.mono hld.size)) λhld=>?_;clear hK K hbx;try simp only [ak]
      refine aj 5 λK hK=>?_;refine Rg.meetStore (by rfl) h3 214 (ac ws) ⟨_,_,rfl,rfl,rfl⟩ (by rw [bC,ke.out]; exact nC) (by rw [bC,ke.out,za,bC]; simp) (iZ _) ?_;rintro lg hn hu;replace h4:=h4.upd hu (Ne.symm bz);refine hK.out _ _ ?_ (λhld=>?_)
      .exact hu.below hld fd
      replace h3:=hn;clear hK K hn hu;try simp only [Act.put]
      refine aj 6 λK hK=>?_;refine Rg.meetStore (by rfl) h4 183 (ac H) ⟨_,_,rfl,rfl,rfl⟩ (by rw [bC,ej.out]; exact jL) (by rw [bC,ej.out,za,bC]; simp) (iZ _) ?_;rintro By hn hu;replace h3:=h3.upd hu bz;refine hK.out _ _ ?_ (λhld=>?_)
      .exact hu.below hld ik
      replace h4:=hn;clear hK K hn hu;try simp only [Act.put]
      refine aA ?_;go_wp2_with fail
      go_meet
      exact ⟨b3,b4,rfl,rfl,bz,fd,ik,hid h3.2,hid h4.2,hld⟩
     .refine Rg.meetAlloc (by rfl) (kM _ _ rfl _) ?_;rintro wv1 b4 kh h4 hbx;have ik:wr.heap.size<=b4:=by rw [kh]; exact Below.size hld
      have bz:b3≠b4:=by have:=h3.1; omega
      replace h3:=h3.below hbx;clear kh;refine hK.out _ _ (Below.trans hld (hbx.mono hld.size)) λhld=>?_;clear hK K hbx;try simp only [ak]
      refine aj 1 λK hK=>?_;go_simp;go_at_call 157
      (with_reducible refine (ei.out _).mono ?_)
      rintro e wv2 ⟨rfl,hbx⟩;replace h3:=h3.below hbx;replace h4:=h4.below hbx;refine hK.out _ _ (Below.trans hld (hbx.mono hld.size)) λhld=>?_;clear hK K;try simp only [ak]
      refine aj 5 λK hK=>?_;refine Rg.meetStore (by rfl) h3 214 (ac ws) ⟨_,_,rfl,rfl,rfl⟩ (by rw [bC,ke.out]; exact nC) (by rw [bC,ke.out,za,bC]; simp) (iZ _) ?_;rintro lg hn hu;replace h4:=h4.upd hu (Ne.symm bz);refine hK.out _ _ ?_ (λhld=>?_)
      .exact hu.below hld fd
      replace h3:=hn;clear hK K hn hu;try simp only [Act.put]
      refine aj 6 λK hK=>?_;refine Rg.meetStore (by rfl) h4 183 (ac H) ⟨_,_,rfl,rfl,rfl⟩ (by rw [bC,ej.out]; exact jL) (by rw [bC,ej.out,za,bC]; simp) (iZ _) ?_;rintro By hn hu;replace h3:=h3.upd hu bz;refine hK.out _ _ ?_ (λhld=>?_)
      .exact hu.below hld ik
      replace h4:=hn;clear hK K hn hu;try simp only [Act.put]
      refine aA ?_;go_wp2_with fail
      go_meet
      exact ⟨b3,b4,rfl,rfl,bz,fd,ik,hid h3.2,hid h4.2,hld⟩
    .refine Rg.meetAlloc (by rfl) (kM _ _ rfl _) ?_;rintro du b4 kh h4 hbx;have ik:wr.heap.size<=b4:=by rw [kh]; exact Below.size hld
     clear kh;refine hK.out _ _ (Below.trans hld (hbx.mono hld.size)) λhld=>?_;clear hK K hbx;try simp only [ak]
     refine wpAnyH_ready (rs:=[1,3]) (by kernel_rfl) (by simp) ?_;refine Rg.readyC (i:=1) rfl (λK hK=>?_) (Rg.readyL (i:=3) rfl (λK hK=>?_))
     .go_simp;go_at_call 157
      (with_reducible refine (ei.out _).mono ?_)
      rintro e wv1 ⟨rfl,hbx⟩;replace h4:=h4.below hbx;refine hK.out _ _ (Below.trans hld (hbx.mono hld.size)) λhld=>?_;clear hK K;try simp only [ak]
      refine aj 3 λK hK=>?_;refine Rg.meetAlloc (by rfl) (jH _ _ rfl _) ?_;rintro wv2 b3 kf h3 hbx;have fd:wr.heap.size<=b3:=by rw [kf]; exact Below.size hld
      have bz:b3≠b4:=by have:=h4.1; omega
      replace h4:=h4.below hbx;clear kf;refine hK.out _ _ (Below.trans hld (hbx.mono hld.size)) λhld=>?_;clear hK K hbx;try simp only [ak]
      refine aj 5 λK hK=>?_;refine Rg.meetStore (by rfl) h3 214 (ac ws) ⟨_,_,rfl,rfl,rfl⟩ (by rw [bC,ke.out]; exact nC) (by rw [bC,ke.out,za,bC]; simp) (iZ _) ?_;rintro lg hn hu;replace h4:=h4.upd hu (Ne.symm bz);refine hK.out _ _ ?_ (λhld=>?_)
      .exact hu.below hld fd
      replace h3:=hn;clear hK K hn hu;try simp only [Act.put]
      refine aj 6 λK hK=>?_;refine Rg.meetStore (by rfl) h4 183 (ac H) ⟨_,_,rfl,rfl,rfl⟩ (by rw [bC,ej.out]; exact jL) (by rw [bC,ej.out,za,bC]; simp) (iZ _) ?_;rintro By hn hu;replace h3:=h3.upd hu bz;refine hK.out _ _ ?_ (λhld=>?_)
      .exact hu.below hld ik
      replace h4:=hn;clear hK K hn hu;try simp only [Act.put]
      refine aA ?_;go_wp2_with fail
      go_meet
      exact ⟨b3,b4,rfl,rfl,bz,fd,ik,hid h3.2,hid h4.2,hld⟩
     .refine Rg.meetAlloc (by rfl) (jH _ _ rfl _) ?_;rintro wv1 b3 kf h3 hbx;have fd:wr.heap.size<=b3:=by rw [kf]; exact Below.size hld
      have bz:b3≠b4:=by have:=h4.1; omega
      replace h4:=h4.below hbx;clear kf;refine hK.out _ _ (Below.trans hld (hbx.mono hld.size)) λhld=>?_;clear hK K hbx;try simp only [ak]
      refine aj 1 λK hK=>?_;go_simp;go_at_call 157
      (with_reducible refine (ei.out _).mono ?_)
      rintro e wv2 ⟨rfl,hbx⟩;replace h4:=h4.below hbx;replace h3:=h3.below hbx;refine hK.out _ _ (Below.trans hld (hbx.mono hld.size)) λhld=>?_;clear hK K;try simp only [ak]
      refine aj 5 λK hK=>?_;refine Rg.meetStore (by rfl) h3 214 (ac ws) ⟨_,_,rfl,rfl,rfl⟩ (by rw [bC,ke.out]; exact nC) (by rw [bC,ke.out,za,bC]; simp) (iZ _) ?_;rintro lg hn hu;replace h4:=h4.upd hu (Ne.symm bz);refine hK.out _ _ ?_ (λhld=>?_)
      .exact hu.below hld fd
      replace h3:=hn;clear hK K hn hu;try simp only [Act.put]
      refine aj 6 λK hK=>?_;refine Rg.meetStore (by rfl) h4 183 (ac H) ⟨_,_,rfl,rfl,rfl⟩ (by rw [bC,ej.out]; exact jL) (by rw [bC,ej.out,za,bC]; simp) (iZ _) ?_;rintro By hn hu;replace h3:=h3.upd hu bz;refine hK.out _ _ ?_ (λhld=>?_)
      .exact hu.below hld ik
      replace h4:=hn;clear hK K hn hu;try simp only [Act.put]
      refine aA ?_;go_wp2_with fail
      go_meet
      exact ⟨b3,b4,rfl,rfl,bz,fd,ik,hid h3.2,hid h4.2,hld⟩
   case rest =>
    obtain ⟨b,c,rfl,rfl,hbc,hgb,hgc,rk,m5,tw⟩:=hcut;obtain ⟨wo,rfl⟩:∃ wo:World,wo=wr:=⟨_,rfl⟩
    clear ei;have hlb:b<wc.heap.size:=by have:=rk.out; rcases Nat.lt_or_ge b wc.heap.size with h' | h'; exact h'; rw [Array.getElem?_eq_none h'] at this; cases this
    have hlc:c<wc.heap.size:=by have:=m5.out; rcases Nat.lt_or_ge c wc.heap.size with h' | h'; exact h'; rw [Array.getElem?_eq_none h'] at this; cases this
    have HB:=hid hB;have ii:=hid tw;have cW:=sec hsz;clear hB tw hsz;go_wp2_with fail
    go_loopw [19] (λi wx=>∃ j:Nat,j<=64/\i = .int .i64 j/\Hid (Rg.Own wx b (ac ws) 214)/\Hid (Rg.Own wx c (ac (rR ws H j)) 183)/\Hid (Below wo.heap.size wo wx)) (λi _=>64-(intOf i).toNat)
    case atStart=>exact ⟨0,by omega,rfl,hid ⟨hlb,rk.out⟩,hid ⟨hlc,m5.out⟩,ii⟩
    case round =>
     clear rk m5 ii hlb hlc;obtain ⟨j,hj,rfl,rk,m5,ii⟩:=hrel;by_cases hlt2:j<64
     .have hkj:=(ii.out.cell (p:=⟨0,j,none⟩) (by show 0<wo.heap.size; omega)).trans ((HB.out.cell (p:=⟨0,j,none⟩) h0).trans (HK.out j hlt2));have PM:wr.cell? ⟨b,j,none⟩=some (.int .u32 (ws.getD j 0:Nat)):=(cell_of_row wr b j _ _ _ rk.out.2).trans (KM ws j (by rw [ke.out]; exact hlt2));have Jx:=hid hkj;have JP:=hid PM;have h0r:0<wr.heap.size:=by have:=ii.out.size; omega
      have hbr:=rk.out.1;have u5:=hid (yZ ws H ej.out j);have PP:=hid (wK ws H D9.out j);have jb:=sec (show sP (kN j) (ws.getD j 0) (rR ws H j)=rR ws H (j+1) from rfl);obtain ⟨L,hL⟩:=av (rR ws H j)
      obtain ⟨kk,hkk⟩:=av (kN j)
      obtain ⟨wk,hwk⟩:=av (ws.getD j 0)
      rw [hL] at m5 u5 PP jb;rw [hkk] at Jx jb;rw [hwk] at JP jb;clear hL hkk hwk hkj PM;have PQ:=hid (Kl kk wk);have l0:(0:Int)<=(j:Int):=by omega
      have l1:(j:Int)<64:=by omega
      go_wp2_with fail
      refine aB (S:=λw'=>Below wr.heap.size wr w') (aG.drew) λhld=>?_;refine ah 0 ?_;try simp only [ak]
      refine ah 1 ?_;try simp only [ak]
      refine ah 2 ?_ (hy:=by intro wz hSw; (have hc:=(hSw.cell (p:=⟨0,j,none⟩) h0r).trans Jx.out); go_simp <;> with_reducible rfl);try simp only [ak]
      refine ah 3 ?_;try simp only [ak]
      refine ah 4 ?_;try simp only [ak]
      refine ah 5 ?_ (hy:=by intro wz hSw; (have hc:=(hSw.cell (p:=⟨b,j,none⟩) hbr).trans JP.out); go_simp <;> with_reducible rfl);try simp only [ak]
      refine aj 6 λK hK=>?_;go_simp;go_at_call 158
      (with_reducible refine (PQ.out _).mono ?_)
      rintro e du ⟨q1,q2,rfl,ho1,ho2,hq12,hg1,hg2,hbx⟩;refine hK.out _ _ (Below.trans hld (hbx.mono hld.size)) λhld=>?_;clear hK K;try simp only [ak]
      refine ah 7 ?_;try simp only [ak]
      refine aA ?_;clear l0 l1 PQ Jx JP;go_wp2_with fail
      refine (VE c q1 q2 kk wk L u5.out PP.out _ (by rw [hbx.block _ m5.out.1]; exact m5.out.2) ho1 ho2).mono ?_;rintro e w4 ⟨rfl,hc4,hg4⟩;have tb:=hid hc4;clear hc4;go_wp2_with fail
      go_roundw
      case rel =>
       have hbl:=rk.out.below hld;refine ⟨j+1,by omega,by go_num,hid ⟨aH hbl.1 hg4.size,(hg4.block _ hbl.1 (by simpa using hbc)).trans hbl.2⟩,hid ⟨aH (m5.out.below hld).1 hg4.size,by rw [<-jb.out]; exact tb.out⟩,hid ((ii.out.trans (hld.mono ii.out.size)).grown hg4 (ii.out.trans (hld.mono ii.out.size)).size (λg hg=>by cases hg; exact hgc))⟩
      case measure=>simp [intOf]; omega
     .have BB:j=64:=by omega
      rw [BB] at m5;clear BB;have JS:=hid (yZ ws H ej.out 64);have PR:=hid (wK ws H D9.out 64);obtain ⟨V,hV⟩:=av (rR ws H 64)
      rw [hV] at m5 JS PR dl;clear hV;have qf:Hid (Rg.Own wr w.heap.size (ac (vB H V 0)) 183):=hid ⟨by have:=ii.out.size; omega,by rw [ii.out.block _ hBx.1,PN _ _ ej.out]; exact HH.out⟩;have cd:Hid (Rg.Own wr (w.heap.size+1) (za 8) 183):=hid ((ch.below (ii.out.mono aF)));have tz:=hid (λj hj wz=>wM V j hj JS.out wz);obtain ⟨AV,JT⟩:=av (ac V)
      have hAs:AV.size=8:=by rw [<-JT,bC,JS.out]
      rw [JT] at m5 tz;have K3:=hid hAs;clear JT hAs rk;go_wp2_with (first | (refine wpList_load_row rfl _ _ rfl c rfl 183 AV (0,0) _ m5.out.2 underlying183 rfl (by rw [K3.out]; exact jL) ?_))
      obtain ⟨wp,rfl⟩:∃ wp:World,wp=wr:=⟨_,rfl⟩
      clear hlt2;go_loopw [33] (λi wx=>∃ q:Nat,q<=8/\i = .int .i64 q/\Hid (Rg.Own wx w.heap.size (ac (vB H V q)) 183)/\Hid (Rg.Upd wp w.heap.size wx)) (λi _=>8-(intOf i).toNat)
      case atStart=>exact ⟨0,by omega,rfl,qf,hid ⟨rfl,rfl,rfl,rfl,λ_ _=>rfl⟩⟩
      case round =>
       clear qf;obtain ⟨q,hq,rfl,qf,rl⟩:=hrel;by_cases hlt3:q<8
       .have hix:=tz.out q hlt3;have hcl:=(cell_of_row wr w.heap.size q _ _ _ qf.out.2).trans (KM (vB H V q) q (by rw [pI]; exact hlt3));have hfz:=frozen_of_row wr w.heap.size q _ _ qf.out.2;rw [PL H V q hlt3] at hcl;have HN:=sec (Vt H V q hlt3);have bx:=getD_lt D9.out q;have bv:=getD_lt PR.out q;obtain ⟨x,hx⟩:=av (H.getD q 0)
        obtain ⟨y,hy⟩:=av (V.getD q 0)
        rw [hx] at hcl bx HN;rw [hy] at hix bv HN;clear hx hy;have hv:((x:Int)+y)%4294967296=((x+y)%4294967296:Nat):=by omega
        have X6:=sec hv;clear hv;go_wp2;go_roundw
        case rel =>
         refine ⟨q+1,by omega,by go_num,?_,?_⟩
         .rw [X6.out];exact hid ⟨by simpa using qf.out.1,by rw [heap_setCell_same _ _ _ _ _ _ qf.out.2,Yh,HN.out]⟩
         .exact hid ⟨rl.out.os,rl.out.tape,rl.out.output,by simpa using rl.out.size,λk hk=>(heap_setCell_other _ _ _ _ hk).trans (rl.out.block k hk)⟩
        case measure=>simp [intOf]; omega
       .obtain rfl:q=8:=by omega
        have HF:Hid (Rg.Own wr w.heap.size (ac (mP s.data.toList h (k+1))) 183):=hid (by rw [<-dl.out,<-Rs]; exact qf.out);have cM:Hid (Rg.Own wr (w.heap.size+1) (za 8) 183):=hid (cd.out.upd rl.out (by omega));have cg:Hid (Below w.heap.size w wr):=hid (rl.out.below (HB.out.trans (ii.out.mono HB.out.size)) aF);have HE:Hid (z.extract 64 (s.size-64*k)=s.extract (64*(k+1)) s.size):=hid (by rw [<-cW.out,<-HZ.out]; exact TS s k);have hz3:z.size=s.size-64*k:=cW.out
        have X7:Hid ((s.extract (64*(k+1)) s.size).size=s.size-64*(k+1)):=hid (by simp);have hzs:64<=(z.size:Int):=by omega
        clear qf rl cd tz hlt3 hq;go_wp2;go_roundw
        case rel=>exact ⟨k+1,by omega,by rw [<-HE.out],hid HF.out.2,cM.out,cg.out⟩
        case measure =>
         show (z.extract 64 (s.size-64*k)).size<z.size;rw [HE.out,X7.out];omega
  .obtain rfl:k=s.size/64:=by omega
   have ej:=hid (HL.out (s.size/64));obtain ⟨H,hH⟩:=av (mP s.data.toList h (s.size/64))
   have X8:=sec hH;rw [hH] at HH ej;have ch:=hid ch;clear hH vf cS;have hsz2:((s.extract (64*(s.size/64)) s.size).size:Int)<64:=by omega
   obtain ⟨z,hz⟩:=av (s.extract (64*(s.size/64)) s.size)
   rw [hz] at hsz2 ⊢;clear hz hsz hlt hk;go_wp2_with (first | (refine wpList_load_row rfl _ _ rfl w.heap.size rfl 183 (ac H) (0,0) _ HH.out underlying183 rfl (by rw [bC,ej.out]; exact jL) ?_) | (refine wpList_store_rowTo rfl 183 _ _ rfl rfl _ (ac H) rfl rfl 183 (za 8) ch.out.2 (by rw [bC,ej.out]; exact jL) (by rw [bC,ej.out,za,bC]; simp) (iZ _) ?_))
   exact bodyPost_ret (results_cell_row rfl _ _ (w.heap.size+1) 183 (ac H) (0,0) _ rfl (setRow_heap _ _ _ _ _ _ ch.out.2) underlying183 rfl (by rw [bC,ej.out]; exact jL)) rfl ⟨by rw [X8.out],fQ hB (by omega) _⟩
def kc (k:aL):aM:=(k.map λb=>Value.int .u8 b.toNat).toArray
theorem mg (k:aL):(kc k).size=k.length:=by simp [kc]
theorem Lx (k:aL):(kc k).all (·.oneCell')=true:=by
 rw [Array.all_eq_true];intro i hi;simp [kc];rfl
theorem SH:(prog.info? 152).map (·.size)=some 32:=by kernel_rfl
theorem uI (k:aL) (h:k.length=32):(prog.info? 152).map (·.size)=some (kc k).size:=by rw [mg,h]; exact SH
def zk:aL:=List.replicate 32 0
theorem uT (ev:Operand->Value) (o:Oper) (ho:o.op = .alloc 152) (w:World) (n:Nat) (hn:w.heap.size=n) :
  (execOp ev o).run prog w = .ok (.value (.pointer (some ⟨n,0,none⟩))) (w.alloc (.cells (kc zk) 152)):=by
 subst hn;unfold execOp;rw [ho];kernel_rfl
theorem XQ (l:aL) {f:Nat->Value} (h:w.rowIs g t 32 f) (hl:l.length=32) (hf:∀ j,j<32->f j = .int .u8 (l.getD j 0).toNat):w.heap[g]? = some (.cells (kc l) t (0,0)):=by
 obtain ⟨c,hg,hs,hc⟩:=h;have:c=kc l:=by
  apply Array.ext
  .rw [hs,mg,hl]
  .intro i hi h2;have h1:=hc i (by omega);rw [hf i (by omega),Array.getElem?_eq_getElem hi] at h1;have h3:=Option.some.inj h1;rw [h3];have h4:i<l.length:=by omega
   simp [kc,List.getD,h4]
 rw [hg,this]
theorem XM (h:w.heap[g]? = some (.cells (kc zk) t (0,0))):w.rowIs g t 32 (λ_=>.int .u8 0) :=
 ⟨_,h,rfl,λi hi=>by
  show ((zk.map λb=>Value.int .u8 b.toNat).toArray)[i]? = _;have hz:zk[i]? = some 0:=by
   unfold zk;rw [List.getElem?_replicate,if_pos hi]
  rw [List.getElem?_toArray,List.getElem?_map,hz];rfl⟩
theorem start_lt:∀ x∈Sh.start,x<4294967296:=by decide
theorem Ue (s:aK) (m:Nat) (hm:m=s.size-s.size%64) :
  mP ((s.extract m s.size).data.toList++qC s.size) (mP (s.extract 0 m).data.toList Sh.start ((s.extract 0 m).size/64)) (((s.extract m s.size).data.toList++qC s.size).length/64)=oG (iL s.data.toList) ((iL s.data.toList).length/64):=by
 have e1:(s.extract 0 m).data.toList=s.data.toList.take m:=by simp
 have e2:(s.extract m s.size).data.toList=s.data.toList.drop m:=by
  simp only [ByteArray.data_extract,Array.toList_extract,List.extract_eq_take_drop];rw [List.take_of_length_le (by simp)]
 have hl:s.data.toList.length=s.size:=by simp
 have e3:(s.extract 0 m).size=m:=by simp; omega
 have e4:iL s.data.toList=s.data.toList.take m++(s.data.toList.drop m++qC s.size):=by
  rw [Qt,hl,<-List.append_assoc,List.take_append_drop]
 have hmd:=DU s.data.toList;rw [e1,e2,e3,<-BG,e4];rw [e4] at hmd;have hlen:(s.data.toList.take m++(s.data.toList.drop m++qC s.size)).length=m+(s.data.toList.drop m++qC s.size).length:=by
  rw [List.length_append,List.length_take,hl];congr 1;omega
 rw [hlen] at hmd ⊢;rw [show (m+(s.data.toList.drop m++qC s.size).length)/64=m/64+(s.data.toList.drop m++qC s.size).length/64 by omega];exact (Dp _ _ (m/64) (by rw [List.length_take,hl]; omega) _ _).symm
theorem EJ (s:aK) (hs:s.size<=900000) (w:World) (hK:∀ i,i<64->w.cell? ⟨0,i,none⟩=some (.int .u32 (kN i:Nat))) :
  Calls prog 93 #[.string s] w λe w'=>e = .returned (.agg (kc (EL s.data.toList)))/\Below w.heap.size w w':=by
 have h0:0<w.heap.size:=World.block_lt_of_cell? w _ (hK 0 (by omega));have HK:=hid hK;have ae:=hid (Fq s.size (by omega));obtain ⟨m,hm⟩:=av (s.size-s.size%64)
 have X9:(s.size:Int)-s.size%64=m:=by omega
 have hml:m<=s.size:=by omega
 have hF:=Ue s m hm.symm;have ro:=hid (yO (s.extract 0 m).data.toList Sh.start rfl ((s.extract 0 m).size/64));have hT1:=NC (s.extract 0 m).data.toList Sh.start start_lt ((s.extract 0 m).size/64);have bc:=hid (λW hk=>MR Sh.start rfl start_lt (s.extract 0 m) (by simp; omega) W hk);obtain ⟨M1,hM1⟩:=av (mP (s.extract 0 m).data.toList Sh.start ((s.extract 0 m).size/64))
 rw [hM1] at ro hT1 hF bc;obtain ⟨s2,hs2⟩:=av (s.extract m s.size++⟨(qC s.size).toArray⟩)
 have hd2:s2.data.toList=(s.extract m s.size).data.toList++qC s.size:=by rw [<-hs2,ByteArray.data_append]; simp
 have hz2:s2.size=((s.extract m s.size).data.toList++qC s.size).length:=by rw [<-hd2]; simp
 have hz:gV s.size<64:=Nat.mod_lt _ (by omega);have cm:=hid (λW hk=>MR M1 ro.out hT1 s2 (by rw [hz2,List.length_append,sV]; simp; omega) W hk);rw [<-hd2,show s2.data.toList.length=s2.size by simp] at hF;rw [hF] at cm;have tA:=hid (vY (iL s.data.toList) ((iL s.data.toList).length/64));have HT2:=hid (Iu (iL s.data.toList) ((iL s.data.toList).length/64));have HS:=sec (show uW (oG (iL s.data.toList) ((iL s.data.toList).length/64)) 32=EL s.data.toList from rfl);obtain ⟨M2,hM2⟩:=av (oG (iL s.data.toList) ((iL s.data.toList).length/64))
 rw [hM2] at cm tA HT2 HS;have HS2:=hid hs2;clear hT1 hF hd2 hz2 hz hM2 hs2;clear hK hm hM1;go_enter func93,ntmps93;go_upto_region 3 with (first | (refine gU rfl _ _ (uT _ _ rfl _ w.heap.size rfl) ?_) | (refine gU rfl _ _ (vX _ _ rfl _ (w.heap.size+1) (by simp)) ?_) | (refine wpList_store_rowTo rfl 183 _ _ rfl rfl (w.heap.size+1) (ac Sh.start) rfl rfl 183 (za 8) (by have:=heap_alloc_new (w.alloc (.cells (kc zk) 152)) (.cells (za 8) 183); simpa using this) jL rfl (iZ _) ?_))
 have h2:Rg.Own (((w.alloc (.cells (kc zk) 152)).alloc (.cells (za 8) 183)).setRow (w.heap.size+1) (ac Sh.start)) w.heap.size (kc zk) 152 :=
  ((Rg.Own.new w _ _).below (aG.alloc aF _)).upd (Rg.Upd.set _ _ _) (by omega)
 have h3:Rg.Own (((w.alloc (.cells (kc zk) 152)).alloc (.cells (za 8) 183)).setRow (w.heap.size+1) (ac Sh.start)) (w.heap.size+1) (ac Sh.start) 183 :=
  ⟨by simp,setRow_heap _ _ _ _ _ _ (by have:=heap_alloc_new (w.alloc (.cells (kc zk) 152)) (.cells (za 8) 183); simpa using this)⟩
 have hB0:Below w.heap.size w (((w.alloc (.cells (kc zk) 152)).alloc (.cells (za 8) 183)).setRow (w.heap.size+1) (ac Sh.start)) :=
  fQ ((aG.alloc aF _).alloc (by simp) _) (by omega) _
 generalize (((w.alloc (.cells (kc zk) 152)).alloc (.cells (za 8) 183)).setRow (w.heap.size+1) (ac Sh.start))=W0 at h2 h3 hB0 ⊢;have ZY:w.heap.size<=w.heap.size:=aF;have fd:w.heap.size<=w.heap.size+1:=by omega
 have o0:w.heap.size≠w.heap.size+1:=by omega
 refine aB (S:=λw'=>Below w.heap.size w w') (hB0.drew) λhld=>?_;replace h2:=h2.drew;replace h3:=h3.drew;refine ah 1 ?_;try simp only [ak]
 refine ah 2 ?_;try simp only [ak]
 refine ah 3 ?_;try simp only [ak]
 refine aj 0 λK hK=>?_;refine Rg.meet (by rfl) _ _ (mE _ _ (w.heap.size+1) _ Sh.start ?_ h3.2 rfl) ?_
 .exact ⟨_,rfl,rfl⟩
 refine hK.out _ _ (hld) λhld=>?_;clear hK K;try simp only [ak]
 refine aj 4 λK hK=>?_;go_simp;go_at_call 125
 (with_reducible refine (bc.out _ (λi hi=>(hld.cell (p:=⟨0,i,none⟩) h0).trans (HK.out i hi))).mono ?_)
 rintro e du ⟨rfl,hbx⟩;replace h2:=h2.below hbx;replace h3:=h3.below hbx;refine hK.out _ _ (Below.trans hld (hbx.mono hld.size)) λhld=>?_;clear hK K;try simp only [ak]
 refine aj 5 λK hK=>?_;refine Rg.meetStore (by rfl) h3 183 (ac M1) ⟨_,_,rfl,rfl,rfl⟩ (by rw [bC,ro.out]; exact jL) (by rw [bC,bC,ro.out]; exact rfl) (iZ _) ?_;rintro wv1 hn hu;replace h2:=h2.upd hu o0;refine hK.out _ _ ?_ (λhld=>?_)
 .exact hu.below hld fd
 replace h3:=hn;clear hK K hn hu;try simp only [Act.put]
 refine aA ?_;go_wp2_with fail
 have hB1:=hld;clear hld;go_cut [3] (λp wx=>p = .pointer (some ⟨w.heap.size+1,0,none⟩)/\Hid (Rg.Own wx w.heap.size (kc zk) 152)/\Hid (Rg.Own wx (w.heap.size+1) (ac M2) 183)/\Hid (Below w.heap.size w wx))
 case first =>
  have hs2:=HS2.out;have CL:Hid (¬ 9223372036854775807<s.size-m+(qC s.size).length):=hid (by have hz:gV s.size<64:=Nat.mod_lt _ (by omega); rw [sV]; omega);refine aB (S:=λw'=>Below w.heap.size w w') (hB1.drew) λhld=>?_;replace h2:=h2.drew;replace h3:=h3.drew;refine ah 1 ?_;try simp only [ak]
  refine ah 2 ?_;try simp only [ak]
  refine ah 3 ?_;try simp only [ak]
  refine ah 4 ?_;try simp only [ak]
  refine ah 5 ?_;try simp only [ak]
  refine wpAnyH_ready (rs:=[0,6]) (by kernel_rfl) (by simp) ?_;refine Rg.readyC (i:=0) rfl (λK hK=>?_) (Rg.readyL (i:=6) rfl (λK hK=>?_))
  .refine Rg.meet (by rfl) _ _ (mE _ _ (w.heap.size+1) _ M1 ?_ h3.2 ro.out) ?_
   .exact ⟨_,rfl,rfl⟩
   refine hK.out _ _ (hld) λhld=>?_;clear hK K;try simp only [ak]
   refine aj 6 λK hK=>?_;go_simp;go_at_call 126
   (with_reducible refine (ae.out _).mono ?_)
   rintro e du ⟨rfl,hbx⟩;replace h2:=h2.below hbx;replace h3:=h3.below hbx;refine hK.out _ _ (Below.trans hld (hbx.mono hld.size)) λhld=>?_;clear hK K;try simp only [ak]
   refine ah 7 ?_ (hy:=by intro wz hSw; (have hcc:=CL.out); go_simp <;> with_reducible rfl);try simp only [ak]
   refine aj 8 λK hK=>?_;go_simp;go_at_call 125
   (with_reducible refine (cm.out _ (λi hi=>(hld.cell (p:=⟨0,i,none⟩) h0).trans (HK.out i hi))).mono ?_)
   rintro e wv1 ⟨rfl,hbx⟩;replace h2:=h2.below hbx;replace h3:=h3.below hbx;refine hK.out _ _ (Below.trans hld (hbx.mono hld.size)) λhld=>?_;clear hK K;try simp only [ak]
   refine aj 9 λK hK=>?_;refine Rg.meetStore (by rfl) h3 183 (ac M2) ⟨_,_,rfl,rfl,rfl⟩ (by rw [bC,tA.out]; exact jL) (by rw [bC,bC,tA.out]; exact ro.out) (iZ _) ?_;rintro wv2 hn hu;replace h2:=h2.upd hu o0;refine hK.out _ _ ?_ (λhld=>?_)
   .exact hu.below hld fd
   replace h3:=hn;clear hK K hn hu;try simp only [Act.put]
   refine aA ?_;go_wp2_with fail
   go_meet
   exact ⟨rfl,hid h2,hid h3,hid hld⟩
  .go_simp;go_at_call 126
   (with_reducible refine (ae.out _).mono ?_)
   rintro e du ⟨rfl,hbx⟩;replace h2:=h2.below hbx;replace h3:=h3.below hbx;refine hK.out _ _ (Below.trans hld (hbx.mono hld.size)) λhld=>?_;clear hK K;try simp only [ak]
   refine ah 7 ?_ (hy:=by intro wz hSw; (have hcc:=CL.out); go_simp <;> with_reducible rfl);try simp only [ak]
   refine aj 0 λK hK=>?_;refine Rg.meet (by rfl) _ _ (mE _ _ (w.heap.size+1) _ M1 ?_ h3.2 ro.out) ?_
   .exact ⟨_,rfl,rfl⟩
   refine hK.out _ _ (hld) λhld=>?_;clear hK K;try simp only [ak]
   refine aj 8 λK hK=>?_;go_simp;go_at_call 125
   (with_reducible refine (cm.out _ (λi hi=>(hld.cell (p:=⟨0,i,none⟩) h0).trans (HK.out i hi))).mono ?_)
   rintro e wv1 ⟨rfl,hbx⟩;replace h2:=h2.below hbx;replace h3:=h3.below hbx;refine hK.out _ _ (Below.trans hld (hbx.mono hld.size)) λhld=>?_;clear hK K;try simp only [ak]
   refine aj 9 λK hK=>?_;refine Rg.meetStore (by rfl) h3 183 (ac M2) ⟨_,_,rfl,rfl,rfl⟩ (by rw [bC,tA.out]; exact jL) (by rw [bC,bC,tA.out]; exact ro.out) (iZ _) ?_;rintro wv2 hn hu;replace h2:=h2.upd hu o0;refine hK.out _ _ ?_ (λhld=>?_)
   .exact hu.below hld fd
   replace h3:=hn;clear hK K hn hu;try simp only [Act.put]
   refine aA ?_;go_wp2_with fail
   go_meet
   exact ⟨rfl,hid h2,hid h3,hid hld⟩
 case rest =>
  obtain ⟨rfl,H2,H3,HB⟩:=hcut;obtain ⟨W,rfl⟩:∃ W:World,W=wc:=⟨_,rfl⟩
  have h3:=H3.out;have PT:Hid ((W.alloc (.cells (kc zk) 152)).heap[w.heap.size+1]? = some (.cells (ac M2) 183 (0,0))):=hid ((Lib.alloc_old _ _ _ h3.1).trans h3.2);have im:Hid ((W.alloc (.cells (kc zk) 152)).rowIs W.heap.size 152 32 (λj=>.int .u8 (if j<4*0 then uV M2 j else 0:Nat))):=hid ((XM (heap_alloc_new _ _)).congr (λj _=>by rw [if_neg (by omega)]; rfl));have tz:=hid (λj hj wz=>wM M2 j hj tA.out wz);have B6:=hid (λj=>getD_lt HT2.out j);obtain ⟨A,hA⟩:=av (ac M2)
  have K3:Hid (A.size=8):=hid (by rw [<-hA,bC,tA.out]);rw [hA] at PT tz;clear h3 hA ae bc cm X9 h2 hB1 hld hbx;go_wp2_with (first | (refine gU rfl _ _ (uT _ _ rfl _ _ rfl) ?_) | (refine wpList_load_row rfl _ _ rfl (w.heap.size+1) rfl 183 A (0,0) _ PT.out underlying183 rfl (by rw [K3.out]; exact jL) ?_))
  go_loopw [30] (λi wx=>∃ q:Nat,q<=8/\i = .int .i64 q/\Hid (wx.rowIs W.heap.size 152 32 (λj=>.int .u8 (if j<4*q then uV M2 j else 0:Nat)))/\Hid (Below W.heap.size W wx)) (λi _=>8-(intOf i).toNat)
  case atStart=>exact ⟨0,by omega,rfl,im,hid (aG.alloc aF _)⟩
  case round =>
   clear im;obtain ⟨q,hq,rfl,HR,li⟩:=hrel;by_cases hlt:q<8
   .have hix:=tz.out q hlt;have hxl:=B6.out q;have dg:=zC W.heap.size (4*q) 4 (32-4*q) (M2.getD q 0) 32 152 _ wr HR.out (by omega) (by omega);have Q4:Hid ((oU wr W.heap.size (4*q) 4 (M2.getD q 0) 4).rowIs W.heap.size 152 32 (λj=>.int .u8 (if j<4*(q+1) then uV M2 j else 0:Nat))):=hid ((uq HR.out 4).congr (λj _=>by
     by_cases h1:4*q<=j/\j<4*q+4
     .rw [if_pos h1,if_pos (by omega)];unfold upB uV;rw [show j/4=q by omega,show 4-1-(j-4*q)=3-j%4 by omega]
     .rw [if_neg h1];by_cases h2:j<4*q
      .rw [if_pos h2,if_pos (by omega)]
      .rw [if_neg h2,if_neg (by omega)]))
    have Q5:Hid (Below W.heap.size W (oU wr W.heap.size (4*q) 4 (M2.getD q 0) 4)):=hid (rP li.out aF 4);obtain ⟨x,hx⟩:=av (M2.getD q 0)
    rw [hx] at hix hxl dg Q4 Q5;have dg:=hid dg;clear hx;have l0:(0:Int)<=4*(q:Int):=by omega
    have l1:4*(q:Int)<=4*(q:Int)+4:=by omega
    have l2:4*(q:Int)+4<=32:=by omega
    have l3:(4*(q:Int)).toNat=4*q:=by omega
    have l4:(4*(q:Int)+4).toNat=4*q+4:=by omega
    have l5:¬ 32=4*q:=by omega
    go_wp2_with fail
    refine dg.out.mono ?_;rintro e w3 ⟨rfl,rfl⟩;clear l0 l1 l2 l3 l4 l5 dg hix;go_wp2;go_roundw
    case rel=>exact ⟨q+1,by omega,by go_num,Q4,Q5⟩
    case measure=>simp [intOf]; omega
   .obtain rfl:q=8:=by omega
    have HF:Hid (wr.heap[W.heap.size]? = some (.cells (kc (EL s.data.toList)) 152 (0,0))):=hid (XQ _ HR.out (sM _) (λj hj=>by
     rw [if_pos (by omega),<-HS.out];simp [uW,List.getD,hj];unfold uV;omega))
    have Q7:Hid (Rg.Own wr w.heap.size (kc zk) 152):=hid (H2.out.below li.out);have HB2:Hid (Below w.heap.size w wr):=hid (HB.out.trans (li.out.mono HB.out.size));have hkl:=sM s.data.toList;obtain ⟨K,hK⟩:=av (EL s.data.toList)
    have HKK:=sec hK;rw [hK] at hkl HF;have Dd:=hid hkl;clear hK hkl HR tz B6;go_wp2_with (first | (refine wpList_load_row rfl _ _ rfl W.heap.size rfl 152 (kc K) (0,0) _ HF.out underlying152 rfl (uI K Dd.out) ?_) | (refine wpList_store_rowTo rfl 152 _ _ rfl rfl _ (kc K) rfl rfl 152 (kc zk) Q7.out.2 (uI K Dd.out) (by rw [mg,mg,Dd.out]; rfl) (Lx _) ?_))
    exact bodyPost_ret (results_cell_row rfl _ _ w.heap.size 152 (kc K) (0,0) _ rfl (setRow_heap _ _ _ _ _ _ Q7.out.2) underlying152 rfl (uI K Dd.out)) rfl ⟨by rw [HKK.out],fQ HB2.out (by omega) _⟩
end Sm
end
section
namespace kj
end kj
end
section
open Go.RowKit kj
end
section
open Go.RowKit kj
end
section
open Go.RowKit kj
namespace Tx
end Tx
namespace Rx
end Rx
end
section
open Go.RowKit
namespace Ni
end Ni
end
section
open Go.RowKit
namespace Sm
open Sh
def Tab (w:World):Prop:=∀ i,i<64->w.cell? ⟨0,i,none⟩=some (.int .u32 (kN i:Nat))
theorem Tab.pos (h:Tab w):0<w.heap.size:=World.block_lt_of_cell? w _ (h 0 (by omega))
theorem Tab.below {w':World} (h:Tab w) (hb:Below B w w') (hB:0<B):Tab w':=λi hi=>(hb.cell (p:=⟨0,i,none⟩) hB).trans (h i hi)
theorem WK (w:World) (k:aL) (hk:k.length=32):bq (w.alloc (.cells (kc k) 152)) (some ⟨w.heap.size,0,none⟩) 32 32 k:=by
 have h:=bq.new w k (by unfold maxLen; omega) (kc k) 152 rfl;rw [hk] at h;exact h
theorem kZ (k:aL) (hk:k.length=32) (w:World) :
  Calls prog 92 #[.agg (kc k)] w λe w'=>e = .returned (.string ⟨k.toArray⟩)/\Below w.heap.size w w':=by
 have hcv:=lu (WK w k hk);obtain ⟨C,hC⟩:=av (kc k)
 obtain ⟨T,hT⟩:=av (⟨k.toArray⟩:aK)
 rw [hC,hT] at hcv;rw [hC,hT];clear hC hT hk;go_enter func92,ntmps92;go_wp2;go_ret;exact ⟨rfl,aG.alloc aF _⟩
end Sm
end
end Go.Proofs.YtlcplcgigjagpaaGreatDoor
