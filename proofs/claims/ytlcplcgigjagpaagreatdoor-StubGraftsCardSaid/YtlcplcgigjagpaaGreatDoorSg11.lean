/-
 sync.Once, one goroutine: its parts, each a contract of its own; doSlow and Do over whatever function is handed to them.
-/
import Derived.Test.YtlcplcgigjagpaaGreatDoorSg10
open Go.Lib (hid)
open Go.Proofs.Tryz
set_option linter.unusedSimpArgs false
set_option linter.unusedVariables false
set_option maxHeartbeats 40000000
set_option maxRecDepth 100000
namespace Go.Proofs.YtlcplcgigjagpaaGreatDoor
variable {o:Oper} {a pa:aJ} {w w' w1 w2:World} {K:Act->World->Prop} {Q:Exit->Act->World->Prop} {ops:Array Oper} {v:Value} {L c g j kn:Nat} {r:aK} {cs:aM} {e t:TypeId}
section
open Go.RowKit
namespace On
theorem disable (w:World):(callFunc 169 #[]).run prog w = .ok (.value (.tuple #[])) w:=run_call_mark0 func169 (by kernel_rfl) (by kernel_rfl) (by kernel_rfl) .disable (by kernel_rfl) w
theorem enable (w:World):(callFunc 171 #[]).run prog w = .ok (.value (.tuple #[])) w:=run_call_mark0 func171 (by kernel_rfl) (by kernel_rfl) (by kernel_rfl) .enable (by kernel_rfl) w
theorem acquire (a:Addr) (w:World):(callFunc 172 #[.pointer (some a)]).run prog w = .ok (.value (.tuple #[])) w:=run_call_marked func172 (by kernel_rfl) (by kernel_rfl) (by kernel_rfl) .acquire (by kernel_rfl) a w
theorem releaseMerge (a:Addr) (w:World):(callFunc 174 #[.pointer (some a)]).run prog w = .ok (.value (.tuple #[])) w:=run_call_marked func174 (by kernel_rfl) (by kernel_rfl) (by kernel_rfl) .releaseMerge (by kernel_rfl) a w
theorem Aq (a:Addr) (x:Value) (u:FrameMode) (w:World) (hc:w.cell? a=some x) (hz:w.frozen? a=false) :
  CallsD prog 124 #[.pointer (some a),.bool true] u w λe u' w'=>u'=u/\(e = .returned (.tuple #[])/\w'=w.drew.setCell a (.int .u32 1)):=by
 have hc':w.drew.cell? a=some x:=by go_simp
 have hz':w.drew.frozen? a=false:=by go_simp
 have hst:=run_call_store (P:=prog) func155 (by kernel_rfl) (by kernel_rfl) (by kernel_rfl) (by kernel_rfl) (k:=.u32) (y:=1) hc' hz';go_enter_d func124,ntmps124
 go_wp2;go_region_calls
 all_goals (go_end0; exact ⟨rfl,rfl⟩)
theorem unlock_deferred (a:Addr) (u:FrameMode) (w:World) (hc:w.cell? a=some (.int .i32 1)) (hz:w.frozen? a=false) :
  CallsD prog 123 #[.pointer (some a)] u w λe u' w'=>u'=u/\(e = .returned (.tuple #[])/\w'=w.setCell a (.int .i32 0)):=by
 have hd:=disable;have he:=enable;have hr:=releaseMerge;have hadd:=run_call_add (P:=prog) func175 (by kernel_rfl) (by kernel_rfl) (by kernel_rfl) .i32 (by kernel_rfl) (y := -1) (s:=0) hc hz (by simp [go_sem]; rfl);have hcv:=run_convert_to_unsafe (P:=prog) (src:=226) (dst:=230) underlying226 underlying230 (by kernel_rfl) hc;go_enter_d func123,ntmps123
 go_wp2;go_end0;all_goals (try go_wp2)
 all_goals (try go_end0)
 all_goals exact ⟨rfl,rfl⟩
theorem lock_free (a:Addr) (w:World) (hc:w.cell? a=some (.int .i32 0)) (hz:w.frozen? a=false) :
  Calls prog 122 #[.pointer (some a)] w λe w'=>e = .returned (.tuple #[])/\w'=w.setCell a (.int .i32 1):=by
 have hd:=disable;have he:=enable;have ha:=acquire;have hcas:=run_call_cas_hit (P:=prog) func170 (by kernel_rfl) (by kernel_rfl) (by kernel_rfl) .i32 (by kernel_rfl) (y:=1) hc hz;have hc':(w.setCell a (.int .i32 1)).cell? a=some (.int .i32 1):=World.cell?_setCell_same w a _ hc;have hcv:=run_convert_to_unsafe (P:=prog) (src:=226) (dst:=230) underlying226 underlying230 (by kernel_rfl) hc';go_enter func122,ntmps122;go_wp2
 first | go_end0 | (simp only [Exit.inBlock,Exit.then]; refine bodyPost_ret (results_none rfl _ _ _) rfl ?_) | refine bodyPost_ret (results_none rfl _ _ _) rfl ?_
 all_goals (try go_wp2)
 all_goals (try go_end0)
 all_goals exact ⟨rfl,rfl⟩
def Held (w:World) (b off:Nat):Prop:=(w.cell? ⟨b,off,none⟩=some (.int .u32 0)/\w.frozen? ⟨b,off,none⟩=false)/\w.cell? ⟨b,off+1,none⟩=some (.int .i32 1)/\w.frozen? ⟨b,off+1,none⟩=false
theorem Te (D:FuncId) (caps:aM) (hD:∀ w,(callFunc D caps).run prog w = .ok (.enter D caps) w) (b off:Nat) (w:World) (R:World->Prop)
  (h0:w.cell? ⟨b,off,none⟩=some (.int .u32 0)) (h1:w.cell? ⟨b,off+1,none⟩=some (.int .i32 0)) (f1:w.frozen? ⟨b,off+1,none⟩=false)
  (h:Calls prog D caps (w.setCell ⟨b,off+1,none⟩ (.int .i32 1)) λe w'=>e = .returned (.tuple #[])/\Held w' b off/\R w') :
  Calls prog 91 #[.pointer (some ⟨b,off,none⟩),.func (.func D) #[] caps] w λe w'=>e = .returned (.tuple #[])/\∃ w1,R w1/\w'=(w1.drew.setCell ⟨b,off,none⟩ (.int .u32 1)).setCell ⟨b,off+1,none⟩ (.int .i32 0):=by
 have hl:=run_call_load (P:=prog) func121 (by kernel_rfl) (by kernel_rfl) (by kernel_rfl) .u32 (by kernel_rfl) (w:=w.setCell ⟨b,off+1,none⟩ (.int .i32 1)) (a:=⟨b,off,none⟩) (x:=0) ((World.cell?_setCell_other _ ⟨b,off+1,none⟩ ⟨b,off,none⟩ _ (by simp)).trans h0);have hnot:∀ (x:Bool) (w:World),(Op.unary .not (.bool x)).run prog w = .ok (.bool (!x)) w:=λ_ _=>rfl;have H:=hid h;clear h;go_enter_defers func91,ntmps91
 go_wp2_with (first | (go_at_call 122; refine (lock_free ⟨b,off+1,none⟩ _ h1 f1).mono ?_; rintro e w' ⟨rfl,rfl⟩) | (go_at_call 90; go_in))
 refine H.out.mono ?_;rintro e w1 ⟨rfl,⟨⟨g0,z0⟩,g1,z1⟩,hR⟩;have HR:=hid hR;clear hR H;go_wp2;refine leaves_cons (f:=124) (args:=#[.pointer (some ⟨b,off,none⟩),.bool true]) (by simp) (by simp [go_sem]) ?_;refine (Aq ⟨b,off,none⟩ (.int .u32 0) .returning _ g0 z0).mono ?_;rintro e u' w'' ⟨rfl,rfl,rfl⟩;refine leaves_cons (f:=123) (args:=#[.pointer (some ⟨b,off+1,none⟩)]) (by simp [settle]) (by simp [go_sem]) ?_;refine (unlock_deferred ⟨b,off+1,none⟩ _ _ ?_ (by simp [z1])).mono ?_
 .refine (World.cell?_setCell_other _ ⟨b,off,none⟩ ⟨b,off+1,none⟩ _ (by simp)).trans ?_;rw [World.cell?_drew];exact g1
 rintro e u' w'' ⟨rfl,rfl,rfl⟩;have hR:=HR.out;simp [Leaves,settle,results,Tryz.results91];exact ⟨w1,hR,rfl⟩
theorem Ry (D:FuncId) (caps:aM) (hD:∀ w,(callFunc D caps).run prog w = .ok (.enter D caps) w) (b off:Nat) (w:World) (R:World->Prop)
  (h0:w.cell? ⟨b,off,none⟩=some (.int .u32 0)) (h1:w.cell? ⟨b,off+1,none⟩=some (.int .i32 0)) (f1:w.frozen? ⟨b,off+1,none⟩=false)
  (h:Calls prog D caps (w.setCell ⟨b,off+1,none⟩ (.int .i32 1)) λe w'=>e = .returned (.tuple #[])/\Held w' b off/\R w') :
  Calls prog 54 #[.pointer (some ⟨b,off,none⟩),.func (.func D) #[] caps] w λe w'=>e = .returned (.tuple #[])/\∃ w1,R w1/\w'=(w1.drew.setCell ⟨b,off,none⟩ (.int .u32 1)).setCell ⟨b,off+1,none⟩ (.int .i32 0):=by
 have hl:=run_call_load (P:=prog) func121 (by kernel_rfl) (by kernel_rfl) (by kernel_rfl) .u32 (by kernel_rfl) h0;have hnot:∀ (x:Bool) (w:World),(Op.unary .not (.bool x)).run prog w = .ok (.bool (!x)) w:=λ_ _=>rfl;have HS:=hid (Te D caps hD b off w R h0 h1 f1 h);clear h hD;go_enter func54,ntmps54;go_wp2_with (first | (go_at_call 91; refine HS.out.mono ?_; rintro e w' ⟨rfl,hw'⟩; have HW:=hid hw'; clear hw') | (go_at_call 90; go_in))
 go_end0;exact ⟨rfl,HW.out⟩
theorem WJ (a:Addr) (fv:Value) (w:World) (h0:w.cell? a=some (.int .u32 1)) :
  Calls prog 54 #[.pointer (some a),fv] w λe w'=>e = .returned (.tuple #[])/\w'=w:=by
 have hl:=run_call_load (P:=prog) func121 (by kernel_rfl) (by kernel_rfl) (by kernel_rfl) .u32 (by kernel_rfl) h0;have hnot:∀ (x:Bool) (w:World),(Op.unary .not (.bool x)).run prog w = .ok (.bool (!x)) w:=λ_ _=>rfl;go_enter func54,ntmps54;go_wp2;go_end0;all_goals exact ⟨rfl,rfl⟩
end On
end
section
open Go.RowKit
namespace Rl
open Pk
theorem ML {w:World} {g:Nat} {x y:It} {A A2:aJ} {N C N2 C2:Nat} (hO:Rg.Own w g #[.bool x.l,.string x.s,.slice A N C,.bool y.l,.string y.s,.slice A2 N2 C2] 130)
  (hx:jf w x.xs A N C) (hy:jf w y.xs A2 N2 C2):jf w [x,y] (some ⟨g,0,none⟩) 2 2:=by
 have hc:∀ i,w.cell? ⟨g,i,none⟩=(#[.bool x.l,.string x.s,.slice A N C,.bool y.l,.string y.s,.slice A2 N2 C2]:aM)[i]? := λi=>by simp [World.cell?,hO.2]
 refine jh.mk (λj=>if j=0 then A else A2) (λj=>if j=0 then N else N2) (λj=>if j=0 then C else C2) rfl (by omega) (by unfold maxLen; omega) (by omega) (λe=>by cases e) (λj z hz=>?_) (λj z hz=>?_)
 .match j,hz with
  | 0,hz =>
   cases hz;exact ⟨g,0,rfl,Nat.zero_le _,hO.1,(hc 0),(hc 1),(hc 2)⟩
  | 1,hz =>
   cases hz;exact ⟨g,0,rfl,Nat.zero_le _,hO.1,(hc 3),(hc 4),(hc 5)⟩
 .match j,hz with
  | 0,hz=>cases hz; exact hx
  | 1,hz=>cases hz; exact hy
theorem ED (w:World) (x:It) (h:x.xs=[]):jf w x.xs none 0 0:=by rw [h]; exact bL.nil _ _
end Rl
end
section
open Go.RowKit
namespace No
open Rl Ni
theorem jG (ev:Operand->Value) (o:Oper) (w:World) (b:Nat) (hb:b=w.heap.size) (ho:o.op = .alloc 130) :
  (execOp ev o).run prog w = .ok (.value (.pointer (some ⟨b,0,none⟩))) (w.alloc (.cells (itC it0 none 0 0) 130)):=by
 subst hb;unfold execOp;rw [ho];kernel_rfl
theorem Dk (k:aK) (hk:k.size<=9223372036854775807) (w:World):Calls prog 108 #[.string k] w (zW w (dS k)):=by
 obtain ⟨w2,hw2⟩:=au (w.alloc (.cells (itC it0 none 0 0) 130))
 have hO:Rg.Own w2 w.heap.size (itC it0 none 0 0) 130:=by rw [hw2]; exact Rg.Own.new _ _ _
 have HB2:Hid (Below w.heap.size w w2):=hid (by rw [hw2]; exact al1 _ _);have HO:=hid hO;have HP:=hid (xL k w2);cases hp:dB k with
 | true =>
  rw [nP hp];rw [hp] at HP;have HT:=hid (kZ k w2);clear hO hp;subst hw2;go_enter func108,ntmps108;go_wp2_with (refine ay (jG _ _ _ w.heap.size rfl rfl) ?_)
  refine HP.out.mono ?_;rintro e w3 ⟨rfl,rfl⟩;go_wp2_with fail
  refine HT.out.mono ?_;rintro e w4 ⟨rfl,hb4⟩;have ch:=hid (HO.out.below hb4);have cz:=hid (bst HB2.out hb4);clear hb4;go_wp2_with (refine nD ch.out (.mk false k []) none 0 0 rfl _ _ rfl rfl rfl rfl ?_)
  exact bodyPost_ret (nU rfl _ rfl (cO (wG ch.out).2)) rfl ⟨none,0,0,rfl,bL.nil _ _,fQ cz.out aF _⟩
 | false =>
  rw [hp] at HP;have HR:Hid (dS k=match iy k.data.toList with | .ok x=>x | .error _=>it0):=hid (by unfold dS; rw [hp]; rfl);have HW:=hid (DN k hk w2);have hcases:Hid (∀ e w',qB w2 (iy k.data.toList) e w'->∃ (c:Int) (a:aJ) (nn cap:Nat),e = .returned (.tuple #[itV (dS k) a nn cap,.int .i64 c])/\bL w2.heap.size w' (dS k).xs a nn cap/\Below w2.heap.size w2 w'):=hid (by
   intro e w' h;rw [HR.out];cases hw:iy k.data.toList with
   | error c =>
    rw [hw] at h;obtain ⟨rfl,hb⟩:=h;exact ⟨c,none,0,0,rfl,bL.nil _ _,hb⟩
   | ok x =>
    rw [hw] at h;obtain ⟨a,nn,cap,rfl,hI,hb⟩:=h;exact ⟨0,a,nn,cap,rfl,hI,hb⟩)
  obtain ⟨x,hx⟩:=av (dS k)
  rw [hx] at hcases ⊢;clear hO hp HR hx;subst hw2;go_enter func108,ntmps108;go_wp2_with (refine ay (jG _ _ _ w.heap.size rfl rfl) ?_)
  refine HP.out.mono ?_;rintro e w3 ⟨rfl,rfl⟩;go_wp2_with fail
  refine HW.out.mono ?_;intro e w4 hpost;obtain ⟨c,a,nn,cap,rfl,hI,hb4⟩:=hcases.out e w4 hpost;have ch:=hid (HO.out.below hb4);have cz:=hid (bst HB2.out hb4);have HI4:=hid hI;have ja:Hid (Rg.Own (w4.alloc (.cells (itC it0 none 0 0) 130)) w4.heap.size (itC it0 none 0 0) 130):=hid (Rg.Own.new _ _ _);have kp:=hid (wG (cs':=itC x a nn cap) ja.out);have ge:Below w4.heap.size w4 ((w4.alloc (.cells (itC it0 none 0 0) 130)).setRow w4.heap.size (itC x a nn cap)):=fQ (al1 _ _) aF _;have cd:=hid (ch.out.below ge)
  have ag:=hid (bst cz.out ge);have p7:=hid (HI4.out.stays ge);clear hpost hI hb4 hcases HP HW ge;go_wp2_with (first
   | (refine ay (jG _ _ _ w4.heap.size rfl rfl) ?_)
   | (refine nD ja.out x a nn cap rfl _ _ rfl rfl rfl rfl ?_)
   | (refine ay (JZ kp.out ?_) ?_; · exact ⟨_,rfl,rfl⟩)
   | (refine nD cd.out x a nn cap rfl _ _ rfl rfl rfl rfl ?_))
  exact bodyPost_ret (nU rfl _ rfl (cO (wG cd.out).2)) rfl ⟨a,nn,cap,rfl,bL.weak (lV p7.out (by simp) _) (by simp),fQ ag.out aF _⟩
theorem Ju (a:aJ) (n c:Nat) (l:aL) (leaf:Bool) (hn:n<=64) (hr:dx l=true) (w:World) (h:bq w a n c l) :
  Calls prog 110 #[.slice a n c,.bool leaf] w λe w'=>e = .returned (.tuple #[.string ⟨(iA l leaf).toArray⟩,.int .i64 0])/\Below w.heap.size w w':=by
 by_cases h2:n%2=0
 .exact QX a n c l leaf hn h2 hr w h
 .cases a with
  | none =>
   obtain ⟨rfl,_,_⟩:=h.FH;exact absurd rfl h2
  | some ad =>
   obtain ⟨b,off,e,_,_⟩:=h.at' 0 (by omega);obtain rfl:=Option.some.inj e;exact Ua b off n c l leaf hn (by omega) hr w h
theorem IV {a:Act} {x y:It} {A D:aJ} {An Ac Dn Dc:Nat} (hw:Region.wanted o (yielded ops a.tmps)=true)
  (ho:∃ p q,o.op = .buildSlice 128 2 #[(0,p),(1,q)]/\a.eval p = .agg #[.bool x.l,.string x.s,.slice A An Ac]/\a.eval q = .agg #[.bool y.l,.string y.s,.slice D Dn Dc])
  (h:∀ w' b,Rg.Own w' b #[.bool x.l,.string x.s,.slice A An Ac,.bool y.l,.string y.s,.slice D Dn Dc] 130->Below w.heap.size w w'->K (a.put o.dst (.slice (some ⟨b,0,none⟩) 2 2)) w'):if Region.wanted o (yielded ops a.tmps)=true then Oper.wp prog o a w K Q else K (a.put o.dst undef) w:=by
 obtain ⟨p,q,ho,hp,hq⟩:=ho;obtain ⟨i0,hi,hz,hs,hby⟩:=info_parts zl;refine Rg.want hw (wp_buildSlice 128 130 2 _ ho #[.bool x.l,.string x.s,.slice A An Ac,.bool y.l,.string y.s,.slice D Dn Dc] i0 _ underlying128 hi hz (by rw [hs]; decide) (by rw [hs]; decide) ?_ (h _ _ (Rg.Own.new _ _ _) (al1 _ _)));simp only [List.map_toArray,List.map_cons,List.map_nil,hp,hq,hs];kernel_rfl
def SI (w:World) (o:Nat) (v:Value) (w':World):Prop:=w'.cell? ⟨w.heap.size,o,none⟩=some v/\(∃ cs:aM,cs.size=3/\Rg.Own w' (w.heap.size+1) cs 130)/\Below w.heap.size w w'
theorem SI.lt {o:Nat} (h:SI w o v w1):w.heap.size+1<w1.heap.size:=by
 obtain ⟨_,⟨_,_,h⟩,_⟩:=h;exact h.1
theorem SI.keep {o:Nat} (h:SI w o v w1) (hb:Below w1.heap.size w1 w2):SI w o v w2:=by
 have hlt:=h.lt;obtain ⟨h0,⟨cs,hcs,h1⟩,h2⟩:=h;exact ⟨(Below.cell (p:=⟨w.heap.size,o,none⟩) hb (by show w.heap.size<w1.heap.size; omega)).trans h0,⟨cs,hcs,h1.below hb⟩,bst h2 hb⟩
theorem vM (w:World) (N:Nd) (a:aJ) (n c:Nat):∃ w2,w2=(w.alloc (.cells (ndC N a n c) 56)).alloc (.cells (itC it0 none 0 0) 130)/\dJ w2 w.heap.size N a n c/\Rg.Own w2 (w.heap.size+1) (itC it0 none 0 0) 130/\Below w.heap.size w w2/\w2.heap.size=w.heap.size+2:=by
 refine ⟨_,rfl,(Rg.Own.new _ _ _).below (al1 _ _),?_,al2 _ _ _,by simp⟩;have:=Rg.Own.new (w.alloc (.cells (ndC N a n c) 56)) (itC it0 none 0 0) 130;simpa using this
theorem BU (w:World) (o:Obj):(w.alloc o).heap.size=w.heap.size+1:=by simp
theorem Od (N:Nd) (a:aJ) (n c:Nat) (_hl:N.ks.length=16) (w:World) (hB:bq w a n c N.p) (hm:fG bP N=true) (hkd:N.kd=1):Calls prog 72 #[.agg (ndC N a n c)] w (zW w (gq N)):=by
 obtain ⟨m1,m2,_⟩:=jE hm;have e9:n<=64:=by rw [<-hB.len]; exact m1
 obtain ⟨w2,hw2,hN,hO,ec,hs2⟩:=vM w N a n c;have dv:=hid (Ju a n c N.p (decide (N.kd=1)) e9 m2 w2 (hB.below ec));have HI:Hid (gq N = .mk true ⟨#[]⟩ [.mk false ⟨(iA N.p (decide (N.kd=1))).toArray⟩ [],.mk false N.v []]):=hid (by unfold gq bQ uL; rw [if_neg (by omega),if_pos hkd]);rw [HI.out];clear HI;obtain ⟨S,hS⟩:=av (⟨(iA N.p (decide (N.kd=1))).toArray⟩:aK)
 rw [hS] at dv ⊢;rw [hkd] at dv;rw [show decide ((1:Int)=1)=true by decide] at dv;obtain ⟨c0,c1,c2⟩:=bW hN;rw [hkd] at c0;have E7:=hid hkd;have HO:=hid hO;have HN:=hid hN;have HB:=hid ec;clear hO hN ec hB hm m1 m2 hS hkd;subst hw2;go_enter func72,ntmps72;go_wp2_with (refine ay (jG _ _ _ (w.heap.size+1) (BU _ _).symm rfl) ?_)
 refine dv.out.mono ?_;rintro e w5 ⟨rfl,hb5⟩;have cd:=hid (HO.out.below hb5);have ag:=hid (bst HB.out hb5);have tU:=HN.out.below hb5;obtain ⟨c0,c1,c2⟩:=bW tU;clear hb5 tU dv;rw [E7.out] at c0;go_wp2_with fail
 refine aB (S:=SI w 2 (.string N.v)) (⟨c2,⟨_,rfl,cd.out.drew⟩,ag.out.drew⟩) λhld=>?_;refine ah 0 ?_;try simp only [ak]
 refine ah 2 ?_;try simp only [ak]
 refine ah 3 ?_ (hy:=by intro wz hSw; (have q0:=hSw.1; go_simp <;> with_reducible rfl));try simp only [ak]
 refine aj 1 λK hK=>?_;go_simp;go_at_call 111
 (with_reducible refine (kZ S _).mono ?_)
 rintro e E8 ⟨rfl,hbx⟩;refine hK.out _ _ (SI.keep hld hbx) λhld=>?_;clear hK K hbx;try simp only [ak]
 refine aj 4 λK hK=>?_;go_simp;go_at_call 111
 (with_reducible refine (kZ N.v _).mono ?_)
 rintro e E9 ⟨rfl,hbx⟩;refine hK.out _ _ (SI.keep hld hbx) λhld=>?_;clear hK K hbx;try simp only [ak]
 refine aj 5 λK hK=>?_;refine IV (x:=.mk false S []) (y:=.mk false N.v []) (by rfl) ⟨_,_,rfl,rfl,rfl⟩ ?_;rintro Eg g5 h5 hbx;refine hK.out _ _ (SI.keep hld hbx) λhld=>?_;clear hK K hbx;try simp only [ak]
 refine aj 6 λK hK=>?_;have mu:=hid (BI [.mk false S [],.mk false N.v []] _ _ _ _ (ML h5 (ED _ (.mk false S []) rfl) (ED _ (.mk false N.v []) rfl)));go_simp;go_at_call 109
 (with_reducible refine mu.out.mono ?_)
 rintro e S2 ⟨la,ln,lc,rfl,oe,hbx⟩;replace oe:=bL.weak (B':=w.heap.size+2) oe (by have:=hld.lt; omega);refine hK.out _ _ (SI.keep hld hbx) λhld=>?_;clear hK K hbx mu;try simp only [ak]
 refine aj 7 λK hK=>?_;obtain ⟨cs,hcs,hOr⟩:=hld.2.1;refine Rg.meetStore (by rfl) hOr 130 (itC (.mk true ⟨#[]⟩ [.mk false S [],.mk false N.v []]) la ln lc) ⟨_,_,rfl,rfl,rfl⟩ (gJ _ _ _ _) (by rw [hcs]; rfl) (jd _ _ _ _) ?_;rintro wz hn hu;have mw:Below w.heap.size w wz:=hu.below hld.2.2 (by omega);have Ek:=bL.kept oe (by rw [hu.size]; exact aF) (λb o hB _=>World.cell?_of_block (hu.block b (by omega)));have hcz:=(World.cell?_of_block (a:=⟨w.heap.size,2,none⟩) (hu.block w.heap.size (by omega))).trans hld.1
 refine hK.out _ _ (⟨hcz,⟨_,rfl,hn⟩,mw⟩) λhld=>?_;clear hK K;try simp only [Act.put]
 refine aA ?_;go_wp2;exact bodyPost_ret (nU rfl _ rfl (cO hn.2)) rfl ⟨la,ln,lc,rfl,bL.weak Ek (by omega),mw⟩
theorem Vl (N:Nd) (a:aJ) (n c:Nat) (hl:N.ks.length=16) (w:World) (hB:bq w a n c N.p) (hm:fG bP N=true) (hkd:N.kd=2) (hks:(N.ks.getD 0 eB).size<=100):Calls prog 72 #[.agg (ndC N a n c)] w (zW w (gq N)):=by
 obtain ⟨m1,m2,_⟩:=jE hm;have e9:n<=64:=by rw [<-hB.len]; exact m1
 obtain ⟨w2,hw2,hN,hO,ec,hs2⟩:=vM w N a n c;have dv:=hid (Ju a n c N.p (decide (N.kd=1)) e9 m2 w2 (hB.below ec));have HI:Hid (gq N = .mk true ⟨#[]⟩ [.mk false ⟨(iA N.p (decide (N.kd=1))).toArray⟩ [],dS (N.ks.getD 0 eB)]):=hid (by unfold gq bQ uL; rw [if_neg (by omega),if_neg (by omega)]);rw [HI.out];clear HI;obtain ⟨S,hS⟩:=av (⟨(iA N.p (decide (N.kd=1))).toArray⟩:aK)
 rw [hS] at dv ⊢;rw [hkd] at dv;rw [show decide ((2:Int)=1)=false by decide] at dv;obtain ⟨c0,c1,c2⟩:=bW hN;rw [hkd] at c0;have E7:=hid hkd;have S3:=hid hl;have cS:=hid (λw=>Dk (N.ks.getD 0 eB) (by omega) w);obtain ⟨X,hX⟩:=av (dS (N.ks.getD 0 eB))
 rw [hX] at cS ⊢;obtain ⟨k,hk⟩:=av (N.ks.getD 0 eB)
 rw [hk] at cS;have Hk:=hid hk;clear hX hk hks;have HO:=hid hO;have HN:=hid hN;have HB:=hid ec;clear hO hN ec hB hm m1 m2 hS hkd;subst hw2;go_enter func72,ntmps72;go_wp2_with (refine ay (jG _ _ _ (w.heap.size+1) (BU _ _).symm rfl) ?_)
 refine dv.out.mono ?_;rintro e w5 ⟨rfl,hb5⟩;have cd:=hid (HO.out.below hb5);have ag:=hid (bst HB.out hb5);have tU:=HN.out.below hb5;obtain ⟨c0,c1,c2⟩:=bW tU;have ck:w5.cell? ⟨w.heap.size,3,none⟩=some (.string k):=by rw [<-Hk.out]; exact sG tU S3.out 0 (by decide)
 clear hb5 tU dv;rw [E7.out] at c0;go_wp2_with fail
 refine aB (S:=SI w 3 (.string k)) (⟨ck,⟨_,rfl,cd.out.drew⟩,ag.out.drew⟩) λhld=>?_;refine ah 0 ?_;try simp only [ak]
 refine ah 2 ?_;try simp only [ak]
 refine ah 3 ?_;try simp only [ak]
 refine ah 4 ?_ (hy:=by intro wz hSw; (have q0:=hSw.1; go_simp <;> with_reducible rfl));try simp only [ak]
 refine aj 1 λK hK=>?_;go_simp;go_at_call 111
 (with_reducible refine (kZ S _).mono ?_)
 rintro e E8 ⟨rfl,hbx⟩;refine hK.out _ _ (SI.keep hld hbx) λhld=>?_;clear hK K hbx;try simp only [ak]
 refine aj 5 λK hK=>?_;go_simp;go_at_call 108
 (with_reducible refine (cS.out _).mono ?_)
 rintro e E9 ⟨kA,kN,kC,rfl,wg,hbx⟩;replace wg:=bL.weak (B':=0) wg (Nat.zero_le _);refine hK.out _ _ (SI.keep hld hbx) λhld=>?_;clear hK K hbx;try simp only [ak]
 refine aj 6 λK hK=>?_;refine IV (x:=.mk false S []) (y:=X) (by rfl) ⟨_,_,rfl,rfl,rfl⟩ ?_;rintro Eg g5 h5 hbx;replace wg:=jh.stays wg hbx;refine hK.out _ _ (SI.keep hld hbx) λhld=>?_;clear hK K hbx;try simp only [ak]
 refine aj 7 λK hK=>?_;have mu:=hid (BI [.mk false S [],X] _ _ _ _ (ML h5 (ED _ (.mk false S []) rfl) wg));go_simp;go_at_call 109
 (with_reducible refine mu.out.mono ?_)
 rintro e S2 ⟨la,ln,lc,rfl,oe,hbx⟩;replace oe:=bL.weak (B':=w.heap.size+2) oe (by have:=hld.lt; omega);refine hK.out _ _ (SI.keep hld hbx) λhld=>?_;clear hK K hbx mu;try simp only [ak]
 refine aj 8 λK hK=>?_;obtain ⟨cs,hcs,hOr⟩:=hld.2.1;refine Rg.meetStore (by rfl) hOr 130 (itC (.mk true ⟨#[]⟩ [.mk false S [],X]) la ln lc) ⟨_,_,rfl,rfl,rfl⟩ (gJ _ _ _ _) (by rw [hcs]; rfl) (jd _ _ _ _) ?_;rintro wz hn hu;have mw:Below w.heap.size w wz:=hu.below hld.2.2 (by omega);have Ek:=bL.kept oe (by rw [hu.size]; exact aF) (λb o hB _=>World.cell?_of_block (hu.block b (by omega)));have hcz:=(World.cell?_of_block (a:=⟨w.heap.size,3,none⟩) (hu.block w.heap.size (by omega))).trans hld.1
 refine hK.out _ _ (⟨hcz,⟨_,rfl,hn⟩,mw⟩) λhld=>?_;clear hK K;try simp only [Act.put]
 refine aA ?_;go_wp2;exact bodyPost_ret (nU rfl _ rfl (cO hn.2)) rfl ⟨la,ln,lc,rfl,bL.weak Ek (by omega),mw⟩
def cellV (q:It × aJ × Nat × Nat) (k:Nat):Value:=if k=0 then .bool q.1.l else if k=1 then .string q.1.s else .slice q.2.1 q.2.2.1 q.2.2.2
def QI (V:Nat->It × aJ × Nat × Nat) (i:Nat):Value:=cellV (V (i/3)) (i%3)
abbrev z4:It × aJ × Nat × Nat:=(it0,none,0,0)
def Cu:aM:=((List.range 51).map (QI λ_=>z4)).toArray
theorem CO (ev:Operand->Value) (o:Oper) (w:World) (b:Nat) (hb:b=w.heap.size) (ho:o.op = .alloc 169) :
  (execOp ev o).run prog w = .ok (.value (.pointer (some ⟨b,0,none⟩))) (w.alloc (.cells Cu 169)):=by
 subst hb;unfold execOp;rw [ho];kernel_rfl
def vO (w:World) (g:Nat) (ks:List aK) (j:Nat):Prop:=∃ V:Nat->It × aJ × Nat × Nat,w.rowIs g 169 51 (QI V)/\
 (∀ i,i<j->(V i).1=dS (ks.getD i eB)/\bL (g+1) w (V i).1.xs (V i).2.1 (V i).2.2.1 (V i).2.2.2)/\∀ i,j<=i->V i=z4
theorem vO.start (w:World) (ks:List aK):vO (w.alloc (.cells Cu 169)) w.heap.size ks 0:=by
 refine ⟨λ_=>z4,?_,λi hi=>absurd hi (Nat.not_lt_zero _),λ_ _=>rfl⟩;have hs:Cu.size=51:=by simp [Cu]
 rw [<-hs];refine World.rowIs_alloc w Cu _ _ (λi hi=>?_);rw [hs] at hi;simp [Cu,hi]
theorem vO.lt {w:World} {g j:Nat} {ks:List aK} (h:vO w g ks j):g<w.heap.size:=by
 obtain ⟨V,hr,_⟩:=h;exact hr.lt
theorem vO.keep {ks:List aK} (h:vO w g ks j) (hb:Below w.heap.size w w'):vO w' g ks j:=by
 obtain ⟨V,hr,h1,h2⟩:=h;exact ⟨V,hr.of_block (hb.block g hr.lt),λi hi=>⟨(h1 i hi).1,bL.kept (h1 i hi).2 hb.size (λb o _ hlt=>hb.cell (p:=⟨b,o,none⟩) hlt)⟩,h2⟩
theorem AU (w:World) (b o:Nat) (v:Value):Rg.Upd w b (w.setCell ⟨b,o,none⟩ v):=⟨rfl,rfl,rfl,by simp [World.setCell],λk hk=>Below.heap_setCell _ _ _ _ hk⟩
theorem tT {b:Nat} (h:Rg.Upd w b w1) (h2:Rg.Upd w1 b w2):Rg.Upd w b w2 :=
 ⟨h2.os.trans h.os,h2.tape.trans h.tape,h2.output.trans h.output,h2.size.trans h.size,λk hk=>(h2.block k hk).trans (h.block k hk)⟩
theorem vO.step {ks:List aK} (h:vO w g ks j) (hj:j<16) {A:aJ} {N C:Nat} (hI:bL (g+1) w (dS (ks.getD j eB)).xs A N C) :
  vO (w.setCells g (j*3) (itC (dS (ks.getD j eB)) A N C).toList) g ks (j+1)/\Rg.Upd w g (w.setCells g (j*3) (itC (dS (ks.getD j eB)) A N C).toList)/\w.there g (j*3) (itC (dS (ks.getD j eB)) A N C).size:=by
 obtain ⟨V,hr,h1,h2⟩:=h;have hu:Rg.Upd w g (w.setCells g (j*3) (itC (dS (ks.getD j eB)) A N C).toList):=tT (tT (AU w g (j*3) _) (AU _ g (j*3+1) _)) (AU _ g (j*3+1+1) _);refine ⟨⟨λi=>if i=j then (dS (ks.getD j eB),A,N,C) else V i,?_,λi hi=>?_,λi hi=>?_⟩,hu,λi hi=>?_⟩
 .have h3:(w.setCells g (j*3) (itC (dS (ks.getD j eB)) A N C).toList).rowIs g 169 51 _:=((hr.set (j*3) (.bool (dS (ks.getD j eB)).l)).set (j*3+1) (.string (dS (ks.getD j eB)).s)).set (j*3+1+1) (.slice A N C);refine h3.congr (λi hi=>?_);unfold QI;dsimp only;by_cases hij:i/3=j
  .rw [if_pos hij];unfold cellV;by_cases e2:i=j*3+1+1
   .rw [if_pos e2,if_neg (by omega),if_neg (by omega)]
   .rw [if_neg e2];by_cases e1:i=j*3+1
    .rw [if_pos e1,if_neg (by omega),if_pos (by omega)]
    .rw [if_neg e1,if_pos (by omega),if_pos (by omega)]
  .rw [if_neg hij,if_neg (by omega),if_neg (by omega),if_neg (by omega)]
 .dsimp only;by_cases hij:i=j
  .subst hij;rw [if_pos rfl];exact ⟨rfl,bL.kept hI (by rw [hu.size]; exact aF) (λb o hB _=>World.cell?_of_block (hu.block b (by omega)))⟩
  .rw [if_neg hij];obtain ⟨e1,e2⟩:=h1 i (by omega);exact ⟨e1,bL.kept e2 (by rw [hu.size]; exact aF) (λb o hB _=>World.cell?_of_block (hu.block b (by omega)))⟩
 .dsimp only;rw [if_neg (by omega)];exact h2 i (by omega)
 .have h3:(itC (dS (ks.getD j eB)) A N C).size=3:=rfl;rw [h3] at hi;exact ⟨by rw [hr.cell (by omega)]; rfl,hr.frozen _⟩
theorem vO.done {ks:List aK} (h:vO w g ks 16) (hl:ks.length=16):jf w (ks.map dS++[it0]) (some ⟨g,0,none⟩) 17 17:=by
 obtain ⟨V,hr,h1,h2⟩:=h;have hV:∀ (j:Nat) (x:It),(ks.map dS++[it0])[j]? = some x->j<17/\(V j).1=x/\jf w x.xs (V j).2.1 (V j).2.2.1 (V j).2.2.2:=by
  intro j x hx;by_cases hj:j<16
  .rw [List.getElem?_append_left (by simp [hl]; omega),List.getElem?_map,List.getElem?_eq_getElem (by omega),Option.map_some] at hx;obtain ⟨e1,e2⟩:=h1 j hj;have e:ks.getD j eB=ks[j]:=by simp [List.getD,hl,hj]
   have hxe:(V j).1=x:=by rw [e1,e]; exact Option.some.inj hx
   rw [hxe] at e2;exact ⟨by omega,hxe,bL.weak e2 (Nat.zero_le _)⟩
  .rw [List.getElem?_append_right (by simp [hl]; omega)] at hx;have Ex:j=16:=by
    have:=(List.getElem?_eq_some_iff.1 hx).1;simp [hl] at this;omega
   subst Ex;simp [hl] at hx;subst hx;rw [h2 16 aF];exact ⟨by omega,rfl,bL.nil _ _⟩
 refine jh.mk (λj=>(V j).2.1) (λj=>(V j).2.2.1) (λj=>(V j).2.2.2) (by simp [hl]) aF (by unfold maxLen; omega) (by omega) (λe=>by cases e) (λj x hx=>?_) (λj x hx=>(hV j x hx).2.2);obtain ⟨hj,hxe,_⟩:=hV j x hx;refine ⟨g,0,rfl,Nat.zero_le _,hr.lt,?_⟩;rw [Nat.zero_add];refine ⟨?_,?_,?_⟩
 .rw [hr.cell (by omega)];unfold QI cellV;rw [show j*3/3=j by omega,if_pos (by omega),hxe]
 .rw [hr.cell (by omega)];unfold QI cellV;rw [show (j*3+1)/3=j by omega,if_neg (by omega),if_pos (by omega),hxe]
 .rw [hr.cell (by omega)];unfold QI cellV;rw [show (j*3+2)/3=j by omega,if_neg (by omega),if_neg (by omega)]
theorem GA (N:Nd) (a:aJ) (n c:Nat) (hl:N.ks.length=16) (w:World) (hkd:N.kd=3) (hks:∀ k∈N.ks,k.size<=100):Calls prog 72 #[.agg (ndC N a n c)] w (zW w (gq N)):=by
 obtain ⟨w2,hw2,hN,hO,ec,hs2⟩:=vM w N a n c;have HI:Hid (gq N = .mk true ⟨#[]⟩ (N.ks.map dS++[it0])):=hid (by unfold gq bQ; rw [if_pos hkd]);rw [HI.out];clear HI;have im:Hid (vO (w2.alloc (.cells Cu 169)) (w.heap.size+2) N.ks 0):=hid (by rw [<-hs2]; exact vO.start w2 N.ks);have L7:Hid (dJ (w2.alloc (.cells Cu 169)) w.heap.size N a n c):=hid (hN.below (al1 _ _));have wh:Hid (Rg.Own (w2.alloc (.cells Cu 169)) (w.heap.size+1) (itC it0 none 0 0) 130):=hid (hO.below (al1 _ _))
 have HB0:Hid (Below w.heap.size w (w2.alloc (.cells Cu 169))):=hid (bst ec (al1 _ _));obtain ⟨c0,c1,c2⟩:=bW hN;rw [hkd] at c0;have HL:=hid hl;have S4:=hid hks;have S5:=hid hs2;clear hN hO ec hks hkd hs2 hl;subst hw2;go_enter func72,ntmps72;go_wp2_with (first
  | (refine ay (jG _ _ _ (w.heap.size+1) (BU _ _).symm rfl) ?_)
  | (refine ay (CO _ _ _ (w.heap.size+2) S5.out.symm rfl) ?_)
  | (refine ay (nY L7.out HL.out ⟨_,rfl,rfl⟩) ?_))
 go_loopw [13] (λi wr=>∃ j:Nat,j<=16/\i = .int .i64 j/\Hid (vO wr (w.heap.size+2) N.ks j)/\Hid (Rg.Own wr (w.heap.size+1) (itC it0 none 0 0) 130)/\Hid (Below w.heap.size w wr)) (λi _=>16-(intOf i).toNat)
 case atStart=>exact ⟨0,Nat.zero_le _,rfl,im,wh,HB0⟩
 case round =>
  obtain ⟨j,hj,rfl,HR,HO,HB⟩:=hrel;clear im wh HB0 L7;by_cases hlt:j<16
  .have cS:=hid (Dk (N.ks.getD j eB) (by
    have:=S4.out (N.ks.getD j eB) (by rw [List.getD_eq_getElem?_getD,List.getElem?_eq_getElem (by rw [HL.out]; exact hlt)]; exact List.getElem_mem _);omega) wr)
   go_wp2_with (refine Rg.run rfl (.string (N.ks.getD j eB)) _ (fO HL.out hlt ⟨_,_,rfl,rfl,rfl⟩) ?_)
   refine cS.out.mono ?_;rintro e w5 ⟨A,M,C,rfl,hI,hb5⟩;have S6:=HR.out.lt;have hst:=(HR.out.keep hb5).step hlt (bL.weak (B':=w.heap.size+2+1) hI (by omega));have HS:=hid hst;have cd:=hid (HO.out.below hb5);have ag:=hid (bst HB.out hb5);obtain ⟨x,hx⟩:=av (dS (N.ks.getD j eB))
   rw [hx] at HS ⊢;clear hI hb5 hst cS HO HB HR hx;go_wp2_with (refine wpList_store_mid rfl 130 _ _ rfl (w.heap.size+2) (j*3) (itC x A M C) rfl rfl HS.out.2.2 (gJ _ _ _ _) (jd _ _ _ _) ?_)
   go_roundw
   case rel=>exact ⟨j+1,by omega,by go_num,hid HS.out.1,hid (cd.out.upd HS.out.2.1 (by omega)),hid (HS.out.2.1.below ag.out (by omega))⟩
   case measure=>simp [intOf]; omega
  .obtain rfl:j=16:=by omega
   have mu:=hid (BI _ _ _ _ _ (HR.out.done HL.out));obtain ⟨xs,hxs⟩:=av (N.ks.map dS++[it0])
   rw [hxs] at mu;have HX:=hid hxs;clear hxs;go_wp2_with fail
   refine mu.out.mono ?_;rintro e w6 ⟨la,ln,lc,rfl,oe,hb6⟩;have cM:=hid (HO.out.below hb6);have cg:=hid (bst HB.out hb6);have hs6:=HO.out.1;have qT:=hid oe;clear oe hb6 mu;go_wp2_with (refine nD cM.out (.mk true ⟨#[]⟩ xs) la ln lc rfl _ _ rfl rfl rfl rfl ?_)
   exact bodyPost_ret (nU rfl _ rfl (cO (wG cM.out).2)) rfl ⟨la,ln,lc,by rw [HX.out],by rw [HX.out]; exact bL.weak (lV qT.out (by omega) _) (by omega),fQ cg.out (by omega) _⟩
theorem RX (N:Nd) (a:aJ) (n c:Nat) (hl:N.ks.length=16) (w:World) (hB:bq w a n c N.p) (hm:fG bP N=true) (hks:∀ k∈N.ks,k.size<=100):Calls prog 72 #[.agg (ndC N a n c)] w (zW w (gq N)):=by
 rcases jJ hl hm with ⟨k1,_⟩ | ⟨k1,_⟩ | ⟨k1,_⟩
 .exact Od N a n c hl w hB hm k1
 .exact Vl N a n c hl w hB hm k1 (hks _ (by rw [List.getD_eq_getElem?_getD,List.getElem?_eq_getElem (by omega)]; exact List.getElem_mem _))
 .exact GA N a n c hl w k1 hks
def Yl (N:Nd):Value:=.tuple #[.string (if fG bP N then ⟨(jP N).toArray⟩ else eB),.int .i64 (if fG bP N then 0 else 2)]
theorem TR (N:Nd) (a:aJ) (n c:Nat) (hl:N.ks.length=16) (w:World) (hB:bq w a n c N.p) (hv:N.v.size<=maxLen) (hks:∀ k∈N.ks,k.size<=100) :
  Calls prog 40 #[.agg (ndC N a n c)] w λe w'=>e = .returned (Yl N)/\Below w.heap.size w w':=by
 obtain ⟨w2,hw2⟩:=au (w.alloc (.cells (ndC N a n c) 56))
 have hO:dJ w2 w.heap.size N a n c:=by rw [hw2]; exact Rg.Own.new _ _ _
 have ec:Below w.heap.size w w2:=by rw [hw2]; exact al1 _ _
 have HC:=hid (qg N a n c hl w2 (hB.below ec) hv (λk hk=>kX k (by have:=hks k hk; omega)));have C6:Hid (fG bP N=true->∀ w',Below w.heap.size w w'->Calls prog 72 #[.agg (ndC N a n c)] w' (zW w' (gq N))):=hid (λhm w' hb=>RX N a n c hl w' (hB.below hb) hm hks);have HF:Hid (fG bP N=true->Fits 0 (gq N)/\(gq N).size<=4096/\(gq N).bytes.length<=1099511627776):=hid (λhm=>by
  obtain ⟨f1,f2,f3,_⟩:=Du hl hm;exact ⟨f1,f3,by omega⟩)
 have HO:=hid hO;have cD:=hid ec;have HL:=hid hl;unfold Yl;obtain ⟨M,hM⟩:=av (fG bP N)
 rw [hM] at HC C6 HF ⊢;clear hO ec hB hks hv hl hM;unfold jP;obtain ⟨X,hX⟩:=av (gq N)
 rw [hX] at C6 HF ⊢;clear hX;subst hw2;cases M with
 | false =>
  go_enter func40,ntmps40;go_wp2_with (refine ay (dn HO.out HL.out ?_) ?_; · exact ⟨_,rfl,rfl⟩)
  refine HC.out.mono ?_;rintro e w3 ⟨rfl,hb3⟩;have HB3:=hid (bst cD.out hb3);clear hb3;go_wp2;go_ret2
  exact ⟨rfl,HB3.out⟩
 | true =>
  go_enter func40,ntmps40;go_wp2_with (refine ay (dn HO.out HL.out ?_) ?_; · exact ⟨_,rfl,rfl⟩)
  refine HC.out.mono ?_;rintro e w3 ⟨rfl,hb3⟩;have am:=hid (HO.out.below hb3);have HB3:=hid (bst cD.out hb3);have HI3:=hid (C6.out (by first | rfl | trivial) w3 HB3.out);clear hb3 HC C6;go_wp2_with (refine ay (dn am.out HL.out ?_) ?_; · exact ⟨_,rfl,rfl⟩)
  refine HI3.out.mono ?_;rintro e w4 ⟨la,ln,lc,rfl,hI,hb4⟩;have cz:=hid (bst HB3.out hb4);have u1:=hid (zS X w4 (itV X la ln lc) ⟨la,ln,lc,rfl,bL.weak hI (Nat.zero_le _)⟩ (HF.out (by first | rfl | trivial)).1 (HF.out (by first | rfl | trivial)).2.1 (HF.out (by first | rfl | trivial)).2.2);clear hI hb4 HI3;go_wp2_with fail
  refine u1.out.mono ?_;rintro e w5 ⟨rfl,hb5⟩;have ag:=hid (bst cz.out hb5);clear hb5;go_wp2;go_ret2
  exact ⟨rfl,ag.out⟩
theorem uD (k:aK) (hk:k.size<=4294967286) (w:World):Calls prog 86 #[.string k] w λe w'=>e = .returned (.string ⟨(It.mk false k []).bytes.toArray⟩)/\Below w.heap.size w w':=by
 have hT:=λw=>SS (.mk false k []) 0 w (itV (.mk false k []) none 0 0) ⟨none,0,0,rfl,bL.nil _ _⟩ (qj 0 (by omega) k) (by have:=tH k (by omega); omega);unfold itV at hT;dsimp only [It.l,It.s] at hT;have HT:=hid hT;clear hT;obtain ⟨B,hB⟩:=av (⟨(It.mk false k []).bytes.toArray⟩:aK)
 rw [hB] at HT ⊢;clear hB;go_enter func86,ntmps86;go_wp2_with fail
 refine (HT.out _).mono ?_;rintro e w3 ⟨rfl,hb3⟩;have HB:=hid hb3;clear hb3;go_wp2;go_ret;exact ⟨rfl,HB.out⟩
theorem LD {k:aK} (h:bP k=true) (hp:dB k=false):(⟨(dS k).bytes.toArray⟩:aK)=k:=by
 obtain ⟨x,n,hw,e,hl,hr,h32,hb,hf,_⟩:=sQ hp h;rw [e,hb]
theorem Gs (k:aK) (hk:k.size<=100) (h:bP k=true) (w:World):Calls prog 88 #[.string k] w λe w'=>e = .returned (.string ⟨(dS k).bytes.toArray⟩)/\Below w.heap.size w w':=by
 have HT:=hid (λw=>uD k (by omega) w);cases hp:dB k with
 | true =>
  rw [nP hp];obtain ⟨B,hB⟩:=av (⟨(It.mk false k []).bytes.toArray⟩:aK)
  rw [hB] at HT ⊢;clear hB;rcases lJ hp with h0 | h32
  .obtain rfl:=eF h0;clear h hp h0 hk;go_enter func88,ntmps88;go_wp2_with fail
   refine (HT.out _).mono ?_;rintro e w3 ⟨rfl,hb3⟩;have HB:=hid hb3;clear hb3;go_wp2;go_ret;exact ⟨rfl,HB.out⟩
  .have hne:=Ni.dP (s:=k) (by omega);have hd:((k.size:Int)==32)=true:=by simp; omega
   clear h hp hk;go_enter func88,ntmps88;go_wp2_with fail
   refine (HT.out _).mono ?_;rintro e w3 ⟨rfl,hb3⟩;have HB:=hid hb3;clear hb3;go_wp2;go_ret;exact ⟨rfl,HB.out⟩
 | false =>
  have hns:¬ (k.size=0\/k.size=32):=of_decide_eq_false hp;have hne:=Ni.dP (s:=k) (by omega);have hd:((k.size:Int)==32)=false:=by simp; omega
  rw [LD h hp];clear h hp hns hk;go_enter func88,ntmps88;go_wp2;go_ret;exact ⟨rfl,aG⟩
def jC (xs:List It):aK:=⟨((xs.map It.bytes).flatten).toArray⟩
theorem um (xs ys:List It):jC (xs++ys)=jC xs++jC ys:=by
 unfold jC;rw [BO,List.map_append,List.flatten_append]
theorem nI (x:It):jC [x]=⟨x.bytes.toArray⟩:=by
 unfold jC;rw [List.map_cons,List.map_nil,List.flatten_cons,List.flatten_nil,List.append_nil]
theorem vC (xs:List It):(jC xs).size=((xs.map It.bytes).flatten).length:=fA _
theorem yg {N:Nd} (hl:N.ks.length=16) (h:fG bP N=true):(⟨(jP N).toArray⟩:aK)=eX (jC (bQ N)).size true++jC (bQ N)/\(jC (bQ N)).size<=1200000:=by
 have h2:=qJ (bQ N) 65561 (λy hy=>(vI hl h y hy).2);have eK:=xD hl;have hm:(bQ N).length*65561<=17*65561:=Nat.mul_le_mul_right _ eK;refine ⟨?_,by rw [vC]; omega⟩;unfold jP gq;rw [jB _ (by omega),vC];unfold eX jC;rw [BO]
theorem PV (N:Nd) (a:aJ) (n c:Nat) (hl:N.ks.length=16) (w:World) (hB:bq w a n c N.p) (hm:fG bP N=true) (hkd:N.kd=1) :
  Calls prog 52 #[.agg (ndC N a n c)] w λe w'=>e = .returned (.string ⟨(jP N).toArray⟩)/\Below w.heap.size w w':=by
 obtain ⟨m1,m2,_⟩:=jE hm;obtain ⟨f1,f2⟩:=yg hl hm;have e9:n<=64:=by rw [<-hB.len]; exact m1
 obtain ⟨w2,hw2⟩:=au (w.alloc (.cells (ndC N a n c) 56))
 have hO:dJ w2 w.heap.size N a n c:=by rw [hw2]; exact Rg.Own.new _ _ _
 have ec:Below w.heap.size w w2:=by rw [hw2]; exact al1 _ _
 have dv:=hid (λw' hb=>xZ a n c N.p true m2 e9 w' (hB.below hb));have HI:Hid (jC (bQ N)=⟨(It.mk false ⟨(iA N.p true).toArray⟩ []).bytes.toArray⟩++⟨(It.mk false N.v []).bytes.toArray⟩):=hid (by
  unfold bQ uL;rw [if_neg (by omega),if_pos hkd];rw [show ∀ x y:It,[x,y]=[x]++[y] from λ_ _=>rfl,um,nI,nI,hkd];rfl)
 obtain ⟨P,hP⟩:=av (⟨(iA N.p true).toArray⟩:aK)
 have hps:P.size<=100:=by rw [<-hP,nS,hB.len]; omega
 rw [hP] at dv HI;have HT1:=hid (λw=>uD P (by omega) w);have hv2:N.v.size<=65552:=by
  rcases jJ hl hm with ⟨_,_,v,_⟩ | ⟨k2,_⟩ | ⟨k3,_⟩
  .exact v
  .omega
  .omega
 have HT2:=hid (λw=>uD N.v (by omega) w);rw [HI.out] at f1 f2;obtain ⟨T1,hT1⟩:=av (⟨(It.mk false P []).bytes.toArray⟩:aK)
 obtain ⟨T2,il⟩:=av (⟨(It.mk false N.v []).bytes.toArray⟩:aK)
 rw [hT1] at f1 f2 HT1;rw [il] at f1 f2 HT2;have hts:T1.size+T2.size<=1200000:=by rw [ByteArray.size_append] at f2; exact f2
 have r3:Hid (¬ 9223372036854775807<T1.size+T2.size):=hid (by omega);obtain ⟨X,hX⟩:=av (T1++T2)
 have HX:=hid hX;rw [hX] at f1 f2;have HF:=hid f1;clear hT1 il hP hX HI f1 e9;have HL:=hid hl;have HK:=hid hkd;have aw:=hid ec;have HO:=hid hO;obtain ⟨c0,c1,c2⟩:=bW hO;rw [hkd] at c0;clear hm hl m1 m2 hB hO ec hkd;subst hw2;go_enter func52,ntmps52;go_wp2_with fail
 refine aB (S:=λw'=>dJ w' w.heap.size N a n c/\Below w.heap.size w w') (⟨HO.out.drew,aw.out.drew⟩) λhld=>?_;refine ah 0 ?_;try simp only [ak]
 refine ah 1 ?_ (hy:=by intro wz hSw; (have q0:=(bW hSw.1).2.1; go_simp <;> with_reducible rfl));try simp only [ak]
 refine ah 4 ?_;try simp only [ak]
 refine ah 5 ?_ (hy:=by intro wz hSw; (have q0:=(bW hSw.1).2.2; go_simp <;> with_reducible rfl));try simp only [ak]
 refine aj 2 λK hK=>?_;go_simp;go_at_call 87
 (with_reducible refine (dv.out _ hld.2).mono ?_)
 rintro e E8 ⟨rfl,hbx⟩;refine hK.out _ _ (⟨hld.1.below hbx,bst hld.2 hbx⟩) λhld=>?_;clear hK K hbx;try simp only [ak]
 refine aj 3 λK hK=>?_;go_simp;go_at_call 86
 (with_reducible refine (HT1.out _).mono ?_)
 rintro e E9 ⟨rfl,hbx⟩;refine hK.out _ _ (⟨hld.1.below hbx,bst hld.2 hbx⟩) λhld=>?_;clear hK K hbx;try simp only [ak]
 refine aj 6 λK hK=>?_;go_simp;go_at_call 86
 (with_reducible refine (HT2.out _).mono ?_)
 rintro e Eg ⟨rfl,hbx⟩;refine hK.out _ _ (⟨hld.1.below hbx,bst hld.2 hbx⟩) λhld=>?_;clear hK K hbx;try simp only [ak]
 refine ah 7 ?_ (hy:=by intro wz hSw; (have q0:=r3.out; go_simp <;> with_reducible rfl));try simp only [ak]
 refine ah 8 ?_;try simp only [ak]
 refine aA ?_;rw [HX.out];obtain ⟨c0,c1,c2⟩:=bW hld.1;rw [HK.out] at c0;have kq:=hid hld.2;clear hld;have wj:(eX X.size true).size<=9:=by unfold eX; rw [fA]; exact mW _ _ (by omega)
 have wt:=hid (qz X.size (by omega) true);go_wp2_with fail
 refine (wt.out _).mono ?_;rintro e w9 ⟨rfl,ed⟩;have fR:=hid (bst kq.out ed);clear ed;go_wp2;go_ret;exact ⟨by rw [HF.out]; rfl,fR.out⟩
theorem TG (N:Nd) (a:aJ) (n c:Nat) (hl:N.ks.length=16) (w:World) (hB:bq w a n c N.p) (hm:fG bP N=true) (hkd:N.kd=2) :
  Calls prog 52 #[.agg (ndC N a n c)] w λe w'=>e = .returned (.string ⟨(jP N).toArray⟩)/\Below w.heap.size w w':=by
 obtain ⟨m1,m2,_⟩:=jE hm;obtain ⟨f1,f2⟩:=yg hl hm;have e9:n<=64:=by rw [<-hB.len]; exact m1
 obtain ⟨w2,hw2⟩:=au (w.alloc (.cells (ndC N a n c) 56))
 have hO:dJ w2 w.heap.size N a n c:=by rw [hw2]; exact Rg.Own.new _ _ _
 have ec:Below w.heap.size w w2:=by rw [hw2]; exact al1 _ _
 have dv:=hid (λw' hb=>xZ a n c N.p false m2 e9 w' (hB.below hb));have HI:Hid (jC (bQ N)=⟨(It.mk false ⟨(iA N.p false).toArray⟩ []).bytes.toArray⟩++⟨(dS (N.ks.getD 0 eB)).bytes.toArray⟩):=hid (by
  unfold bQ uL;rw [if_neg (by omega),if_neg (by omega)];rw [show ∀ x y:It,[x,y]=[x]++[y] from λ_ _=>rfl,um,nI,nI,hkd];rfl)
 obtain ⟨P,hP⟩:=av (⟨(iA N.p false).toArray⟩:aK)
 have hps:P.size<=100:=by rw [<-hP,nS,hB.len]; omega
 rw [hP] at dv HI;have HT1:=hid (λw=>uD P (by omega) w);have hr:bP (N.ks.getD 0 eB)=true:=by
  rcases jJ hl hm with ⟨k1,_⟩ | ⟨_,_,_,_,_,r⟩ | ⟨k3,_⟩
  .omega
  .exact r
  .omega
 obtain ⟨k,hk⟩:=av (N.ks.getD 0 eB)
 rw [hk] at hr HI;have C7:Hid (∀ wz,dJ wz w.heap.size N a n c->wz.cell? ⟨w.heap.size,3,none⟩=some (.string k)):=hid (λwz h=>by rw [<-hk]; exact sG h hl 0 (by decide));have hks:k.size<=100:=by
  cases hp:dB k with
  | true=>have:=lJ hp; omega
  | false=>obtain ⟨_,_,_,_,_,_,h,_⟩:=sQ hp hr; omega
 have HT2:=hid (λw=>Gs k hks hr w);clear hk hr hks;rw [HI.out] at f1 f2;obtain ⟨T1,hT1⟩:=av (⟨(It.mk false P []).bytes.toArray⟩:aK)
 obtain ⟨T2,il⟩:=av (⟨(dS k).bytes.toArray⟩:aK)
 rw [hT1] at f1 f2 HT1;rw [il] at f1 f2 HT2;have hts:T1.size+T2.size<=1200000:=by rw [ByteArray.size_append] at f2; exact f2
 have r3:Hid (¬ 9223372036854775807<T1.size+T2.size):=hid (by omega);obtain ⟨X,hX⟩:=av (T1++T2)
 have HX:=hid hX;rw [hX] at f1 f2;have HF:=hid f1;clear hT1 il hP hX HI f1 e9;have HL:=hid hl;have HK:=hid hkd;have aw:=hid ec;have HO:=hid hO;obtain ⟨c0,c1,c2⟩:=bW hO;rw [hkd] at c0;clear hm hl m1 m2 hB hO ec hkd;subst hw2;go_enter func52,ntmps52;go_wp2_with fail
 refine aB (S:=λw'=>dJ w' w.heap.size N a n c/\Below w.heap.size w w') (⟨HO.out.drew,aw.out.drew⟩) λhld=>?_;refine ah 0 ?_;try simp only [ak]
 refine ah 1 ?_ (hy:=by intro wz hSw; (have q0:=(bW hSw.1).2.1; go_simp <;> with_reducible rfl));try simp only [ak]
 refine ah 4 ?_;try simp only [ak]
 refine ah 5 ?_;try simp only [ak]
 refine ah 6 ?_ (hy:=by intro wz hSw; (have q0:=C7.out wz hSw.1; go_simp <;> with_reducible rfl));try simp only [ak]
 refine aj 2 λK hK=>?_;go_simp;go_at_call 87
 (with_reducible refine (dv.out _ hld.2).mono ?_)
 rintro e E8 ⟨rfl,hbx⟩;refine hK.out _ _ (⟨hld.1.below hbx,bst hld.2 hbx⟩) λhld=>?_;clear hK K hbx;try simp only [ak]
 refine aj 3 λK hK=>?_;go_simp;go_at_call 86
 (with_reducible refine (HT1.out _).mono ?_)
 rintro e E9 ⟨rfl,hbx⟩;refine hK.out _ _ (⟨hld.1.below hbx,bst hld.2 hbx⟩) λhld=>?_;clear hK K hbx;try simp only [ak]
 refine aj 7 λK hK=>?_;go_simp;go_at_call 88
 (with_reducible refine (HT2.out _).mono ?_)
 rintro e Eg ⟨rfl,hbx⟩;refine hK.out _ _ (⟨hld.1.below hbx,bst hld.2 hbx⟩) λhld=>?_;clear hK K hbx;try simp only [ak]
 refine ah 8 ?_ (hy:=by intro wz hSw; (have q0:=r3.out; go_simp <;> with_reducible rfl));try simp only [ak]
 refine ah 9 ?_;try simp only [ak]
 refine aA ?_;rw [HX.out];obtain ⟨c0,c1,c2⟩:=bW hld.1;rw [HK.out] at c0;have kq:=hid hld.2;clear hld;have wj:(eX X.size true).size<=9:=by unfold eX; rw [fA]; exact mW _ _ (by omega)
 have wt:=hid (qz X.size (by omega) true);go_wp2_with fail
 refine (wt.out _).mono ?_;rintro e w9 ⟨rfl,ed⟩;have fR:=hid (bst kq.out ed);clear ed;go_wp2;go_ret;exact ⟨by rw [HF.out]; rfl,fR.out⟩
end No
end
section
open Go.RowKit
namespace Tm
open Tr Rf Rl Ni No Pk Sm
theorem MW {N:Nd} (hl:N.ks.length=16) (h:fG bP N=true):(jP N).length<=900000:=by
 have key:∀ m,(∀ y∈bQ N,y.bytes.length<=m)->(bQ N).length*m<=200000->(jP N).length<=900000:=by
  intro m h1 h2;have h3:=qJ (bQ N) m h1;unfold jP gq;rw [jB _ (by omega),List.length_append];have:=mW ((bQ N).map It.bytes).flatten.length true (by omega);omega
 have hg:=vI hl h;rcases jJ hl h with ⟨k1,_⟩ | ⟨k1,_⟩ | ⟨k1,_,_,_,hr⟩
 .exact key 65561 (λy hy=>(hg y hy).2) (by unfold bQ; rw [if_neg (by omega),if_pos k1]; simp)
 .exact key 65561 (λy hy=>(hg y hy).2) (by unfold bQ; rw [if_neg (by omega),if_neg (by omega)]; simp)
 .refine key 41 (λy hy=>?_) (by have:=xD hl; omega);unfold bQ at hy;rw [if_pos k1] at hy;rcases List.mem_append.1 hy with hy | hy
  .obtain ⟨k,hk,rfl⟩:=List.mem_map.1 hy;exact (lM (hr k hk)).2
  .obtain rfl:=List.mem_singleton.1 hy;have h:=(lM (k:=eB) (by unfold bP; rw [wE]; rfl)).2;rw [nP wE] at h;exact h
theorem MH {k:aK} (h:bP k=true):k.size<=32:=by
 unfold bP at h;rw [Bool.or_eq_true,Bool.and_eq_true] at h;rcases h with h | h
 .have:k.size=0\/k.size=32:=of_decide_eq_true h;omega
 .have:=of_decide_eq_true h.1;omega
theorem Xa:fG bP nd0=false:=by
 unfold fG lI;rfl
theorem Jr (p:aJ) (N:Nd) (hl:N.ks.length=16) (hv:N.v.size<=maxLen) (hks:∀ k∈N.ks,k.size<=100) (w:World) (Q:World->Prop)
  (htop:∀ wx,Below w.heap.size w wx->Calls prog 41 #[.agg #[.pointer p]] wx λe w'=>∃ a n c,e = .returned (.agg (ndC N a n c))/\bq w' a n c N.p/\Q w') :
  Calls prog 19 #[.agg #[.pointer p]] w λe w'=>e = .returned (.string (if fG bP N then ⟨(jP N).toArray⟩ else eB))/\∃ w1,Q w1/\Below w1.heap.size w1 w':=by
 have h0:=fU w p;have HT:=hid (htop _ (al1 w (.cells #[.pointer p] 31)));have HL:=hid hl;have HV:=hid hv;have HK:=hid hks;obtain ⟨s,hs⟩:=av (if fG bP N then (⟨(jP N).toArray⟩:aK) else eB)
 obtain ⟨x,hx⟩:∃ x:Int,(if fG bP N then (0:Int) else 2)=x:=⟨_,rfl⟩
 rw [hs];have HS:=hid hs;have HX:=hid hx;clear htop hl hv hks hs hx;go_enter func19,ntmps19;go_wp2_with (refine ay (aT h0 ⟨_,rfl,rfl⟩) ?_)
 refine HT.out.mono ?_;rintro e w1 ⟨a,n,c,rfl,hB,hQ⟩;have HP:=hid (TR N a n c HL.out w1 hB HV.out HK.out);have HQ:=hid hQ;unfold Yl at HP;rw [HS.out,HX.out] at HP;clear hB hQ HT h0;go_wp2_with fail
 refine HP.out.mono ?_;rintro e w2 ⟨rfl,hb2⟩;have HB:=hid hb2;clear hb2 HP;go_wp2;go_ret;exact ⟨rfl,w1,HQ.out,HB.out⟩
theorem Ug (p:aJ) (k:Int) (h1:k≠1) (h2:k≠2) (h3:k≠3) (w:World)
  (hK:∀ wx,Below w.heap.size w wx->Calls prog 53 #[.agg #[.pointer p]] wx λe w'=>e = .returned (.int .i64 k)/\Below wx.heap.size wx w') :
  Calls prog 19 #[.agg #[.pointer p]] w λe w'=>e = .returned (.string eB)/\Below w.heap.size w w':=by
 refine (Jr p nd0 jl (by show (0:Nat)<=_; omega) (λk hk=>by
  have:k=eB:=List.eq_of_mem_replicate (show k∈List.replicate 16 eB from hk);rw [this]; show (0:Nat)<=100; omega) w (λw'=>Below w.heap.size w w') (λwx hbx=>?_)).mono ?_
 .refine (GY p k h1 h2 h3 wx (λwy hby=>hK wy (bst hbx hby))).mono ?_;rintro e w' ⟨rfl,hb⟩;exact ⟨none,0,0,rfl,bq.nil _,bst hbx hb⟩
 .rintro e w' ⟨rfl,w1,hQ,hb⟩;exact ⟨by rw [Xa]; rfl,bst hQ hb⟩
theorem uG {t:T} {L:Nat} (g:Tr.Good t L) (hL:L<=64) (f:Fine t) (hn:t ≠ .nil) (hs:¬ dH t):fG bP (bH t)=true/\eU t=⟨(jP (bH t)).toArray⟩/\(eU t).size<=900000/\(bH t).v.size<=maxLen/\(bH t).p.length<=64/\∀ k∈(bH t).ks,k.size<=100:=by
 have hm:=(eZ t L g hL f hn).1 hs;have he:eU t=⟨(jP (bH t)).toArray⟩:=by
  cases t with
  | nil=>exact absurd rfl hn
  | stub r=>exact absurd trivial hs
  | leaf p v=>rfl
  | ext q s=>rfl
  | br ks=>rfl
 refine ⟨hm,he,?_,?_,?_,?_⟩
 .rw [he];have:=MW (dh t) hm;show (jP (bH t)).toArray.size<=_;simpa using this
 .cases t with
  | leaf p v=>exact Nat.le_trans f.2 (by unfold maxLen; omega)
  | _=>exact Nat.zero_le _
 .unfold fG at hm;rw [Bool.and_eq_true,Bool.and_eq_true] at hm;exact of_decide_eq_true hm.1.1
 .intro k hk;have hz:∀ x,x=eB->x.size<=100:=λx e=>by rw [e]; exact Nat.zero_le _
  cases t with
  | nil=>exact hz k (List.eq_of_mem_replicate (show k∈List.replicate 16 eB from hk))
  | stub r=>exact absurd trivial hs
  | leaf p v=>exact hz k (List.eq_of_mem_replicate (show k∈List.replicate 16 eB from hk))
  | ext q s =>
   rcases List.mem_cons.1 (show k∈ref s::List.replicate 15 eB from hk) with rfl | h
   .obtain ⟨_,_,g3,g4,g5⟩:=g;have:=MH (eZ s _ g5 (by omega) f (qM g4)).2.1;omega
   .exact hz k (List.eq_of_mem_replicate h)
  | br ks =>
   obtain ⟨i,_,rfl⟩:=List.mem_map.1 (show k∈(List.finRange 16).map λi=>ref (ks i) from hk);by_cases e:ks i = .nil
   .rw [e]; exact Nat.zero_le _
   .have:=MH (eZ (ks i) _ (g.2.2 i) (by omega) (f i) e).2.1;show (ref (ks i)).size<=100;omega
theorem Vm {t:T} {L:Nat} (g:Tr.Good t L):(bT t).length<=L:=by
 cases t with
 | leaf p v=>exact Nat.le_of_eq g.1
 | ext q s=>exact g.2.2.1
 | nil=>exact Nat.zero_le _
 | br ks=>exact Nat.zero_le _
 | stub r=>exact Nat.zero_le _
theorem NA (M:Mp) (b:Nat) (t:T) (hm:M.at_ b=some t) (hs:¬ dH t) (hn:t ≠ .nil) {L:Nat} (g:Tr.Good t L) (hL:L<=64) (w:World) (hi:dR M (sz t) w) {pa:aJ} {pn pc:Nat} {ka:aJ} {kn kc:Nat} (hB:Body M w b t pa pn pc ka kn kc) (hT:Tab w)
  (oj:∀ q s,t = .ext q s->mX s) (hR2:∀ ks,t = .br ks->∀ i,mX (ks i)) :
  Calls prog 41 #[.agg #[.pointer (some ⟨b,0,none⟩)]] w (nG M t w):=by
 have hp:=Vm g;cases t with
 | nil=>exact absurd rfl hn
 | stub r=>exact absurd trivial hs
 | leaf q v=>exact Ro M b q v hm w hi pa pn pc ka kn kc hB (by have:q.length<=L:=hp; omega)
 | ext q s=>exact Xf M b q s hm w hi pa pn pc ka kn kc hB (by have:q.length<=L:=hp; omega) hT (oj q s rfl)
 | br ks=>exact XT M b ks hm w hi pa pn pc ka kn kc hB hT (hR2 ks rfl)
theorem Ny (M:Mp) (b:Nat) (t:T) (hm:M.at_ b=some t) (hs:¬ dH t) (hn:t ≠ .nil) (g:Tr.Good t L) (hL:L<=64) (f:Fine t) (w:World) (hi:dR M (sz t) w) {pn pc:Nat} {ka:aJ} {kc:Nat} (hB:Body M w b t pa pn pc ka kn kc) (hT:Tab w)
  (oj:∀ q s,t = .ext q s->mX s) (hR2:∀ ks,t = .br ks->∀ i,mX (ks i)) :
  Calls prog 19 #[.agg #[.pointer (some ⟨b,0,none⟩)]] w λe w'=>e = .returned (.string (eU t))/\FrN M (sz t) w w'/\dR M (sz t) w':=by
 obtain ⟨h1,h2,h3,h4,h5,h6⟩:=uG g hL f hn hs;refine (Jr (some ⟨b,0,none⟩) (bH t) (dh t) h4 h6 w (λw'=>FrN M (sz t) w w'/\dR M (sz t) w') (λwx hbx=>?_)).mono ?_
 .refine (NA M b t hm hs hn g hL wx (hi.below hbx) (hB.below hbx) (hT.below hbx hT.pos) oj hR2).mono ?_;rintro e w' ⟨a,n,c,rfl,hx,hf,hi'⟩;exact ⟨a,n,c,rfl,hx.1,(FrN.below M _ hbx).trans hf,hi'⟩
 .rintro e w' ⟨rfl,w1,⟨hf,hi1⟩,hb⟩;exact ⟨by rw [if_pos h1,h2],hf.trans (FrN.below M _ hb),hi1.below hb⟩
def rM (t:T) (a:aJ) (n c:Nat) (ka:aJ) (kn kc:Nat) (r:aK):aM :=
 #[.int .i64 (dD t),.slice a n c,.string (EI t),.slice ka kn kc,.int .u32 0,.int .i32 1,.int .u32 0,.string r]
theorem Wj {t:T} {a:aJ} {n c:Nat} {ka:aJ} {kn kc:Nat} {r:aK} {j:Nat} {v:Value} (h:(rM t a n c ka kn kc r)[j]? = some v):(∀ x,v ≠ .int .u8 x)/\∀ p,v ≠ .pointer p:=by
 unfold rM at h
 match j,h with
 | 0,h | 1,h | 2,h | 3,h | 4,h | 5,h | 6,h | 7,h =>
  simp at h;subst h;exact ⟨λx e=>(by cases e),λp e=>(by cases e)⟩
 | j+8,h=>simp at h
theorem OM {b:Nat} {t:T} {n:Nat} {ka:aJ} {kc:Nat} (h:Rg.Own w b (rM t a n c ka kn kc r) 108):FD w b:=by
 refine ⟨λj v hc=>Wj (ql h.2 hc),?_⟩;rw [World.cell?,h.2];rfl
theorem CF {a:Act} (hw:Region.wanted o (yielded ops a.tmps)=true) {b off:Nat} (hg:Rg.Own w b cs t) (hof:off<cs.size) (s:aK)
  (ho:∃ x y,o.op = .store 9 x y/\a.eval x = .pointer (some ⟨b,off,none⟩)/\a.eval y = .string s)
  (h:∀ w',Rg.Own w' b (cs.setIfInBounds off (.string s)) t->Rg.Upd w b w'->K (a.put o.dst undef) w'):if Region.wanted o (yielded ops a.tmps)=true then Oper.wp prog o a w K Q else K (a.put o.dst undef) w:=by
 obtain ⟨x,y,ho,hx,hy⟩:=ho;refine Rg.want hw ?_;unfold Oper.wp execOp;simp only [ho,hx,hy,Sem.run_bind,Sem.run_pure,Result.andThen_ok,qO hg hof s];exact h _ (dO hg _) (bV _ _ _ _)
theorem dR.lock {M:Mp} {n:Nat} {b:Nat} {t:T} (h:dR M n w) (hu:Rg.Upd w b w') (hm:M.at_ b=some t) (hnt:n<=sz t) (hN:FD w' b):dR M n w':=by
 refine ⟨λk hk=>by rw [hu.size]; exact h.lt_ k hk,λb' t' hm'=>?_⟩;obtain ⟨h1,h2,h3,h4⟩:=h.part_ b' t' hm';have hNb:=(h.part_ b t hm).2.2.1;by_cases e:b'=b
 .subst e;obtain rfl:t=t':=by rw [hm] at hm'; exact Option.some.inj hm'
  exact ⟨h1,h2,hN,λhl=>absurd hl (by omega)⟩
 .refine ⟨h1,h2,h3.keep (hu.block b' e),λhl=>(h4 hl).keep (by rw [hu.size]; exact aF) (hu.block b' e) (λk j v hk hc hv=>hu.block k (λek=>?_))⟩;subst ek;rcases hv with ⟨x,rfl⟩ | ⟨p,rfl⟩
  .exact (hNb.1 _ _ hc).1 x rfl
  .exact (hNb.1 _ _ hc).2 p rfl
theorem Body.upd {M:Mp} {b:Nat} {t:T} {n:Nat} {ka:aJ} {kc:Nat} (h:Body M w b t a n c ka kn kc) (hN:FD w b) (hu:Rg.Upd w b w') (hc:∀ j,j<4->w'.cell? ⟨b,j,none⟩=w.cell? ⟨b,j,none⟩):Body M w' b t a n c ka kn kc:=by
 refine ⟨(hc 0 (by omega)).trans h.c0,(hc 1 (by omega)).trans h.c1,(hc 2 (by omega)).trans h.c2,(hc 3 (by omega)).trans h.c3,⟨h.hb.1,h.hb.2.1,h.hb.2.2.1,h.hb.2.2.2.1,λj hj=>?_⟩,h.hk.1,h.hk.2.1,h.hk.2.2.1,h.hk.2.2.2.1,λj hj=>?_⟩
 .obtain ⟨b',off,e,hlt,hcb⟩:=h.hb.2.2.2.2 j hj;refine ⟨b',off,e,by rw [hu.size]; exact hlt,?_⟩;rw [World.cell?_of_block (hu.block b' (λek=>by subst ek; exact (hN.1 _ _ hcb).1 _ rfl))];exact hcb
 .obtain ⟨b',off,p,e,hlt,hf,hcb,ht⟩:=h.hk.at' j hj;refine ⟨b',off,p,e,by rw [hu.size]; exact hlt,hf,?_,ht⟩;rw [World.cell?_of_block (hu.block b' (λek=>by subst ek; exact (hN.1 _ _ hcb).2 _ rfl))];exact hcb
theorem Yg (M:Mp) (b:Nat) (t:T) (hm:M.at_ b=some t) (hsz:(eU t).size<=900000) (bx:Nat) (w:World) (hbx:w.cell? ⟨bx,0,none⟩=some (.pointer (some ⟨b,0,none⟩))) (hne:bx≠b) (hi:dR M (sz t) w) (hT:Tab w)
 {n:Nat} {ka:aJ} {kc:Nat} (hO:Rg.Own w b (rM t a n c ka kn kc eB) 108)
  (hE:Calls prog 19 #[.agg #[.pointer (some ⟨b,0,none⟩)]] w.drew λe w'=>e = .returned (.string (eU t))/\FrN M (sz t) w.drew w'/\dR M (sz t) w') :
  Calls prog 55 #[.pointer (some ⟨bx,0,none⟩)] w λe w'=>e = .returned (.tuple #[])/\∃ w1,FrN M (sz t) w w1/\dR M (sz t) w1/\Rg.Upd w1 b w'/\Rg.Own w' b (rM t a n c ka kn kc (ofP (eU t))) 108:=by
 have u2:=hid hE;have cW:=hid hsz;have hnb:M.at_ b=none\/∃ t',M.at_ b=some t'/\sz t<=sz t':=Or.inr ⟨t,hm,aF⟩;have HF:Hid (∀ w5,FrN M (sz t) w.drew w5->dR M (sz t) w5->w5.cell? ⟨bx,0,none⟩=some (.pointer (some ⟨b,0,none⟩))/\Tab w5/\Rg.Own w5 b (rM t a n c ka kn kc eB) 108/\
   ∀ w6,Below w5.heap.size w5 w6->w6.cell? ⟨bx,0,none⟩=some (.pointer (some ⟨b,0,none⟩))/\Rg.Own w6 b (rM t a n c ka kn kc eB) 108/\
   ∀ ap,Rg.Own ap b ((rM t a n c ka kn kc eB).setIfInBounds 7 (.string (ofP (eU t)))) 108->Rg.Upd w6 b ap->ap.cell? ⟨bx,0,none⟩=some (.pointer (some ⟨b,0,none⟩))/\∃ w1,FrN M (sz t) w w1/\dR M (sz t) w1/\Rg.Upd w1 b ap/\Rg.Own ap b (rM t a n c ka kn kc (ofP (eU t))) 108):=hid (λw5 cN hi5=>by
  have L8:dR M (sz t) w.drew:=hi.below (below_drewN aG 1);have S7:Tab w.drew:=hT;have h5:=cN.cell (b:=bx) (o:=0) hbx (Or.inl (L8.lT (j:=0) hbx));have aE:Rg.Own w5 b (rM t a n c ka kn kc eB) 108:=⟨aH hO.1 cN.size,(cN.block b hO.1 hnb).trans hO.2⟩
  refine ⟨h5,xq L8 cN S7,aE,λw6 hb6=>⟨aV hb6 h5,aE.below hb6,λap aq hu=>⟨?_,w6,(((FrN.below M _ (below_drewN aG 1)).trans cN).trans (FrN.below M _ hb6)),hi5.below hb6,hu,aq⟩⟩⟩;rw [<-aV hb6 h5];exact World.cell?_of_block (w:=w6) (hu.block bx hne))
 clear hE hsz hi hT hO hm hnb hne;go_enter func55,ntmps55;go_wp2_with fail
 refine aB (S:=λw'=>w'.cell? ⟨bx,0,none⟩=some (.pointer (some ⟨b,0,none⟩))) (hbx) λhld=>?_;refine ah 0 ?_;try simp only [ak]
 refine aC 1 (λwz hSw=>hSw) ?_;try simp only [ak]
 refine ah 2 ?_ (hy:=by intro wz hSw; (refine aT hSw ?_; exact ⟨_,rfl,rfl⟩));try simp only [ak]
 refine aj 3 λK hK=>?_;go_simp;go_at_call 19
 (with_reducible refine u2.out.mono ?_)
 rintro e w5 ⟨rfl,cN,hi5⟩;obtain ⟨hS5,hZ,aE,L9⟩:=HF.out w5 cN hi5;have H5:=hid L9;have cd:=hid aE;have mx:=hid hZ;clear cN hi5 L9 aE hZ;refine hK.out _ _ (hS5) λhld=>?_;clear hK K;try simp only [ak]
 refine aj 4 λK hK=>?_;go_simp;go_at_call 56
 (with_reducible refine (Wi _ cW.out w5 mx.out).mono ?_)
 rintro e w6 ⟨rfl,hb6⟩;obtain ⟨ml,cI,vz⟩:=H5.out w6 hb6;have H6:=hid vz;have cM:=hid cI;clear hb6 vz cI;refine hK.out _ _ (ml) λhld=>?_;clear hK K;try simp only [ak]
 refine ah 5 ?_;try simp only [ak]
 refine ah 6 ?_;try simp only [ak]
 refine aj 7 λK hK=>?_;refine CF (by rfl) cM.out (off:=7) (show 7<8 by omega) (ofP (eU t)) ⟨_,_,rfl,rfl,rfl⟩ ?_;intro ap aq az;obtain ⟨cQ,mm⟩:=H6.out ap aq az;have g9:=hid mm;clear aq mm;refine hK.out _ _ (cQ) λhld=>?_;clear hK K;try simp only [ak]
 refine aA ?_;go_wp2;go_end0;exact ⟨rfl,g9.out⟩
end Tm
end
section
open Go.RowKit
namespace Rf
open Rl Ni No Sh Sm
def uJ (s:aK):aK:=⟨(jI s).toArray⟩
theorem Nu (s:aK) (hs:s.size<=900000) (w:World) :
  Calls prog 51 #[.string s] w λe w'=>e = .returned (.string (uJ s))/\Below w.heap.size w w':=by
 have h:=VN s.data.toList (by simpa using hs) w;have e:(⟨s.data.toList.toArray⟩:aK)=s:=by apply ByteArray.ext; simp
 rw [e] at h;exact h
theorem Jk (s:aK) (hs:s.size<=900000) (w:World) :
  Calls prog 68 #[.string s] w λe w'=>e = .returned (.string (ofP s))/\Below w.heap.size w w':=by
 by_cases h:s.size<32
 .have HF:Hid (ofP s=s):=hid (by unfold ofP; rw [if_pos h]);have hd:decide ((32:Int)<=(s.size:Int))=false:=by simp; omega
  rw [HF.out];clear HF;go_enter func68,ntmps68;go_wp2;go_ret;exact ⟨rfl,aG⟩
 .have HF:Hid (ofP s=uJ s):=hid (by unfold ofP; rw [if_neg h]; rfl);have hd:decide ((32:Int)<=(s.size:Int))=true:=by simp; omega
  have eV:=hid (Nu s hs w);rw [HF.out];obtain ⟨K,hK⟩:=av (uJ s)
  rw [hK] at eV;rw [hK];clear HF hK;go_enter func68,ntmps68;go_wp2_with fail
  refine eV.out.mono ?_;rintro e w1 ⟨rfl,hb1⟩;go_wp2;go_ret;exact ⟨rfl,hb1⟩
theorem Qn (xs:List aK) (q:Nat) (h:q<xs.length):(xs.take (q+1)).map uJ=(xs.take q).map uJ++[uJ (xs.getD q eB)]:=by
 have e:xs.getD q eB=xs[q]:=by simp [List.getD,h]
 rw [List.take_succ_eq_append_getElem h,e,List.map_append];rfl
theorem MV (xs:List aK) (q k:Nat) (h:q<=xs.length) (hk:k<q):((xs.take q).map uJ).getD k eB=uJ (xs.getD k eB):=by
 have h1:k<xs.length:=by omega
 simp [List.getD,List.getElem?_take_of_lt hk,h1]
theorem Xr {xs:List aK} (hj:j<xs.length):xs.getD j eB∈xs:=by
 have e:xs.getD j eB=xs[j]:=by simp [List.getD,hj]
 rw [e]; exact List.getElem_mem hj
theorem Ij {B n:Nat} {xs:List Value} (h:w.ownsRow B e 1 v n xs) (hb:Below w.heap.size w w'):w'.ownsRow B e 1 v n xs:=h.kept (Bu.fu hb) (by cases v.ownBlock <;> simp)
end Rf
end
section
open Go.RowKit
namespace No
open Rl Ni
theorem Lp (ks:List aK) (j:Nat) (hj:j<ks.length):jC ((ks.take (j+1)).map dS)=jC ((ks.take j).map dS)++⟨(dS (ks.getD j eB)).bytes.toArray⟩:=by
 have e:ks.getD j eB=ks[j]:=by simp [List.getD,hj]
 rw [List.take_succ_eq_append_getElem hj,List.map_append,um,List.map_cons,List.map_nil,nI,e]
theorem QJ (ks:List aK) (hr:∀ k∈ks,bP k=true) (j:Nat) (hj:j<=16):(jC ((ks.take j).map dS)).size<=656:=by
 rw [vC];have:=qJ ((ks.take j).map dS) 41 (λy hy=>by
  obtain ⟨k,hk,rfl⟩:=List.mem_map.1 hy;exact (lM (hr k (List.mem_of_mem_take hk))).2)
 have h2:((ks.take j).map dS).length*41<=16*41:=Nat.mul_le_mul_right _ (by rw [List.length_map,List.length_take]; omega);omega
theorem Qe:(⟨(It.mk false ⟨#[]⟩ []).bytes.toArray⟩:aK)=⟨#[128]⟩:=by
 rw [lN ⟨#[]⟩ (by decide)];rfl
theorem Jy (N:Nd) (a:aJ) (n c:Nat) (hl:N.ks.length=16) (w:World) (hB:bq w a n c N.p) (hm:fG bP N=true) (hkd:N.kd=3) :
  Calls prog 52 #[.agg (ndC N a n c)] w λe w'=>e = .returned (.string ⟨(jP N).toArray⟩)/\Below w.heap.size w w':=by
 obtain ⟨m1,m2,_⟩:=jE hm;obtain ⟨f1,f2⟩:=yg hl hm;have e9:n<=64:=by rw [<-hB.len]; exact m1
 obtain ⟨w2,hw2⟩:=au (w.alloc (.cells (ndC N a n c) 56))
 have hO:dJ w2 w.heap.size N a n c:=by rw [hw2]; exact Rg.Own.new _ _ _
 have ec:Below w.heap.size w w2:=by rw [hw2]; exact al1 _ _
 have dv:=hid (λw' hb=>xZ a n c N.p true m2 e9 w' (hB.below hb));have hr:∀ k∈N.ks,bP k=true:=by
  rcases jJ hl hm with ⟨k1,_⟩ | ⟨k2,_⟩ | ⟨_,_,_,_,r⟩
  .omega
  .omega
  .exact r
 have HI:Hid (jC (bQ N)=jC ((N.ks.take 16).map dS)++⟨#[128]⟩):=hid (by
  unfold bQ;rw [if_pos hkd,um,nI,List.take_of_length_le (by omega)];show _++(⟨(It.mk false ⟨#[]⟩ []).bytes.toArray⟩:aK)=_;rw [Qe])
 have dc:Hid (∀ j,j<16->∀ w,Calls prog 88 #[.string (N.ks.getD j eB)] w λe w'=>e = .returned (.string ⟨(dS (N.ks.getD j eB)).bytes.toArray⟩)/\Below w.heap.size w w'):=hid (λj hj w=>by
  have hmem:N.ks.getD j eB∈N.ks:=by rw [List.getD_eq_getElem?_getD,List.getElem?_eq_getElem (by omega)]; exact List.getElem_mem _
  refine Gs _ ?_ (hr _ hmem) w;cases hp:dB (N.ks.getD j eB) with
  | true=>have:=lJ hp; omega
  | false=>obtain ⟨_,_,_,_,_,_,h,_⟩:=sQ hp (hr _ hmem); omega)
 have u4:Hid (∀ j,j<16->jC ((N.ks.take (j+1)).map dS)=jC ((N.ks.take j).map dS)++⟨(dS (N.ks.getD j eB)).bytes.toArray⟩):=hid (λj hj=>Lp N.ks j (by omega));have EE:Hid (∀ j,j<=16->(jC ((N.ks.take j).map dS)).size<=656):=hid (λj hj=>QJ N.ks hr j hj);have Lo:Hid (_/\_):=hid ⟨f1,f2⟩;clear hr f1 f2;have HL:=hid hl;have HK:=hid hkd;have aw:=hid ec;have HO:=hid hO;obtain ⟨c0,c1,c2⟩:=bW hO;rw [hkd] at c0;clear hm hl m1 m2 hB hO ec hkd;subst hw2;go_enter func52,ntmps52;go_wp2_with fail
 go_loopw [3,4] (λs i wr=>∃ (j:Nat) (T:aK),j<=16/\i = .int .i64 j/\s = .string T/\T.size<=656/\Hid (jC ((N.ks.take j).map dS)=T)/\Hid (dJ wr w.heap.size N a n c)/\Hid (Below w.heap.size w wr)) (λ_ i _=>16-(intOf i).toNat)
 case atStart=>exact ⟨0,⟨#[]⟩,Nat.zero_le _,rfl,rfl,by decide,hid rfl,HO,aw⟩
 case round =>
  obtain ⟨j,T,hj,rfl,rfl,hT,HT,HN,HB⟩:=hrel;clear HO aw c0 c1 c2;by_cases hlt:j<16
  .have HR:=hid (λw=>dc.out j hlt w);have HS:=hid (u4.out j hlt);have HW:=EE.out (j+1) (by omega);have hc:=sG HN.out HL.out j hlt;have HS2:Hid (jC ((N.ks.take (j+1)).map dS)=T++⟨(dS (N.ks.getD j eB)).bytes.toArray⟩):=hid (by rw [HS.out,HT.out]);rw [HS2.out] at HW;obtain ⟨k,hk⟩:=av (N.ks.getD j eB)
   rw [hk] at hc HR HW HS2;obtain ⟨U,hU⟩:=av (⟨(dS k).bytes.toArray⟩:aK)
   rw [hU] at HR HW HS2;have hsz:T.size+U.size<=656:=by rw [ByteArray.size_append] at HW; exact HW
   clear hk hU HS HT dc u4 EE;go_wp2_with fail
   refine (HR.out _).mono ?_;rintro e w5 ⟨rfl,hb5⟩;have kp:=hid (HN.out.below hb5);have ag:=hid (bst HB.out hb5);clear hb5 HN HB hc;go_wp2;go_roundw
   case rel=>exact ⟨j+1,T++U,by omega,by go_num,rfl,HW,HS2,kp,ag⟩
   case measure=>simp [intOf]; omega
  .obtain rfl:j=16:=by omega
   obtain ⟨f1,f2⟩:=Lo.out;rw [HI.out,HT.out] at f1 f2;obtain ⟨X,hX⟩:=av (T++⟨#[128]⟩)
   rw [hX] at f1 f2;have HF:=hid f1;have hsz:T.size+(⟨#[128]⟩:aK).size<=1200000:=by rw [<-ByteArray.size_append,hX]; exact f2
   have hone:(⟨#[128]⟩:aK).size=1:=rfl;rw [hone] at hsz;have EQ:=hid hX;have wj:(eX X.size true).size<=9:=by unfold eX; rw [fA]; exact mW _ _ (by omega)
   have Lq:(X.size:Int)=(T.size:Int)+1:=by rw [<-hX,ByteArray.size_append,hone]; rfl
   have hHd:=qz X.size (by omega) true;rw [Lq] at hHd;have wt:=hid hHd;clear hHd Lq;have h12:=f2;rw [<-hX] at h12;obtain ⟨c0,c1,c2⟩:=bW HN.out;rw [HK.out] at c0;clear f1 hX Lo HI dc u4 EE;go_wp2_with fail
   rw [EQ.out]
   with_reducible refine (wt.out _).mono ?_
   rintro e w9 ⟨rfl,ed⟩;have fR:=hid (bst HB.out ed);clear ed;go_wp2;go_ret;exact ⟨by rw [HF.out]; rfl,fR.out⟩
theorem NG (N:Nd) (a:aJ) (n c:Nat) (hl:N.ks.length=16) (w:World) (hB:bq w a n c N.p) (hm:fG bP N=true) :
  Calls prog 52 #[.agg (ndC N a n c)] w λe w'=>e = .returned (.string ⟨(jP N).toArray⟩)/\Below w.heap.size w w':=by
 rcases jJ hl hm with ⟨k1,_⟩ | ⟨k1,_⟩ | ⟨k1,_⟩
 .exact PV N a n c hl w hB hm k1
 .exact TG N a n c hl w hB hm k1
 .exact Jy N a n c hl w hB hm k1
end No
end
end Go.Proofs.YtlcplcgigjagpaaGreatDoor
