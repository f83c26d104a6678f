/-
 sync.Once, one goroutine: its parts, each a contract of its own; doSlow and Do over whatever function is handed to them.
-/
import Derived.Test.YtokaiemgjngcoaaGreatDoorVy2
open Go.Lib (hid)
open Go.Proofs.Tryz
set_option linter.unusedSimpArgs false
set_option linter.unusedVariables false
set_option maxHeartbeats 40000000
set_option maxRecDepth 100000
namespace Go.Proofs.YtokaiemgjngcoaaGreatDoor
section
open Go.RowKit
namespace On
theorem disable (w:World):(callFunc 191 #[]).run prog w = .ok (.value (.tuple #[])) w:=run_call_mark0 func191 (by kernel_rfl) (by kernel_rfl) (by kernel_rfl) .disable (by kernel_rfl) w
theorem enable (w:World):(callFunc 193 #[]).run prog w = .ok (.value (.tuple #[])) w:=run_call_mark0 func193 (by kernel_rfl) (by kernel_rfl) (by kernel_rfl) .enable (by kernel_rfl) w
theorem acquire (a:Addr) (w:World):(callFunc 194 #[.pointer (some a)]).run prog w = .ok (.value (.tuple #[])) w:=run_call_marked func194 (by kernel_rfl) (by kernel_rfl) (by kernel_rfl) .acquire (by kernel_rfl) a w
theorem releaseMerge (a:Addr) (w:World):(callFunc 196 #[.pointer (some a)]).run prog w = .ok (.value (.tuple #[])) w:=run_call_marked func196 (by kernel_rfl) (by kernel_rfl) (by kernel_rfl) .releaseMerge (by kernel_rfl) a w
theorem Am (a:Addr) (x:Value) (u:FrameMode) (w:World) (hc:w.cell? a=some x) (hz:w.frozen? a=false) :
  CallsD prog 185 #[.pointer (some a),.bool true] u w λe u' w'=>u'=u/\(e = .returned (.tuple #[])/\w'=w.drew.setCell a (.int .u32 1)):=by
 have hc':w.drew.cell? a=some x:=by go_simp
 have hz':w.drew.frozen? a=false:=by go_simp
 have hst:=run_call_store (P:=prog) func189 (by kernel_rfl) (by kernel_rfl) (by kernel_rfl) (by kernel_rfl) (k:=.u32) (y:=1) hc' hz';go_enter_d func185,ntmps185
 go_wp2;go_region_calls
 all_goals (go_end0; exact ⟨rfl,rfl⟩)
theorem unlock_deferred (a:Addr) (u:FrameMode) (w:World) (hc:w.cell? a=some (.int .i32 1)) (hz:w.frozen? a=false) :
  CallsD prog 184 #[.pointer (some a)] u w λe u' w'=>u'=u/\(e = .returned (.tuple #[])/\w'=w.setCell a (.int .i32 0)):=by
 have hd:=disable;have he:=enable;have hr:=releaseMerge;have hadd:=run_call_add (P:=prog) func197 (by kernel_rfl) (by kernel_rfl) (by kernel_rfl) .i32 (by kernel_rfl) (y := -1) (s:=0) hc hz (by simp [go_sem]; rfl);have hcv:=run_convert_to_unsafe (P:=prog) (src:=245) (dst:=234) underlying245 underlying234 (by kernel_rfl) hc;go_enter_d func184,ntmps184
 go_wp2;go_end0;all_goals (try go_wp2)
 all_goals (try go_end0)
 all_goals exact ⟨rfl,rfl⟩
theorem lock_free (a:Addr) (w:World) (hc:w.cell? a=some (.int .i32 0)) (hz:w.frozen? a=false) :
  Calls prog 183 #[.pointer (some a)] w λe w'=>e = .returned (.tuple #[])/\w'=w.setCell a (.int .i32 1):=by
 have hd:=disable;have he:=enable;have ha:=acquire;have hcas:=run_call_cas_hit (P:=prog) func192 (by kernel_rfl) (by kernel_rfl) (by kernel_rfl) .i32 (by kernel_rfl) (y:=1) hc hz;have hc':(w.setCell a (.int .i32 1)).cell? a=some (.int .i32 1):=World.cell?_setCell_same w a _ hc;have hcv:=run_convert_to_unsafe (P:=prog) (src:=245) (dst:=234) underlying245 underlying234 (by kernel_rfl) hc';go_enter func183,ntmps183;go_wp2
 first | go_end0 | (simp only [Exit.inBlock,Exit.then]; refine bodyPost_ret (results_none rfl _ _ _) rfl ?_) | refine bodyPost_ret (results_none rfl _ _ _) rfl ?_
 all_goals (try go_wp2)
 all_goals (try go_end0)
 all_goals exact ⟨rfl,rfl⟩
def Held (w:World) (b off:Nat):Prop:=(w.cell? ⟨b,off,none⟩=some (.int .u32 0)/\w.frozen? ⟨b,off,none⟩=false)/\w.cell? ⟨b,off+1,none⟩=some (.int .i32 1)/\w.frozen? ⟨b,off+1,none⟩=false
theorem Sy (D:FuncId) (caps:aO) (hD:∀ w,(callFunc D caps).run prog w = .ok (.enter D caps) w) (b off:Nat) (w:World) (R:World->Prop)
  (h0:w.cell? ⟨b,off,none⟩=some (.int .u32 0)) (h1:w.cell? ⟨b,off+1,none⟩=some (.int .i32 0)) (f1:w.frozen? ⟨b,off+1,none⟩=false)
  (h:Calls prog D caps (w.setCell ⟨b,off+1,none⟩ (.int .i32 1)) λe w'=>e = .returned (.tuple #[])/\Held w' b off/\R w') :
  Calls prog 173 #[.pointer (some ⟨b,off,none⟩),.func (.func D) #[] caps] w λe w'=>e = .returned (.tuple #[])/\∃ w1,R w1/\w'=(w1.drew.setCell ⟨b,off,none⟩ (.int .u32 1)).setCell ⟨b,off+1,none⟩ (.int .i32 0):=by
 have hl:=run_call_load (P:=prog) func182 (by kernel_rfl) (by kernel_rfl) (by kernel_rfl) .u32 (by kernel_rfl) (w:=w.setCell ⟨b,off+1,none⟩ (.int .i32 1)) (a:=⟨b,off,none⟩) (x:=0) ((World.cell?_setCell_other _ ⟨b,off+1,none⟩ ⟨b,off,none⟩ _ (by simp)).trans h0);have hnot:∀ (x:Bool) (w:World),(Op.unary .not (.bool x)).run prog w = .ok (.bool (!x)) w:=λ_ _=>rfl;have H:=hid h;clear h;go_enter_defers func173,ntmps173
 go_wp2_with (first | (go_at_call 183; refine (lock_free ⟨b,off+1,none⟩ _ h1 f1).mono ?_; rintro e w' ⟨rfl,rfl⟩) | (go_at_call 172; go_in))
 refine H.out.mono ?_;rintro e w1 ⟨rfl,⟨⟨g0,z0⟩,g1,z1⟩,hR⟩;have HR:=hid hR;clear hR H;go_wp2;refine leaves_cons (f:=185) (args:=#[.pointer (some ⟨b,off,none⟩),.bool true]) (by simp) (by simp [go_sem]) ?_;refine (Am ⟨b,off,none⟩ (.int .u32 0) .returning _ g0 z0).mono ?_;rintro e u' w'' ⟨rfl,rfl,rfl⟩;refine leaves_cons (f:=184) (args:=#[.pointer (some ⟨b,off+1,none⟩)]) (by simp [settle]) (by simp [go_sem]) ?_;refine (unlock_deferred ⟨b,off+1,none⟩ _ _ ?_ (by simp [z1])).mono ?_
 .refine (World.cell?_setCell_other _ ⟨b,off,none⟩ ⟨b,off+1,none⟩ _ (by simp)).trans ?_;rw [World.cell?_drew];exact g1
 rintro e u' w'' ⟨rfl,rfl,rfl⟩;have hR:=HR.out;simp [Leaves,settle,results,Tryz.results173];exact ⟨w1,hR,rfl⟩
theorem RG (D:FuncId) (caps:aO) (hD:∀ w,(callFunc D caps).run prog w = .ok (.enter D caps) w) (b off:Nat) (w:World) (R:World->Prop)
  (h0:w.cell? ⟨b,off,none⟩=some (.int .u32 0)) (h1:w.cell? ⟨b,off+1,none⟩=some (.int .i32 0)) (f1:w.frozen? ⟨b,off+1,none⟩=false)
  (h:Calls prog D caps (w.setCell ⟨b,off+1,none⟩ (.int .i32 1)) λe w'=>e = .returned (.tuple #[])/\Held w' b off/\R w') :
  Calls prog 151 #[.pointer (some ⟨b,off,none⟩),.func (.func D) #[] caps] w λe w'=>e = .returned (.tuple #[])/\∃ w1,R w1/\w'=(w1.drew.setCell ⟨b,off,none⟩ (.int .u32 1)).setCell ⟨b,off+1,none⟩ (.int .i32 0):=by
 have hl:=run_call_load (P:=prog) func182 (by kernel_rfl) (by kernel_rfl) (by kernel_rfl) .u32 (by kernel_rfl) h0;have hnot:∀ (x:Bool) (w:World),(Op.unary .not (.bool x)).run prog w = .ok (.bool (!x)) w:=λ_ _=>rfl;have HS:=hid (Sy D caps hD b off w R h0 h1 f1 h);clear h hD;go_enter func151,ntmps151;go_wp2_with (first | (go_at_call 173; refine HS.out.mono ?_; rintro e w' ⟨rfl,hw'⟩; have HW:=hid hw'; clear hw') | (go_at_call 172; go_in))
 go_end0;exact ⟨rfl,HW.out⟩
theorem UH (a:Addr) (fv:Value) (w:World) (h0:w.cell? a=some (.int .u32 1)) :
  Calls prog 151 #[.pointer (some a),fv] w λe w'=>e = .returned (.tuple #[])/\w'=w:=by
 have hl:=run_call_load (P:=prog) func182 (by kernel_rfl) (by kernel_rfl) (by kernel_rfl) .u32 (by kernel_rfl) h0;have hnot:∀ (x:Bool) (w:World),(Op.unary .not (.bool x)).run prog w = .ok (.bool (!x)) w:=λ_ _=>rfl;go_enter func151,ntmps151;go_wp2;go_end0;all_goals exact ⟨rfl,rfl⟩
end On
end
section
open Go.RowKit
namespace Rl
open Pk
theorem LW {w:World} {g:Nat} {x y:It} {A A2:aL} {N C N2 C2:Nat} (hO:Rg.Own w g #[.bool x.l,.string x.s,.slice A N C,.bool y.l,.string y.s,.slice A2 N2 C2] 96)
  (hx:gZ w x.xs A N C) (hy:gZ w y.xs A2 N2 C2):gZ w [x,y] (some ⟨g,0,none⟩) 2 2:=by
 have hc:∀ i,w.cell? ⟨g,i,none⟩=(#[.bool x.l,.string x.s,.slice A N C,.bool y.l,.string y.s,.slice A2 N2 C2]:aO)[i]? := λi=>by simp [World.cell?,hO.2]
 refine iE.mk (λj=>if j=0 then A else A2) (λj=>if j=0 then N else N2) (λj=>if j=0 then C else C2) rfl (by omega) (by unfold maxLen; omega) (by omega) (λe=>by cases e) (λj z hz=>?_) (λj z hz=>?_)
 .match j,hz with
  | 0,hz =>
   cases hz;exact ⟨g,0,rfl,Nat.zero_le _,hO.1,(hc 0),(hc 1),(hc 2)⟩
  | 1,hz =>
   cases hz;exact ⟨g,0,rfl,Nat.zero_le _,hO.1,(hc 3),(hc 4),(hc 5)⟩
 .match j,hz with
  | 0,hz=>cases hz; exact hx
  | 1,hz=>cases hz; exact hy
theorem Ey (w:World) (x:It) (h:x.xs=[]):gZ w x.xs none 0 0:=by rw [h]; exact bP.nil _ _
end Rl
end
end Go.Proofs.YtokaiemgjngcoaaGreatDoor
