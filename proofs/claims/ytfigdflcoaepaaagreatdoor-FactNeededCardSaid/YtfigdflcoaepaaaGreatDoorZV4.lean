/- Contracts and plain facts that the theorem rests on: SMap. -/
import Derived.Test.YtfigdflcoaepaaaGreatDoorZV3
import Derived.Shelf.Spec.TrailingZeros
import Derived.DeepKeys4
set_option linter.unusedSimpArgs false
set_option linter.unusedVariables false
namespace Go.Proofs.YtfigdflcoaepaaaGreatDoor
section
open Lib (hid)
open Go.RowKit
namespace SM
open CM (nd kids)
theorem quo64 (b:Nat):(b:Int).tdiv 64=((b / 64:Nat):Int):=by rw[Int.tdiv_eq_ediv_of_nonneg (by omega)];rfl
theorem rem64 (b:Nat):(b:Int).tmod 64=((b % 64:Nat):Int):=by rw[Int.tmod_eq_emod_of_nonneg (by omega)];rfl
set_option maxRecDepth 100000 in
set_option maxHeartbeats 4000000 in
theorem blockOf_any (a b:Nat)(w:World)(hb:b≤4000) :
  Calls Tryz.prog 164 #[.agg #[.int .i64 (a:Int),.int .i64 (b:Int)]] w fun r w'=>r=.returned (.tuple #[.agg #[.int .i64 (a:Int),.int .i64 ((b / 64:Nat):Int)],.int .u64 ((2 ^ (b % 64):Nat):Int)])∧Below w.heap.size w w':=by
 have q1:=quo64 b;have q2:=rem64 b;have hz:=(Blk.new w 99 #[.int .i64 (a:Int),.int .i64 (b:Int)]).alloc (.cells #[.int .i64 0,.int .i64 0] 149);have hr:=Blk.new (w.alloc (.cells #[.int .i64 (a:Int),.int .i64 (b:Int)] 99)) 149 #[.int .i64 0,.int .i64 0];have hbb:=(one_boxS w (.cells #[.int .i64 (a:Int),.int .i64 (b:Int)] 99)).trans ((one_boxS (w.alloc (.cells #[.int .i64 (a:Int),.int .i64 (b:Int)] 99)) (.cells #[.int .i64 0,.int .i64 0] 149)).mono (by simp))
 have hsz:(w.alloc (.cells #[.int .i64 (a:Int),.int .i64 (b:Int)] 99)).heap.size=w.heap.size+1:=by simp
 rw[hsz] at hr;go_enter Tryz.func164,Tryz.ntmps164
 go_wp2_with fail
 generalize hw1:(w.alloc (.cells #[.int .i64 (a:Int),.int .i64 (b:Int)] 99)).alloc (.cells #[.int .i64 0,.int .i64 0] 149)=w1 at hz hr hbb ⊢;have z0:=hz.cell 0;have z1:=hz.cell 1;have y0:=hr.cell 0;have y1:=hr.cell 1;have f0:=hr.frozen 0;have f1:=hr.frozen 1;simp at z0 z1 y0 y1;clear hsz hw1;have HBB:=hid hbb;have HR:=hid hr;clear hbb hz hr
 go_region
 have hwp:IntKind.u64.wrap (2 ^ (b % 64))=((2 ^ (b % 64):Nat):Int):=by
  have h1:2 ^ (b % 64)<2 ^ 64:=Nat.pow_lt_pow_right (by omega) (Nat.mod_lt _ (by omega))
  rw[show((2:Int) ^ (b % 64))=((2 ^ (b % 64):Nat):Int) by simp]
  generalize 2 ^ (b % 64)=k at h1;rw[IntKind.wrap_u64];omega
 rw[hwp];have hq:=((HR.out.set_ 0 (.int .i64 (a:Int))).set_ 1 (.int .i64 ((b:Int) / 64)));have hbf:Below w.heap.size w (((w1.setCell ⟨w.heap.size+1,0,none⟩ (.int .i64 (a:Int))).setCell ⟨w.heap.size+1,1,none⟩ (.int .i64 ((b:Int) / 64))).drew):=((HBB.out.setCell (p:=⟨w.heap.size+1,0,none⟩) (by simp) _).setCell (p:=⟨w.heap.size+1,1,none⟩) (by simp) _).drew
 generalize ((w1.setCell ⟨w.heap.size+1,0,none⟩ (.int .i64 (a:Int))).setCell ⟨w.heap.size+1,1,none⟩ (.int .i64 ((b:Int) / 64)))=w9 at hq hbf ⊢;have x0:w9.drew.cell? ⟨w.heap.size+1,0,none⟩=some (.int .i64 (a:Int)):=hq.cell 0;have x1:w9.drew.cell? ⟨w.heap.size+1,1,none⟩=some (.int .i64 ((b:Int) / 64)):=hq.cell 1;clear z0 z1 y0 y1 f0 f1 hq;generalize w9.drew=w9 at x0 x1 hbf ⊢;go_wp2_with fail
 refine bodyPost_ret (v:=.tuple #[.agg #[.int .i64 (a:Int),.int .i64 ((b:Int) / 64)],.int .u64 ((2 ^ (b % 64):Nat):Int)]) (by simp[results,Tryz.results164,go_sem,x0,x1,Tryz.isAgg149,Tryz.sizeOf149]) rfl ?_
 exact⟨rfl,hbf⟩
set_option maxRecDepth 100000 in
set_option maxHeartbeats 4000000 in
theorem tz_core (x k idx:Nat)(w:World)(hx0:((x:Int)==0)=false)
  (key:IntKind.u64.wrap (bits BinOp.and IntKind.u64 (x:Int) (IntKind.u64.wrap (-(x:Int)))*285870213051353865) / 288230376151711744=(idx:Int))
  (hi:idx<64)(hk:k<64)(hcell:w.cell? ⟨1,idx,none⟩=some (.int .u8 k)) :
  Calls Tryz.prog 136 #[.int .u64 x] w fun e w'=>e=.returned (.int .i64 k)∧w'=w:=by
 go_enter Tryz.func136,Tryz.ntmps136
 go_wp2_with (simp only[key])
 go_returns
 exact⟨rfl,rfl⟩
theorem tz_any (v:Nat)(h0:v≠0)(hv:v<18446744073709551616)(w:World)(hT:TabAt 1 Lib.deBruijn64tab w) :
  Calls Tryz.prog 136 #[.int .u64 (v:Int)] w fun r w'=>r=.returned (.int .i64 (Lib.ctz 64 v:Int))∧w'=w:=by
 obtain⟨hlow,hk⟩:=Lib.lowest_bit 64 v h0 hv;obtain⟨hi,htab⟩:=Lib.deBruijn64_at _ hk;have hcell:=hT _ hi;rw[htab] at hcell;exact tz_core v _ _ w (by simp;omega) (tz64_key v _ hv h0 hlow) hi hk hcell
set_option maxRecDepth 1000000 in
theorem laidB:laidOutB Tryz.prog=true:=by kernel_rfl
theorem rowB:(149:TypeId)<Tryz.prog.types.size:=of_decide_eq_true (by kernel_rfl)
theorem wideB:(match Tryz.prog.underlying 149 with | some (.array _ _) | some (.struct _)=>true | _=>false)=true:=by rw[Tryz.underlying149]
set_option maxRecDepth 1000000 in
theorem lawB:Go.WideMaps.KeyLaw Tryz.prog 149:=deep_law_laid laidB (m:=2) (by omega) rowB (by kernel_rfl) wideB
theorem typesB:∃ m,Tryz.prog.types.size=m+1:=⟨Tryz.prog.types.size-1,by have h:(149:Nat)<Tryz.prog.types.size:=rowB;omega⟩
set_option maxRecDepth 1000000 in
theorem keyB (a c:Nat)(ha:a≤4000)(hc:c≤4000):keyOf Tryz.prog 149 (.agg #[.int .i64 (a:Int),.int .i64 (c:Int)])=some (.string (keyBytes [.int .i64 (a:Int),.int .i64 (c:Int)])):=by
 have wa:(Lit.int .i64 (a:Int)).wf=true:=by simp[Lit.wf,IntKind.min,IntKind.max,IntKind.signed,IntKind.bits];omega
 have wc:(Lit.int .i64 (c:Int)).wf=true:=by simp[Lit.wf,IntKind.min,IntKind.max,IntKind.signed,IntKind.bits];omega
 have hk:Tryz.prog.keyType 149=true:=by kernel_rfl
 have h2:Tryz.prog.cellsOf 149=2:=by kernel_rfl
 have h1:Tryz.prog.cellsOf 3=1:=by kernel_rfl
 obtain⟨m,hm⟩:=typesB;have hf:(Value.agg #[.int .i64 (a:Int),.int .i64 (c:Int)]).formed Tryz.prog 149=true:=by simp[Value.formed,Tryz.underlying149,h2]
 unfold keyOf;rw[Tryz.underlying149];simp only[];rw[if_pos (by rw[hk,hf];rfl),hm]
 have hi:∀(d:Nat) (z:Int),(Lit.int .i64 z).wf=true→Tryz.prog.keyLits (d+1) 3 [.int .i64 z]=some [.int .i64 z]:=fun d z hz=>by
  unfold Program.keyLits;rw[Tryz.underlying3];simp[hz]
 unfold Program.keyLits;rw[Tryz.underlying149];simp[Value.cells,h2,h1,hi _ _ wa,hi _ _ wc]
end SM
end
end Go.Proofs.YtfigdflcoaepaaaGreatDoor
