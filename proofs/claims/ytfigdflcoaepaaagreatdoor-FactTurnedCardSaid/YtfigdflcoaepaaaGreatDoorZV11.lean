/- Contracts and plain facts that the theorem rests on: SReach, SRule1, SActs, SNode, SRule3, SRule4, SInv. -/
import Derived.Test.YtfigdflcoaepaaaGreatDoorZV10
import Derived.Test.YtfigdflcoaepaaaGreatDoorZV1
set_option linter.unusedSimpArgs false
set_option linter.unusedVariables false
namespace Go.Proofs.YtfigdflcoaepaaaGreatDoor
section
open Lib (hid)
open Go.RowKit
namespace SM
open CM (nd kids)
theorem row_nil {w:World}{n:Nat}{f:Nat→Nat}(h:Row w (.slice none 0 0) n f):∀ j,f j=0:=by
 rcases h with⟨_,h⟩ | ⟨q,e,_⟩
 ·exact h
 ·injection e with e;cases e
theorem RelW.mkL {x:Cx}{w:World}{y:Lay}{S:St}(h:RelW x w y S){a:Nat}(hv:y.lv a=.slice none 0 0)(zs:Array Value)(hz:zs=cntI (fun _=>0) x.n) :
  RelW x ((w.alloc (.cells zs 132)).setCell ⟨y.lb,a,none⟩ (.slice (some ⟨w.heap.size,0,none⟩) x.n x.n)) { y with lv:=fun m=>if m=a then .slice (some ⟨w.heap.size,0,none⟩) x.n x.n else y.lv m } S ∧
  Stp w y ((w.alloc (.cells zs 132)).setCell ⟨y.lb,a,none⟩ (.slice (some ⟨w.heap.size,0,none⟩) x.n x.n)) { y with lv:=fun m=>if m=a then .slice (some ⟨w.heap.size,0,none⟩) x.n x.n else y.lv m }:=by
 have hlb:=(h.lt .lb y.lb rfl).2;have hbn:=Blk.new w 132 zs;have hf:∀ j,cntL x.g S.q a j=0:=row_nil (w:=w) (n:=x.n) (by rw[← hv];exact h.comp (.lrow a))
 have hsz:((w.alloc (.cells zs 132)).setCell ⟨y.lb,a,none⟩ (.slice (some ⟨w.heap.size,0,none⟩) x.n x.n)).heap.size=w.heap.size+1:=by
  have:((w.alloc (.cells zs 132)).setCell ⟨y.lb,a,none⟩ (.slice (some ⟨w.heap.size,0,none⟩) x.n x.n)).heap.size=(w.alloc (.cells zs 132)).heap.size:=by simp[World.setCell]
  rw[this];exact Array.size_push _
 refine h.upd (fun X=>X=.lb∨X=.lrow a) (((Kept.refl _ w).alloc _).setCell (p:=⟨y.lb,a,none⟩) (fun _=>⟨.lb,.inl rfl,rfl⟩) _) (fun X=>?_) (fun X Y k hk hX hY=>?_) (fun X hX hc=>?_) (fun X hX=>?_)
 ·cases X<;>try exact .inl rfl
  case lrow m =>
   by_cases hm:m=a
   ·subst hm;exact .inr (.inr ⟨.inr rfl,w.heap.size,by show(if m=m then _ else y.lv m:Value).ownBlock=_;rw[if_pos rfl];rfl,Nat.le_refl _,by rw[hsz];exact Nat.lt_succ_self _⟩)
   ·exact .inl (by show(if m=a then _ else y.lv m:Value).ownBlock=_;rw[if_neg hm];rfl)
 ·have key:∀ X,bl { y with lv:=fun m=>if m=a then .slice (some ⟨w.heap.size,0,none⟩) x.n x.n else y.lv m } X=some k→X=.lrow a:=fun X hX=>Classical.byContradiction fun hne=>by
   have e:bl { y with lv:=fun m=>if m=a then .slice (some ⟨w.heap.size,0,none⟩) x.n x.n else y.lv m } X=bl y X:=by
    cases X<;>try rfl
    case lrow m=>show(if m=a then _ else y.lv m:Value).ownBlock=_;rw[if_neg (fun e=>hne (by rw[e]))];rfl
   have:=(h.lt X k (e▸hX)).2;omega
  rw[key X hX,key Y hY]
 ·cases X<;>try exact hc
  case lb=>exact absurd (.inl rfl) hX
  case lrow m =>
   have hm:m≠a:=fun e=>hX (.inr (by rw[e]))
   show Row _ (if m=a then _ else y.lv m) x.n _
   rw[if_neg hm];exact hc
 ·rcases hX with rfl | rfl
  ·show Blk _ y.lb 133 (vals (fun m=>if m=a then _ else y.lv m) x.n)
   rw[← vals_set];exact(Blk.alloc (h.comp .lb) _).set_ a _
  ·show Row _ (if a=a then _ else y.lv a) x.n (cntL x.g S.q a)
   rw[if_pos rfl];refine .inr ⟨w.heap.size,rfl,?_⟩;have e:cntL x.g S.q a=fun _=>0:=funext hf
   rw[e,← hz];exact hbn.far (p:=⟨y.lb,a,none⟩) (by show w.heap.size≠y.lb;omega) _
theorem RelW.mkR {x:Cx}{w:World}{y:Lay}{S:St}(h:RelW x w y S){a:Nat}(hv:y.rv a=.slice none 0 0)(zs:Array Value)(hz:zs=cntI (fun _=>0) x.n) :
  RelW x ((w.alloc (.cells zs 132)).setCell ⟨y.rb,a,none⟩ (.slice (some ⟨w.heap.size,0,none⟩) x.n x.n)) { y with rv:=fun m=>if m=a then .slice (some ⟨w.heap.size,0,none⟩) x.n x.n else y.rv m } S ∧
  Stp w y ((w.alloc (.cells zs 132)).setCell ⟨y.rb,a,none⟩ (.slice (some ⟨w.heap.size,0,none⟩) x.n x.n)) { y with rv:=fun m=>if m=a then .slice (some ⟨w.heap.size,0,none⟩) x.n x.n else y.rv m }:=by
 have hlb:=(h.lt .rb y.rb rfl).2;have hbn:=Blk.new w 132 zs;have hf:∀ j,cntR x.g S.q a j=0:=row_nil (w:=w) (n:=x.n) (by rw[← hv];exact h.comp (.rrow a))
 have hsz:((w.alloc (.cells zs 132)).setCell ⟨y.rb,a,none⟩ (.slice (some ⟨w.heap.size,0,none⟩) x.n x.n)).heap.size=w.heap.size+1:=by
  have:((w.alloc (.cells zs 132)).setCell ⟨y.rb,a,none⟩ (.slice (some ⟨w.heap.size,0,none⟩) x.n x.n)).heap.size=(w.alloc (.cells zs 132)).heap.size:=by simp[World.setCell]
  rw[this];exact Array.size_push _
 refine h.upd (fun X=>X=.rb∨X=.rrow a) (((Kept.refl _ w).alloc _).setCell (p:=⟨y.rb,a,none⟩) (fun _=>⟨.rb,.inl rfl,rfl⟩) _) (fun X=>?_) (fun X Y k hk hX hY=>?_) (fun X hX hc=>?_) (fun X hX=>?_)
 ·cases X<;>try exact .inl rfl
  case rrow m =>
   by_cases hm:m=a
   ·subst hm;exact .inr (.inr ⟨.inr rfl,w.heap.size,by show(if m=m then _ else y.rv m:Value).ownBlock=_;rw[if_pos rfl];rfl,Nat.le_refl _,by rw[hsz];exact Nat.lt_succ_self _⟩)
   ·exact .inl (by show(if m=a then _ else y.rv m:Value).ownBlock=_;rw[if_neg hm];rfl)
 ·have key:∀ X,bl { y with rv:=fun m=>if m=a then .slice (some ⟨w.heap.size,0,none⟩) x.n x.n else y.rv m } X=some k→X=.rrow a:=fun X hX=>Classical.byContradiction fun hne=>by
   have e:bl { y with rv:=fun m=>if m=a then .slice (some ⟨w.heap.size,0,none⟩) x.n x.n else y.rv m } X=bl y X:=by
    cases X<;>try rfl
    case rrow m=>show(if m=a then _ else y.rv m:Value).ownBlock=_;rw[if_neg (fun e=>hne (by rw[e]))];rfl
   have:=(h.lt X k (e▸hX)).2;omega
  rw[key X hX,key Y hY]
 ·cases X<;>try exact hc
  case rb=>exact absurd (.inl rfl) hX
  case rrow m =>
   have hm:m≠a:=fun e=>hX (.inr (by rw[e]))
   show Row _ (if m=a then _ else y.rv m) x.n _
   rw[if_neg hm];exact hc
 ·rcases hX with rfl | rfl
  ·show Blk _ y.rb 133 (vals (fun m=>if m=a then _ else y.rv m) x.n)
   rw[← vals_set];exact(Blk.alloc (h.comp .rb) _).set_ a _
  ·show Row _ (if a=a then _ else y.rv a) x.n (cntR x.g S.q a)
   rw[if_pos rfl];refine .inr ⟨w.heap.size,rfl,?_⟩;have e:cntR x.g S.q a=fun _=>0:=funext hf
   rw[e,← hz];exact hbn.far (p:=⟨y.rb,a,none⟩) (by show w.heap.size≠y.rb;omega) _
theorem Spot.made {x:Cx}{w:World}{y:Lay}{S:St}{a b bk of_ idx:Nat}{f:Nat→Nat}{R0:Ro}(hs:Spot x y S a b bk of_ idx (.slice none 0 0) f R0)(h:RelW x w y S)(ha:a<x.n)(hb:b<x.n)(zs:Array Value)(hz:zs=cntI (fun _=>0) x.n) :
  ∃ y',y'.rel=y.rel∧RelW x ((w.alloc (.cells zs 132)).setCell ⟨bk,of_,none⟩ (.slice (some ⟨w.heap.size,0,none⟩) x.n x.n)) y' S ∧
   Stp w y ((w.alloc (.cells zs 132)).setCell ⟨bk,of_,none⟩ (.slice (some ⟨w.heap.size,0,none⟩) x.n x.n)) y' ∧
   ∃ f' R',Spot x y' S a b bk of_ idx (.slice (some ⟨w.heap.size,0,none⟩) x.n x.n) f' R':=by
 have e:=hs.at_;have hc:=(hs.cell w S h).1;have fin:∀ y',rowAt x y' a b=rowAt x y a b→y'.rel=y.rel→RelW x ((w.alloc (.cells zs 132)).setCell ⟨bk,of_,none⟩ (.slice (some ⟨w.heap.size,0,none⟩) x.n x.n)) y' S→Stp w y ((w.alloc (.cells zs 132)).setCell ⟨bk,of_,none⟩ (.slice (some ⟨w.heap.size,0,none⟩) x.n x.n)) y' →
   ∃ y',y'.rel=y.rel∧RelW x ((w.alloc (.cells zs 132)).setCell ⟨bk,of_,none⟩ (.slice (some ⟨w.heap.size,0,none⟩) x.n x.n)) y' S∧Stp w y ((w.alloc (.cells zs 132)).setCell ⟨bk,of_,none⟩ (.slice (some ⟨w.heap.size,0,none⟩) x.n x.n)) y'∧∃ f' R',Spot x y' S a b bk of_ idx (.slice (some ⟨w.heap.size,0,none⟩) x.n x.n) f' R':=by
  intro y' h1 h2 h3 h4;obtain⟨bk',of',idx',v',f',R',hs'⟩:=h3.spot ha hb;have e':=hs'.at_;rw[h1,e] at e';simp at e';obtain⟨⟨rfl,rfl⟩,e3⟩:=e';have e3:idx=idx':=by omega
  subst e3;have hv:=(hs'.cell _ S h3).1;have hold:bk<w.heap.size:=Classical.byContradiction fun hn=>by
   have:w.cell? ⟨bk,of_,none⟩=none:=by unfold World.cell?;simp[Array.getElem?_eq_none (by omega:w.heap.size≤bk)]
   rw[this] at hc;cases hc
  obtain⟨u,hu⟩:∃ u,(w.alloc (.cells zs 132)).cell? ⟨bk,of_,none⟩=some u:=⟨_,((Below.refl w.heap.size w).alloc (Nat.le_refl _) (.cells zs 132)).cell (p:=⟨bk,of_,none⟩) hold |>.trans hc⟩;have hself:((w.alloc (.cells zs 132)).setCell ⟨bk,of_,none⟩ (.slice (some ⟨w.heap.size,0,none⟩) x.n x.n)).cell? ⟨bk,of_,none⟩=some (.slice (some ⟨w.heap.size,0,none⟩) x.n x.n):=World.cell?_setCell_same' _ _ _ (by rw[hu];rfl)
  rw[hself] at hv;injection hv with hv
  subst hv;exact⟨y',h2,h3,h4,f',R',hs'⟩
 unfold rowAt at e;by_cases h8:(nd x.g a).kind=8
 ·rw[if_pos h8] at e;simp at e;obtain⟨⟨rfl,rfl⟩,e3⟩:=e;have hv:y.rv b=.slice none 0 0:=by
   rw[h.cr hb] at hc;injection hc
  obtain⟨q1,q2⟩:=h.mkR hv zs hz;refine fin _ ?_ ?_ q1 q2
  ·unfold rowAt;rw[if_pos h8]
  ·rfl
 ·rw[if_neg h8] at e;simp at e;obtain⟨⟨rfl,rfl⟩,e3⟩:=e;have hv:y.lv a=.slice none 0 0:=by
   rw[h.cl ha] at hc;injection hc
  obtain⟨q1,q2⟩:=h.mkL hv zs hz;refine fin _ ?_ ?_ q1 q2
  ·unfold rowAt;rw[if_neg h8]
  ·rfl
structure P1 (x:Cx)(S:St):Prop where
 lt:∀ p∈S.P,p.1<x.n∧p.2<x.n
 nodup:S.P.Nodup
 cnt:∀ p,S.q.cnt p=if p∈S.P then 1 else 0
 ref:S.q.ref=[]
 kn:∀ v,S.kn v=true↔∃ p∈S.P,p.1=v∨p.2=v
 ki:KI x.g (KD x.g S.kn) S.un S.us
def addP (P:List Pr)(p:Pr):List Pr:=if p∈P then P else P++[p]
theorem sum_const (m:Nat):∀ l:List Nat,(l.map fun _=>m).sum=l.length*m
 | []=>by simp
 | _::l=>by rw[List.map_cons,List.sum_cons,sum_const m l,List.length_cons,Nat.succ_mul,Nat.add_comm]
theorem P1.len {x:Cx}{S:St}(h:P1 x S)(hn:x.n≤2000):S.P.length≤x.n*x.n∧x.n*x.n≤4000000:=by
 have:=nodup_sub_len h.nodup (m:=(List.range x.n).flatMap fun a=>(List.range x.n).map fun b=>(a,b)) fun p hp=>by
  obtain⟨h1,h2⟩:=h.lt p hp;exact List.mem_flatMap.2 ⟨p.1,List.mem_range.2 h1,List.mem_map.2 ⟨p.2,List.mem_range.2 h2,rfl⟩⟩
 have e:((List.range x.n).flatMap fun a=>(List.range x.n).map fun b=>(a,b)).length=x.n*x.n:=by
  rw[List.length_flatMap];simp only[List.length_map,List.length_range];rw[sum_const,List.length_range]
 rw[e] at this;exact⟨this,Nat.mul_le_mul hn hn⟩
theorem P1.add {x:Cx}{S:St}(h:P1 x S){a b:Nat}(ha:a<x.n)(hb:b<x.n)(hp:(a,b) ∉ S.P){un:Nat→List Nat}{us:Nat→List (ByteArray × List Nat)}(hk:KI x.g (KD x.g fun m=>decide (m=b) ||(decide (m=a) || S.kn m)) un us) :
  P1 x { P:=S.P++[(a,b)],q:={ S.q with cnt:=fun p=>if p=(a,b) then 1 else S.q.cnt p },kn:=fun m=>decide (m=b) ||(decide (m=a) || S.kn m),un:=un,us:=us }:=by
 refine⟨fun p hm=>?_,?_,fun p=>?_,h.ref,fun v=>?_,hk⟩
 ·rcases List.mem_append.1 hm with hm | hm
  ·exact h.lt p hm
  ·rw[List.mem_singleton] at hm;subst hm;exact⟨ha,hb⟩
 ·rw[List.nodup_append];exact⟨h.nodup,by simp,fun p h1 q h2 e=>by rw[List.mem_singleton] at h2;subst h2;subst e;exact hp h1⟩
 ·show(if p=(a,b) then 1 else S.q.cnt p)=_
  rw[h.cnt p];by_cases e:p=(a,b)
  ·rw[if_pos e,if_pos (by rw[e];simp)]
  ·rw[if_neg e];simp[e]
 ·show(decide (v=b) ||(decide (v=a) || S.kn v))=true↔_
  rw[Bool.or_eq_true,Bool.or_eq_true,h.kn v,decide_eq_true_eq,decide_eq_true_eq];constructor
  ·rintro (rfl | rfl | ⟨p,h1,h2⟩)
   ·exact⟨(a,v),by simp,.inr rfl⟩
   ·exact⟨(v,b),by simp,.inl rfl⟩
   ·exact⟨p,List.mem_append_left _ h1,h2⟩
  ·rintro ⟨p,h1,h2⟩;rcases List.mem_append.1 h1 with h1 | h1
   ·exact .inr (.inr ⟨p,h1,h2⟩)
   ·rw[List.mem_singleton] at h1;subst h1;rcases h2 with h2 | h2
    ·exact .inr (.inl h2.symm)
    ·exact .inl h2.symm
theorem info_i16:(Tryz.prog.info? 132).map (fun i=>(i.zero,i.size,i.bytes))=some (some (.int .i16 0),1,2):=by kernel_rfl
theorem made_i16 (n:Nat):madeCells #[Value.int .i16 0] n=cntI (fun _=>0) n:=by
 apply Array.ext
 ·simp[madeCells,cntI]
 ·intro i h1 h2;simp[madeCells,cntI,Nat.mod_one]
theorem mk_i16 (n:Nat)(hn:n≤100000)(w:World):(Instr.makeSlice 133 (.int .i64 (n:Int)) (.int .i64 (n:Int))).run Tryz.prog w=.ok (.slice (some ⟨w.heap.size,0,none⟩) n n) (w.alloc (.cells (cntI (fun _=>0) n) 132)):=by
 obtain⟨i0,hi,hz0,hz1,hz2⟩:=info_parts info_i16;have:=run_make w 133 132 i0 (.int .i16 0) Tryz.underlying133 hi hz0 .i64 .i64 (n:Int) (n:Int) (by omega) (Int.le_refl _) (by rw[hz2];omega) (by omega)
 simp only[Int.toNat_natCast,hz1,Nat.mul_one] at this;rw[← made_i16];exact this
theorem know_at (x:Cx)(y:Lay)(S:St)(n rel:Nat)(w:World)(h:RelW x w y S)(hrel:y.rel=rel)(hf:Fine x.g)(hn:n<x.n)(hk:KI x.g (KD x.g S.kn) S.un S.us) :
  Calls Tryz.prog 112 #[.pointer (some ⟨rel,0,none⟩),.int .i64 (n:Int)] w (KnowOut x y S n w):=by
 subst hrel;exact know_any x y S n w h hf hn hk
def ReachOut (x:Cx)(y:Lay)(S:St)(p:Pr)(w:World)(r:Ending)(w':World):Prop:=
 r=.returned (.tuple #[])∧∃ y' S',y'.rel=y.rel∧RelW x w' y' S'∧Stp w y w' y'∧P1 x S'∧S'.P=addP S.P p∧S'.q.asm=S.q.asm
set_option maxRecDepth 100000 in
set_option maxHeartbeats 16000000 in
theorem reach_any (x:Cx)(y:Lay)(S:St)(a b:Nat)(w:World)(h:RelW x w y S)(hf:Fine x.g)(hp:P1 x S)(ha:a<x.n)(hb:b<x.n) :
  Calls Tryz.prog 84 #[.pointer (some ⟨y.rel,0,none⟩),.agg #[.int .i64 (a:Int),.int .i64 (b:Int)]] w (ReachOut x y S (a,b) w):=by
 obtain⟨bk,of_,idx,v,f,R0,hs⟩:=h.spot ha hb;have h1:=h.alloc (.cells #[.int .i64 (a:Int),.int .i64 (b:Int)] 99);have hz:=Blk.new w 99 #[.int .i64 (a:Int),.int .i64 (b:Int)];have hb0:=Stp.of_below y (one_boxS w (.cells #[.int .i64 (a:Int),.int .i64 (b:Int)] 99));have hno:=h.new;have z0:=hz.cell 0;have z1:=hz.cell 1;simp at z0 z1;have H1:=hid h1;have HZ:=hid hz;have HS:=hid hs;have HB0:=hid hb0;have HP:=hid hp;have HF:=hid hf;have HN:=hid h.len;have HH:=hid h;have HNO:=hid hno;obtain⟨w1,hw1⟩:∃ w1,w.alloc (.cells #[.int .i64 (a:Int),.int .i64 (b:Int)] 99)=w1:=⟨_,rfl⟩;have HW1:=hid hw1;clear h h1 hz hs hb0 hp hf hno hw1;go_enter Tryz.func84,Tryz.ntmps84
 go_wp2_with fail
 obtain⟨nb,hnb⟩:∃ nb,w.heap.size=nb:=⟨_,rfl⟩;rw[hnb] at HZ HNO;rw[HW1.out] at H1 HZ HB0 ⊢;refine(row_any x y S a b _ H1.out ha hb).mono ?_;rintro r w2 ⟨rfl,hb2⟩;have hz2:=HZ.out.below hb2 HZ.out.lt;have h2:=H1.out.same hb2;have hB2:=Stp.of_below y hb2;rw[HS.out.at_];obtain⟨e0,e0'⟩:=HS.out.cell w2 _ h2;have hrow:=HS.out.row w2 h2;have hidx:=HS.out.lt_;have c0:=h2.c0;obtain⟨xn,hxn⟩:∃ k,x.n=k:=⟨_,rfl⟩;have hxl:=HN.out;have H2:=hid h2;have HZ2:=hid hz2;have HB2:=hid hB2;rw[hxn] at c0 hxl;have hidx':=hidx;rw[hxn] at hidx';clear hb2 h2 hz2 hB2 z0 z1;rcases hrow with⟨rfl,hf⟩ | ⟨q0,rfl,hq⟩
 ·have H0:Hid (S.q.cnt (a,b)=0):=hid (by rw[← HS.out.val,hf])
  clear hf;have eq1:=eql_nilS w2;have hmk:=mk_i16 xn (by omega) w2
  have h0':(a,b) ∉ S.P:=fun hm=>by
   have:=HP.out.cnt (a,b);rw[if_pos hm,H0.out] at this;cases this
  obtain⟨e0a,e0a'⟩:=HS.out.cell _ _ (H2.out.alloc (.cells (cntI (fun _=>0) xn) 132))
  obtain⟨yq,hyq,hrq,hsq,f',R',hspq⟩:=HS.out.made H2.out ha hb (cntI (fun _=>0) xn) (by rw[hxn])
  have e0b:=(hspq.cell _ _ hrq).1;obtain⟨hr3,hs3⟩:=hspq.set_ _ w2.heap.size 1 hrq rfl;have hrow':=hspq.row _ hrq;have hval':=hspq.val;have hown':=hspq.own;rw[hxn] at hr3 hs3 e0b hrow' hsq;rcases hrow' with⟨he,_⟩ | ⟨q1,he,hq⟩
  ·cases he
  ·injection he with he
   injection he with he
   injection he with he
   subst he;have g0:((w2.alloc (.cells (cntI (fun _=>0) xn) 132)).setCell ⟨bk,of_,none⟩ (.slice (some ⟨w2.heap.size,0,none⟩) xn xn)).cell? ⟨w2.heap.size,idx,none⟩=some (.int .i16 0):=by rw[hq.cell idx,cntI_get hidx',hval',H0.out];rfl
   have g0':=hq.frozen idx;have eq2:=eql_slS ⟨w2.heap.size,0,none⟩ xn xn
   replace hs3:=HB2.out.trans (hsq.trans hs3)
   have hz3:=(hs3.blk HZ.out HNO.out).1;have HY3:=hid hyq;have HNP:=hid h0'
   change RelW x (((w2.alloc (.cells (cntI (fun _=>0) xn) 132)).setCell ⟨bk,of_,none⟩ (.slice (some ⟨w2.heap.size,0,none⟩) xn xn)).setCell ⟨w2.heap.size,idx,none⟩ (.int .i16 1)) yq _ at hr3
   change Stp w1 y (((w2.alloc (.cells (cntI (fun _=>0) xn) 132)).setCell ⟨bk,of_,none⟩ (.slice (some ⟨w2.heap.size,0,none⟩) xn xn)).setCell ⟨w2.heap.size,idx,none⟩ (.int .i16 1)) yq at hs3
   change Blk (((w2.alloc (.cells (cntI (fun _=>0) xn) 132)).setCell ⟨bk,of_,none⟩ (.slice (some ⟨w2.heap.size,0,none⟩) xn xn)).setCell ⟨w2.heap.size,idx,none⟩ (.int .i16 1)) nb _ _ at hz3
   clear hyq h0' hspq hval' hown' hq hrq hsq
   go_upto_region 6 with(fail)
   have HR3:=hid hr3;have HS3:=hid hs3;have HZ3:=hid hz3;generalize hw3:((w2.alloc (.cells (cntI (fun _=>0) xn) 132)).setCell ⟨bk,of_,none⟩ (.slice (some ⟨w2.heap.size,0,none⟩) xn xn)).setCell ⟨w2.heap.size,idx,none⟩ (.int .i16 1)=w3 at HR3 HS3 HZ3 ⊢
   clear hr3 hs3 hz3 hw3 g0 g0' eq1 eq2 e0 e0' c0 hmk e0a e0a' e0b;obtain⟨AF,fc,hfv⟩:=own_formP (Comp.prs_ (HR3.out.comp .prs))
   change yq.pv=.slice AF S.P.length fc at hfv
   have c3:=HR3.out.c2;have y3:=HR3.out.bR.frozen 2;rw[hfv] at c3;rw[HY3.out] at c3 y3;have hown:OwnP w3 x.B (.slice AF S.P.length fc) S.P:=by rw[← hfv];exact HR3.out.comp .prs
   have hnw:=Blk.new w3 99 #[.int .i64 (a:Int),.int .i64 (b:Int)];have HOWN:=hid hown;have HFV:=hid hfv;have HNW:=hid hnw;have zz0:=HZ3.out.cell 0;have zz1:=HZ3.out.cell 1;simp at zz0 zz1;have hcap:S.P.length≤4000000:=by have:=HP.out.len HN.out;omega
   have HB3:=hid HR3.out.size;have hkey:∀ gg cap w4,OwnP w4 x.B (.slice (some ⟨gg,0,none⟩) (S.P.length+1) cap) (S.P++[(a,b)])→((w3.alloc (.cells #[.int .i64 (a:Int),.int .i64 (b:Int)] 99)).drew).grownBy w4 (Value.slice AF S.P.length fc).ownBlock→((Value.slice AF S.P.length fc).ownBlock=some gg∨gg=w3.heap.size+1)→gg<w4.heap.size →
     w4.cell? ⟨y.rel,2,none⟩=some (.slice AF S.P.length fc)∧w4.frozen? ⟨y.rel,2,none⟩=false∧RelW x (w4.setCell ⟨y.rel,2,none⟩ (.slice (some ⟨gg,0,none⟩) (S.P.length+1) cap)) { yq with pv:=.slice (some ⟨gg,0,none⟩) (S.P.length+1) cap } { S with P:=S.P++[(a,b)],q:={ S.q with cnt:=fun p=>if p=(a,b) then 1 else S.q.cnt p } } ∧
     Stp w1 y (w4.setCell ⟨y.rel,2,none⟩ (.slice (some ⟨gg,0,none⟩) (S.P.length+1) cap)) { yq with pv:=.slice (some ⟨gg,0,none⟩) (S.P.length+1) cap }:=by
    intro gg cap w4 ho4 hg4 hat hlt4;rw[← HY3.out];have hgr:w3.grownBy w4 yq.pv.ownBlock:=by
     rw[HFV.out];have hd:(w3.alloc (.cells #[.int .i64 (a:Int),.int .i64 (b:Int)] 99)).grownBy ((w3.alloc (.cells #[.int .i64 (a:Int),.int .i64 (b:Int)] 99)).drew) (Value.slice AF S.P.length fc).ownBlock:=⟨rfl,rfl,rfl,Nat.le_refl _,fun _ _ _=>rfl⟩
     exact(World.grownBy_alloc w3 (.cells #[.int .i64 (a:Int),.int .i64 (b:Int)] 99) _).trans (hd.trans hg4)
    obtain⟨hr1,hr2⟩:=HR3.out.setprs (v':=.slice (some ⟨gg,0,none⟩) (S.P.length+1) cap) (r':=S.P++[(a,b)]) hgr ho4 (by
     rcases hat with e | e
     ·exact .inl (by rw[HFV.out,e];rfl)
     ·exact .inr (.inr ⟨gg,rfl,by omega,hlt4⟩))
    have hne:some yq.rel≠(Value.slice AF S.P.length fc).ownBlock:=fun e=>by
     have:=HR3.out.inj .prs .rel yq.rel (by show yq.pv.ownBlock=_;rw[HFV.out];exact e.symm) rfl
     cases this
    have hb4:Blk w4 yq.rel 127 (relC x yq):=by
     refine((Kept.refl (fun i=>yq.pv.ownBlock=some i) w3).grownG hgr (fun i _ e=>e)).blk HR3.out.bR fun e=>?_
     rw[HFV.out] at e;exact hne e.symm
    have q0:=hb4.cell 2;have q1:=hb4.frozen 2;refine⟨?_,q1,hr1,HS3.out.trans hr2⟩;rw[← HFV.out];exact q0
   have c3a:=(HR3.out.alloc (.cells #[.int .i64 (a:Int),.int .i64 (b:Int)] 99)).c2;rw[hfv,HY3.out] at c3a;have HKEY:=hid hkey;clear hown hnw hkey hfv
   go_upto_region 6 with(fail)
   go_region_law (first | (refine step_pushP _ (by rfl) _ _ (by rfl) x.B (.slice AF S.P.length fc) S.P (a,b) ⟨w3.heap.size,0,none⟩ 1 (by rfl) ((HOWN.out.alloc _).drew) (by rfl) (HNW.out.cell 0) ((congrArg _ (addr_lit _ _ _)).trans (HNW.out.cell 1)) (by omega) (by simp;have:=HB3.out;omega) ?_;intro gg cap w4 ho4 hg4 hat4 hlt4;obtain⟨d3,x3,hr1,hr2⟩:=HKEY.out gg cap w4 ho4 hg4 (by simpa using hat4) hlt4;have HR1:=hid hr1;have HR2:=hid hr2;clear hr1 hr2 ho4 hg4 hat4 hlt4))
   all_goals
    clear c3 c3a y3 zz0 zz1;have hbx:=(HR2.out.blk HZ.out HNO.out).1;have n0:=hbx.cell 0;have n1:=hbx.cell 1;simp at n0 n1;have K1:=know_at x _ _ a _ _ HR1.out HY3.out HF.out ha HP.out.ki;clear hbx;go_wp2_with fail
    refine K1.mono ?_;rintro r5 w5 ⟨rfl,y5,un5,us5,e5,hr5,hs5,hk5⟩
    change y5.rel=yq.rel at e5
    have E5:=hid (e5.trans HY3.out);have HR5:=hid hr5;have HS5:=hid (HR2.out.trans hs5);have HK5:=hid hk5;clear K1 hr5 hs5 hk5 e5 n0 n1;have hbx:=(HS5.out.blk HZ.out HNO.out).1;have n0:=hbx.cell 0;have n1:=hbx.cell 1;simp at n0 n1;have K2:=know_at x _ _ b _ _ HR5.out E5.out HF.out hb HK5.out;clear hbx;go_wp2_with fail
    refine K2.mono ?_;rintro r6 w6 ⟨rfl,y6,un6,us6,e6,hr6,hs6,hk6⟩;have HR6:=hid hr6;have HS6:=hid (HS5.out.trans hs6);have HK6:=hid hk6;have E6:=hid (e6.trans E5.out);clear K2 hr6 hs6 hk6 e6 n0 n1;go_wp2_with fail
    go_returns
    exact⟨rfl,y6,_,E6.out,HR6.out,HB0.out.trans HS6.out,HP.out.add ha hb HNP.out HK6.out,(by unfold addP;rw[if_neg HNP.out]),rfl⟩
 ·have g0:w2.cell? ⟨q0,idx,none⟩=some (.int .i16 (S.q.cnt (a,b):Int)):=by rw[hq.cell idx,cntI_get hidx,HS.out.val]
  have g0':=hq.frozen idx;have eq1:=eql_slS ⟨q0,0,none⟩ xn xn w2;rw[HP.out.cnt] at g0;rw[hxn] at e0;clear hq;by_cases hm:(a,b)∈S.P
  ·rw[if_pos hm] at g0;have HA:Hid (addP S.P (a,b)=S.P):=hid (by unfold addP;rw[if_pos hm])
   clear hm;go_wp2_with fail
   go_returns
   exact⟨rfl,y,S,rfl,H2.out,HB0.out.trans HB2.out,HP.out,HA.out.symm,rfl⟩
  ·rw[if_neg hm] at g0;obtain⟨hr3,hs3⟩:=HS.out.set_ w2 q0 1 H2.out rfl
   change RelW x (w2.setCell ⟨q0,idx,none⟩ (.int .i16 1)) y _ at hr3
   change Stp w2 y (w2.setCell ⟨q0,idx,none⟩ (.int .i16 1)) y at hs3
   have hz3:=HZ2.out.far (p:=⟨q0,idx,none⟩) (fun e=>HNO.out ⟨R0,by rw[HS.out.own,show nb=q0 from e];rfl⟩) (.int .i16 1)
   replace hs3:=HB2.out.trans hs3
   obtain⟨yq,hyq⟩:∃ yq,yq=y:=⟨_,rfl⟩;have HY3:Hid (yq.rel=y.rel):=hid (by rw[hyq])
   replace hr3:RelW x (w2.setCell ⟨q0,idx,none⟩ (.int .i16 1)) yq { S with q:={ S.q with cnt:=fun p=>if p=(a,b) then 1 else S.q.cnt p } }:=by rw[hyq];exact hr3
   replace hs3:Stp w1 y (w2.setCell ⟨q0,idx,none⟩ (.int .i16 1)) yq:=by rw[hyq];exact hs3
   clear hyq;have HNP:=hid hm;clear hm
   go_upto_region 6 with(fail)
   have HR3:=hid hr3;have HS3:=hid hs3;have HZ3:=hid hz3;generalize hw3:w2.setCell ⟨q0,idx,none⟩ (.int .i16 1)=w3 at HR3 HS3 HZ3 ⊢;clear hr3 hs3 hz3 hw3 g0 g0' eq1 e0 e0' c0;obtain⟨AF,fc,hfv⟩:=own_formP (Comp.prs_ (HR3.out.comp .prs))
   change yq.pv=.slice AF S.P.length fc at hfv
   have c3:=HR3.out.c2;have y3:=HR3.out.bR.frozen 2;rw[hfv] at c3;rw[HY3.out] at c3 y3;have hown:OwnP w3 x.B (.slice AF S.P.length fc) S.P:=by rw[← hfv];exact HR3.out.comp .prs
   have hnw:=Blk.new w3 99 #[.int .i64 (a:Int),.int .i64 (b:Int)];have HOWN:=hid hown;have HFV:=hid hfv;have HNW:=hid hnw;have zz0:=HZ3.out.cell 0;have zz1:=HZ3.out.cell 1;simp at zz0 zz1;have hcap:S.P.length≤4000000:=by have:=HP.out.len HN.out;omega
   have HB3:=hid HR3.out.size;have hkey:∀ gg cap w4,OwnP w4 x.B (.slice (some ⟨gg,0,none⟩) (S.P.length+1) cap) (S.P++[(a,b)])→((w3.alloc (.cells #[.int .i64 (a:Int),.int .i64 (b:Int)] 99)).drew).grownBy w4 (Value.slice AF S.P.length fc).ownBlock→((Value.slice AF S.P.length fc).ownBlock=some gg∨gg=w3.heap.size+1)→gg<w4.heap.size →
     w4.cell? ⟨y.rel,2,none⟩=some (.slice AF S.P.length fc)∧w4.frozen? ⟨y.rel,2,none⟩=false∧RelW x (w4.setCell ⟨y.rel,2,none⟩ (.slice (some ⟨gg,0,none⟩) (S.P.length+1) cap)) { yq with pv:=.slice (some ⟨gg,0,none⟩) (S.P.length+1) cap } { S with P:=S.P++[(a,b)],q:={ S.q with cnt:=fun p=>if p=(a,b) then 1 else S.q.cnt p } } ∧
     Stp w1 y (w4.setCell ⟨y.rel,2,none⟩ (.slice (some ⟨gg,0,none⟩) (S.P.length+1) cap)) { yq with pv:=.slice (some ⟨gg,0,none⟩) (S.P.length+1) cap }:=by
    intro gg cap w4 ho4 hg4 hat hlt4;rw[← HY3.out];have hgr:w3.grownBy w4 yq.pv.ownBlock:=by
     rw[HFV.out];have hd:(w3.alloc (.cells #[.int .i64 (a:Int),.int .i64 (b:Int)] 99)).grownBy ((w3.alloc (.cells #[.int .i64 (a:Int),.int .i64 (b:Int)] 99)).drew) (Value.slice AF S.P.length fc).ownBlock:=⟨rfl,rfl,rfl,Nat.le_refl _,fun _ _ _=>rfl⟩
     exact(World.grownBy_alloc w3 (.cells #[.int .i64 (a:Int),.int .i64 (b:Int)] 99) _).trans (hd.trans hg4)
    obtain⟨hr1,hr2⟩:=HR3.out.setprs (v':=.slice (some ⟨gg,0,none⟩) (S.P.length+1) cap) (r':=S.P++[(a,b)]) hgr ho4 (by
     rcases hat with e | e
     ·exact .inl (by rw[HFV.out,e];rfl)
     ·exact .inr (.inr ⟨gg,rfl,by omega,hlt4⟩))
    have hne:some yq.rel≠(Value.slice AF S.P.length fc).ownBlock:=fun e=>by
     have:=HR3.out.inj .prs .rel yq.rel (by show yq.pv.ownBlock=_;rw[HFV.out];exact e.symm) rfl
     cases this
    have hb4:Blk w4 yq.rel 127 (relC x yq):=by
     refine((Kept.refl (fun i=>yq.pv.ownBlock=some i) w3).grownG hgr (fun i _ e=>e)).blk HR3.out.bR fun e=>?_
     rw[HFV.out] at e;exact hne e.symm
    have q0:=hb4.cell 2;have q1:=hb4.frozen 2;refine⟨?_,q1,hr1,HS3.out.trans hr2⟩;rw[← HFV.out];exact q0
   have c3a:=(HR3.out.alloc (.cells #[.int .i64 (a:Int),.int .i64 (b:Int)] 99)).c2;rw[hfv,HY3.out] at c3a;have HKEY:=hid hkey;clear hown hnw hkey hfv
   go_upto_region 6 with(fail)
   go_region_law (first | (refine step_pushP _ (by rfl) _ _ (by rfl) x.B (.slice AF S.P.length fc) S.P (a,b) ⟨w3.heap.size,0,none⟩ 1 (by rfl) ((HOWN.out.alloc _).drew) (by rfl) (HNW.out.cell 0) ((congrArg _ (addr_lit _ _ _)).trans (HNW.out.cell 1)) (by omega) (by simp;have:=HB3.out;omega) ?_;intro gg cap w4 ho4 hg4 hat4 hlt4;obtain⟨d3,x3,hr1,hr2⟩:=HKEY.out gg cap w4 ho4 hg4 (by simpa using hat4) hlt4;have HR1:=hid hr1;have HR2:=hid hr2;clear hr1 hr2 ho4 hg4 hat4 hlt4))
   all_goals
    clear c3 c3a y3 zz0 zz1;have hbx:=(HR2.out.blk HZ.out HNO.out).1;have n0:=hbx.cell 0;have n1:=hbx.cell 1;simp at n0 n1;have K1:=know_at x _ _ a _ _ HR1.out HY3.out HF.out ha HP.out.ki;clear hbx;go_wp2_with fail
    refine K1.mono ?_;rintro r5 w5 ⟨rfl,y5,un5,us5,e5,hr5,hs5,hk5⟩
    change y5.rel=yq.rel at e5
    have E5:=hid (e5.trans HY3.out);have HR5:=hid hr5;have HS5:=hid (HR2.out.trans hs5);have HK5:=hid hk5;clear K1 hr5 hs5 hk5 e5 n0 n1;have hbx:=(HS5.out.blk HZ.out HNO.out).1;have n0:=hbx.cell 0;have n1:=hbx.cell 1;simp at n0 n1;have K2:=know_at x _ _ b _ _ HR5.out E5.out HF.out hb HK5.out;clear hbx;go_wp2_with fail
    refine K2.mono ?_;rintro r6 w6 ⟨rfl,y6,un6,us6,e6,hr6,hs6,hk6⟩;have HR6:=hid hr6;have HS6:=hid (HS5.out.trans hs6);have HK6:=hid hk6;have E6:=hid (e6.trans E5.out);clear K2 hr6 hs6 hk6 e6 n0 n1;go_wp2_with fail
    go_returns
    exact⟨rfl,y6,_,E6.out,HR6.out,HB0.out.trans HS6.out,HP.out.add ha hb HNP.out HK6.out,(by unfold addP;rw[if_neg HNP.out]),rfl⟩
end SM
end
section
open Lib (hid)
open Go.RowKit
namespace SM
open CM (nd kids)
set_option maxRecDepth 100000 in
set_option maxHeartbeats 4000000 in
theorem complete_any (x:Cx)(y:Lay)(S:St)(rel:Nat)(w:World)(h:RelW x w y S)(hrel:y.rel=rel) :
  Calls Tryz.prog 150 #[.pointer (some ⟨rel,0,none⟩)] w fun r w'=>r=.returned (.bool (decide (S.P.length=x.n*x.n)))∧Below w.heap.size w w':=by
 subst hrel;have c0:=h.c0;have c2:=h.c2;have hlen:=h.len;obtain⟨A,c,hpv⟩:=own_formP (h.comp .prs);rw[hpv] at c2;generalize x.n=n at c0 hlen ⊢;have hm:n*n≤4000000:=Nat.mul_le_mul hlen hlen;have hw:IntKind.i64.wrap ((n:Int)*(n:Int))=((n*n:Nat):Int):=by rw[← Int.natCast_mul,IntKind.wrap_i64];omega
 have he:((S.P.length:Int)==((n*n:Nat):Int))=decide (S.P.length=n*n):=by
  by_cases e:S.P.length=n*n
  ·rw[e];simp
  ·rw[decide_eq_false e];simp only[beq_eq_false_iff_ne,ne_eq];omega
 generalize S.P.length=m at c2 he ⊢;generalize n*n=nn at hw hm he ⊢;clear h hpv hm;go_enter Tryz.func150,Tryz.ntmps150
 go_wp2_with fail
 go_region
 go_wp2_with fail
 go_returns
 exact⟨rfl,⟨rfl,rfl,rfl,Nat.le_refl _,fun _ _=>rfl⟩⟩
def SelfOut (x:Cx)(y:Lay)(S:St)(a b:Nat)(w:World)(r:Ending)(w':World):Prop:=
 r=.returned (.bool (decide (a=b)))∧RelW x w' y { S with q:={ S.q with asm:=if a=b∧(nd x.g a).kind≠8 then(fun p=>if p=(a,b) then true else S.q.asm p) else S.q.asm } }∧Stp w y w' y
set_option maxRecDepth 100000 in
set_option maxHeartbeats 4000000 in
theorem itself_any (x:Cx)(y:Lay)(S:St)(a b rel:Nat)(w:World)(h:RelW x w y S)(hrel:y.rel=rel)(ha:a<x.n)(hb:b<x.n) :
  Calls Tryz.prog 127 #[.pointer (some ⟨rel,0,none⟩),.agg #[.int .i64 (a:Int),.int .i64 (b:Int)]] w (SelfOut x y S a b w):=by
 subst hrel;have h1:=h.alloc (.cells #[.int .i64 (a:Int),.int .i64 (b:Int)] 99);have hz:=Blk.new w 99 #[.int .i64 (a:Int),.int .i64 (b:Int)];have hb0:=Stp.of_below y (one_boxS w (.cells #[.int .i64 (a:Int),.int .i64 (b:Int)] 99));have hold:∀ R k,bl y R=some k→k≠w.heap.size:=fun R k hk e=>by have:=(h.lt R k hk).2;omega
 have hlen:=h.len;by_cases hab:a=b
 ·subst hab;go_enter Tryz.func127,Tryz.ntmps127
  go_upto_region 1 with(fail)
  generalize hw1:w.alloc (.cells #[.int .i64 (a:Int),.int .i64 (a:Int)] 99)=w1 at h1 hz hb0 ⊢;obtain⟨wb,hwb⟩:∃ wb,w.heap.size=wb:=⟨_,rfl⟩;rw[hwb] at hz hold ⊢;have z0:=hz.cell 0;have z1:=hz.cell 1;simp at z0 z1;have c0:=h1.c0;obtain⟨gb,go_,hA,hgn⟩:=h1.node ha;obtain⟨VA,vc,PA,pc,k0,-⟩:=hgn;rw[hA] at c0;have H1:=hid h1;have HZ:=hid hz;have HB0:=hid hb0;have HNM:Hid (y.mp≠wb):=hid (hold .mp y.mp rfl);have hna:=ha;obtain⟨xn,hxn⟩:∃ k,x.n=k:=⟨_,rfl⟩;rw[hxn] at c0 hlen hna;clear h h1 hz hb0 hold hw1 hwb;by_cases h8:(nd x.g a).kind=8
  ·have H8:=hid h8;have t8:((nd x.g a).kind==8)=true:=by simp[h8]
   clear h8;go_wp2_with fail
   go_region
   go_wp2_with fail
   go_returns
   refine⟨by simp,?_,HB0.out.drew⟩
   rw[if_neg (fun e=>e.2 H8.out)]
   exact H1.out.drew
  ·have H8:=hid h8;have t8:((nd x.g a).kind==8)=false:=by simp[h8]
   clear h8;go_wp2_with fail
   go_region
   go_wp2_with fail
   have H2:=hid H1.out.drew;have HB2:=hid HB0.out.drew;have HZ2:Hid (Blk w1.drew wb 99 #[.int .i64 (a:Int),.int .i64 (a:Int)]):=HZ;clear z0 z1 c0 k0;generalize w1.drew=w2 at H2 HB2 HZ2 ⊢;have z0:=HZ2.out.cell 0;have z1:=HZ2.out.cell 1;simp at z0 z1;have c4:=H2.out.c4;have hcall:Calls Tryz.prog 149 #[.map (some y.mp),.agg #[.int .i64 (a:Int),.int .i64 (a:Int)]] w2.drew (fun r w'=>r=.returned (.tuple #[])∧Mp w' y.mp (fun p=>if p=(a,a) then true else S.q.asm p)∧Kept (fun k=>k=y.mp) w2 w'):=by
    have:=add_any y.mp a a S.q.asm w2.drew (Comp.mp_ (x:=x) (H2.out.comp .mp)) (by omega) (by omega)
    exact this.mono fun r w' ⟨h1,h2,h3⟩=>⟨h1,h2,⟨h3.os,h3.tape,h3.output,h3.size,h3.block⟩⟩
   have hS:(w2.drew.cell? ⟨wb,0,none⟩=some (.int .i64 (a:Int))∧w2.drew.cell? ⟨wb,1,none⟩=some (.int .i64 (a:Int))∧w2.drew.cell? ⟨y.rel,4,none⟩=some (.map (some y.mp))):=⟨z0,z1,c4⟩
   go_upto_region 4 with(fail)
   go_region_held3 (fun w'=>w'.cell? ⟨wb,0,none⟩=some (.int .i64 (a:Int))∧w'.cell? ⟨wb,1,none⟩=some (.int .i64 (a:Int))∧w'.cell? ⟨y.rel,4,none⟩=some (.map (some y.mp))) (first | with_reducible exact hS | with_reducible exact hn4) (first | (go_simp;go_at_call 149;refine hcall.mono ?_;rintro e w4 ⟨rfl,hm4,hk4⟩;obtain⟨h4,hb4⟩:=H2.out.setmp hk4 hm4;have H4:=hid h4;have HB4:=hid (HB2.out.trans hb4);have HZ4:=hid (hk4.blk HZ2.out (fun e=>HNM.out e.symm));have hn4:w4.cell? ⟨wb,0,none⟩=some (.int .i64 (a:Int))∧w4.cell? ⟨wb,1,none⟩=some (.int .i64 (a:Int))∧w4.cell? ⟨y.rel,4,none⟩=some (.map (some y.mp)):=⟨HZ4.out.cell 0,HZ4.out.cell 1,H4.out.c4⟩;clear hm4 hk4 h4 hb4))
   all_goals
    rename_i hHH;clear hHH hn4 hS z0 z1 c4 hcall;go_wp2_with fail
    go_returns
    refine⟨by simp,?_,HB4.out⟩
    rw[if_pos ⟨rfl,H8.out⟩];exact H4.out
 ·have tab:((a:Int)==(b:Int))=false:=by
   simp only[beq_eq_false_iff_ne,ne_eq];omega
  have z0:=hz.cell 0;have z1:=hz.cell 1;simp at z0 z1;have H1:=hid h1;have HB0:=hid hb0;have HAB:=hid hab;have hab':¬((a:Int)=(b:Int)):=by omega
  clear h h1 hz hb0 hold;go_enter Tryz.func127,Tryz.ntmps127
  go_wp2_with fail
  go_returns
  refine⟨by rw[decide_eq_false HAB.out];rfl,?_,HB0.out⟩
  rw[if_neg (fun e=>HAB.out e.1)]
  exact H1.out
end SM
end
section
open Go.RowKit
namespace SM
open CM (nd kids)
structure Act where
 ok:Bool
 asm:Bool
 ps:List Pr
def setA (A:Pr→Bool)(p:Pr):Pr→Bool:=fun q=>if q=p then true else A q
def addL (P:List Pr)(l:List Pr):List Pr:=l.foldl addP P
def Acts (x:Cx)(y:Lay)(S:St)(a b:Nat)(c:Act)(w:World)(r:Ending)(w':World):Prop:=
 r=.returned (.bool c.ok)∧∃ y' S',y'.rel=y.rel∧RelW x w' y' S'∧Stp w y w' y'∧P1 x S'∧S'.P=addL S.P c.ps∧S'.q.asm=(if c.asm=true then setA S.q.asm (a,b) else S.q.asm)
theorem addP_pre (P:List Pr)(p:Pr):∃ t,addP P p=P++t:=by
 unfold addP;split
 ·exact⟨[],by simp⟩
 ·exact⟨[p],rfl⟩
theorem addP_mem (P:List Pr)(p:Pr):p∈addP P p:=by
 unfold addP;split
 ·assumption
 ·simp
theorem addL_pre:∀(l P:List Pr),∃ t,addL P l=P++t
 | [],P=>⟨[],by simp[addL]⟩
 | p::l,P=>by
  obtain⟨t,e⟩:=addP_pre P p;obtain⟨t',e'⟩:=addL_pre l (addP P p);refine⟨t++t',?_⟩
  show addL (addP P p) l=_
  rw[e',e,List.append_assoc]
theorem addL_sub (l P:List Pr){p:Pr}(h:p∈P):p∈addL P l:=by
 obtain⟨t,e⟩:=addL_pre l P;rw[e];exact List.mem_append_left _ h
theorem addL_mem:∀(l P:List Pr) {p:Pr},p∈l→p∈addL P l
 | q::l,P,p,h=>by
  show p∈addL (addP P q) l
  rcases List.mem_cons.1 h with rfl | h
  ·exact addL_sub l _ (addP_mem P p)
  ·exact addL_mem l _ h
theorem addL_app (P l m:List Pr):addL P (l++m)=addL (addL P l) m:=List.foldl_append
def FldsIs (s t:Gi):Option (List Pr)→Prop
 | some l=>l.length=t.keys.length∧∀ i,i<t.keys.length→∃ j,j<s.keys.length∧s.keys.getD j ⟨#[]⟩=t.keys.getD i ⟨#[]⟩∧l[i]? = some ((kids s).getD j 0,(kids t).getD i 0)
 | none=>∃ i,i<t.keys.length∧∀ j,j<s.keys.length→s.keys.getD j ⟨#[]⟩≠t.keys.getD i ⟨#[]⟩
def no_:Act:=⟨false,false,[]⟩
abbrev full (g:List Gi)(P:List Pr):Prop:=P.length=g.length*g.length
def ActOf (g:List Gi)(st:Bool)(P:List Pr)(a b:Nat):Nat→Act→Prop
 | 0,c=>c=⟨decide (a=b),decide (a=b∧(nd g a).kind≠8),[]⟩
 | 1,c=>c=⟨unlike g st a b,false,[]⟩
 | 2,c=>c=⟨decide ((nd g a).kind=8),false,if (nd g a).kind=8∧¬ full g P then(kids (nd g a)).map fun s=>(s,b) else []⟩
 | 3,c=>c=⟨false,false,if (nd g a).kind=9 then [(bnd g a,b)] else []⟩
 | 4,c=>c=⟨decide ((nd g b).kind=8),false,if (nd g b).kind=8∧¬ full g P then(if a∈kids (nd g b) then [(a,a)] else(kids (nd g b)).map fun t=>(a,t)) else []⟩
 | 5,c=>c=⟨decide (st=false∧((nd g a).kind=1∨(nd g b).kind=1)),decide (st=false∧((nd g a).kind=1∨(nd g b).kind=1)),[]⟩
 | 6,c=>c=⟨decide ((nd g a).kind≤5),decide ((nd g a).kind≤5),[]⟩
 | 7,c=>c=⟨decide ((nd g a).kind=9∧(nd g b).kind=9∧(nd g a).num=(nd g b).num),decide ((nd g a).kind=9∧(nd g b).kind=9∧(nd g a).num=(nd g b).num),if (nd g a).kind=9∧(nd g b).kind=9∧(nd g a).num=(nd g b).num then [(bnd g a,bnd g b)] else []⟩
 | 8,c=>(¬((nd g a).kind=7∧(nd g b).kind=7)∧c=no_)∨((nd g a).kind=7∧(nd g b).kind=7∧∃ r,FldsIs (nd g a) (nd g b) r∧c=match r with
   | none=>⟨true,false,[]⟩
   | some l=>if (l.any fun p=>unlike g st p.1 p.2)=true then⟨true,false,[]⟩ else⟨true,true,l⟩)
 | _,_=>False
structure DoneP (g:List Gi)(st:Bool)(P:List Pr)(A:Pr→Bool)(a b:Nat):Prop where
 no8:A (a,b)=true→(nd g a).kind≠8∧(nd g b).kind≠8
 self:a=b→(nd g a).kind≠8→A (a,b)=true
 uni:a≠b→(nd g a).kind=8→∀ s∈mem g a,(s,b)∈P
 var:a≠b→(nd g a).kind=9→(bnd g a,b)∈P
 inun:a≠b→(nd g a).kind≠8→(nd g b).kind=8→(a∈mem g b∧(a,a)∈P)∨∀ t∈mem g b,(a,t)∈P
 pre:a≠b→(nd g a).kind≠8→(nd g b).kind≠8→(A (a,b)=true↔Pre g st a b)
 ch:A (a,b)=true→a≠b→∀ c d,Ch g a b c d→(c,d)∈P
theorem DoneP.mono {g : List Gi} {st : Bool} {P P' : List Pr} {A A' : Pr → Bool} {a b : Nat} (h : DoneP g st P A a b) (hp : ∀ p ∈ P, p ∈ P') (hA : A' (a, b) = A (a, b)) : DoneP g st P' A' a b :=
  ⟨by rw [hA]; exact h.no8, by rw [hA]; exact h.self, fun h1 h2 s hs => hp _ (h.uni h1 h2 s hs), fun h1 h2 => hp _ (h.var h1 h2),
   fun h1 h2 h3 => (h.inun h1 h2 h3).imp (fun ⟨k1, k2⟩ => ⟨k1, hp _ k2⟩) (fun k t ht => hp _ (k t ht)), by rw [hA]; exact h.pre, by rw [hA]; exact fun h1 h2 c d h3 => hp _ (h.ch h1 h2 c d h3)⟩
structure Tried (g:List Gi)(st:Bool)(P0:List Pr)(A0:Pr→Bool)(a b k:Nat)(P:List Pr)(A:Pr→Bool):Prop where
 asm:A=A0
 pre:∃ t,P=P0++t
 r0:1≤k→a≠b
 r1:2≤k→unlike g st a b=false
 r2:3≤k→(nd g a).kind≠8
 r3:4≤k→(nd g a).kind=9→(bnd g a,b)∈P
 r4:5≤k→(nd g b).kind≠8
 r5:6≤k→¬(st=false∧((nd g a).kind=1∨(nd g b).kind=1))
 r6:7≤k→¬(nd g a).kind≤5
 r7:8≤k→¬((nd g a).kind=9∧(nd g b).kind=9∧(nd g a).num=(nd g b).num)
 r8:9≤k→¬((nd g a).kind=7∧(nd g b).kind=7)
theorem Tried.zero (g:List Gi)(st:Bool)(P0:List Pr)(A0:Pr→Bool)(a b:Nat):Tried g st P0 A0 a b 0 P0 A0:=
 ⟨rfl,⟨[],by simp⟩,by omega,by omega,by omega,by omega,by omega,by omega,by omega,by omega,by omega⟩
section
variable {g : List Gi} {st : Bool} {P0 P : List Pr} {A0 A : Pr → Bool} {a b k : Nat}
theorem Tried.grow (h:Tried g st P0 A0 a b k P A)(l:List Pr):∃ t,addL P l=P0++t:=by
 obtain⟨t,e⟩:=h.pre;obtain⟨t',e'⟩:=addL_pre l P;exact⟨t++t',by rw[e',e,List.append_assoc]⟩
theorem Tried.next (h:Tried g st P0 A0 a b k P A){c:Act}(hc:ActOf g st P a b k c)(hn:c.ok=false) :
  Tried g st P0 A0 a b (k+1) (addL P c.ps) (if c.asm=true then setA A (a,b) else A):=by
 have hg:=h.grow c.ps;have hs:∀ p∈P,p∈addL P c.ps:=fun p hp=>addL_sub _ _ hp
 have key:c.asm=false:=by
  match k,hc with
  | 0,hc=>rw[hc] at hn ⊢;simp only[decide_eq_false_iff_not] at hn ⊢;exact fun e=>hn e.1
  | 1,hc=>rw[hc]
  | 2,hc=>rw[hc]
  | 3,hc=>rw[hc]
  | 4,hc=>rw[hc]
  | 5,hc=>rw[hc] at hn ⊢;exact hn
  | 6,hc=>rw[hc] at hn ⊢;exact hn
  | 7,hc=>rw[hc] at hn ⊢;exact hn
  | 8,hc =>
   rcases hc with⟨_,hc⟩ | ⟨_,_,r,_,hc⟩
   ·rw[hc];rfl
   ·rw[hc] at hn
    exfalso
    cases r with
    | none=>cases hn
    | some l =>
     dsimp only at hn
     split at hn<;>cases hn
  | k+9,hc=>exact hc.elim
 rw[key,if_neg (by simp)]
 refine⟨h.asm,hg,fun hk=>?_,fun hk=>?_,fun hk=>?_,fun hk h9=>?_,fun hk=>?_,fun hk=>?_,fun hk=>?_,fun hk=>?_,fun hk=>?_⟩
 ·by_cases e:1≤k
  ·exact h.r0 e
  ·obtain rfl:k=0:=by omega
   rw[show c=_ from hc] at hn
   simpa using hn
 ·by_cases e:2≤k
  ·exact h.r1 e
  ·obtain rfl:k=1:=by omega
   rw[show c=_ from hc] at hn
   exact hn
 ·by_cases e:3≤k
  ·exact h.r2 e
  ·obtain rfl:k=2:=by omega
   rw[show c=_ from hc] at hn
   simpa using hn
 ·by_cases e:4≤k
  ·exact hs _ (h.r3 e h9)
  ·obtain rfl:k=3:=by omega
   rw[show c=_ from hc]
   exact addL_mem _ _ (by show _∈(if _ then _ else _);rw[if_pos h9];simp)
 ·by_cases e:5≤k
  ·exact h.r4 e
  ·obtain rfl:k=4:=by omega
   rw[show c=_ from hc] at hn
   simpa using hn
 ·by_cases e:6≤k
  ·exact h.r5 e
  ·obtain rfl:k=5:=by omega
   rw[show c=_ from hc] at hn
   exact of_decide_eq_false hn
 ·by_cases e:7≤k
  ·exact h.r6 e
  ·obtain rfl:k=6:=by omega
   rw[show c=_ from hc] at hn
   exact of_decide_eq_false hn
 ·by_cases e:8≤k
  ·exact h.r7 e
  ·obtain rfl:k=7:=by omega
   rw[show c=_ from hc] at hn
   exact of_decide_eq_false hn
 ·by_cases e:9≤k
  ·exact h.r8 e
  ·obtain rfl:k=8:=by omega
   rcases hc with⟨h1,_⟩ | ⟨_,_,r,_,hc⟩
   ·exact h1
   ·rw[hc] at hn
    exfalso
    cases r with
    | none=>cases hn
    | some l =>
     dsimp only at hn
     split at hn<;>cases hn
theorem Fine.key_inj (hf:Fine g){u i j:Nat}(hu:u<g.length)(hk:(nd g u).kind=7)(hi:i<(nd g u).keys.length)(hj:j<(nd g u).keys.length)(e:(nd g u).keys.getD i ⟨#[]⟩=(nd g u).keys.getD j ⟨#[]⟩):i=j:=by
 rcases Nat.lt_trichotomy i j with h | h | h
 ·exact absurd e (less_ne (hf.keys u hu hk i j h hj))
 ·exact h
 ·exact absurd e.symm (less_ne (hf.keys u hu hk j i h hi))
theorem Fine.like (hf:Fine g){a b:Nat}(ha:a<g.length)(hb:b<g.length)(hu:unlike g st a b=true):(nd g a).kind≠8∧(nd g a).kind≠9∧(nd g b).kind≠8∧∀ R,¬ Does g st R a b:=by
 unfold unlike at hu;by_cases h1:(nd g a).kind=8∨(nd g a).kind=9∨(nd g b).kind=8
 ·rw[if_pos h1] at hu;cases hu
 ·rw[if_neg h1] at hu;by_cases h2:st=false∧((nd g a).kind=1∨(nd g b).kind=1)
  ·rw[if_pos h2] at hu;cases hu
  ·rw[if_neg h2] at hu;have hu:=of_decide_eq_true hu;refine⟨fun e=>h1 (.inl e),fun e=>h1 (.inr (.inl e)),fun e=>h1 (.inr (.inr e)),fun R hd=>?_⟩
   unfold Does at hd;have same:(nd g a).kind=(nd g b).kind→(nd g a).kind≠5→False:=fun e h5=>by
    rcases hu with hu | hu
    ·exact hu e
    ·exact hu (by rw[hf.name a ha h5,hf.name b hb (e▸h5)])
   split at hd
   ·rename_i hc;rcases hd with hd | hd
    ·exact h2 ⟨hd,hc⟩
    ·exact same hd (by rcases hc with hc | hc<;>omega)
   ·obtain⟨e,hd⟩:=hd;rcases hd with hd | ⟨_,hd⟩ | ⟨hd,_⟩ | ⟨hd,_⟩
    ·exact same e (by omega)
    ·rcases hu with hu | hu
     ·exact hu e
     ·exact hu hd
    ·exact h1 (.inr (.inl hd))
    ·exact same e (by omega)
theorem unlike_false {a b:Nat}(hu:unlike g st a b=false)(h8:(nd g a).kind≠8)(h9:(nd g a).kind≠9)(hb8:(nd g b).kind≠8)(hd:¬(st=false∧((nd g a).kind=1∨(nd g b).kind=1))):(nd g a).kind=(nd g b).kind∧(nd g a).nm=(nd g b).nm:=by
 unfold unlike at hu;rw[if_neg (by rintro (h | h | h)<;>contradiction),if_neg hd] at hu
 have:=of_decide_eq_false hu;exact⟨Classical.byContradiction fun e=>this (.inl e),Classical.byContradiction fun e=>this (.inr e)⟩
theorem setA_self (A:Pr→Bool)(p:Pr):setA A p p=true:=by unfold setA;rw[if_pos rfl]
theorem Tried.done (hf:Fine g)(h:Tried g st P0 A0 a b k P A)(h0:A0 (a,b)=false)(ha:a<g.length)(hb:b<g.length){c:Act}(hc:ActOf g st P a b k c)(hy:c.ok=true)
  (hfull:full g P→∀ c d,c<g.length→d<g.length→(c,d)∈P) :
  DoneP g st (addL P c.ps) (if c.asm=true then setA A (a,b) else A) a b:=by
 have hA:A (a,b)=false:=by rw[h.asm];exact h0
 have hs:∀ p∈P,p∈addL P c.ps:=fun p hp=>addL_sub _ _ hp
 match k,hc with
 | 0,hc =>
  rw[hc] at hy;have e:a=b:=of_decide_eq_true hy;subst e;refine⟨fun hA'=>?_,fun _ h8=>?_,fun hn=>absurd rfl hn,fun hn=>absurd rfl hn,fun hn=>absurd rfl hn,fun hn=>absurd rfl hn,fun _ hn=>absurd rfl hn⟩
  ·by_cases h8:(nd g a).kind=8
   ·rw[if_neg (by rw[show c=_ from hc];simp[h8]),hA] at hA';cases hA'
   ·exact⟨h8,h8⟩
  ·rw[if_pos (by rw[show c=_ from hc];simp[h8])];exact setA_self _ _
 | 1,hc =>
  have hne:=h.r0 (by omega)
  rw[hc] at hy;obtain⟨k1,k2,k3,k4⟩:=hf.like ha hb (st:=st) hy;have eps:=congrArg Act.ps (show c=_ from hc)
  dsimp only at eps
  rw[show c.asm=false by rw[show c=_ from hc],if_neg (by simp)]
  exact⟨fun e=>by (rw[hA] at e;cases e),fun e=>absurd e hne,fun _ e=>absurd e k1,fun _ e=>absurd e k2,fun _ _ e=>absurd e k3,fun _ _ _=>by
   rw[hA];exact⟨fun e=>(by cases e),fun e=>absurd e (k4 _)⟩,fun e=>by (rw[hA] at e;cases e)⟩
 | 2,hc =>
  have hne:=h.r0 (by omega)
  rw[hc] at hy;have e8:(nd g a).kind=8:=of_decide_eq_true hy;have eps:=congrArg Act.ps (show c=_ from hc)
  dsimp only at eps
  rw[show c.asm=false by rw[show c=_ from hc],if_neg (by simp)]
  refine⟨fun e=>by (rw[hA] at e;cases e),fun e=>absurd e hne,fun _ _ s hm=>?_,fun _ e=>by (rw[e8] at e;cases e),fun _ e=>absurd e8 e,fun _ e=>absurd e8 e,fun e=>by (rw[hA] at e;cases e)⟩
  by_cases hP:full g P
  ·exact addL_sub _ _ (hfull hP s b (hf.mem_lt ha hm) hb)
  ·refine addL_mem _ _ ?_;rw[mem_un e8] at hm;rw[eps,if_pos ⟨e8,hP⟩];exact List.mem_map.2 ⟨s,hm,rfl⟩
 | 3,hc=>rw[hc] at hy;cases hy
 | 4,hc =>
  have hne:=h.r0 (by omega)
  have ha8:=h.r2 (by omega)
  have h3:=h.r3 (by omega)
  rw[hc] at hy;have e8:(nd g b).kind=8:=of_decide_eq_true hy;have hv:∀ l,(nd g a).kind=9→(bnd g a,b)∈addL P l:=fun l h9=>addL_sub _ _ (h3 h9)
  have eps:=congrArg Act.ps (show c=_ from hc)
  dsimp only at eps
  rw[show c.asm=false by rw[show c=_ from hc],if_neg (by simp)]
  refine⟨fun e=>by (rw[hA] at e;cases e),fun e=>absurd e hne,fun _ e=>absurd e ha8,fun _ e=>hv _ e,fun _ _ _=>?_,fun _ _ e=>absurd e8 e,fun e=>by (rw[hA] at e;cases e)⟩
  by_cases hP:full g P
  ·exact .inr fun t ht=>addL_sub _ _ (hfull hP a t ha (hf.mem_lt hb ht))
  ·by_cases hin:a∈kids (nd g b)
   ·refine .inl ⟨by rw[mem_un e8];exact hin,addL_mem _ _ ?_⟩
    rw[eps,if_pos ⟨e8,hP⟩,if_pos hin];simp
   ·refine .inr fun t ht=>addL_mem _ _ ?_
    rw[mem_un e8] at ht;rw[eps,if_pos ⟨e8,hP⟩,if_neg hin];exact List.mem_map.2 ⟨t,ht,rfl⟩
 | 5,hc =>
  have hne:=h.r0 (by omega)
  have ha8:=h.r2 (by omega)
  have h3:=h.r3 (by omega)
  have hb8:=h.r4 (by omega)
  rw[hc] at hy;have e:=of_decide_eq_true hy;have hv:∀ l,(nd g a).kind=9→(bnd g a,b)∈addL P l:=fun l h9=>addL_sub _ _ (h3 h9)
  have eps:=congrArg Act.ps (show c=_ from hc)
  dsimp only at eps
  rw[show c.asm=true by rw[show c=_ from hc];exact hy,if_pos rfl]
  refine⟨fun _=>⟨ha8,hb8⟩,fun e=>absurd e hne,fun _ e=>absurd e ha8,fun _ e=>hv _ e,fun _ _ e=>absurd e hb8,fun _ _ _=>?_,fun _ _ c d hch=>?_⟩
  ·rw[setA_self];refine⟨fun _=>?_,fun _=>rfl⟩
   unfold Pre Does;rw[if_pos e.2];exact .inl e.1
  ·rcases hch with⟨k1,k2,_⟩ | ⟨k1,k2,_⟩<;>(rcases e.2 with e' | e'<;>omega)
 | 6,hc =>
  have hne:=h.r0 (by omega)
  have hu:=h.r1 (by omega)
  have ha8:=h.r2 (by omega)
  have h3:=h.r3 (by omega)
  have hb8:=h.r4 (by omega)
  have hd:=h.r5 (by omega)
  rw[hc] at hy;have e:(nd g a).kind≤5:=of_decide_eq_true hy;obtain⟨e1,e2⟩:=unlike_false hu ha8 (by omega) hb8 hd
  have eps:=congrArg Act.ps (show c=_ from hc)
  dsimp only at eps
  rw[show c.asm=true by rw[show c=_ from hc];exact hy,if_pos rfl]
  refine⟨fun _=>⟨ha8,hb8⟩,fun e=>absurd e hne,fun _ e=>absurd e ha8,fun _ e=>by omega,fun _ _ e=>absurd e hb8,fun _ _ _=>?_,fun _ _ c d hch=>?_⟩
  ·rw[setA_self];refine⟨fun _=>?_,fun _=>rfl⟩
   unfold Pre Does;have hk:=hf.kind a ha;split
   ·exact .inr e1
   ·rename_i hc1;refine⟨e1,?_⟩;by_cases h5:(nd g a).kind=5
    ·exact .inr (.inl ⟨h5,e2⟩)
    ·exact .inl ⟨by have:(nd g a).kind≠1:=fun e=>hc1 (.inl e);omega,by omega⟩
  ·rcases hch with⟨k1,k2,_⟩ | ⟨k1,k2,_⟩<;>omega
 | 7,hc =>
  have hne:=h.r0 (by omega)
  have ha8:=h.r2 (by omega)
  have h3:=h.r3 (by omega)
  have hb8:=h.r4 (by omega)
  rw[hc] at hy;have e:=of_decide_eq_true hy;have hv:∀ l,(nd g a).kind=9→(bnd g a,b)∈addL P l:=fun l h9=>addL_sub _ _ (h3 h9)
  have eps:=congrArg Act.ps (show c=_ from hc)
  dsimp only at eps
  rw[show c.asm=true by rw[show c=_ from hc];exact hy,if_pos rfl]
  refine⟨fun _=>⟨ha8,hb8⟩,fun e=>absurd e hne,fun _ e=>absurd e ha8,fun _ e=>hv _ e,fun _ _ e=>absurd e hb8,fun _ _ _=>?_,fun _ _ c d hch=>?_⟩
  ·rw[setA_self];refine⟨fun _=>?_,fun _=>rfl⟩
   unfold Pre Does;rw[if_neg (by omega)]
   exact⟨by omega,.inr (.inr (.inl ⟨e.1,e.2.2,.inl e.1⟩))⟩
  ·rcases hch with⟨k1,k2,rfl,rfl⟩ | ⟨k1,k2,_⟩
   ·refine addL_mem _ _ ?_;rw[eps,if_pos e];simp
   ·omega
 | 8,hc =>
  have hne:=h.r0 (by omega)
  have hu:=h.r1 (by omega)
  have ha8:=h.r2 (by omega)
  have hb8:=h.r4 (by omega)
  rcases hc with⟨_,hc⟩ | ⟨k7,l7,r,hr,hc⟩
  ·rw[hc] at hy;cases hy
  ·have np:∀(R:Rel),¬ Flds (nd g a) (nd g b) R→¬ Does g st R a b:=fun R hR hd=>by
    unfold Does at hd;rw[if_neg (by omega)] at hd
    rcases hd.2 with hd | hd | hd | hd
    ·omega
    ·omega
    ·omega
    ·exact hR hd.2
   have off:¬ Pre g st a b→DoneP g st P A a b:=fun hp =>
    ⟨fun e=>by (rw[hA] at e;cases e),fun e=>absurd e hne,fun _ e=>absurd e ha8,fun _ e=>by omega,fun _ _ e=>absurd e hb8,fun _ _ _=>⟨fun e=>by (rw[hA] at e;cases e),fun e=>absurd e hp⟩,fun e=>by (rw[hA] at e;cases e)⟩
   cases r with
   | none =>
    rw[hc]
    dsimp only
    rw[if_neg (by simp)]
    obtain⟨i,hi,hn⟩:=hr;exact off (np _ fun hF=>by
     obtain⟨j,hj,e,_⟩:=hF i hi;exact hn j hj e)
   | some l =>
    obtain⟨hl,hr⟩:=hr;by_cases hany:(l.any fun p=>unlike g st p.1 p.2)=true
    ·have hc:c=⟨true,false,[]⟩:=by rw[hc];dsimp only;rw[if_pos hany]
     rw[hc]
     dsimp only
     rw[if_neg (by simp)]
     obtain⟨p,hp,hup⟩:=List.any_eq_true.1 hany;obtain⟨i,hi⟩:=List.getElem?_of_mem hp;have hil:=(List.getElem?_eq_some_iff.1 hi).1;obtain⟨j,hj,e,hij⟩:=hr i (by omega)
     rw[hi] at hij;injection hij with hij
     subst hij;exact off (np _ fun hF=>by
      obtain⟨j',hj',e',hR⟩:=hF i (by omega)
      have:=hf.key_inj ha k7 hj hj' (e.trans e'.symm);subst this;rcases hR with hR | hR
      ·omega
      ·rw[hR] at hup;cases hup)
    ·have hc:c=⟨true,true,l⟩:=by rw[hc];dsimp only;rw[if_neg hany]
     rw[hc]
     dsimp only
     rw[if_pos rfl];refine⟨fun _=>⟨ha8,hb8⟩,fun e=>absurd e hne,fun _ e=>absurd e ha8,fun _ e=>by omega,fun _ _ e=>absurd e hb8,fun _ _ _=>?_,fun _ _ c d hch=>?_⟩
     ·rw[setA_self];refine⟨fun _=>?_,fun _=>rfl⟩
      unfold Pre Does;rw[if_neg (by omega)]
      refine⟨by omega,.inr (.inr (.inr ⟨k7,fun i hi=>?_⟩))⟩
      obtain⟨j,hj,e,hij⟩:=hr i hi;refine⟨j,hj,e,.inr ?_⟩;have hm:=List.mem_of_getElem? hij;exact Bool.not_eq_true _ |>.mp fun hu=>hany (List.any_eq_true.2 ⟨_,hm,hu⟩)
     ·rcases hch with⟨k1,k2,_⟩ | ⟨_,_,i,j,hi,hj,e,rfl,rfl⟩
      ·omega
      ·obtain⟨i',hi',e',hij⟩:=hr j hj;have:=hf.key_inj ha k7 hi hi' (e.trans e'.symm);subst this;exact addL_mem _ _ (List.mem_of_getElem? hij)
 | k+9,hc=>exact hc.elim
theorem Tried.all (hf:Fine g)(h:Tried g st P0 A0 a b 9 P A)(h0:A0 (a,b)=false)(ha:a<g.length):DoneP g st P A a b:=by
 have hA:A (a,b)=false:=by rw[h.asm];exact h0
 have hne:=h.r0 (by omega)
 have hu:=h.r1 (by omega)
 have ha8:=h.r2 (by omega)
 have h3:=h.r3 (by omega)
 have hb8:=h.r4 (by omega)
 have hd:=h.r5 (by omega)
 have h6:=h.r6 (by omega)
 have h7:=h.r7 (by omega)
 have hr8:=h.r8 (by omega)
 have hk:=hf.kind a ha;refine⟨fun e=>by (rw[hA] at e;cases e),fun e=>absurd e hne,fun _ e=>absurd e ha8,fun _ e=>h3 e,fun _ _ e=>absurd e hb8,fun _ _ _=>⟨fun e=>by (rw[hA] at e;cases e),fun e=>?_⟩,fun e=>by (rw[hA] at e;cases e)⟩
 exfalso
 unfold Pre Does at e;split at e
 ·rename_i hc;rcases e with e | e
  ·exact hd ⟨e,hc⟩
  ·rcases hc with hc | hc<;>omega
 ·obtain⟨e1,e⟩:=e;rcases e with e | ⟨e,_⟩ | ⟨e,e',_⟩ | ⟨e,_⟩
  ·omega
  ·omega
  ·exact h7 ⟨e,by omega,e'⟩
  ·exact hr8 ⟨e,by omega⟩
end
structure Exam (g:List Gi)(st:Bool)(P:List Pr)(A:Pr→Bool)(i:Nat):Prop where
 lt:∀ p∈P,p.1<g.length∧p.2<g.length
 nodup:P.Nodup
 asm:∀ p,A p=true→∃ k,k<i∧P[k]? = some p
 done:∀ k,k<i→∀ a b,P[k]? = some (a,b)→DoneP g st P A a b
theorem Exam.cl {g:List Gi}{st:Bool}{P:List Pr}{A:Pr→Bool}(h:Exam g st P A P.length):Cl g st P A:=by
 have hd:∀ a b,(a,b)∈P→DoneP g st P A a b:=fun a b hm=>by
  obtain⟨k,hk⟩:=List.getElem?_of_mem hm;exact h.done k (List.getElem?_eq_some_iff.1 hk).1 a b hk
 have hm:∀ a b,A (a,b)=true→(a,b)∈P:=fun a b e=>by
  obtain⟨k,_,hk⟩:=h.asm _ e;exact List.mem_of_getElem? hk
 exact⟨fun a b hm=>h.lt _ hm,h.nodup,fun a b e=>⟨hm a b e,(hd a b (hm a b e)).no8 e⟩,fun a hp h8=>(hd a a hp).self rfl h8,
  fun a b hp=>(hd a b hp).uni,fun a b hp=>(hd a b hp).var,fun a b hp=>(hd a b hp).inun,fun a b hp=>(hd a b hp).pre,fun a b e=>(hd a b (hm a b e)).ch e⟩
theorem Exam.step {g:List Gi}{st:Bool}{P P':List Pr}{A A':Pr→Bool}{i a b:Nat}(h:Exam g st P A i)(hi:P[i]? = some (a,b))(hp:∃ t,P'=P++t)(hA:∀ q,q≠(a,b)→A' q=A q)
  (hlt:∀ p∈P',p.1<g.length∧p.2<g.length)(hnd:P'.Nodup)(hd:DoneP g st P' A' a b):Exam g st P' A' (i+1):=by
 obtain⟨t,e⟩:=hp;have hget:∀ k p,P[k]? = some p→P'[k]? = some p:=fun k p hk=>by
  rw[e,List.getElem?_append_left (List.getElem?_eq_some_iff.1 hk).1];exact hk
 have hil:=(List.getElem?_eq_some_iff.1 hi).1;refine⟨hlt,hnd,fun p hp=>?_,fun k hk c d hcd=>?_⟩
 ·by_cases ep:p=(a,b)
  ·exact⟨i,by omega,by rw[ep];exact hget i _ hi⟩
  ·obtain⟨k,hk,hkp⟩:=h.asm p (by rw[← hA p ep];exact hp)
   exact⟨k,by omega,hget k p hkp⟩
 ·by_cases ek:k=i
  ·subst ek;rw[hget k _ hi] at hcd;injection hcd with hcd
   injection hcd with e1 e2
   subst e1 e2;exact hd
  ·have hkl:k<P.length:=by omega
   have hk':P[k]? = some (c,d):=by
    rw[e,List.getElem?_append_left hkl] at hcd;exact hcd
   have hne:(c,d)≠(a,b):=fun e'=>by
    rw[e'] at hk';have h1:=(List.getElem?_eq_some_iff.1 hk').2;have h2:=(List.getElem?_eq_some_iff.1 hi).2;exact ek ((List.getElem_inj h.nodup).1 (h1.trans h2.symm))
   exact(h.done k (by omega) c d hk').mono (fun p hp=>by rw[e];exact List.mem_append_left _ hp) (hA _ hne)
end SM
end
section
open Go.RowKit
namespace SM
open CM (nd kids)
theorem below_drew (B:Nat)(w:World):Below B w w.drew:=⟨rfl,rfl,rfl,Nat.le_refl _,fun _ _=>rfl⟩
theorem of_getD {l:List Nat}{i:Nat}(h:i<l.length):l[i]? = some (l.getD i 0):=by rw[List.getD_eq_getElem?_getD,List.getElem?_eq_getElem h];rfl
def Lists (x:Cx)(w:World)(a:Nat)(VA PA:Option Addr):Prop:=∀ w',Below x.B w w'→RdV w' VA ((nd x.g a).keys.flatMap sC)∧RdV w' PA ((nd x.g a).l.flatMap iC)
theorem Lists.mono {x:Cx}{w w1:World}{a:Nat}{VA PA:Option Addr}(h:Lists x w a VA PA)(hb:Below x.B w w1):Lists x w1 a VA PA:=fun w' hb'=>h w' (hb.trans hb')
theorem RelW.gnode {x:Cx}{w:World}{y:Lay}{S:St}(h:RelW x w y S){a:Nat}(ha:a<x.n):∃ gb go VA vc PA pc,x.A=some ⟨gb,go,none⟩∧w.cell? ⟨gb,go+a*5,none⟩=some (.int .i64 (nd x.g a).kind)∧w.cell? ⟨gb,go+a*5+1,none⟩=some (.int .i64 (nd x.g a).num) ∧
  w.cell? ⟨gb,go+a*5+2,none⟩=some (.string (nd x.g a).nm)∧w.cell? ⟨gb,go+a*5+3,none⟩=some (.slice VA (nd x.g a).keys.length vc)∧w.cell? ⟨gb,go+a*5+4,none⟩=some (.slice PA (nd x.g a).l.length pc)∧Lists x w a VA PA ∧
  (nd x.g a).keys.length≤vc∧(nd x.g a).l.length≤pc∧((nd x.g a).keys.length:Int)≤9223372036854775807∧((nd x.g a).l.length:Int)≤9223372036854775807:=by
 obtain⟨w0,e,hg,hb⟩:=h.base;obtain⟨gb,go,hA,VA,vc,PA,pc,k0,k1,k2,k3,k4,k5,k6,k7,k8,k9,k10⟩:=hg.at_ (i:=a) (x:=nd x.g a) (by unfold CM.nd;rw[List.getD_eq_getElem?_getD,List.getElem?_eq_getElem ha];rfl)
 rw[← e] at hb;refine⟨gb,go,VA,vc,PA,pc,hA,cell_below hb k0,cell_below hb k1,cell_below hb k2,cell_below hb k3,cell_below hb k4,fun w' hb'=>?_,k9,k10,k7,k8⟩
 rw[← e] at hb';exact⟨k5.below (hb.trans hb'),k6.below (hb.trans hb')⟩
theorem Lists.kid {x:Cx}{w:World}{a:Nat}{VA PA:Option Addr}(hf:Fine x.g)(ha:a<x.n)(h:Lists x w a VA PA){i c:Nat}(hc:(kids (nd x.g a))[i]? = some c):∃ b o,PA=some ⟨b,o,none⟩∧∀ w',Below x.B w w'→w'.cell? ⟨b,o+i,none⟩=some (.int .i64 (c:Int)):=by
 have hi:=(List.getElem?_eq_some_iff.1 hc).1;rw[kids_len] at hi;obtain⟨z,hz⟩:∃ z,(nd x.g a).l[i]? = some z:=⟨_,List.getElem?_eq_getElem hi⟩;have hz0:0≤z:=hf.kidI a ha z (List.mem_of_getElem? hz);have hzc:z=(c:Int):=by
  unfold CM.kids at hc;rw[List.getElem?_map,hz] at hc;injection hc with hc
  omega
 subst hzc;obtain⟨b,o,hA,_⟩:=rd_intG (h w ⟨rfl,rfl,rfl,Nat.le_refl _,fun _ _=>rfl⟩).2 hz
 refine⟨b,o,hA,fun w' hb=>?_⟩
 obtain⟨b',o',hA',h'⟩:=rd_intG (h w' hb).2 hz;rw[hA] at hA';injection hA' with e
 injection e with e1 e2
 subst e1 e2;exact h'
def RuleOut (x:Cx)(y:Lay)(S:St)(a b k:Nat)(w:World)(r:Ending)(w':World):Prop:=∃ c,ActOf x.g x.st S.P a b k c∧Acts x y S a b c w r w'
theorem P1.asm {x:Cx}{S:St}(h:P1 x S)(f:Pr→Bool):P1 x { S with q:={ S.q with asm:=f } }:=⟨h.lt,h.nodup,h.cnt,h.ref,h.kn,h.ki⟩
theorem act_bool {p:Prop}[Decidable p]{ps:List Pr}:(p→(⟨decide p,decide p,ps⟩:Act)=⟨true,true,ps⟩)∧(¬ p→(⟨decide p,decide p,ps⟩:Act)=⟨false,false,ps⟩):=
 ⟨fun h=>by rw[decide_eq_true h],fun h=>by rw[decide_eq_false h]⟩
theorem reach_at (x:Cx)(y:Lay)(S:St)(a b rel:Nat)(w:World)(h:RelW x w y S)(hrel:y.rel=rel)(hf:Fine x.g)(hp:P1 x S)(ha:a<x.n)(hb:b<x.n) :
  Calls Tryz.prog 84 #[.pointer (some ⟨rel,0,none⟩),.agg #[.int .i64 (a:Int),.int .i64 (b:Int)]] w (ReachOut x y S (a,b) w):=by
 subst hrel;exact reach_any x y S a b w h hf hp ha hb
end SM
end
section
open Lib (hid)
open Go.RowKit
namespace SM
open CM (nd kids)
set_option maxRecDepth 100000 in
set_option maxHeartbeats 8000000 in
theorem plain_any (x:Cx)(y:Lay)(S:St)(a b rel:Nat)(w:World)(h:RelW x w y S)(hrel:y.rel=rel)(hp:P1 x S)(ha:a<x.n)(hb:b<x.n) :
  Calls Tryz.prog 133 #[.pointer (some ⟨rel,0,none⟩),.agg #[.int .i64 (a:Int),.int .i64 (b:Int)]] w (RuleOut x y S a b 6 w):=by
 subst hrel;have h1:=h.alloc (.cells #[.int .i64 (a:Int),.int .i64 (b:Int)] 99);have hz:=Blk.new w 99 #[.int .i64 (a:Int),.int .i64 (b:Int)];have hb0:=Stp.of_below y (one_boxS w (.cells #[.int .i64 (a:Int),.int .i64 (b:Int)] 99));have hold:∀ R k,bl y R=some k→k≠w.heap.size:=fun R k hk e=>by have:=(h.lt R k hk).2;omega
 have hlen:=h.len;go_enter Tryz.func133,Tryz.ntmps133
 go_upto_region 1 with(fail)
 generalize hw1:w.alloc (.cells #[.int .i64 (a:Int),.int .i64 (b:Int)] 99)=w1 at h1 hz hb0 ⊢;obtain⟨wb,hwb⟩:∃ wb,w.heap.size=wb:=⟨_,rfl⟩;rw[hwb] at hz hold ⊢;have z0:=hz.cell 0;have z1:=hz.cell 1;simp at z0 z1;have c0:=h1.c0;have c1:=h1.c1;have hrl:=(h1.lt .rel _ rfl).2;have hzl:=hz.lt;obtain⟨gb,go_,hA,hgn⟩:=h1.node ha;obtain⟨gb',go',hA',hgn'⟩:=h1.node hb;rw[hA] at hA';injection hA' with hA'
 injection hA' with e1 e2
 subst e1 e2;obtain⟨VA,vc,PA,pc,k0,k1,k2,k3,k4,ra⟩:=hgn;obtain⟨VB,vd,PB,pd,l0,l1,l2,l3,l4,rb⟩:=hgn';rw[hA] at c0;have HP:=hid hp;have H1:=hid h1;have HZ:=hid hz;have HB0:=hid hb0;have HNM:Hid (y.mp≠wb):=hid (hold .mp y.mp rfl);have HAL:=hid ha;have HBL:=hid hb;have HLEN:=hid hlen;obtain⟨xn,hxn⟩:∃ k,x.n=k:=⟨_,rfl⟩;rw[hxn] at c0 hlen ha hb;clear h h1 hz hb0 hold hw1 hwb hp ra rb hA;by_cases h5:(nd x.g a).kind≤5
 ·have H5:=hid h5;have t5:¬(5<(nd x.g a).kind):=by omega
  clear h5;go_wp2_with fail
  go_region
  go_wp2_with fail
  have H2:=hid H1.out.drew;have HB2:=hid HB0.out.drew;have HZ2:Hid (Blk w1.drew wb 99 #[.int .i64 (a:Int),.int .i64 (b:Int)]):=HZ;clear z0 z1 c0 c1 k0 k1 k2 k3 k4 l0 l1 l2 l3 l4;generalize w1.drew=w2 at H2 HB2 HZ2 ⊢;have z0:=HZ2.out.cell 0;have z1:=HZ2.out.cell 1;simp at z0 z1;have c4:=H2.out.c4;have hcall:Calls Tryz.prog 149 #[.map (some y.mp),.agg #[.int .i64 (a:Int),.int .i64 (b:Int)]] w2.drew (fun r w'=>r=.returned (.tuple #[])∧Mp w' y.mp (setA S.q.asm (a,b))∧Kept (fun k=>k=y.mp) w2 w'):=by
   have:=add_any y.mp a b S.q.asm w2.drew (Comp.mp_ (x:=x) (H2.out.comp .mp)) (by have:=HAL.out;have:=HLEN.out;omega) (by have:=HBL.out;have:=HLEN.out;omega)
   exact this.mono fun r w' ⟨h1,h2,h3⟩=>⟨h1,h2,⟨h3.os,h3.tape,h3.output,h3.size,h3.block⟩⟩
  have hS:(w2.drew.cell? ⟨wb,0,none⟩=some (.int .i64 (a:Int))∧w2.drew.cell? ⟨wb,1,none⟩=some (.int .i64 (b:Int))∧w2.drew.cell? ⟨y.rel,4,none⟩=some (.map (some y.mp))):=⟨z0,z1,c4⟩
  go_upto_region 3 with(fail)
  go_region_held3 (fun w'=>w'.cell? ⟨wb,0,none⟩=some (.int .i64 (a:Int))∧w'.cell? ⟨wb,1,none⟩=some (.int .i64 (b:Int))∧w'.cell? ⟨y.rel,4,none⟩=some (.map (some y.mp))) (first | with_reducible exact hS | with_reducible exact hn4) (first | (go_simp;go_at_call 149;refine hcall.mono ?_;rintro e w4 ⟨rfl,hm4,hk4⟩;obtain⟨h4,hb4⟩:=H2.out.setmp hk4 hm4;have H4:=hid h4;have HB4:=hid (HB2.out.trans hb4);have HZ4:=hid (hk4.blk HZ2.out (fun e=>HNM.out e.symm));have hn4:w4.cell? ⟨wb,0,none⟩=some (.int .i64 (a:Int))∧w4.cell? ⟨wb,1,none⟩=some (.int .i64 (b:Int))∧w4.cell? ⟨y.rel,4,none⟩=some (.map (some y.mp)):=⟨HZ4.out.cell 0,HZ4.out.cell 1,H4.out.c4⟩;clear hm4 hk4 h4 hb4))
  all_goals
   rename_i hHH;clear hHH hn4 hS z0 z1 c4 hcall;go_wp2_with fail
   go_returns
   exact⟨_,(act_bool.1 (by have:=H5.out;omega)).symm,rfl,y,_,rfl,H4.out,HB4.out,HP.out.asm _,rfl,rfl⟩
 ·have H5:=hid h5;have t5:5<(nd x.g a).kind:=by omega
  clear h5;go_wp2_with fail
  go_region
  go_wp2_with fail
  go_returns
  exact⟨_,(act_bool.2 (by have:=H5.out;omega)).symm,rfl,y,S,rfl,H1.out.drew,HB0.out.drew,HP.out,rfl,rfl⟩
set_option maxRecDepth 100000 in
set_option maxHeartbeats 8000000 in
theorem dyn_any (x:Cx)(y:Lay)(S:St)(a b rel:Nat)(w:World)(h:RelW x w y S)(hrel:y.rel=rel)(hp:P1 x S)(ha:a<x.n)(hb:b<x.n) :
  Calls Tryz.prog 132 #[.pointer (some ⟨rel,0,none⟩),.agg #[.int .i64 (a:Int),.int .i64 (b:Int)]] w (RuleOut x y S a b 5 w):=by
 subst hrel;have h1:=h.alloc (.cells #[.int .i64 (a:Int),.int .i64 (b:Int)] 99);have hz:=Blk.new w 99 #[.int .i64 (a:Int),.int .i64 (b:Int)];have hb0:=Stp.of_below y (one_boxS w (.cells #[.int .i64 (a:Int),.int .i64 (b:Int)] 99));have hold:∀ R k,bl y R=some k→k≠w.heap.size:=fun R k hk e=>by have:=(h.lt R k hk).2;omega
 have hlen:=h.len;go_enter Tryz.func132,Tryz.ntmps132
 go_upto_region 1 with(fail)
 generalize hw1:w.alloc (.cells #[.int .i64 (a:Int),.int .i64 (b:Int)] 99)=w1 at h1 hz hb0 ⊢;obtain⟨wb,hwb⟩:∃ wb,w.heap.size=wb:=⟨_,rfl⟩;rw[hwb] at hz hold ⊢;have z0:=hz.cell 0;have z1:=hz.cell 1;simp at z0 z1;have c0:=h1.c0;have c1:=h1.c1;have hrl:=(h1.lt .rel _ rfl).2;have hzl:=hz.lt;obtain⟨gb,go_,hA,hgn⟩:=h1.node ha;obtain⟨gb',go',hA',hgn'⟩:=h1.node hb;rw[hA] at hA';injection hA' with hA'
 injection hA' with e1 e2
 subst e1 e2;obtain⟨VA,vc,PA,pc,k0,k1,k2,k3,k4,ra⟩:=hgn;obtain⟨VB,vd,PB,pd,l0,l1,l2,l3,l4,rb⟩:=hgn';rw[hA] at c0;have HP:=hid hp;have H1:=hid h1;have HZ:=hid hz;have HB0:=hid hb0;have HNM:Hid (y.mp≠wb):=hid (hold .mp y.mp rfl);have HAL:=hid ha;have HBL:=hid hb;have HLEN:=hid hlen;obtain⟨xn,hxn⟩:∃ k,x.n=k:=⟨_,rfl⟩;rw[hxn] at c0 hlen ha hb;clear h h1 hz hb0 hold hw1 hwb hp ra rb hA;cases hst:x.st
 ·rw[hst] at c1;have HST:=hid hst;clear hst;by_cases g1:(nd x.g a).kind=1
  ·have t1:((nd x.g a).kind==1)=true:=by simp[g1]
   have u1:((nd x.g a).kind != 1)=false:=by simp[g1]
   have G1:=hid g1;clear g1;go_wp2_with fail
   go_region
   go_wp2_with fail
   have H2:=hid H1.out.drew;have HB2:=hid HB0.out.drew;have HZ2:Hid (Blk w1.drew wb 99 #[.int .i64 (a:Int),.int .i64 (b:Int)]):=HZ;clear z0 z1 c0 c1 k0 k1 k2 k3 k4 l0 l1 l2 l3 l4;generalize w1.drew=w2 at H2 HB2 HZ2 ⊢;have z0:=HZ2.out.cell 0;have z1:=HZ2.out.cell 1;simp at z0 z1;have c4:=H2.out.c4;have hcall:Calls Tryz.prog 149 #[.map (some y.mp),.agg #[.int .i64 (a:Int),.int .i64 (b:Int)]] w2.drew (fun r w'=>r=.returned (.tuple #[])∧Mp w' y.mp (setA S.q.asm (a,b))∧Kept (fun k=>k=y.mp) w2 w'):=by
    have:=add_any y.mp a b S.q.asm w2.drew (Comp.mp_ (x:=x) (H2.out.comp .mp)) (by have:=HAL.out;have:=HLEN.out;omega) (by have:=HBL.out;have:=HLEN.out;omega)
    exact this.mono fun r w' ⟨h1,h2,h3⟩=>⟨h1,h2,⟨h3.os,h3.tape,h3.output,h3.size,h3.block⟩⟩
   have hS:(w2.drew.cell? ⟨wb,0,none⟩=some (.int .i64 (a:Int))∧w2.drew.cell? ⟨wb,1,none⟩=some (.int .i64 (b:Int))∧w2.drew.cell? ⟨y.rel,4,none⟩=some (.map (some y.mp))):=⟨z0,z1,c4⟩
   go_upto_region 3 with(fail)
   go_region_held3 (fun w'=>w'.cell? ⟨wb,0,none⟩=some (.int .i64 (a:Int))∧w'.cell? ⟨wb,1,none⟩=some (.int .i64 (b:Int))∧w'.cell? ⟨y.rel,4,none⟩=some (.map (some y.mp))) (first | with_reducible exact hS | with_reducible exact hn4) (first | (go_simp;go_at_call 149;refine hcall.mono ?_;rintro e w4 ⟨rfl,hm4,hk4⟩;obtain⟨h4,hb4⟩:=H2.out.setmp hk4 hm4;have H4:=hid h4;have HB4:=hid (HB2.out.trans hb4);have HZ4:=hid (hk4.blk HZ2.out (fun e=>HNM.out e.symm));have hn4:w4.cell? ⟨wb,0,none⟩=some (.int .i64 (a:Int))∧w4.cell? ⟨wb,1,none⟩=some (.int .i64 (b:Int))∧w4.cell? ⟨y.rel,4,none⟩=some (.map (some y.mp)):=⟨HZ4.out.cell 0,HZ4.out.cell 1,H4.out.c4⟩;clear hm4 hk4 h4 hb4))
   all_goals
    rename_i hHH;clear hHH hn4 hS z0 z1 c4 hcall;go_wp2_with fail
    go_returns
    exact⟨_,(act_bool.1 ⟨HST.out,.inl G1.out⟩).symm,rfl,y,_,rfl,H4.out,HB4.out,HP.out.asm _,rfl,rfl⟩
  ·have t1:((nd x.g a).kind==1)=false:=by simp[g1]
   have u1:((nd x.g a).kind != 1)=true:=by simp[g1]
   have G1:=hid g1;clear g1;by_cases g2:(nd x.g b).kind=1
   ·have t2:((nd x.g b).kind==1)=true:=by simp[g2]
    have u2:((nd x.g b).kind != 1)=false:=by simp[g2]
    have G2:=hid g2;clear g2;go_wp2_with fail
    go_region
    go_wp2_with fail
    have H2:=hid H1.out.drew;have HB2:=hid HB0.out.drew;have HZ2:Hid (Blk w1.drew wb 99 #[.int .i64 (a:Int),.int .i64 (b:Int)]):=HZ;clear z0 z1 c0 c1 k0 k1 k2 k3 k4 l0 l1 l2 l3 l4;generalize w1.drew=w2 at H2 HB2 HZ2 ⊢;have z0:=HZ2.out.cell 0;have z1:=HZ2.out.cell 1;simp at z0 z1;have c4:=H2.out.c4;have hcall:Calls Tryz.prog 149 #[.map (some y.mp),.agg #[.int .i64 (a:Int),.int .i64 (b:Int)]] w2.drew (fun r w'=>r=.returned (.tuple #[])∧Mp w' y.mp (setA S.q.asm (a,b))∧Kept (fun k=>k=y.mp) w2 w'):=by
     have:=add_any y.mp a b S.q.asm w2.drew (Comp.mp_ (x:=x) (H2.out.comp .mp)) (by have:=HAL.out;have:=HLEN.out;omega) (by have:=HBL.out;have:=HLEN.out;omega)
     exact this.mono fun r w' ⟨h1,h2,h3⟩=>⟨h1,h2,⟨h3.os,h3.tape,h3.output,h3.size,h3.block⟩⟩
    have hS:(w2.drew.cell? ⟨wb,0,none⟩=some (.int .i64 (a:Int))∧w2.drew.cell? ⟨wb,1,none⟩=some (.int .i64 (b:Int))∧w2.drew.cell? ⟨y.rel,4,none⟩=some (.map (some y.mp))):=⟨z0,z1,c4⟩
    go_upto_region 3 with(fail)
    go_region_held3 (fun w'=>w'.cell? ⟨wb,0,none⟩=some (.int .i64 (a:Int))∧w'.cell? ⟨wb,1,none⟩=some (.int .i64 (b:Int))∧w'.cell? ⟨y.rel,4,none⟩=some (.map (some y.mp))) (first | with_reducible exact hS | with_reducible exact hn4) (first | (go_simp;go_at_call 149;refine hcall.mono ?_;rintro e w4 ⟨rfl,hm4,hk4⟩;obtain⟨h4,hb4⟩:=H2.out.setmp hk4 hm4;have H4:=hid h4;have HB4:=hid (HB2.out.trans hb4);have HZ4:=hid (hk4.blk HZ2.out (fun e=>HNM.out e.symm));have hn4:w4.cell? ⟨wb,0,none⟩=some (.int .i64 (a:Int))∧w4.cell? ⟨wb,1,none⟩=some (.int .i64 (b:Int))∧w4.cell? ⟨y.rel,4,none⟩=some (.map (some y.mp)):=⟨HZ4.out.cell 0,HZ4.out.cell 1,H4.out.c4⟩;clear hm4 hk4 h4 hb4))
    all_goals
     rename_i hHH;clear hHH hn4 hS z0 z1 c4 hcall;go_wp2_with fail
     go_returns
     exact⟨_,(act_bool.1 ⟨HST.out,.inr G2.out⟩).symm,rfl,y,_,rfl,H4.out,HB4.out,HP.out.asm _,rfl,rfl⟩
   ·have t2:((nd x.g b).kind==1)=false:=by simp[g2]
    have u2:((nd x.g b).kind != 1)=true:=by simp[g2]
    have G2:=hid g2;clear g2;go_wp2_with fail
    go_region
    go_wp2_with fail
    go_returns
    exact⟨_,(act_bool.2 fun e=>e.2.elim G1.out G2.out).symm,rfl,y,S,rfl,H1.out.drew,HB0.out.drew,HP.out,rfl,rfl⟩
 ·rw[hst] at c1;have HST:=hid hst;clear hst;go_wp2_with fail
  go_region
  go_wp2_with fail
  go_returns
  exact⟨_,(act_bool.2 fun e=>by (have:=HST.out.symm.trans e.1;cases this)).symm,rfl,y,S,rfl,H1.out.drew,HB0.out.drew,HP.out,rfl,rfl⟩
end SM
end
section
open Lib (hid)
open Go.RowKit
namespace SM
open CM (nd kids)
theorem uni_len {g:List Gi}(hf:Fine g){n:Nat}(hn:n<g.length)(h8:(nd g n).kind=8):(nd g n).l.length≤2000:=by
 have h1:=nodup_sub_len (hf.uni n hn h8).1 (m:=List.range g.length) (fun c hc=>List.mem_range.2 (hf.kid n hn c hc))
 rw[kids_len,List.length_range] at h1;have:=hf.len;omega
theorem act2_full {g:List Gi}{st:Bool}{P:List Pr}{a b:Nat}(h:(nd g a).kind=8)(hp:full g P):ActOf g st P a b 2 ⟨true,false,[]⟩:=by show _=_;rw[if_neg (fun e=>e.2 hp),decide_eq_true h]
theorem act2_on {g:List Gi}{st:Bool}{P:List Pr}{a b:Nat}(h:(nd g a).kind=8)(hp:¬ full g P):ActOf g st P a b 2 ⟨true,false,(kids (nd g a)).map fun s=>(s,b)⟩:=by show _=_;rw[if_pos ⟨h,hp⟩,decide_eq_true h]
theorem act2_off {g:List Gi}{st:Bool}{P:List Pr}{a b:Nat}(h:¬(nd g a).kind=8):ActOf g st P a b 2 ⟨false,false,[]⟩:=by show _=_;rw[if_neg (fun e=>h e.1),decide_eq_false h]
theorem act4_full {g:List Gi}{st:Bool}{P:List Pr}{a b:Nat}(h:(nd g b).kind=8)(hp:full g P):ActOf g st P a b 4 ⟨true,false,[]⟩:=by show _=_;rw[if_neg (fun e=>e.2 hp),decide_eq_true h]
theorem act4_on {g:List Gi}{st:Bool}{P:List Pr}{a b:Nat}(h:(nd g b).kind=8)(hp:¬ full g P)(hn:a ∉ kids (nd g b)):ActOf g st P a b 4 ⟨true,false,(kids (nd g b)).map fun t=>(a,t)⟩:=by show _=_;rw[if_pos ⟨h,hp⟩,if_neg hn,decide_eq_true h]
theorem act4_in {g:List Gi}{st:Bool}{P:List Pr}{a b:Nat}(h:(nd g b).kind=8)(hp:¬ full g P)(hn:a∈kids (nd g b)):ActOf g st P a b 4 ⟨true,false,[(a,a)]⟩:=by show _=_;rw[if_pos ⟨h,hp⟩,if_pos hn,decide_eq_true h]
theorem act4_off {g:List Gi}{st:Bool}{P:List Pr}{a b:Nat}(h:¬(nd g b).kind=8):ActOf g st P a b 4 ⟨false,false,[]⟩:=by show _=_;rw[if_neg (fun e=>h e.1),decide_eq_false h]
theorem has_kid {g:List Gi}(hf:Fine g){b:Nat}(hb:b<g.length)(a:Nat):hasG (nd g b).l (a:Int)=decide (a∈kids (nd g b)):=by
 unfold hasG;by_cases h:a∈kids (nd g b)
 ·rw[decide_eq_true h,List.contains_iff_mem];obtain⟨z,hz,e⟩:=List.mem_map.1 h;have:=hf.kidI b hb z hz;have:z=(a:Int):=by omega
  rw[← this];exact hz
 ·rw[decide_eq_false h,Bool.eq_false_iff];intro hc;rw[List.contains_iff_mem] at hc;exact h (List.mem_map.2 ⟨_,hc,by simp⟩)
set_option maxRecDepth 100000 in
set_option maxHeartbeats 16000000 in
theorem ofBound_any (x:Cx)(y:Lay)(S:St)(a b rel:Nat)(w:World)(h:RelW x w y S)(hrel:y.rel=rel)(hf:Fine x.g)(hp:P1 x S)(ha:a<x.n)(hb:b<x.n) :
  Calls Tryz.prog 130 #[.pointer (some ⟨rel,0,none⟩),.agg #[.int .i64 (a:Int),.int .i64 (b:Int)]] w (RuleOut x y S a b 3 w):=by
 subst hrel;have h1:=h.alloc (.cells #[.int .i64 (a:Int),.int .i64 (b:Int)] 99);have hz:=Blk.new w 99 #[.int .i64 (a:Int),.int .i64 (b:Int)];have hb0:=Stp.of_below y (one_boxS w (.cells #[.int .i64 (a:Int),.int .i64 (b:Int)] 99));have hno:=h.new;have hlen:=h.len;go_enter Tryz.func130,Tryz.ntmps130
 go_upto_region 1 with(fail)
 generalize hw1:w.alloc (.cells #[.int .i64 (a:Int),.int .i64 (b:Int)] 99)=w1 at h1 hz hb0 ⊢;obtain⟨wb,hwb⟩:∃ wb,w.heap.size=wb:=⟨_,rfl⟩;rw[hwb] at hz hno ⊢;have HNO:=hid hno;have z0:=hz.cell 0;have z1:=hz.cell 1;simp at z0 z1;have c0:=h1.c0;have hrl:=(h1.lt .rel _ rfl).2;have hzl:=hz.lt;obtain⟨gb,go_,VA,vc,PA,pc,hA,k0,k1,k2,k3,k4,hls,hvc,hpc,hi1,hi2⟩:=h1.gnode ha;rw[hA] at c0;have hgl:=block_lt_of_cell k0;have HF:=hid hf;have HP:=hid hp;have H1:=hid h1;have HZ:=hid hz;have HB0:=hid hb0;have HLS:=hid hls;have HAL:=hid ha;have HBL:=hid hb;have HLEN:=hid hlen;have HW1:=hid hw1;obtain⟨xn,hxn⟩:∃ k,x.n=k:=⟨_,rfl⟩;have HXN:=hid hxn;have hna:=ha;rw[hxn] at c0 hlen hna;clear h h1 hz hb0 hno hls hf hp hwb hw1 hA
 go_upto_region 1 with(fail)
 go_region
 have hn1:=H1.out.new;have h2:=H1.out.alloc (.cells #[.int .i64 (nd x.g a).kind,.int .i64 (nd x.g a).num,.string (nd x.g a).nm,.slice VA (nd x.g a).keys.length vc,.slice PA (nd x.g a).l.length pc] 54);have hs2:=HB0.out.trans (Stp.of_below y (one_boxS w1 (.cells #[.int .i64 (nd x.g a).kind,.int .i64 (nd x.g a).num,.string (nd x.g a).nm,.slice VA (nd x.g a).keys.length vc,.slice PA (nd x.g a).l.length pc] 54)));have hbx:=Blk.new w1 54 #[.int .i64 (nd x.g a).kind,.int .i64 (nd x.g a).num,.string (nd x.g a).nm,.slice VA (nd x.g a).keys.length vc,.slice PA (nd x.g a).l.length pc];have hl2:=HLS.out.mono ((one_boxS w1 (.cells #[.int .i64 (nd x.g a).kind,.int .i64 (nd x.g a).num,.string (nd x.g a).nm,.slice VA (nd x.g a).keys.length vc,.slice PA (nd x.g a).l.length pc] 54)).mono H1.out.size);have hz2:=HZ.out.alloc (.cells #[.int .i64 (nd x.g a).kind,.int .i64 (nd x.g a).num,.string (nd x.g a).nm,.slice VA (nd x.g a).keys.length vc,.slice PA (nd x.g a).l.length pc] 54);obtain⟨q1,hq1⟩:∃ q1,w1.heap.size=q1:=⟨_,rfl⟩;rw[hq1] at hbx hn1 ⊢;have H2:=hid h2.drew;have HS2:=hid hs2.drew;have HBX:Hid (Blk (w1.alloc (.cells #[.int .i64 (nd x.g a).kind,.int .i64 (nd x.g a).num,.string (nd x.g a).nm,.slice VA (nd x.g a).keys.length vc,.slice PA (nd x.g a).l.length pc] 54)).drew q1 54 #[.int .i64 (nd x.g a).kind,.int .i64 (nd x.g a).num,.string (nd x.g a).nm,.slice VA (nd x.g a).keys.length vc,.slice PA (nd x.g a).l.length pc]):=hid hbx
 have HL2:Hid (Lists x (w1.alloc (.cells #[.int .i64 (nd x.g a).kind,.int .i64 (nd x.g a).num,.string (nd x.g a).nm,.slice VA (nd x.g a).keys.length vc,.slice PA (nd x.g a).l.length pc] 54)).drew a VA PA):=hid (hl2.mono (below_drew _ _));have HZ2:Hid (Blk (w1.alloc (.cells #[.int .i64 (nd x.g a).kind,.int .i64 (nd x.g a).num,.string (nd x.g a).nm,.slice VA (nd x.g a).keys.length vc,.slice PA (nd x.g a).l.length pc] 54)).drew wb 99 #[.int .i64 (a:Int),.int .i64 (b:Int)]):=hid hz2;have HN1:=hid hn1;clear h2 hs2 hbx hl2 hz2 hn1 hq1 z0 z1 c0 k0 k1 k2 k3 k4 hi1 hi2 hvc hrl hzl hgl;generalize (w1.alloc (.cells #[.int .i64 (nd x.g a).kind,.int .i64 (nd x.g a).num,.string (nd x.g a).nm,.slice VA (nd x.g a).keys.length vc,.slice PA (nd x.g a).l.length pc] 54)).drew=w2 at H2 HS2 HBX HL2 HZ2 ⊢;have z0:=HZ2.out.cell 0;have z1:=HZ2.out.cell 1;have b0:=HBX.out.cell 0;have b4:=HBX.out.cell 4;simp at z0 z1 b0 b4;by_cases h9:(nd x.g a).kind=9
 ·have t9:((nd x.g a).kind==9)=true:=by simp[h9]
  have H9:=hid h9;have hl1:(nd x.g a).l.length=1:=by have:=HF.out.var a HAL.out h9;rwa [kids_len] at this
  have hbl:=HF.out.bnd_lt HAL.out h9;obtain⟨pb,po,hPA,hk⟩:=HL2.out.kid HF.out HAL.out (i:=0) (c:=bnd x.g a) (of_getD (by rw[kids_len];omega))
  subst hPA;have HL1:=hid hl1;rw[hl1] at b4 hpc;have hS:(w2.drew.cell? ⟨wb,1,none⟩=some (.int .i64 (b:Int))∧w2.drew.cell? ⟨q1,4,none⟩=some (.slice (some ⟨pb,po,none⟩) 1 pc)∧w2.drew.cell? ⟨pb,po,none⟩=some (.int .i64 (bnd x.g a:Int))):=⟨z1,b4,hk w2 (Below.refl _ _)⟩;have HK:=hid hk;have R1:=reach_at x y S (bnd x.g a) b _ w2.drew H2.out.drew rfl HF.out HP.out hbl HBL.out;have HNO2:Hid (¬ Own y wb):=HNO;have HN2:Hid (¬ Own y q1):=HN1;clear h9 hk hl1 hbl
  go_upto_region 3 with(fail)
  go_region_held3 (fun w'=>w'.cell? ⟨wb,1,none⟩=some (.int .i64 (b:Int))∧w'.cell? ⟨q1,4,none⟩=some (.slice (some ⟨pb,po,none⟩) 1 pc)∧w'.cell? ⟨pb,po,none⟩=some (.int .i64 (bnd x.g a:Int))) (first | with_reducible exact hS | with_reducible exact hn4) (first | (go_simp;go_at_call 84;refine R1.mono ?_;rintro e w4 ⟨rfl,y4,S4,e4,h4,hs4,hp4,hP4,ha4⟩;have E4:=hid e4;have H4:=hid h4;have HS4:=hid hs4;have HP4:=hid hp4;have HPP4:=hid hP4;have HA4:=hid ha4;have hn4:w4.cell? ⟨wb,1,none⟩=some (.int .i64 (b:Int))∧w4.cell? ⟨q1,4,none⟩=some (.slice (some ⟨pb,po,none⟩) 1 pc)∧w4.cell? ⟨pb,po,none⟩=some (.int .i64 (bnd x.g a:Int)):=⟨((hs4.blk (w:=w2.drew) HZ2.out HNO2.out).1).cell 1,by have:=((hs4.blk (w:=w2.drew) HBX.out HN2.out).1).cell 4;rw[HL1.out] at this;exact this,HK.out w4 ((below_drew _ _).trans (hs4.below (w:=w2.drew) H2.out.drew))⟩;clear e4 h4 hs4 hp4 hP4 ha4))
  all_goals
   rename_i hHH;clear hHH hn4 hS z0 z1 b0 b4 R1;go_wp2_with fail
   go_returns
   exact⟨_,rfl,rfl,y4,S4,E4.out,H4.out,(HS2.out.drew).trans HS4.out,HP4.out,by rw[if_pos H9.out];exact HPP4.out,HA4.out⟩
 ·have t9:((nd x.g a).kind==9)=false:=by simp[h9]
  have H9:=hid h9;clear h9;go_wp2_with fail
  go_returns
  exact⟨_,rfl,rfl,y,S,rfl,H2.out,HS2.out,HP.out,by rw[if_neg H9.out];rfl,rfl⟩
set_option maxRecDepth 100000 in
set_option maxHeartbeats 16000000 in
theorem ofUnion_any (x:Cx)(y:Lay)(S:St)(a b rel:Nat)(w:World)(h:RelW x w y S)(hrel:y.rel=rel)(hf:Fine x.g)(hp:P1 x S)(ha:a<x.n)(hb:b<x.n) :
  Calls Tryz.prog 129 #[.pointer (some ⟨rel,0,none⟩),.agg #[.int .i64 (a:Int),.int .i64 (b:Int)]] w (RuleOut x y S a b 2 w):=by
 subst hrel;have h1:=h.alloc (.cells #[.int .i64 (a:Int),.int .i64 (b:Int)] 99);have hz:=Blk.new w 99 #[.int .i64 (a:Int),.int .i64 (b:Int)];have hb0:=Stp.of_below y (one_boxS w (.cells #[.int .i64 (a:Int),.int .i64 (b:Int)] 99));have hno:=h.new;have hlen:=h.len;go_enter Tryz.func129,Tryz.ntmps129
 go_upto_region 1 with(fail)
 generalize hw1:w.alloc (.cells #[.int .i64 (a:Int),.int .i64 (b:Int)] 99)=w1 at h1 hz hb0 ⊢;obtain⟨wb,hwb⟩:∃ wb,w.heap.size=wb:=⟨_,rfl⟩;rw[hwb] at hz hno ⊢;have HNO:=hid hno;have z0:=hz.cell 0;have z1:=hz.cell 1;simp at z0 z1;have c0:=h1.c0;have hrl:=(h1.lt .rel _ rfl).2;have hzl:=hz.lt;obtain⟨gb,go_,VA,vc,PA,pc,hA,k0,k1,k2,k3,k4,hls,hvc,hpc,hi1,hi2⟩:=h1.gnode ha;rw[hA] at c0;have hgl:=block_lt_of_cell k0;have HF:=hid hf;have HP:=hid hp;have H1:=hid h1;have HZ:=hid hz;have HB0:=hid hb0;have HLS:=hid hls;have HAL:=hid ha;have HBL:=hid hb;have HLEN:=hid hlen;have HW1:=hid hw1;obtain⟨xn,hxn⟩:∃ k,x.n=k:=⟨_,rfl⟩;have HXN:=hid hxn;have hna:=ha;rw[hxn] at c0 hlen hna;clear h h1 hz hb0 hno hls hf hp hwb hw1 hA
 go_upto_region 1 with(fail)
 go_region
 have hn1:=H1.out.new;have h2:=H1.out.alloc (.cells #[.int .i64 (nd x.g a).kind,.int .i64 (nd x.g a).num,.string (nd x.g a).nm,.slice VA (nd x.g a).keys.length vc,.slice PA (nd x.g a).l.length pc] 54);have hs2:=HB0.out.trans (Stp.of_below y (one_boxS w1 (.cells #[.int .i64 (nd x.g a).kind,.int .i64 (nd x.g a).num,.string (nd x.g a).nm,.slice VA (nd x.g a).keys.length vc,.slice PA (nd x.g a).l.length pc] 54)));have hbx:=Blk.new w1 54 #[.int .i64 (nd x.g a).kind,.int .i64 (nd x.g a).num,.string (nd x.g a).nm,.slice VA (nd x.g a).keys.length vc,.slice PA (nd x.g a).l.length pc];have hl2:=HLS.out.mono ((one_boxS w1 (.cells #[.int .i64 (nd x.g a).kind,.int .i64 (nd x.g a).num,.string (nd x.g a).nm,.slice VA (nd x.g a).keys.length vc,.slice PA (nd x.g a).l.length pc] 54)).mono H1.out.size);have hz2:=HZ.out.alloc (.cells #[.int .i64 (nd x.g a).kind,.int .i64 (nd x.g a).num,.string (nd x.g a).nm,.slice VA (nd x.g a).keys.length vc,.slice PA (nd x.g a).l.length pc] 54);obtain⟨q1,hq1⟩:∃ q1,w1.heap.size=q1:=⟨_,rfl⟩;rw[hq1] at hbx hn1 ⊢;have H2:=hid h2.drew;have HS2:=hid hs2.drew;have HBX:Hid (Blk (w1.alloc (.cells #[.int .i64 (nd x.g a).kind,.int .i64 (nd x.g a).num,.string (nd x.g a).nm,.slice VA (nd x.g a).keys.length vc,.slice PA (nd x.g a).l.length pc] 54)).drew q1 54 #[.int .i64 (nd x.g a).kind,.int .i64 (nd x.g a).num,.string (nd x.g a).nm,.slice VA (nd x.g a).keys.length vc,.slice PA (nd x.g a).l.length pc]):=hid hbx
 have HL2:Hid (Lists x (w1.alloc (.cells #[.int .i64 (nd x.g a).kind,.int .i64 (nd x.g a).num,.string (nd x.g a).nm,.slice VA (nd x.g a).keys.length vc,.slice PA (nd x.g a).l.length pc] 54)).drew a VA PA):=hid (hl2.mono (below_drew _ _));have HZ2:Hid (Blk (w1.alloc (.cells #[.int .i64 (nd x.g a).kind,.int .i64 (nd x.g a).num,.string (nd x.g a).nm,.slice VA (nd x.g a).keys.length vc,.slice PA (nd x.g a).l.length pc] 54)).drew wb 99 #[.int .i64 (a:Int),.int .i64 (b:Int)]):=hid hz2;have HN1:=hid hn1;clear h2 hs2 hbx hl2 hz2 hn1 hq1 z0 z1 c0 k0 k1 k2 k3 k4 hi1 hi2 hvc hrl hzl hgl;generalize (w1.alloc (.cells #[.int .i64 (nd x.g a).kind,.int .i64 (nd x.g a).num,.string (nd x.g a).nm,.slice VA (nd x.g a).keys.length vc,.slice PA (nd x.g a).l.length pc] 54)).drew=w2 at H2 HS2 HBX HL2 HZ2 ⊢;have z0:=HZ2.out.cell 0;have z1:=HZ2.out.cell 1;have b0:=HBX.out.cell 0;have b4:=HBX.out.cell 4;simp at z0 z1 b0 b4;by_cases h8:(nd x.g a).kind=8
 ·have t8:((nd x.g a).kind==8)=true:=by simp[h8]
  have H8:=hid h8;clear h8;have R0:=complete_any x y S _ w2 H2.out rfl;go_wp2_with fail
  refine R0.mono ?_;rintro e w4 ⟨rfl,hb4⟩;have H4:=hid (H2.out.same hb4);have HS4:=hid (HS2.out.trans (Stp.of_below y hb4));have HL4:=hid (HL2.out.mono (hb4.mono H2.out.size));have hz4:=HZ2.out.below hb4 HZ2.out.lt;have hx4:=HBX.out.below hb4 HBX.out.lt;have HZ4:=hid hz4;have HX4:=hid hx4;clear z0 z1 b0 b4 R0 hb4;have z0:=hz4.cell 0;have z1:=hz4.cell 1;have b0:=hx4.cell 0;have b4:=hx4.cell 4;simp at z0 z1 b0 b4;clear hz4 hx4;by_cases hpf:S.P.length=x.n*x.n
  ·have HPF:Hid (full x.g S.P):=hid hpf;have tpf:decide (S.P.length=x.n*x.n)=true:=decide_eq_true hpf;rw[tpf];clear tpf hpf;go_wp2_with fail
   go_returns
   exact⟨_,act2_full H8.out HPF.out,rfl,y,S,rfl,H4.out,HS4.out,HP.out,rfl,rfl⟩
  ·have HPF:Hid (¬ full x.g S.P):=hid hpf;have tpf:decide (S.P.length=x.n*x.n)=false:=decide_eq_false hpf;rw[tpf];clear tpf hpf;obtain⟨m,hm⟩:∃ m,(nd x.g a).l.length=m:=⟨_,rfl⟩;have HM:=hid hm;have hml:=uni_len HF.out HAL.out H8.out;rw[hm] at b4 hpc hml;clear hm;go_wp2_with fail
   clear z0 z1 b0 b4
   go_loopw [24] (fun u24 wr=>∃ (j:Nat) (yj:Lay) (Sj:St),j≤m∧u24=.int .i64 (j:Int)∧Hid (yj.rel=y.rel)∧Hid (RelW x wr yj Sj)∧Hid (Stp w4 y wr yj)∧Hid (P1 x Sj)∧Hid (Sj.P=addL S.P (((kids (nd x.g a)).take j).map fun s=>(s,b)))∧Hid (Sj.q.asm=S.q.asm)) (fun u24 _=>m-(intOf u24).toNat)
   case atStart=>exact⟨0,y,S,Nat.zero_le _,rfl,hid rfl,H4,hid (Stp.refl _ _),HP,hid rfl,hid rfl⟩
   case round =>
    obtain⟨j,yj,Sj,hj,rfl,Hy,Hr,Hs,HPj,Hl,Ha⟩:=hrel;by_cases hlt:j<m
    ·obtain⟨c,hc⟩:∃ c,(kids (nd x.g a))[j]? = some c:=⟨_,List.getElem?_eq_getElem (by rw[kids_len,HM.out];exact hlt)⟩
     have hcn:c<x.n:=HF.out.kid a HAL.out c (List.mem_of_getElem? hc);obtain⟨pb,po,hPA,hk⟩:=HL4.out.kid HF.out HAL.out hc;subst hPA;have c1:=hk wr (Hs.out.below H4.out);have hbz:=(Hs.out.blk HZ4.out HNO.out).1;have z0:=hbz.cell 0;have z1:=hbz.cell 1;simp at z0 z1;have hji:(j:Int)<(m:Int):=by omega
     have HC:=hid hc;have R1:=reach_at x yj Sj c b _ wr Hr.out Hy.out HF.out HPj.out hcn HBL.out;clear hk hc hbz hcn;go_wp2_with fail
     refine R1.mono ?_;rintro e w5 ⟨rfl,y5,S5,e5,h5,hs5,hp5,hP5,ha5⟩;have E5:=hid (e5.trans Hy.out);have H5:=hid h5;have HS5:=hid (Hs.out.trans hs5);have HP5:=hid hp5;have HPP5:Hid (S5.P=addL S.P (((kids (nd x.g a)).take (j+1)).map fun s=>(s,b))):=hid (by rw[hP5,Hl.out,List.take_add_one,HC.out,List.map_append,addL_app];rfl)
     have HA5:=hid (ha5.trans Ha.out);clear e5 h5 hs5 hp5 hP5 ha5 R1 c1 z0 z1;go_wp2_with fail
     go_roundw
     case rel=>exact⟨j+1,y5,S5,by omega,by go_num,E5,H5,HS5,HP5,HPP5,HA5⟩
     case measure=>simp[intOf];omega
    ·have hjm:j=m:=by omega
     subst hjm;have hjl:¬((j:Int)<(j:Int)):=by omega
     have HPP:Hid (Sj.P=addL S.P ((kids (nd x.g a)).map fun s=>(s,b))):=hid (by rw[Hl.out,List.take_of_length_le (by rw[kids_len,HM.out];exact Nat.le_refl _)])
     go_wp2_with fail
     go_returns
     exact⟨_,act2_on H8.out HPF.out,rfl,yj,Sj,Hy.out,Hr.out,HS4.out.trans Hs.out,HPj.out,HPP.out,Ha.out⟩
 ·have t8:((nd x.g a).kind==8)=false:=by simp[h8]
  have H8:=hid h8;clear h8;go_wp2_with fail
  go_returns
  exact⟨_,act2_off H8.out,rfl,y,S,rfl,H2.out,HS2.out,HP.out,rfl,rfl⟩
set_option maxRecDepth 100000 in
set_option maxHeartbeats 16000000 in
theorem inUnion_any (x:Cx)(y:Lay)(S:St)(a b rel:Nat)(w:World)(h:RelW x w y S)(hrel:y.rel=rel)(hf:Fine x.g)(hp:P1 x S)(ha:a<x.n)(hb:b<x.n) :
  Calls Tryz.prog 131 #[.pointer (some ⟨rel,0,none⟩),.agg #[.int .i64 (a:Int),.int .i64 (b:Int)]] w (RuleOut x y S a b 4 w):=by
 subst hrel;have h1:=h.alloc (.cells #[.int .i64 (a:Int),.int .i64 (b:Int)] 99);have hz:=Blk.new w 99 #[.int .i64 (a:Int),.int .i64 (b:Int)];have hb0:=Stp.of_below y (one_boxS w (.cells #[.int .i64 (a:Int),.int .i64 (b:Int)] 99));have hno:=h.new;have hlen:=h.len;go_enter Tryz.func131,Tryz.ntmps131
 go_upto_region 1 with(fail)
 generalize hw1:w.alloc (.cells #[.int .i64 (a:Int),.int .i64 (b:Int)] 99)=w1 at h1 hz hb0 ⊢;obtain⟨wb,hwb⟩:∃ wb,w.heap.size=wb:=⟨_,rfl⟩;rw[hwb] at hz hno ⊢;have HNO:=hid hno;have z0:=hz.cell 0;have z1:=hz.cell 1;simp at z0 z1;have c0:=h1.c0;have hrl:=(h1.lt .rel _ rfl).2;have hzl:=hz.lt;obtain⟨gb,go_,VA,vc,PA,pc,hA,k0,k1,k2,k3,k4,hls,hvc,hpc,hi1,hi2⟩:=h1.gnode hb;rw[hA] at c0;have hgl:=block_lt_of_cell k0;have HF:=hid hf;have HP:=hid hp;have H1:=hid h1;have HZ:=hid hz;have HB0:=hid hb0;have HLS:=hid hls;have HAL:=hid ha;have HBL:=hid hb;have HLEN:=hid hlen;have HW1:=hid hw1;obtain⟨xn,hxn⟩:∃ k,x.n=k:=⟨_,rfl⟩;have HXN:=hid hxn;have hna:=hb;rw[hxn] at c0 hlen hna;clear h h1 hz hb0 hno hls hf hp hwb hw1 hA
 go_upto_region 1 with(fail)
 go_region
 have hn1:=H1.out.new;have h2:=H1.out.alloc (.cells #[.int .i64 (nd x.g b).kind,.int .i64 (nd x.g b).num,.string (nd x.g b).nm,.slice VA (nd x.g b).keys.length vc,.slice PA (nd x.g b).l.length pc] 54);have hs2:=HB0.out.trans (Stp.of_below y (one_boxS w1 (.cells #[.int .i64 (nd x.g b).kind,.int .i64 (nd x.g b).num,.string (nd x.g b).nm,.slice VA (nd x.g b).keys.length vc,.slice PA (nd x.g b).l.length pc] 54)));have hbx:=Blk.new w1 54 #[.int .i64 (nd x.g b).kind,.int .i64 (nd x.g b).num,.string (nd x.g b).nm,.slice VA (nd x.g b).keys.length vc,.slice PA (nd x.g b).l.length pc];have hl2:=HLS.out.mono ((one_boxS w1 (.cells #[.int .i64 (nd x.g b).kind,.int .i64 (nd x.g b).num,.string (nd x.g b).nm,.slice VA (nd x.g b).keys.length vc,.slice PA (nd x.g b).l.length pc] 54)).mono H1.out.size);have hz2:=HZ.out.alloc (.cells #[.int .i64 (nd x.g b).kind,.int .i64 (nd x.g b).num,.string (nd x.g b).nm,.slice VA (nd x.g b).keys.length vc,.slice PA (nd x.g b).l.length pc] 54);obtain⟨q1,hq1⟩:∃ q1,w1.heap.size=q1:=⟨_,rfl⟩;rw[hq1] at hbx hn1 ⊢;have H2:=hid h2.drew;have HS2:=hid hs2.drew;have HBX:Hid (Blk (w1.alloc (.cells #[.int .i64 (nd x.g b).kind,.int .i64 (nd x.g b).num,.string (nd x.g b).nm,.slice VA (nd x.g b).keys.length vc,.slice PA (nd x.g b).l.length pc] 54)).drew q1 54 #[.int .i64 (nd x.g b).kind,.int .i64 (nd x.g b).num,.string (nd x.g b).nm,.slice VA (nd x.g b).keys.length vc,.slice PA (nd x.g b).l.length pc]):=hid hbx
 have HL2:Hid (Lists x (w1.alloc (.cells #[.int .i64 (nd x.g b).kind,.int .i64 (nd x.g b).num,.string (nd x.g b).nm,.slice VA (nd x.g b).keys.length vc,.slice PA (nd x.g b).l.length pc] 54)).drew b VA PA):=hid (hl2.mono (below_drew _ _));have HZ2:Hid (Blk (w1.alloc (.cells #[.int .i64 (nd x.g b).kind,.int .i64 (nd x.g b).num,.string (nd x.g b).nm,.slice VA (nd x.g b).keys.length vc,.slice PA (nd x.g b).l.length pc] 54)).drew wb 99 #[.int .i64 (a:Int),.int .i64 (b:Int)]):=hid hz2;have HN1:=hid hn1;clear h2 hs2 hbx hl2 hz2 hn1 hq1 z0 z1 c0 k0 k1 k2 k3 k4 hi1 hi2 hvc hrl hzl hgl;generalize (w1.alloc (.cells #[.int .i64 (nd x.g b).kind,.int .i64 (nd x.g b).num,.string (nd x.g b).nm,.slice VA (nd x.g b).keys.length vc,.slice PA (nd x.g b).l.length pc] 54)).drew=w2 at H2 HS2 HBX HL2 HZ2 ⊢;have z0:=HZ2.out.cell 0;have z1:=HZ2.out.cell 1;have b0:=HBX.out.cell 0;have b4:=HBX.out.cell 4;simp at z0 z1 b0 b4;by_cases h8:(nd x.g b).kind=8
 ·have t8:((nd x.g b).kind==8)=true:=by simp[h8]
  have H8:=hid h8;clear h8;have R0:=complete_any x y S _ w2 H2.out rfl;go_wp2_with fail
  refine R0.mono ?_;rintro e w4 ⟨rfl,hb4⟩;have H4:=hid (H2.out.same hb4);have HS4:=hid (HS2.out.trans (Stp.of_below y hb4));have HL4:=hid (HL2.out.mono (hb4.mono H2.out.size));have hz4:=HZ2.out.below hb4 HZ2.out.lt;have hx4:=HBX.out.below hb4 HBX.out.lt;have HZ4:=hid hz4;have HX4:=hid hx4;clear z0 z1 b0 b4 R0 hb4;have z0:=hz4.cell 0;have z1:=hz4.cell 1;have b0:=hx4.cell 0;have b4:=hx4.cell 4;simp at z0 z1 b0 b4;clear hz4 hx4;by_cases hpf:S.P.length=x.n*x.n
  ·have HPF:Hid (full x.g S.P):=hid hpf;have tpf:decide (S.P.length=x.n*x.n)=true:=decide_eq_true hpf;rw[tpf];clear tpf hpf;go_wp2_with fail
   go_returns
   exact⟨_,act4_full H8.out HPF.out,rfl,y,S,rfl,H4.out,HS4.out,HP.out,rfl,rfl⟩
  ·have HPF:Hid (¬ full x.g S.P):=hid hpf;have tpf:decide (S.P.length=x.n*x.n)=false:=decide_eq_false hpf;rw[tpf];clear tpf hpf;have hll:(nd x.g b).l.length≤70000:=by have:=HF.out.uni b HBL.out H8.out;have h1:=nodup_sub_len this.1 (m:=List.range x.g.length) (fun c hc=>List.mem_range.2 (HF.out.kid b HBL.out c hc));rw[kids_len,List.length_range] at h1;have h2:x.g.length=x.n:=rfl;have:=HLEN.out;omega
   have C1:=containsG_any PA pc (nd x.g b).l (a:Int) w4 hll (HL4.out w4 (Below.refl _ _)).2;rw[has_kid HF.out HBL.out] at C1;clear hll;go_wp2_with fail
   refine C1.mono ?_;rintro e w4' ⟨rfl,rfl⟩;clear C1;by_cases hin:a∈kids (nd x.g b)
   ·rw[decide_eq_true hin];have HIN:=hid hin;clear hin;have R1:=reach_at x y S a a _ w4' H4.out rfl HF.out HP.out HAL.out HAL.out;go_wp2_with fail
    refine R1.mono ?_;rintro e w5 ⟨rfl,y5,S5,e5,h5,hs5,hp5,hP5,ha5⟩;have E5:=hid e5;have H5:=hid h5;have HS5:=hid (HS4.out.trans hs5);have HP5:=hid hp5;have HPP5:=hid hP5;have HA5:=hid ha5;clear e5 h5 hs5 hp5 hP5 ha5 R1 z0 z1 b0 b4;go_wp2_with fail
    go_returns
    exact⟨_,act4_in H8.out HPF.out HIN.out,rfl,y5,S5,E5.out,H5.out,HS5.out,HP5.out,HPP5.out,HA5.out⟩
   ·rw[decide_eq_false hin];have HIN:=hid hin;clear hin;obtain⟨m,hm⟩:∃ m,(nd x.g b).l.length=m:=⟨_,rfl⟩;have HM:=hid hm;have hml:=uni_len HF.out HBL.out H8.out;rw[hm] at b4 hpc hml;clear hm;go_wp2_with fail
    clear z0 z1 b0 b4
    go_loopw [36] (fun u36 wr=>∃ (j:Nat) (yj:Lay) (Sj:St),j≤m∧u36=.int .i64 (j:Int)∧Hid (yj.rel=y.rel)∧Hid (RelW x wr yj Sj)∧Hid (Stp w4' y wr yj)∧Hid (P1 x Sj)∧Hid (Sj.P=addL S.P (((kids (nd x.g b)).take j).map fun s=>(a,s)))∧Hid (Sj.q.asm=S.q.asm)) (fun u36 _=>m-(intOf u36).toNat)
    case atStart=>exact⟨0,y,S,Nat.zero_le _,rfl,hid rfl,H4,hid (Stp.refl _ _),HP,hid rfl,hid rfl⟩
    case round =>
     obtain⟨j,yj,Sj,hj,rfl,Hy,Hr,Hs,HPj,Hl,Ha⟩:=hrel;by_cases hlt:j<m
     ·obtain⟨c,hc⟩:∃ c,(kids (nd x.g b))[j]? = some c:=⟨_,List.getElem?_eq_getElem (by rw[kids_len,HM.out];exact hlt)⟩
      have hcn:c<x.n:=HF.out.kid b HBL.out c (List.mem_of_getElem? hc);obtain⟨pb,po,hPA,hk⟩:=HL4.out.kid HF.out HBL.out hc;subst hPA;have c1:=hk wr (Hs.out.below H4.out);have hbz:=(Hs.out.blk HZ4.out HNO.out).1;have z0:=hbz.cell 0;have z1:=hbz.cell 1;simp at z0 z1;have hji:(j:Int)<(m:Int):=by omega
      have HC:=hid hc;have R1:=reach_at x yj Sj a c _ wr Hr.out Hy.out HF.out HPj.out HAL.out hcn;clear hk hc hbz hcn;go_wp2_with fail
      refine R1.mono ?_;rintro e w5 ⟨rfl,y5,S5,e5,h5,hs5,hp5,hP5,ha5⟩;have E5:=hid (e5.trans Hy.out);have H5:=hid h5;have HS5:=hid (Hs.out.trans hs5);have HP5:=hid hp5;have HPP5:Hid (S5.P=addL S.P (((kids (nd x.g b)).take (j+1)).map fun s=>(a,s))):=hid (by rw[hP5,Hl.out,List.take_add_one,HC.out,List.map_append,addL_app];rfl)
      have HA5:=hid (ha5.trans Ha.out);clear e5 h5 hs5 hp5 hP5 ha5 R1 c1 z0 z1;go_wp2_with fail
      go_roundw
      case rel=>exact⟨j+1,y5,S5,by omega,by go_num,E5,H5,HS5,HP5,HPP5,HA5⟩
      case measure=>simp[intOf];omega
     ·have hjm:j=m:=by omega
      subst hjm;have hjl:¬((j:Int)<(j:Int)):=by omega
      have HPP:Hid (Sj.P=addL S.P ((kids (nd x.g b)).map fun s=>(a,s))):=hid (by rw[Hl.out,List.take_of_length_le (by rw[kids_len,HM.out];exact Nat.le_refl _)])
      go_wp2_with fail
      go_returns
      exact⟨_,act4_on H8.out HPF.out HIN.out,rfl,yj,Sj,Hy.out,Hr.out,HS4.out.trans Hs.out,HPj.out,HPP.out,Ha.out⟩
 ·have t8:((nd x.g b).kind==8)=false:=by simp[h8]
  have H8:=hid h8;clear h8;go_wp2_with fail
  go_returns
  exact⟨_,act4_off H8.out,rfl,y,S,rfl,H2.out,HS2.out,HP.out,rfl,rfl⟩
end SM
end
section
open Go.RowKit
namespace SM
section
variable {P : Program} {ops : Array Oper} {Q : Exit → Go.Act → World → Prop} {md : Region.Mode}
theorem ready_at {listed:Array Bool}{i:Nat}(h:i∈Region.ready md ops listed):i<ops.size∧listed.getD i true=false∧∀ o:Oper,ops[i]? = some o→∀ e∈o.after.toList,Region.binds md e=true→listed.getD e.on false=true:=by
 unfold Region.ready at h;rw[List.mem_filter,List.mem_range,Bool.and_eq_true] at h;refine⟨h.1,by simpa using h.2.1,fun o ho e he hb=>?_⟩
 have h2:=h.2.2;rw[ho] at h2;have h3:o.after.all (fun e => !Region.binds md e || listed.getD e.on false)=true:=h2
 rw[Array.all_eq_true_iff_forall_mem] at h3;have:=h3 e (Array.mem_toList_iff.1 he);rw[hb] at this
 simpa using this
theorem ready_nil {listed:Array Bool}(hsz:listed.size=ops.size)(hlow:∀(i:Nat) (o:Oper),ops[i]? = some o→∀ e∈o.after.toList,Region.binds md e=true→e.on<i)(h:Region.ready md ops listed=[]):∀ i,i<ops.size→listed.getD i false=true:=by
 intro i;induction i using Nat.strongRecOn with
 | _ i ih =>
  intro hi;refine Classical.byContradiction fun hn=>?_
  have hf:listed.getD i false=false:=by simpa using hn
  have:i∈Region.ready md ops listed:=by
   unfold Region.ready;rw[List.mem_filter,List.mem_range,Bool.and_eq_true];refine⟨hi,?_,?_⟩
   ·have e:listed.getD i true=listed.getD i false:=by
     simp[Array.getD,show i<listed.size by omega]
    rw[e,hf];rfl
   ·rw[Array.getElem?_eq_getElem hi]
    show(ops[i].after.all fun e => !Region.binds md e || listed.getD e.on false)=true
    rw[Array.all_eq_true_iff_forall_mem];intro e he;cases hb:Region.binds md e
    ·rfl
    ·have hlt:=hlow i ops[i] (Array.getElem?_eq_getElem hi) e (Array.mem_toList_iff.2 he) hb;rw[ih e.on hlt (by omega)]
     rfl
  rw[h] at this;cases this
def lowB (md:Region.Mode)(ops:Array Oper):Bool:=(List.range ops.size).all fun i=>((ops[i]?).map fun o=>o.after.toList.all fun e => !Region.binds md e || decide (e.on<i)).getD true
theorem low_of (h:lowB md ops=true):∀(i:Nat) (o:Oper),ops[i]? = some o→∀ e∈o.after.toList,Region.binds md e=true→e.on<i:=fun i o ho e he hb=>by
 unfold lowB at h;rw[List.all_eq_true] at h;have:=h i (List.mem_range.2 (Array.getElem?_eq_some_iff.1 ho).1);rw[ho] at this;have h2:(o.after.toList.all fun e => !Region.binds md e || decide (e.on<i))=true:=this
 rw[List.all_eq_true] at h2;have h3:=h2 e he;rw[hb] at h3
 simpa using h3
theorem countP_set:∀(l:List Bool) (i:Nat),l[i]? = some false→(l.set i true).countP (fun b => !b)+1=l.countP (fun b => !b)
 | [],i,h=>by simp at h
 | b::l,0,h=>by
  simp at h;subst h;simp
 | b::l,i+1,h=>by
  simp at h;have:=countP_set l i (by simpa using h)
  rw[List.set_cons_succ,List.countP_cons,List.countP_cons];omega
theorem wpAny_inv (Inv:(Nat→Bool)→Go.Act→World→Prop)(hlow:∀(i:Nat) (o:Oper),ops[i]? = some o→∀ e∈o.after.toList,Region.binds md e=true→e.on<i)
  (hstep:∀(L:Nat→Bool) (a:Go.Act) (w:World) (i:Nat),i<ops.size→L i=false→(∀ o:Oper,ops[i]? = some o→∀ e∈o.after.toList,Region.binds md e=true→L e.on=true)→Inv L a w →
   wpOp P ops Q i (Inv fun j=>if j=i then true else L j) a w)
  (hdone:∀(L:Nat→Bool) (a:Go.Act) (w:World),(∀ i,i<ops.size→L i=true)→Inv L a w→Q .normal a w) :
  ∀(fuel:Nat) (listed:Array Bool) (a:Go.Act) (w:World),listed.size=ops.size→listed.toList.countP (fun b => !b)≤fuel→Inv (fun j=>listed.getD j false) a w→wpAny P md ops Q fuel listed a w
 | 0,listed,a,w,hsz,hc,hI=>by
  have hall:∀ i,i<ops.size→listed.getD i false=true:=fun i hi=>by
   refine Classical.byContradiction fun hn=>?_
   have hil:i<listed.toList.length:=by rw[Array.length_toList];omega
   have:0<listed.toList.countP (fun b => !b):=List.countP_pos_iff.2 ⟨listed.toList[i],List.getElem_mem _,by
    have:listed.getD i false=listed.toList[i]:=by simp[Array.getD,show i<listed.size by omega]
    rw[← this];simpa using hn⟩
   omega
  refine⟨?_,hdone _ a w hall hI⟩;cases hr:Region.ready md ops listed with
  | nil=>rfl
  | cons i r =>
   obtain⟨h1,h2,_⟩:=ready_at (md:=md) (ops:=ops) (listed:=listed) (i:=i) (by rw[hr];exact List.mem_cons_self ..)
   have:=hall i h1;simp[Array.getD,show i<listed.size by omega] at this h2
   rw[h2] at this;cases this
 | fuel+1,listed,a,w,hsz,hc,hI=>by
  refine⟨fun hr=>hdone _ a w (ready_nil hsz hlow hr) hI,fun i hi=>?_⟩
  obtain⟨h1,h2,h3⟩:=ready_at hi;have hil:i<listed.size:=by omega
  have hg:listed.toList[i]? = some false:=by
   simp[Array.getD,hil] at h2;rw[List.getElem?_eq_getElem (by rw[Array.length_toList];exact hil)]
   simpa using h2
  refine wpOp_mono (fun a' w' h'=>?_) (hstep (fun j=>listed.getD j false) a w i h1 (by simp[Array.getD,hil] at h2 ⊢;exact h2) h3 hI)
  refine wpAny_inv Inv hlow hstep hdone fuel _ a' w' (by rw[Array.size_setIfInBounds];exact hsz) ?_ ?_
  ·rw[Array.toList_setIfInBounds];have:=countP_set _ _ hg;omega
  ·have e:(fun j=>(listed.setIfInBounds i true).getD j false)=fun j=>if j=i then true else listed.getD j false:=by
    funext j
    simp only[Array.getD_eq_getD_getElem?,Array.getElem?_setIfInBounds];by_cases e:i=j
    ·subst e;simp[hil]
    ·rw[if_neg e,if_neg (fun h=>e h.symm)]
   rw[e];exact h'
end
end SM
end
end Go.Proofs.YtfigdflcoaepaaaGreatDoor
