/- Contracts and plain facts that the theorem rests on: STwo, SRule5, SFlds, SRule2, SUnl. -/
import Derived.Test.YtfigdflcoaepaaaGreatDoorZV11
set_option linter.unusedSimpArgs false
set_option linter.unusedVariables false
namespace Go.Proofs.YtfigdflcoaepaaaGreatDoor
section
open Go.RowKit
namespace SM
open CM (nd kids)
def ndC (z:Gi)(VA:Option Addr)(vc:Nat)(PA:Option Addr)(pc:Nat):Array Value := #[.int .i64 z.kind,.int .i64 z.num,.string z.nm,.slice VA z.keys.length vc,.slice PA z.l.length pc]
def zeroC:Array Value := #[.int .i64 0,.int .i64 0,.string ⟨#[]⟩,.slice none 0 0,.slice none 0 0]
structure Two (w0:World)(n0 s rel wb gb go_ xn cc a b:Nat)(za zb:Gi)(VA:Option Addr)(vc:Nat)(PA:Option Addr)(pc:Nat)(VB:Option Addr)(vd:Nat)(PB:Option Addr)(pd:Nat)(L:Nat→Bool)(vs:Nat→Value)(qa qb:Nat)(w:World):Prop where
 bel:Below n0 w0 w
 v0:vs 0=.pointer (some ⟨rel,0,none⟩)
 v3:vs 3=.pointer (some ⟨wb,0,none⟩)
 v4:vs 4=.bool false
 o0:L 0=true→vs s=.pointer (some ⟨rel,0,none⟩)
 o1:L 1=true→vs (s+1)=.pointer (some ⟨rel,0,none⟩)
 o2:L 2=true→vs (s+2)=.pointer (some ⟨rel,0,none⟩)
 o3:L 3=true→vs (s+3)=.slice (some ⟨gb,go_,none⟩) xn cc
 o4:L 4=true→vs (s+4)=.pointer (some ⟨wb,0,none⟩)
 o5:L 5=true→vs (s+5)=.int .i64 (a:Int)
 o6:L 6=true→vs (s+6)=.pointer (some ⟨gb,go_+a*5,none⟩)
 o7:L 7=true→vs (s+7)=.agg (ndC za VA vc PA pc)
 o8:L 8=true→vs (s+8)=.pointer (some ⟨rel,0,none⟩)
 o9:L 9=true→vs (s+9)=.pointer (some ⟨rel,0,none⟩)
 o10:L 10=true→vs (s+10)=.pointer (some ⟨rel,0,none⟩)
 o11:L 11=true→vs (s+11)=.slice (some ⟨gb,go_,none⟩) xn cc
 o12:L 12=true→vs (s+12)=.pointer (some ⟨wb,1,none⟩)
 o13:L 13=true→vs (s+13)=.int .i64 (b:Int)
 o14:L 14=true→vs (s+14)=.pointer (some ⟨gb,go_+b*5,none⟩)
 o15:L 15=true→vs (s+15)=.agg (ndC zb VB vd PB pd)
 o16:L 16=true→vs 5=.pointer (some ⟨qa,0,none⟩)∧n0≤qa∧qa<w.heap.size∧Blk w qa 54 (if L 18=true then ndC za VA vc PA pc else zeroC)
 o17:L 17=true→vs 6=.pointer (some ⟨qb,0,none⟩)∧n0≤qb∧qb<w.heap.size∧Blk w qb 54 (if L 19=true then ndC zb VB vd PB pd else zeroC)
 o18:L 18=true→L 16=true
 o19:L 19=true→L 17=true
 ne:L 16=true→L 17=true→qa≠qb
theorem vals_getD {vs:Nat→Value}{n k:Nat}(h:k<n):(vals vs n).getD k undef=vs k:=by
 rw[Array.getD_eq_getD_getElem?,vals_get h];rfl
theorem Two.slot {w0:World}{n0 s rel wb gb go_ xn cc a b:Nat}{za zb:Gi}{VA:Option Addr}{vc:Nat}{PA:Option Addr}{pc:Nat}{VB:Option Addr}{vd:Nat}{PB:Option Addr}{pd:Nat}{L:Nat→Bool}{vs:Nat→Value}{qa qb:Nat}{w:World}
  (h:Two w0 n0 s rel wb gb go_ xn cc a b za zb VA vc PA pc VB vd PB pd L vs qa qb w)(hs:7≤s){i d:Nat}{v:Value}(hi:i<16)(hd:d=s+i)
  (hv:(i=0→v=.pointer (some ⟨rel,0,none⟩))∧(i=1→v=.pointer (some ⟨rel,0,none⟩))∧(i=2→v=.pointer (some ⟨rel,0,none⟩))∧(i=3→v=.slice (some ⟨gb,go_,none⟩) xn cc)∧(i=4→v=.pointer (some ⟨wb,0,none⟩))∧(i=5→v=.int .i64 (a:Int))∧(i=6→v=.pointer (some ⟨gb,go_+a*5,none⟩))∧(i=7→v=.agg (ndC za VA vc PA pc)) ∧
   (i=8→v=.pointer (some ⟨rel,0,none⟩))∧(i=9→v=.pointer (some ⟨rel,0,none⟩))∧(i=10→v=.pointer (some ⟨rel,0,none⟩))∧(i=11→v=.slice (some ⟨gb,go_,none⟩) xn cc)∧(i=12→v=.pointer (some ⟨wb,1,none⟩))∧(i=13→v=.int .i64 (b:Int))∧(i=14→v=.pointer (some ⟨gb,go_+b*5,none⟩))∧(i=15→v=.agg (ndC zb VB vd PB pd))) :
  Two w0 n0 s rel wb gb go_ xn cc a b za zb VA vc PA pc VB vd PB pd (fun j=>if j=i then true else L j) (fun j=>if j=d then v else vs j) qa qb w:=by
 subst hd;have key:∀(k:Nat) (u:Value),(L k=true→vs (s+k)=u)→(i=k→v=u)→((if k=i then true else L k)=true→(if s+k=s+i then v else vs (s+k))=u):=fun k u h1 h2 hL=>by
  by_cases e:k=i
  ·rw[if_pos (by omega)];exact h2 e.symm
  ·rw[if_neg e] at hL;rw[if_neg (by omega)];exact h1 hL
 obtain⟨u0,u1,u2,u3,u4,u5,u6,u7,u8,u9,u10,u11,u12,u13,u14,u15⟩:=hv;have off:∀ k,16≤k→(if k=i then true else L k)=L k:=fun k hk=>by rw[if_neg (by omega)]
 refine⟨h.bel,by rw[if_neg (by omega)];exact h.v0,by rw[if_neg (by omega)];exact h.v3,by rw[if_neg (by omega)];exact h.v4,key 0 _ h.o0 u0,key 1 _ h.o1 u1,key 2 _ h.o2 u2,key 3 _ h.o3 u3,key 4 _ h.o4 u4,key 5 _ h.o5 u5,key 6 _ h.o6 u6,key 7 _ h.o7 u7,key 8 _ h.o8 u8,key 9 _ h.o9 u9,key 10 _ h.o10 u10,key 11 _ h.o11 u11,key 12 _ h.o12 u12,key 13 _ h.o13 u13,key 14 _ h.o14 u14,key 15 _ h.o15 u15,?_,?_,?_,?_,?_⟩
 ·rw[off 16 (by omega),off 18 (by omega),if_neg (by omega)];exact h.o16
 ·rw[off 17 (by omega),off 19 (by omega),if_neg (by omega)];exact h.o17
 ·rw[off 16 (by omega),off 18 (by omega)];exact h.o18
 ·rw[off 17 (by omega),off 19 (by omega)];exact h.o19
 ·rw[off 16 (by omega),off 17 (by omega)];exact h.ne
section
variable {w0 : World} {n0 s rel wb gb go_ xn cc a b : Nat} {za zb : Gi} {VA : Option Addr} {vc : Nat} {PA : Option Addr} {pc : Nat} {VB : Option Addr} {vd : Nat} {PB : Option Addr} {pd : Nat} {L : Nat → Bool} {vs : Nat → Value} {qa qb : Nat} {w : World}
theorem Two.boxA (h:Two w0 n0 s rel wb gb go_ xn cc a b za zb VA vc PA pc VB vd PB pd L vs qa qb w)(hs:7≤s)(hn:n0≤w.heap.size)(hL:L 16=false) :
  Two w0 n0 s rel wb gb go_ xn cc a b za zb VA vc PA pc VB vd PB pd (fun j=>if j=16 then true else L j) (fun j=>if j=5 then .pointer (some ⟨w.heap.size,0,none⟩) else vs j) w.heap.size qb (w.alloc (.cells zeroC 54)):=by
 have h18:L 18=false:=by
  cases e:L 18
  ·rfl
  ·have:=h.o18 e;rw[hL] at this;cases this
 have key:∀(k:Nat),(if s+k=5 then(.pointer (some ⟨w.heap.size,0,none⟩):Value) else vs (s+k))=vs (s+k):=fun k=>by rw[if_neg (by omega)]
 have key0:(if s=5 then(.pointer (some ⟨w.heap.size,0,none⟩):Value) else vs s)=vs s:=key 0
 have offL:∀ k,k≠16→(if k=16 then true else L k)=L k:=fun k hk=>by rw[if_neg hk]
 refine⟨h.bel.alloc hn _,h.v0,h.v3,h.v4,by rw[offL 0 (by omega),key0];exact h.o0,?_,?_,?_,?_,?_,?_,?_,?_,?_,?_,?_,?_,?_,?_,?_,fun _=>?_,?_,?_,?_,fun _ h17=>?_⟩
 ·rw[offL 1 (by omega),key];exact h.o1
 ·rw[offL 2 (by omega),key];exact h.o2
 ·rw[offL 3 (by omega),key];exact h.o3
 ·rw[offL 4 (by omega),key];exact h.o4
 ·rw[offL 5 (by omega),key];exact h.o5
 ·rw[offL 6 (by omega),key];exact h.o6
 ·rw[offL 7 (by omega),key];exact h.o7
 ·rw[offL 8 (by omega),key];exact h.o8
 ·rw[offL 9 (by omega),key];exact h.o9
 ·rw[offL 10 (by omega),key];exact h.o10
 ·rw[offL 11 (by omega),key];exact h.o11
 ·rw[offL 12 (by omega),key];exact h.o12
 ·rw[offL 13 (by omega),key];exact h.o13
 ·rw[offL 14 (by omega),key];exact h.o14
 ·rw[offL 15 (by omega),key];exact h.o15
 ·refine⟨rfl,hn,by show _<(w.heap.push _).size;rw[Array.size_push];omega,?_⟩
  rw[offL 18 (by omega),h18,if_neg (by simp)]
  exact Blk.new w _ _
 ·rw[offL 17 (by omega),offL 19 (by omega)]
  intro e;obtain⟨e1,e2,e3,e4⟩:=h.o17 e;exact⟨e1,e2,by show _<(w.heap.push _).size;rw[Array.size_push];omega,e4.alloc _⟩
 ·rw[offL 18 (by omega),h18];intro e;cases e
 ·rw[offL 19 (by omega),offL 17 (by omega)];exact h.o19
 ·rw[offL 17 (by omega)] at h17
  have:=(h.o17 h17).2.2.1;omega
theorem Two.boxB (h:Two w0 n0 s rel wb gb go_ xn cc a b za zb VA vc PA pc VB vd PB pd L vs qa qb w)(hs:7≤s)(hn:n0≤w.heap.size)(hL:L 17=false) :
  Two w0 n0 s rel wb gb go_ xn cc a b za zb VA vc PA pc VB vd PB pd (fun j=>if j=17 then true else L j) (fun j=>if j=6 then .pointer (some ⟨w.heap.size,0,none⟩) else vs j) qa w.heap.size (w.alloc (.cells zeroC 54)):=by
 have h19:L 19=false:=by
  cases e:L 19
  ·rfl
  ·have:=h.o19 e;rw[hL] at this;cases this
 have key:∀(k:Nat),(if s+k=6 then(.pointer (some ⟨w.heap.size,0,none⟩):Value) else vs (s+k))=vs (s+k):=fun k=>by rw[if_neg (by omega)]
 have key0:(if s=6 then(.pointer (some ⟨w.heap.size,0,none⟩):Value) else vs s)=vs s:=key 0
 have offL:∀ k,k≠17→(if k=17 then true else L k)=L k:=fun k hk=>by rw[if_neg hk]
 refine⟨h.bel.alloc hn _,h.v0,h.v3,h.v4,by rw[offL 0 (by omega),key0];exact h.o0,?_,?_,?_,?_,?_,?_,?_,?_,?_,?_,?_,?_,?_,?_,?_,?_,fun _=>?_,?_,?_,fun h16 _=>?_⟩
 ·rw[offL 1 (by omega),key];exact h.o1
 ·rw[offL 2 (by omega),key];exact h.o2
 ·rw[offL 3 (by omega),key];exact h.o3
 ·rw[offL 4 (by omega),key];exact h.o4
 ·rw[offL 5 (by omega),key];exact h.o5
 ·rw[offL 6 (by omega),key];exact h.o6
 ·rw[offL 7 (by omega),key];exact h.o7
 ·rw[offL 8 (by omega),key];exact h.o8
 ·rw[offL 9 (by omega),key];exact h.o9
 ·rw[offL 10 (by omega),key];exact h.o10
 ·rw[offL 11 (by omega),key];exact h.o11
 ·rw[offL 12 (by omega),key];exact h.o12
 ·rw[offL 13 (by omega),key];exact h.o13
 ·rw[offL 14 (by omega),key];exact h.o14
 ·rw[offL 15 (by omega),key];exact h.o15
 ·rw[offL 16 (by omega),offL 18 (by omega)]
  intro e;obtain⟨e1,e2,e3,e4⟩:=h.o16 e;exact⟨e1,e2,by show _<(w.heap.push _).size;rw[Array.size_push];omega,e4.alloc _⟩
 ·refine⟨rfl,hn,by show _<(w.heap.push _).size;rw[Array.size_push];omega,?_⟩
  rw[offL 19 (by omega),h19,if_neg (by simp)]
  exact Blk.new w _ _
 ·rw[offL 18 (by omega),offL 16 (by omega)];exact h.o18
 ·rw[offL 19 (by omega),h19];intro e;cases e
 ·rw[offL 16 (by omega)] at h16
  have:=(h.o16 h16).2.2.1;omega
structure Into (w:World)(q:Nat)(t:TypeId)(cs:Array Value)(w':World):Prop where
 kept:Kept (· = q) w w'
 blk:Blk w' q t cs
theorem into5 {w : World} {q : Nat} {t : TypeId} {c0 c1 c2 c3 c4 : Value} (v0 v1 v2 v3 v4 : Value) (h : Blk w q t #[c0, c1, c2, c3, c4]) :
    Into w q t #[v0, v1, v2, v3, v4] (((((w.setCell ⟨q, 0, none⟩ v0).setCell ⟨q, 1, none⟩ v1).setCell ⟨q, 2, none⟩ v2).setCell ⟨q, 3, none⟩ v3).setCell ⟨q, 4, none⟩ v4) :=
  ⟨(((((Kept.refl (· = q) w).setCell (p := ⟨q, 0, none⟩) (fun _ => rfl) _).setCell (p := ⟨q, 1, none⟩) (fun _ => rfl) _).setCell (p := ⟨q, 2, none⟩) (fun _ => rfl) _).setCell (p := ⟨q, 3, none⟩) (fun _ => rfl) _).setCell (p := ⟨q, 4, none⟩) (fun _ => rfl) _,
   ((((h.set_ 0 v0).set_ 1 v1).set_ 2 v2).set_ 3 v3).set_ 4 v4⟩
theorem Two.putA (h:Two w0 n0 s rel wb gb go_ xn cc a b za zb VA vc PA pc VB vd PB pd L vs qa qb w)(hn:n0≤w.heap.size)(h16:L 16=true){w':World}(hi:Into w qa 54 (ndC za VA vc PA pc) w') :
  Two w0 n0 s rel wb gb go_ xn cc a b za zb VA vc PA pc VB vd PB pd (fun j=>if j=18 then true else L j) vs qa qb w':=by
 have offL:∀ k,k≠18→(if k=18 then true else L k)=L k:=fun k hk=>by rw[if_neg hk]
 obtain⟨e1,e2,e3,e4⟩:=h.o16 h16;refine⟨h.bel.trans (hi.kept.below hn fun i hlt e=>by have:i=qa:=e;omega),h.v0,h.v3,h.v4,?_,?_,?_,?_,?_,?_,?_,?_,?_,?_,?_,?_,?_,?_,?_,?_,?_,?_,?_,?_,?_⟩
 ·rw[offL 0 (by omega)];exact h.o0
 ·rw[offL 1 (by omega)];exact h.o1
 ·rw[offL 2 (by omega)];exact h.o2
 ·rw[offL 3 (by omega)];exact h.o3
 ·rw[offL 4 (by omega)];exact h.o4
 ·rw[offL 5 (by omega)];exact h.o5
 ·rw[offL 6 (by omega)];exact h.o6
 ·rw[offL 7 (by omega)];exact h.o7
 ·rw[offL 8 (by omega)];exact h.o8
 ·rw[offL 9 (by omega)];exact h.o9
 ·rw[offL 10 (by omega)];exact h.o10
 ·rw[offL 11 (by omega)];exact h.o11
 ·rw[offL 12 (by omega)];exact h.o12
 ·rw[offL 13 (by omega)];exact h.o13
 ·rw[offL 14 (by omega)];exact h.o14
 ·rw[offL 15 (by omega)];exact h.o15
 ·intro _;exact⟨e1,e2,Nat.lt_of_lt_of_le e3 hi.kept.size,hi.blk⟩
 ·rw[offL 17 (by omega),offL 19 (by omega)]
  intro e;obtain⟨f1,f2,f3,f4⟩:=h.o17 e;exact⟨f1,f2,Nat.lt_of_lt_of_le f3 hi.kept.size,hi.kept.blk f4 (fun e'=>h.ne h16 e e'.symm)⟩
 ·intro _;rw[offL 16 (by omega)];exact h16
 ·rw[offL 19 (by omega),offL 17 (by omega)];exact h.o19
 ·rw[offL 16 (by omega),offL 17 (by omega)];exact h.ne
theorem Two.putB (h:Two w0 n0 s rel wb gb go_ xn cc a b za zb VA vc PA pc VB vd PB pd L vs qa qb w)(hn:n0≤w.heap.size)(h17:L 17=true){w':World}(hi:Into w qb 54 (ndC zb VB vd PB pd) w') :
  Two w0 n0 s rel wb gb go_ xn cc a b za zb VA vc PA pc VB vd PB pd (fun j=>if j=19 then true else L j) vs qa qb w':=by
 have offL:∀ k,k≠19→(if k=19 then true else L k)=L k:=fun k hk=>by rw[if_neg hk]
 obtain⟨e1,e2,e3,e4⟩:=h.o17 h17;refine⟨h.bel.trans (hi.kept.below hn fun i hlt e=>by have:i=qb:=e;omega),h.v0,h.v3,h.v4,?_,?_,?_,?_,?_,?_,?_,?_,?_,?_,?_,?_,?_,?_,?_,?_,?_,?_,?_,?_,?_⟩
 ·rw[offL 0 (by omega)];exact h.o0
 ·rw[offL 1 (by omega)];exact h.o1
 ·rw[offL 2 (by omega)];exact h.o2
 ·rw[offL 3 (by omega)];exact h.o3
 ·rw[offL 4 (by omega)];exact h.o4
 ·rw[offL 5 (by omega)];exact h.o5
 ·rw[offL 6 (by omega)];exact h.o6
 ·rw[offL 7 (by omega)];exact h.o7
 ·rw[offL 8 (by omega)];exact h.o8
 ·rw[offL 9 (by omega)];exact h.o9
 ·rw[offL 10 (by omega)];exact h.o10
 ·rw[offL 11 (by omega)];exact h.o11
 ·rw[offL 12 (by omega)];exact h.o12
 ·rw[offL 13 (by omega)];exact h.o13
 ·rw[offL 14 (by omega)];exact h.o14
 ·rw[offL 15 (by omega)];exact h.o15
 ·rw[offL 16 (by omega),offL 18 (by omega)]
  intro e;obtain⟨f1,f2,f3,f4⟩:=h.o16 e;exact⟨f1,f2,Nat.lt_of_lt_of_le f3 hi.kept.size,hi.kept.blk f4 (fun e'=>h.ne e h17 e')⟩
 ·intro _;exact⟨e1,e2,Nat.lt_of_lt_of_le e3 hi.kept.size,hi.blk⟩
 ·rw[offL 18 (by omega),offL 16 (by omega)];exact h.o18
 ·intro _;rw[offL 17 (by omega)];exact h17
 ·rw[offL 16 (by omega),offL 17 (by omega)];exact h.ne
end
end SM
end
section
open Lib (hid)
open Go.RowKit
namespace SM
open CM (nd kids)
theorem act7_on {g:List Gi}{st:Bool}{P:List Pr}{a b:Nat}(h:(nd g a).kind=9∧(nd g b).kind=9∧(nd g a).num=(nd g b).num):ActOf g st P a b 7 ⟨true,true,[(bnd g a,bnd g b)]⟩:=by show _=_;rw[if_pos h,decide_eq_true h]
theorem act7_off {g:List Gi}{st:Bool}{P:List Pr}{a b:Nat}(h:¬((nd g a).kind=9∧(nd g b).kind=9∧(nd g a).num=(nd g b).num)):ActOf g st P a b 7 ⟨false,false,[]⟩:=by show _=_;rw[if_neg h,decide_eq_false h]
set_option maxRecDepth 100000 in
set_option maxHeartbeats 16000000 in
theorem variable_any (x:Cx)(y:Lay)(S:St)(a b rel:Nat)(w:World)(h:RelW x w y S)(hrel:y.rel=rel)(hf:Fine x.g)(hp:P1 x S)(ha:a<x.n)(hb:b<x.n) :
  Calls Tryz.prog 134 #[.pointer (some ⟨rel,0,none⟩),.agg #[.int .i64 (a:Int),.int .i64 (b:Int)]] w (RuleOut x y S a b 7 w):=by
 subst hrel;have h1:=h.alloc (.cells #[.int .i64 (a:Int),.int .i64 (b:Int)] 99);have hz:=Blk.new w 99 #[.int .i64 (a:Int),.int .i64 (b:Int)];have hb0:=Stp.of_below y (one_boxS w (.cells #[.int .i64 (a:Int),.int .i64 (b:Int)] 99));have hno:=h.new;have hlen:=h.len;go_enter Tryz.func134,Tryz.ntmps134
 go_upto_region 1 with(fail)
 generalize hw1:w.alloc (.cells #[.int .i64 (a:Int),.int .i64 (b:Int)] 99)=w1 at h1 hz hb0 ⊢;obtain⟨wb,hwb⟩:∃ wb,w.heap.size=wb:=⟨_,rfl⟩;have HWB:=hid hwb;rw[hwb] at hz hno ⊢;have HNO:=hid hno;have z0:=hz.cell 0;have z1:=hz.cell 1;simp at z0 z1;have c0:=h1.c0;have hrl:=(h1.lt .rel _ rfl).2;have hzl:=hz.lt;obtain⟨gb,go_,VA,vc,PA,pc,hA,k0,k1,k2,k3,k4,hlsa,-,-,-,-⟩:=h1.gnode ha;obtain⟨gb',go',VB,vd,PB,pd,hA',l0,l1,l2,l3,l4,hlsb,-,-,-,-⟩:=h1.gnode hb;rw[hA] at hA';injection hA' with hA'
 injection hA' with e1 e2
 subst e1 e2;rw[hA] at c0;have hgl:=block_lt_of_cell k0;have H1:=hid h1;have HB0:=hid hb0;have HZ:=hid hz;have HLA:=hid hlsa;have HLB:=hid hlsb;have HAB:=hid (And.intro ha hb);have HLEN:=hid hlen;have HF:=hid hf;have HP:=hid hp;obtain⟨xn,hxn⟩:∃ k,x.n=k:=⟨_,rfl⟩;rw[hxn] at c0 hlen ha hb;clear h h1 hz hb0 hw1 hA hno hlsa hlsb hwb hxn hf hp
 go_upto_region 1 with(fail)
 obtain⟨n0,hn0⟩:∃ n0,w1.heap.size=n0:=⟨_,rfl⟩;rw[hn0] at hrl hzl hgl;have HN0:=hid hn0;refine wp_region_any (by kernel_rfl) ?_
 change wpAny _ _ _ _ _ _ _ (World.drew _)
 refine wpAny_inv (fun L a' w'=>∃ (vs:Nat→Value) (qa qb:Nat),a'=⟨vals vs 55,[]⟩∧Two w1.drew n0 7 y.rel wb gb go_ xn x.c a b (nd x.g a) (nd x.g b) VA vc PA pc VB vd PB pd L vs qa qb w') (low_of (by kernel_rfl)) ?step ?done 20 _ _ _ (by rfl) (by decide) ?init
 case step =>
  intro L a' w' i hi hLi hdep hI;obtain⟨vs,qa,qb,rfl,T⟩:=hI;have hcs:i=0∨i=1∨i=2∨i=3∨i=4∨i=5∨i=6∨i=7∨i=8∨i=9∨i=10∨i=11∨i=12∨i=13∨i=14∨i=15∨i=16∨i=17∨i=18∨i=19:=by
   have:i<20:=hi;omega
  have hnw:n0≤w'.heap.size:=by have:=T.bel.size;have e:w1.drew.heap.size=w1.heap.size:=rfl;omega
  have q0:=(T.bel.cell (p:=⟨y.rel,0,none⟩) hrl).trans c0;have y0:=(T.bel.cell (p:=⟨wb,0,none⟩) hzl).trans z0;have y1:=(T.bel.cell (p:=⟨wb,1,none⟩) hzl).trans z1;have m0:=(T.bel.cell (p:=⟨gb,go_+a*5,none⟩) hgl).trans k0;have n0_:=(T.bel.cell (p:=⟨gb,go_+b*5,none⟩) hgl).trans l0;have m1:=(T.bel.cell (p:=⟨gb,go_+a*5+1,none⟩) hgl).trans k1;have n1_:=(T.bel.cell (p:=⟨gb,go_+b*5+1,none⟩) hgl).trans l1;have m2:=(T.bel.cell (p:=⟨gb,go_+a*5+2,none⟩) hgl).trans k2;have n2_:=(T.bel.cell (p:=⟨gb,go_+b*5+2,none⟩) hgl).trans l2;have m3:=(T.bel.cell (p:=⟨gb,go_+a*5+3,none⟩) hgl).trans k3;have n3_:=(T.bel.cell (p:=⟨gb,go_+b*5+3,none⟩) hgl).trans l3;have m4:=(T.bel.cell (p:=⟨gb,go_+a*5+4,none⟩) hgl).trans k4;have n4_:=(T.bel.cell (p:=⟨gb,go_+b*5+4,none⟩) hgl).trans l4;clear c0 z0 z1 k0 l0 k1 l1 k2 l2 k3 l3 k4 l4;rcases hcs with rfl | rfl | rfl | rfl | rfl | rfl | rfl | rfl | rfl | rfl | rfl | rfl | rfl | rfl | rfl | rfl | rfl | rfl | rfl | rfl
  ·have g0:=(vals_getD (vs:=vs) (n:=55) (k:=0) (by decide)).trans (T.v0)
   have HT:=hid T;clear hdep q0 y0 y1 m0 m1 m2 m3 m4 n0_ n1_ n2_ n3_ n4_ hi;clear hLi hnw T;refine wpOp_step rfl fun K' hK=>?_
   go_simp
   exact hK _ _ ⟨fun j=>if j=7 then(.pointer (some ⟨y.rel,0,none⟩)) else vs j,qa,qb,congrArg (fun z=>(⟨z,[]⟩:Go.Act)) (vals_set _ _ _ _),HT.out.slot (by decide) (i:=0) (by decide) rfl ⟨fun _=>rfl,fun e=>absurd e (by decide),fun e=>absurd e (by decide),fun e=>absurd e (by decide),fun e=>absurd e (by decide),fun e=>absurd e (by decide),fun e=>absurd e (by decide),fun e=>absurd e (by decide),fun e=>absurd e (by decide),fun e=>absurd e (by decide),fun e=>absurd e (by decide),fun e=>absurd e (by decide),fun e=>absurd e (by decide),fun e=>absurd e (by decide),fun e=>absurd e (by decide),fun e=>absurd e (by decide)⟩⟩
  ·have d0:=hdep _ rfl ⟨0,.data⟩ (by simp) (by rfl)
   have g0:=(vals_getD (vs:=vs) (n:=55) (k:=7) (by decide)).trans (T.o0 d0)
   have HT:=hid T;clear hdep q0 y0 y1 m0 m1 m2 m3 m4 n0_ n1_ n2_ n3_ n4_ hi;clear hLi hnw T;refine wpOp_step rfl fun K' hK=>?_
   go_simp
   exact hK _ _ ⟨fun j=>if j=8 then(.pointer (some ⟨y.rel,0,none⟩)) else vs j,qa,qb,congrArg (fun z=>(⟨z,[]⟩:Go.Act)) (vals_set _ _ _ _),HT.out.slot (by decide) (i:=1) (by decide) rfl ⟨fun e=>absurd e (by decide),fun _=>rfl,fun e=>absurd e (by decide),fun e=>absurd e (by decide),fun e=>absurd e (by decide),fun e=>absurd e (by decide),fun e=>absurd e (by decide),fun e=>absurd e (by decide),fun e=>absurd e (by decide),fun e=>absurd e (by decide),fun e=>absurd e (by decide),fun e=>absurd e (by decide),fun e=>absurd e (by decide),fun e=>absurd e (by decide),fun e=>absurd e (by decide),fun e=>absurd e (by decide)⟩⟩
  ·have d1:=hdep _ rfl ⟨1,.data⟩ (by simp) (by rfl)
   have g0:=(vals_getD (vs:=vs) (n:=55) (k:=8) (by decide)).trans (T.o1 d1)
   have HT:=hid T;clear hdep q0 y0 y1 m0 m1 m2 m3 m4 n0_ n1_ n2_ n3_ n4_ hi;clear hLi hnw T;refine wpOp_step rfl fun K' hK=>?_
   go_simp
   exact hK _ _ ⟨fun j=>if j=9 then(.pointer (some ⟨y.rel,0,none⟩)) else vs j,qa,qb,congrArg (fun z=>(⟨z,[]⟩:Go.Act)) (vals_set _ _ _ _),HT.out.slot (by decide) (i:=2) (by decide) rfl ⟨fun e=>absurd e (by decide),fun e=>absurd e (by decide),fun _=>rfl,fun e=>absurd e (by decide),fun e=>absurd e (by decide),fun e=>absurd e (by decide),fun e=>absurd e (by decide),fun e=>absurd e (by decide),fun e=>absurd e (by decide),fun e=>absurd e (by decide),fun e=>absurd e (by decide),fun e=>absurd e (by decide),fun e=>absurd e (by decide),fun e=>absurd e (by decide),fun e=>absurd e (by decide),fun e=>absurd e (by decide)⟩⟩
  ·have d2:=hdep _ rfl ⟨2,.data⟩ (by simp) (by rfl)
   have g0:=(vals_getD (vs:=vs) (n:=55) (k:=9) (by decide)).trans (T.o2 d2)
   have HT:=hid T;clear hdep y0 y1 m0 m1 m2 m3 m4 n0_ n1_ n2_ n3_ n4_ hi;clear hLi hnw T;refine wpOp_step rfl fun K' hK=>?_
   go_simp
   exact hK _ _ ⟨fun j=>if j=10 then(.slice (some ⟨gb,go_,none⟩) xn x.c) else vs j,qa,qb,congrArg (fun z=>(⟨z,[]⟩:Go.Act)) (vals_set _ _ _ _),HT.out.slot (by decide) (i:=3) (by decide) rfl ⟨fun e=>absurd e (by decide),fun e=>absurd e (by decide),fun e=>absurd e (by decide),fun _=>rfl,fun e=>absurd e (by decide),fun e=>absurd e (by decide),fun e=>absurd e (by decide),fun e=>absurd e (by decide),fun e=>absurd e (by decide),fun e=>absurd e (by decide),fun e=>absurd e (by decide),fun e=>absurd e (by decide),fun e=>absurd e (by decide),fun e=>absurd e (by decide),fun e=>absurd e (by decide),fun e=>absurd e (by decide)⟩⟩
  ·have g0:=(vals_getD (vs:=vs) (n:=55) (k:=3) (by decide)).trans (T.v3)
   have HT:=hid T;clear hdep q0 y0 y1 m0 m1 m2 m3 m4 n0_ n1_ n2_ n3_ n4_ hi;clear hLi hnw T;refine wpOp_step rfl fun K' hK=>?_
   go_simp
   exact hK _ _ ⟨fun j=>if j=11 then(.pointer (some ⟨wb,0,none⟩)) else vs j,qa,qb,congrArg (fun z=>(⟨z,[]⟩:Go.Act)) (vals_set _ _ _ _),HT.out.slot (by decide) (i:=4) (by decide) rfl ⟨fun e=>absurd e (by decide),fun e=>absurd e (by decide),fun e=>absurd e (by decide),fun e=>absurd e (by decide),fun _=>rfl,fun e=>absurd e (by decide),fun e=>absurd e (by decide),fun e=>absurd e (by decide),fun e=>absurd e (by decide),fun e=>absurd e (by decide),fun e=>absurd e (by decide),fun e=>absurd e (by decide),fun e=>absurd e (by decide),fun e=>absurd e (by decide),fun e=>absurd e (by decide),fun e=>absurd e (by decide)⟩⟩
  ·have d4:=hdep _ rfl ⟨4,.data⟩ (by simp) (by rfl)
   have g0:=(vals_getD (vs:=vs) (n:=55) (k:=11) (by decide)).trans (T.o4 d4)
   have HT:=hid T;clear hdep q0 y1 m0 m1 m2 m3 m4 n0_ n1_ n2_ n3_ n4_ hi;clear hLi hnw T;refine wpOp_step rfl fun K' hK=>?_
   go_simp
   exact hK _ _ ⟨fun j=>if j=12 then(.int .i64 (a:Int)) else vs j,qa,qb,congrArg (fun z=>(⟨z,[]⟩:Go.Act)) (vals_set _ _ _ _),HT.out.slot (by decide) (i:=5) (by decide) rfl ⟨fun e=>absurd e (by decide),fun e=>absurd e (by decide),fun e=>absurd e (by decide),fun e=>absurd e (by decide),fun e=>absurd e (by decide),fun _=>rfl,fun e=>absurd e (by decide),fun e=>absurd e (by decide),fun e=>absurd e (by decide),fun e=>absurd e (by decide),fun e=>absurd e (by decide),fun e=>absurd e (by decide),fun e=>absurd e (by decide),fun e=>absurd e (by decide),fun e=>absurd e (by decide),fun e=>absurd e (by decide)⟩⟩
  ·have d3:=hdep _ rfl ⟨3,.data⟩ (by simp) (by rfl)
   have d5:=hdep _ rfl ⟨5,.data⟩ (by simp) (by rfl)
   have g0:=(vals_getD (vs:=vs) (n:=55) (k:=10) (by decide)).trans (T.o3 d3)
   have g1:=(vals_getD (vs:=vs) (n:=55) (k:=12) (by decide)).trans (T.o5 d5)
   have HT:=hid T;clear hdep q0 y0 y1 m0 m1 m2 m3 m4 n0_ n1_ n2_ n3_ n4_ hi;clear hLi hnw T;have hbA:(a:Int)<(xn:Int):=by omega
   refine wpOp_step rfl fun K' hK=>?_
   go_simp
   exact hK _ _ ⟨fun j=>if j=13 then(.pointer (some ⟨gb,go_+a*5,none⟩)) else vs j,qa,qb,congrArg (fun z=>(⟨z,[]⟩:Go.Act)) (vals_set _ _ _ _),HT.out.slot (by decide) (i:=6) (by decide) rfl ⟨fun e=>absurd e (by decide),fun e=>absurd e (by decide),fun e=>absurd e (by decide),fun e=>absurd e (by decide),fun e=>absurd e (by decide),fun e=>absurd e (by decide),fun _=>rfl,fun e=>absurd e (by decide),fun e=>absurd e (by decide),fun e=>absurd e (by decide),fun e=>absurd e (by decide),fun e=>absurd e (by decide),fun e=>absurd e (by decide),fun e=>absurd e (by decide),fun e=>absurd e (by decide),fun e=>absurd e (by decide)⟩⟩
  ·have d6:=hdep _ rfl ⟨6,.data⟩ (by simp) (by rfl)
   have g0:=(vals_getD (vs:=vs) (n:=55) (k:=13) (by decide)).trans (T.o6 d6)
   have HT:=hid T;clear hdep q0 y0 y1 n0_ n1_ n2_ n3_ n4_ hi;clear hLi hnw T;refine wpOp_step rfl fun K' hK=>?_
   go_simp
   exact hK _ _ ⟨fun j=>if j=14 then(.agg (ndC (nd x.g a) VA vc PA pc)) else vs j,qa,qb,congrArg (fun z=>(⟨z,[]⟩:Go.Act)) (vals_set _ _ _ _),HT.out.slot (by decide) (i:=7) (by decide) rfl ⟨fun e=>absurd e (by decide),fun e=>absurd e (by decide),fun e=>absurd e (by decide),fun e=>absurd e (by decide),fun e=>absurd e (by decide),fun e=>absurd e (by decide),fun e=>absurd e (by decide),fun _=>rfl,fun e=>absurd e (by decide),fun e=>absurd e (by decide),fun e=>absurd e (by decide),fun e=>absurd e (by decide),fun e=>absurd e (by decide),fun e=>absurd e (by decide),fun e=>absurd e (by decide),fun e=>absurd e (by decide)⟩⟩
  ·have g0:=(vals_getD (vs:=vs) (n:=55) (k:=0) (by decide)).trans (T.v0)
   have HT:=hid T;clear hdep q0 y0 y1 m0 m1 m2 m3 m4 n0_ n1_ n2_ n3_ n4_ hi;clear hLi hnw T;refine wpOp_step rfl fun K' hK=>?_
   go_simp
   exact hK _ _ ⟨fun j=>if j=15 then(.pointer (some ⟨y.rel,0,none⟩)) else vs j,qa,qb,congrArg (fun z=>(⟨z,[]⟩:Go.Act)) (vals_set _ _ _ _),HT.out.slot (by decide) (i:=8) (by decide) rfl ⟨fun e=>absurd e (by decide),fun e=>absurd e (by decide),fun e=>absurd e (by decide),fun e=>absurd e (by decide),fun e=>absurd e (by decide),fun e=>absurd e (by decide),fun e=>absurd e (by decide),fun e=>absurd e (by decide),fun _=>rfl,fun e=>absurd e (by decide),fun e=>absurd e (by decide),fun e=>absurd e (by decide),fun e=>absurd e (by decide),fun e=>absurd e (by decide),fun e=>absurd e (by decide),fun e=>absurd e (by decide)⟩⟩
  ·have d8:=hdep _ rfl ⟨8,.data⟩ (by simp) (by rfl)
   have g0:=(vals_getD (vs:=vs) (n:=55) (k:=15) (by decide)).trans (T.o8 d8)
   have HT:=hid T;clear hdep q0 y0 y1 m0 m1 m2 m3 m4 n0_ n1_ n2_ n3_ n4_ hi;clear hLi hnw T;refine wpOp_step rfl fun K' hK=>?_
   go_simp
   exact hK _ _ ⟨fun j=>if j=16 then(.pointer (some ⟨y.rel,0,none⟩)) else vs j,qa,qb,congrArg (fun z=>(⟨z,[]⟩:Go.Act)) (vals_set _ _ _ _),HT.out.slot (by decide) (i:=9) (by decide) rfl ⟨fun e=>absurd e (by decide),fun e=>absurd e (by decide),fun e=>absurd e (by decide),fun e=>absurd e (by decide),fun e=>absurd e (by decide),fun e=>absurd e (by decide),fun e=>absurd e (by decide),fun e=>absurd e (by decide),fun e=>absurd e (by decide),fun _=>rfl,fun e=>absurd e (by decide),fun e=>absurd e (by decide),fun e=>absurd e (by decide),fun e=>absurd e (by decide),fun e=>absurd e (by decide),fun e=>absurd e (by decide)⟩⟩
  ·have d9:=hdep _ rfl ⟨9,.data⟩ (by simp) (by rfl)
   have g0:=(vals_getD (vs:=vs) (n:=55) (k:=16) (by decide)).trans (T.o9 d9)
   have HT:=hid T;clear hdep q0 y0 y1 m0 m1 m2 m3 m4 n0_ n1_ n2_ n3_ n4_ hi;clear hLi hnw T;refine wpOp_step rfl fun K' hK=>?_
   go_simp
   exact hK _ _ ⟨fun j=>if j=17 then(.pointer (some ⟨y.rel,0,none⟩)) else vs j,qa,qb,congrArg (fun z=>(⟨z,[]⟩:Go.Act)) (vals_set _ _ _ _),HT.out.slot (by decide) (i:=10) (by decide) rfl ⟨fun e=>absurd e (by decide),fun e=>absurd e (by decide),fun e=>absurd e (by decide),fun e=>absurd e (by decide),fun e=>absurd e (by decide),fun e=>absurd e (by decide),fun e=>absurd e (by decide),fun e=>absurd e (by decide),fun e=>absurd e (by decide),fun e=>absurd e (by decide),fun _=>rfl,fun e=>absurd e (by decide),fun e=>absurd e (by decide),fun e=>absurd e (by decide),fun e=>absurd e (by decide),fun e=>absurd e (by decide)⟩⟩
  ·have d10:=hdep _ rfl ⟨10,.data⟩ (by simp) (by rfl)
   have g0:=(vals_getD (vs:=vs) (n:=55) (k:=17) (by decide)).trans (T.o10 d10)
   have HT:=hid T;clear hdep y0 y1 m0 m1 m2 m3 m4 n0_ n1_ n2_ n3_ n4_ hi;clear hLi hnw T;refine wpOp_step rfl fun K' hK=>?_
   go_simp
   exact hK _ _ ⟨fun j=>if j=18 then(.slice (some ⟨gb,go_,none⟩) xn x.c) else vs j,qa,qb,congrArg (fun z=>(⟨z,[]⟩:Go.Act)) (vals_set _ _ _ _),HT.out.slot (by decide) (i:=11) (by decide) rfl ⟨fun e=>absurd e (by decide),fun e=>absurd e (by decide),fun e=>absurd e (by decide),fun e=>absurd e (by decide),fun e=>absurd e (by decide),fun e=>absurd e (by decide),fun e=>absurd e (by decide),fun e=>absurd e (by decide),fun e=>absurd e (by decide),fun e=>absurd e (by decide),fun e=>absurd e (by decide),fun _=>rfl,fun e=>absurd e (by decide),fun e=>absurd e (by decide),fun e=>absurd e (by decide),fun e=>absurd e (by decide)⟩⟩
  ·have g0:=(vals_getD (vs:=vs) (n:=55) (k:=3) (by decide)).trans (T.v3)
   have HT:=hid T;clear hdep q0 y0 y1 m0 m1 m2 m3 m4 n0_ n1_ n2_ n3_ n4_ hi;clear hLi hnw T;refine wpOp_step rfl fun K' hK=>?_
   go_simp
   exact hK _ _ ⟨fun j=>if j=19 then(.pointer (some ⟨wb,1,none⟩)) else vs j,qa,qb,congrArg (fun z=>(⟨z,[]⟩:Go.Act)) (vals_set _ _ _ _),HT.out.slot (by decide) (i:=12) (by decide) rfl ⟨fun e=>absurd e (by decide),fun e=>absurd e (by decide),fun e=>absurd e (by decide),fun e=>absurd e (by decide),fun e=>absurd e (by decide),fun e=>absurd e (by decide),fun e=>absurd e (by decide),fun e=>absurd e (by decide),fun e=>absurd e (by decide),fun e=>absurd e (by decide),fun e=>absurd e (by decide),fun e=>absurd e (by decide),fun _=>rfl,fun e=>absurd e (by decide),fun e=>absurd e (by decide),fun e=>absurd e (by decide)⟩⟩
  ·have d12:=hdep _ rfl ⟨12,.data⟩ (by simp) (by rfl)
   have g0:=(vals_getD (vs:=vs) (n:=55) (k:=19) (by decide)).trans (T.o12 d12)
   have HT:=hid T;clear hdep q0 y0 m0 m1 m2 m3 m4 n0_ n1_ n2_ n3_ n4_ hi;clear hLi hnw T;refine wpOp_step rfl fun K' hK=>?_
   go_simp
   exact hK _ _ ⟨fun j=>if j=20 then(.int .i64 (b:Int)) else vs j,qa,qb,congrArg (fun z=>(⟨z,[]⟩:Go.Act)) (vals_set _ _ _ _),HT.out.slot (by decide) (i:=13) (by decide) rfl ⟨fun e=>absurd e (by decide),fun e=>absurd e (by decide),fun e=>absurd e (by decide),fun e=>absurd e (by decide),fun e=>absurd e (by decide),fun e=>absurd e (by decide),fun e=>absurd e (by decide),fun e=>absurd e (by decide),fun e=>absurd e (by decide),fun e=>absurd e (by decide),fun e=>absurd e (by decide),fun e=>absurd e (by decide),fun e=>absurd e (by decide),fun _=>rfl,fun e=>absurd e (by decide),fun e=>absurd e (by decide)⟩⟩
  ·have d11:=hdep _ rfl ⟨11,.data⟩ (by simp) (by rfl)
   have d13:=hdep _ rfl ⟨13,.data⟩ (by simp) (by rfl)
   have g0:=(vals_getD (vs:=vs) (n:=55) (k:=18) (by decide)).trans (T.o11 d11)
   have g1:=(vals_getD (vs:=vs) (n:=55) (k:=20) (by decide)).trans (T.o13 d13)
   have HT:=hid T;clear hdep q0 y0 y1 m0 m1 m2 m3 m4 n0_ n1_ n2_ n3_ n4_ hi;clear hLi hnw T;have hbB:(b:Int)<(xn:Int):=by omega
   refine wpOp_step rfl fun K' hK=>?_
   go_simp
   exact hK _ _ ⟨fun j=>if j=21 then(.pointer (some ⟨gb,go_+b*5,none⟩)) else vs j,qa,qb,congrArg (fun z=>(⟨z,[]⟩:Go.Act)) (vals_set _ _ _ _),HT.out.slot (by decide) (i:=14) (by decide) rfl ⟨fun e=>absurd e (by decide),fun e=>absurd e (by decide),fun e=>absurd e (by decide),fun e=>absurd e (by decide),fun e=>absurd e (by decide),fun e=>absurd e (by decide),fun e=>absurd e (by decide),fun e=>absurd e (by decide),fun e=>absurd e (by decide),fun e=>absurd e (by decide),fun e=>absurd e (by decide),fun e=>absurd e (by decide),fun e=>absurd e (by decide),fun e=>absurd e (by decide),fun _=>rfl,fun e=>absurd e (by decide)⟩⟩
  ·have d14:=hdep _ rfl ⟨14,.data⟩ (by simp) (by rfl)
   have g0:=(vals_getD (vs:=vs) (n:=55) (k:=21) (by decide)).trans (T.o14 d14)
   have HT:=hid T;clear hdep q0 y0 y1 m0 m1 m2 m3 m4 hi;clear hLi hnw T;refine wpOp_step rfl fun K' hK=>?_
   go_simp
   exact hK _ _ ⟨fun j=>if j=22 then(.agg (ndC (nd x.g b) VB vd PB pd)) else vs j,qa,qb,congrArg (fun z=>(⟨z,[]⟩:Go.Act)) (vals_set _ _ _ _),HT.out.slot (by decide) (i:=15) (by decide) rfl ⟨fun e=>absurd e (by decide),fun e=>absurd e (by decide),fun e=>absurd e (by decide),fun e=>absurd e (by decide),fun e=>absurd e (by decide),fun e=>absurd e (by decide),fun e=>absurd e (by decide),fun e=>absurd e (by decide),fun e=>absurd e (by decide),fun e=>absurd e (by decide),fun e=>absurd e (by decide),fun e=>absurd e (by decide),fun e=>absurd e (by decide),fun e=>absurd e (by decide),fun e=>absurd e (by decide),fun _=>rfl⟩⟩
  ·have HT:=hid T;clear hdep q0 y0 y1 m0 m1 m2 m3 m4 n0_ n1_ n2_ n3_ n4_ hi;have HLI:=hid hLi;have HNW:=hid hnw;clear hLi hnw T;refine wpOp_step rfl fun K' hK=>?_
   go_simp
   exact hK _ _ ⟨fun j=>if j=5 then .pointer (some ⟨w'.heap.size,0,none⟩) else vs j,w'.heap.size,qb,congrArg (fun z=>(⟨z,[]⟩:Go.Act)) (vals_set _ _ _ _),HT.out.boxA (by decide) HNW.out HLI.out⟩
  ·have HT:=hid T;clear hdep q0 y0 y1 m0 m1 m2 m3 m4 n0_ n1_ n2_ n3_ n4_ hi;have HLI:=hid hLi;have HNW:=hid hnw;clear hLi hnw T;refine wpOp_step rfl fun K' hK=>?_
   go_simp
   exact hK _ _ ⟨fun j=>if j=6 then .pointer (some ⟨w'.heap.size,0,none⟩) else vs j,qa,w'.heap.size,congrArg (fun z=>(⟨z,[]⟩:Go.Act)) (vals_set _ _ _ _),HT.out.boxB (by decide) HNW.out HLI.out⟩
  ·have d16:=hdep _ rfl ⟨16,.data⟩ (by simp) (by rfl)
   have d7:=hdep _ rfl ⟨7,.data⟩ (by simp) (by rfl)
   have g0:=(vals_getD (vs:=vs) (n:=55) (k:=5) (by decide)).trans ((T.o16 d16).1)
   have g1:=(vals_getD (vs:=vs) (n:=55) (k:=14) (by decide)).trans (T.o7 d7)
   have HT:=hid T;clear hdep q0 y0 y1 m0 m1 m2 m3 m4 n0_ n1_ n2_ n3_ n4_ hi;have hblk:=(T.o16 d16).2.2.2;rw[if_neg (by rw[hLi];simp)] at hblk
   have HNW:=hid hnw;have HD:=hid d16;have r0:=hblk.cell 0;have s0:=hblk.frozen 0;have r1:=hblk.cell 1;have s1:=hblk.frozen 1;have r2:=hblk.cell 2;have s2:=hblk.frozen 2;have r3:=hblk.cell 3;have s3:=hblk.frozen 3;have r4:=hblk.cell 4;have s4:=hblk.frozen 4;simp[zeroC] at r0 r1 r2 r3 r4;have HBK:=hid hblk;clear hLi hnw T hblk d16 d7;have hnd:ndC (nd x.g a) VA vc PA pc = #[.int .i64 (nd x.g a).kind,.int .i64 (nd x.g a).num,.string (nd x.g a).nm,.slice VA (nd x.g a).keys.length vc,.slice PA (nd x.g a).l.length pc]:=rfl;refine wpOp_step rfl fun K' hK=>?_
   go_simp
   exact hK _ _ ⟨vs,qa,qb,rfl,HT.out.putA HNW.out HD.out (into5 _ _ _ _ _ HBK.out)⟩
  ·have d17:=hdep _ rfl ⟨17,.data⟩ (by simp) (by rfl)
   have d15:=hdep _ rfl ⟨15,.data⟩ (by simp) (by rfl)
   have g0:=(vals_getD (vs:=vs) (n:=55) (k:=6) (by decide)).trans ((T.o17 d17).1)
   have g1:=(vals_getD (vs:=vs) (n:=55) (k:=22) (by decide)).trans (T.o15 d15)
   have HT:=hid T;clear hdep q0 y0 y1 m0 m1 m2 m3 m4 n0_ n1_ n2_ n3_ n4_ hi;have hblk:=(T.o17 d17).2.2.2;rw[if_neg (by rw[hLi];simp)] at hblk
   have HNW:=hid hnw;have HD:=hid d17;have r0:=hblk.cell 0;have s0:=hblk.frozen 0;have r1:=hblk.cell 1;have s1:=hblk.frozen 1;have r2:=hblk.cell 2;have s2:=hblk.frozen 2;have r3:=hblk.cell 3;have s3:=hblk.frozen 3;have r4:=hblk.cell 4;have s4:=hblk.frozen 4;simp[zeroC] at r0 r1 r2 r3 r4;have HBK:=hid hblk;clear hLi hnw T hblk d17 d15;have hnd:ndC (nd x.g b) VB vd PB pd = #[.int .i64 (nd x.g b).kind,.int .i64 (nd x.g b).num,.string (nd x.g b).nm,.slice VB (nd x.g b).keys.length vd,.slice PB (nd x.g b).l.length pd]:=rfl;refine wpOp_step rfl fun K' hK=>?_
   go_simp
   exact hK _ _ ⟨vs,qa,qb,rfl,HT.out.putB HNW.out HD.out (into5 _ _ _ _ _ HBK.out)⟩
 case init=>exact⟨fun k=>(#[.pointer (some ⟨y.rel,0,none⟩),.agg #[.int .i64 (a:Int),.int .i64 (b:Int)],undef,.pointer (some ⟨wb,0,none⟩),.bool false]:Array Value).getD k undef,0,0,rfl,⟨Below.refl _ _,rfl,rfl,rfl,(fun h=>by cases h),(fun h=>by cases h),(fun h=>by cases h),(fun h=>by cases h),(fun h=>by cases h),(fun h=>by cases h),(fun h=>by cases h),(fun h=>by cases h),(fun h=>by cases h),(fun h=>by cases h),(fun h=>by cases h),(fun h=>by cases h),(fun h=>by cases h),(fun h=>by cases h),(fun h=>by cases h),(fun h=>by cases h),(fun h=>by cases h),(fun h=>by cases h),(fun h=>by cases h),(fun h=>by cases h),(fun h=>by cases h)⟩⟩
 case done =>
  intro L a' w2 hall hI;obtain⟨vs,q1,q2,rfl,T⟩:=hI;have L16:L 16=true:=hall 16 (by decide)
  have L17:L 17=true:=hall 17 (by decide)
  have L18:L 18=true:=hall 18 (by decide)
  have L19:L 19=true:=hall 19 (by decide)
  obtain⟨e5,hq1,-,hba⟩:=T.o16 L16;obtain⟨e6,hq2,-,hbb⟩:=T.o17 L17;rw[if_pos L18] at hba;rw[if_pos L19] at hbb;have hbw:Below w1.heap.size w1 w2:=by
   have:=T.bel;rw[← HN0.out] at this;exact⟨this.os,this.tape,this.output,this.size,this.block⟩
  have e0:=T.v0;have e3:=T.v3;have e4:=T.v4;have BA:=hid hba;have BB:=hid hbb;have H2:=hid (H1.out.same hbw);have HZ2:=hid (HZ.out.below hbw HZ.out.lt);have HBE:=hid (HB0.out.trans (Stp.of_below y hbw));have HN1:Hid (¬ Own y q1):=hid (fun⟨X,hX⟩=>by have:=(H1.out.lt X _ hX).2;have:=HN0.out;omega)
  have HN2:Hid (¬ Own y q2):=hid (fun⟨X,hX⟩=>by have:=(H1.out.lt X _ hX).2;have:=HN0.out;omega)
  have HLA2:=hid (HLA.out.mono (hbw.mono H1.out.size));have HLB2:=hid (HLB.out.mono (hbw.mono H1.out.size));have HAL:Hid (a<x.n):=hid HAB.out.1;have HBL:Hid (b<x.n):=hid HAB.out.2;have hv:vals vs 55 = #[vs 0,vs 1,vs 2,vs 3,vs 4,vs 5,vs 6,vs 7,vs 8,vs 9,vs 10,vs 11,vs 12,vs 13,vs 14,vs 15,vs 16,vs 17,vs 18,vs 19,vs 20,vs 21,vs 22,vs 23,vs 24,vs 25,vs 26,vs 27,vs 28,vs 29,vs 30,vs 31,vs 32,vs 33,vs 34,vs 35,vs 36,vs 37,vs 38,vs 39,vs 40,vs 41,vs 42,vs 43,vs 44,vs 45,vs 46,vs 47,vs 48,vs 49,vs 50,vs 51,vs 52,vs 53,vs 54]:=rfl;rw[hv,e0,e3,e4,e5,e6];clear T hall hba hbb e0 e3 e4 e5 e6 hv L16 L17 L18 L19 hbw hq1 hq2 HN0 H1 HZ HLA HLB HAB HB0 hrl hzl hgl hlen ha hb z0 z1 c0 k0 l0 k1 l1 k2 l2 k3 l3 k4 l4;have z0:=HZ2.out.cell 0;have z1:=HZ2.out.cell 1;have c1:=H2.out.c1;have a0:=BA.out.cell 0;have a1:=BA.out.cell 1;have a2:=BA.out.cell 2;have a3:=BA.out.cell 3;have a4:=BA.out.cell 4;have b0:=BB.out.cell 0;have b1:=BB.out.cell 1;have b2:=BB.out.cell 2;have b3:=BB.out.cell 3;have b4:=BB.out.cell 4;simp[ndC] at z0 z1 a0 a1 a2 a3 a4 b0 b1 b2 b3 b4;clear HWB;by_cases g1:(nd x.g a).kind=9
  ·have t1:((nd x.g a).kind==9)=true:=by simp[g1]
   have u1:((nd x.g a).kind != 9)=false:=by simp[g1]
   have G1:=hid g1;clear g1;by_cases g2:(nd x.g b).kind=9
   ·have t2:((nd x.g b).kind==9)=true:=by simp[g2]
    have u2:((nd x.g b).kind != 9)=false:=by simp[g2]
    have G2:=hid g2;clear g2;by_cases g3:(nd x.g a).num=(nd x.g b).num
    ·have t3:((nd x.g a).num==(nd x.g b).num)=true:=by simp[g3]
     have u3:((nd x.g a).num != (nd x.g b).num)=false:=by simp[g3]
     have G3:=hid g3;clear g3;have hl1:(nd x.g a).l.length=1:=by have:=HF.out.var a HAL.out G1.out;rwa [kids_len] at this
     have hl2:(nd x.g b).l.length=1:=by have:=HF.out.var b HBL.out G2.out;rwa [kids_len] at this
     have hbl1:=HF.out.bnd_lt HAL.out G1.out;have hbl2:=HF.out.bnd_lt HBL.out G2.out;obtain⟨pb,po,hPA,hk⟩:=HLA2.out.kid HF.out HAL.out (i:=0) (c:=bnd x.g a) (of_getD (by rw[kids_len];omega))
     subst hPA;obtain⟨pb',po',hPB,hk'⟩:=HLB2.out.kid HF.out HBL.out (i:=0) (c:=bnd x.g b) (of_getD (by rw[kids_len];omega))
     subst hPB;have HK:=hid hk;have HK':=hid hk';have HL1:=hid hl1;have HL2:=hid hl2;have HBL1:=hid hbl1;have HBL2:=hid hbl2;have HNM:Hid (y.mp≠wb):=hid (fun e=>HNO.out ⟨.mp,by rw[← e];rfl⟩)
     have HNA:Hid (y.mp≠q1):=hid (fun e=>HN1.out ⟨.mp,by rw[← e];rfl⟩)
     have HNB:Hid (y.mp≠q2):=hid (fun e=>HN2.out ⟨.mp,by rw[← e];rfl⟩)
     clear hk hk' hl1 hl2 hbl1 hbl2;have c4:=H2.out.c4;have hcall:Calls Tryz.prog 149 #[.map (some y.mp),.agg #[.int .i64 (a:Int),.int .i64 (b:Int)]] w2.drew (fun r w'=>r=.returned (.tuple #[])∧Mp w' y.mp (setA S.q.asm (a,b))∧Kept (fun k=>k=y.mp) w2 w'):=by
      have:=add_any y.mp a b S.q.asm w2.drew (Comp.mp_ (x:=x) (H2.out.comp .mp)) (by have:=HAL.out;have:=HLEN.out;omega) (by have:=HBL.out;have:=HLEN.out;omega)
      exact this.mono fun r w' ⟨h1,h2,h3⟩=>⟨h1,h2,⟨h3.os,h3.tape,h3.output,h3.size,h3.block⟩⟩
     have hS:(w2.drew.cell? ⟨wb,0,none⟩=some (.int .i64 (a:Int))∧w2.drew.cell? ⟨wb,1,none⟩=some (.int .i64 (b:Int))∧w2.drew.cell? ⟨y.rel,4,none⟩=some (.map (some y.mp))):=⟨z0,z1,c4⟩
     go_upto_region 4 with(fail)
     go_region_held3 (fun w'=>w'.cell? ⟨wb,0,none⟩=some (.int .i64 (a:Int))∧w'.cell? ⟨wb,1,none⟩=some (.int .i64 (b:Int))∧w'.cell? ⟨y.rel,4,none⟩=some (.map (some y.mp))) (first | with_reducible exact hS | with_reducible exact hn4) (first | (go_simp;go_at_call 149;refine hcall.mono ?_;rintro e w4 ⟨rfl,hm4,hk4⟩;obtain⟨h4,hb4⟩:=H2.out.setmp hk4 hm4;have H4:=hid h4;have HB4:=hid (HBE.out.trans hb4);have HZ4:=hid (hk4.blk HZ2.out (fun e=>HNM.out e.symm));have HBA4:=hid (hk4.blk BA.out (fun e=>HNA.out e.symm));have HBB4:=hid (hk4.blk BB.out (fun e=>HNB.out e.symm));have HBEL:=hid (hb4.below H2.out);have hn4:w4.cell? ⟨wb,0,none⟩=some (.int .i64 (a:Int))∧w4.cell? ⟨wb,1,none⟩=some (.int .i64 (b:Int))∧w4.cell? ⟨y.rel,4,none⟩=some (.map (some y.mp)):=⟨HZ4.out.cell 0,HZ4.out.cell 1,H4.out.c4⟩;clear hm4 hk4 h4 hb4))
     all_goals
      rename_i hHH;clear hHH hn4 hS z0 z1 c1 c4 hcall a0 a1 a2 a3 a4 b0 b1 b2 b3 b4;have hs5:(w4.drew.cell? ⟨q1,4,none⟩=some (.slice (some ⟨pb,po,none⟩) 1 pc)∧w4.drew.cell? ⟨pb,po,none⟩=some (.int .i64 (bnd x.g a:Int))∧w4.drew.cell? ⟨q2,4,none⟩=some (.slice (some ⟨pb',po',none⟩) 1 pd)∧w4.drew.cell? ⟨pb',po',none⟩=some (.int .i64 (bnd x.g b:Int))):=⟨by have:=HBA4.out.cell 4;simp only[ndC,HL1.out] at this;exact this,HK.out w4 HBEL.out,by have:=HBB4.out.cell 4;simp only[ndC,HL2.out] at this;exact this,HK'.out w4 HBEL.out⟩
      have R1:=reach_at x y _ (bnd x.g a) (bnd x.g b) _ w4.drew H4.out.drew rfl HF.out (HP.out.asm _) HBL1.out HBL2.out
      go_upto_region 5 with(fail)
      go_region_held3 (fun w'=>w'.cell? ⟨q1,4,none⟩=some (.slice (some ⟨pb,po,none⟩) 1 pc)∧w'.cell? ⟨pb,po,none⟩=some (.int .i64 (bnd x.g a:Int))∧w'.cell? ⟨q2,4,none⟩=some (.slice (some ⟨pb',po',none⟩) 1 pd)∧w'.cell? ⟨pb',po',none⟩=some (.int .i64 (bnd x.g b:Int))) (first | with_reducible exact hs5 | with_reducible exact hn5) (first | (go_simp;go_at_call 84;refine R1.mono ?_;rintro e w5 ⟨rfl,y5,S5,e5,h5,hs5',hp5,hP5,ha5⟩;have E5:=hid e5;have H5:=hid h5;have HS5:=hid hs5';have HP5:=hid hp5;have HPP5:=hid hP5;have HA5:=hid ha5;have hn5:w5.cell? ⟨q1,4,none⟩=some (.slice (some ⟨pb,po,none⟩) 1 pc)∧w5.cell? ⟨pb,po,none⟩=some (.int .i64 (bnd x.g a:Int))∧w5.cell? ⟨q2,4,none⟩=some (.slice (some ⟨pb',po',none⟩) 1 pd)∧w5.cell? ⟨pb',po',none⟩=some (.int .i64 (bnd x.g b:Int)):=⟨by have:=((hs5'.blk (w:=w4.drew) HBA4.out HN1.out).1).cell 4;simp only[ndC,HL1.out] at this;exact this,HK.out w5 (HBEL.out.trans ((below_drew _ _).trans (hs5'.below (w:=w4.drew) H4.out.drew))),by have:=((hs5'.blk (w:=w4.drew) HBB4.out HN2.out).1).cell 4;simp only[ndC,HL2.out] at this;exact this,HK'.out w5 (HBEL.out.trans ((below_drew _ _).trans (hs5'.below (w:=w4.drew) H4.out.drew)))⟩;clear e5 h5 hs5' hp5 hP5 ha5))
      all_goals
       rename_i hHH;clear hHH hn5 hs5 R1;go_wp2_with fail
       go_returns
       exact⟨_,act7_on ⟨G1.out,G2.out,G3.out⟩,rfl,y5,S5,E5.out,H5.out,(HB4.out.drew).trans HS5.out,HP5.out,HPP5.out,HA5.out⟩
    ·have t3:((nd x.g a).num==(nd x.g b).num)=false:=by simp[g3]
     have u3:((nd x.g a).num != (nd x.g b).num)=true:=by simp[g3]
     have G3:=hid g3;clear g3;go_wp2_with fail
     go_returns
     exact⟨_,act7_off (fun e=>G3.out e.2.2),rfl,y,S,rfl,H2.out,HBE.out,HP.out,rfl,rfl⟩
   ·have t2:((nd x.g b).kind==9)=false:=by simp[g2]
    have u2:((nd x.g b).kind != 9)=true:=by simp[g2]
    have G2:=hid g2;clear g2;go_wp2_with fail
    go_returns
    exact⟨_,act7_off (fun e=>G2.out e.2.1),rfl,y,S,rfl,H2.out,HBE.out,HP.out,rfl,rfl⟩
  ·have t1:((nd x.g a).kind==9)=false:=by simp[g1]
   have u1:((nd x.g a).kind != 9)=true:=by simp[g1]
   have G1:=hid g1;clear g1;go_wp2_with fail
   go_returns
   exact⟨_,act7_off (fun e=>G1.out e.1),rfl,y,S,rfl,H2.out,HBE.out,HP.out,rfl,rfl⟩
end SM
end
section
open Lib (hid)
open Go.RowKit
namespace SM
open CM (nd kids)
def keyN (x:Gi)(i:Nat):ByteArray:=x.keys.getD i ⟨#[]⟩
def kidN (x:Gi)(i:Nat):Nat:=(kids x).getD i 0
def lessB (a b:ByteArray):Bool:=Op.bytesLess a.toList b.toList
structure RecOk (x:Gi):Prop where
 len:x.keys.length=x.l.length∧x.keys.length≤16
 less:∀ i j,i<j→j<x.keys.length→lessB (keyN x i) (keyN x j)=true
 nat:∀ z∈x.l,0≤z
theorem Fine.recOk {g:List Gi}(hf:Fine g){a:Nat}(ha:a<g.length)(h7:(nd g a).kind=7):RecOk (nd g a):=⟨hf.recd a ha h7,hf.keys a ha h7,hf.kidI a ha⟩
structure FP (s t:Gi)(i at_:Nat)(l:List Pr):Prop where
 len:l.length=i
 got:∀ k,k<i→∃ j,j<s.keys.length∧keyN s j=keyN t k∧l[k]? = some (kidN s j,kidN t k)
 less:∀ j,j<at_→∀ k,i≤k→k<t.keys.length→lessB (keyN s j) (keyN t k)=true
theorem FP.more {s t:Gi}{i a:Nat}{l:List Pr}(h:FP s t i a l)(ht:RecOk t)(hl:lessB (keyN s a) (keyN t i)=true):FP s t i (a+1) l:=⟨h.len,h.got,fun j hj k hik hk=>by
 by_cases e:j=a
 ·subst e;by_cases e':k=i
  ·subst e';exact hl
  ·exact bytesLess_trans _ _ _ hl (ht.less i k (by omega) hk)
 ·exact h.less j (by omega) k hik hk⟩
theorem FP.push {s t:Gi}{i a:Nat}{l:List Pr}(h:FP s t i a l)(ha:a<s.keys.length)(e:keyN s a=keyN t i):FP s t (i+1) a (l++[(kidN s a,kidN t i)]):=⟨by rw[List.length_append,h.len];rfl,fun k hk=>by
 by_cases e':k=i
 ·subst e';exact⟨a,ha,e,by rw[List.getElem?_append_right (by rw[h.len];exact Nat.le_refl _),h.len,Nat.sub_self];rfl⟩
 ·obtain⟨j,h1,h2,h3⟩:=h.got k (by omega)
  exact⟨j,h1,h2,by rw[List.getElem?_append_left (by rw[h.len];omega)];exact h3⟩,fun j hj k hik hk=>h.less j hj k (by omega) hk⟩
theorem FP.none {s t:Gi}{i a:Nat}{l:List Pr}(h:FP s t i a l)(hs:RecOk s)(hi:i<t.keys.length)(hn:a<s.keys.length→lessB (keyN s a) (keyN t i)=false∧keyN s a≠keyN t i):FldsIs s t none:=by
 refine⟨i,hi,fun j hj e=>?_⟩
 change keyN s j=keyN t i at e
 by_cases hja:j<a
 ·have:=h.less j hja i (Nat.le_refl _) hi;exact less_ne this e
 ·by_cases e':j=a
  ·subst e';exact(hn hj).2 e
  ·have:=hs.less a j (by omega) hj
   rw[e] at this;rw[(hn (by omega)).1] at this
   cases this
theorem FP.all {s t:Gi}{a:Nat}{l:List Pr}(h:FP s t t.keys.length a l):FldsIs s t (some l):=⟨h.len,h.got⟩
theorem info_pr:(Tryz.prog.info? 99).map (fun i=>(i.zero,i.size,i.bytes))=some (some (.agg #[.int .i64 0,.int .i64 0]),2,16):=by kernel_rfl
theorem mk_pr (n:Nat)(hn:n≤5000000)(w:World):∃ cs,cs.size=n*2∧(Instr.makeSlice 120 (.int .i64 0) (.int .i64 (n:Int))).run Tryz.prog w=.ok (.slice (some ⟨w.heap.size,0,none⟩) 0 n) (w.alloc (.cells cs 99)):=by
 obtain⟨i0,hi,hz0,hz1,hz2⟩:=info_parts info_pr;have:=run_make w 120 99 i0 (.agg #[.int .i64 0,.int .i64 0]) Tryz.underlying120 hi hz0 .i64 .i64 0 (n:Int) (by omega) (by omega) (by rw[hz2];omega) (by omega)
 simp only[Int.toNat_natCast,hz1,Int.toNat_zero] at this;exact⟨_,by simp[madeCells],this⟩
def FldsOut (s t:Gi)(w:World)(r:Ending)(w':World):Prop:=Below w.heap.size w w' ∧
 ((r=.returned (.tuple #[.slice none 0 0,.bool false])∧FldsIs s t none)∨∃ v l,r=.returned (.tuple #[v,.bool true])∧FldsIs s t (some l)∧OwnP w' w.heap.size v l)
theorem kid_at {x:Gi}{w:World}{PA:Option Addr}(hx:∀ z∈x.l,0≤z)(h:RdV w PA (x.l.flatMap iC)){i:Nat}(hi:i<x.l.length):∃ b o,PA=some ⟨b,o,none⟩∧w.cell? ⟨b,o+i,none⟩=some (.int .i64 (kidN x i:Int)):=by
 obtain⟨z,hz⟩:∃ z,x.l[i]? = some z:=⟨_,List.getElem?_eq_getElem hi⟩;obtain⟨b,o,hA,hc⟩:=rd_intG h hz;refine⟨b,o,hA,?_⟩;have hz0:=hx z (List.mem_of_getElem? hz);have:(kidN x i:Int)=z:=by
  unfold kidN CM.kids;rw[List.getD_eq_getElem?_getD,List.getElem?_map,hz]
  show((z.toNat:Nat):Int)=z
  omega
 rw[this];exact hc
theorem kid_all {x:Gi}{w:World}{PA:Option Addr}(hx:∀ z∈x.l,0≤z)(h:RdV w PA (x.l.flatMap iC)){i:Nat}(hi:i<x.l.length):∃ b o,PA=some ⟨b,o,none⟩∧∀ w',Below w.heap.size w w'→w'.cell? ⟨b,o+i,none⟩=some (.int .i64 (kidN x i:Int)):=by
 obtain⟨b,o,hA,hc⟩:=kid_at hx h hi;exact⟨b,o,hA,fun w' hb=>cell_below hb hc⟩
theorem key_at {x:Gi}{w:World}{VA:Option Addr}(h:RdV w VA (x.keys.flatMap sC)){i:Nat}(hi:i<x.keys.length):∃ b o,VA=some ⟨b,o,none⟩∧∀ j,j<x.keys.length→w.cell? ⟨b,o+j,none⟩=some (.string (keyN x j)):=by
 obtain⟨b,o,hA,hc⟩:=rd_strG h (by omega)
 refine⟨b,o,hA,fun j hj=>hc j _ ?_⟩
 rw[List.getElem?_eq_getElem hj];unfold keyN;rw[List.getD_eq_getElem?_getD,List.getElem?_eq_getElem hj];rfl
set_option maxRecDepth 100000 in
set_option maxHeartbeats 16000000 in
theorem fields_any (s t:Gi)(VA PA VB PB:Option Addr)(vc pc vd pd:Nat)(w:World)(hs:RecOk s)(ht:RecOk t)(r1:RdV w VA (s.keys.flatMap sC))(r2:RdV w PA (s.l.flatMap iC))(r3:RdV w VB (t.keys.flatMap sC))(r4:RdV w PB (t.l.flatMap iC)) :
  Calls Tryz.prog 152 #[.agg #[.int .i64 s.kind,.int .i64 s.num,.string s.nm,.slice VA s.keys.length vc,.slice PA s.l.length pc],.agg #[.int .i64 t.kind,.int .i64 t.num,.string t.nm,.slice VB t.keys.length vd,.slice PB t.l.length pd]] w (FldsOut s t w):=by
 have hz1:=(Blk.new w 54 #[.int .i64 s.kind,.int .i64 s.num,.string s.nm,.slice VA s.keys.length vc,.slice PA s.l.length pc]).alloc (.cells #[.int .i64 t.kind,.int .i64 t.num,.string t.nm,.slice VB t.keys.length vd,.slice PB t.l.length pd] 54);have hz2:=Blk.new (w.alloc (.cells #[.int .i64 s.kind,.int .i64 s.num,.string s.nm,.slice VA s.keys.length vc,.slice PA s.l.length pc] 54)) 54 #[.int .i64 t.kind,.int .i64 t.num,.string t.nm,.slice VB t.keys.length vd,.slice PB t.l.length pd];have hsz:(w.alloc (.cells #[.int .i64 s.kind,.int .i64 s.num,.string s.nm,.slice VA s.keys.length vc,.slice PA s.l.length pc] 54)).heap.size=w.heap.size+1:=Array.size_push _;rw[hsz] at hz2;have hb1:=(one_boxS w (.cells #[.int .i64 s.kind,.int .i64 s.num,.string s.nm,.slice VA s.keys.length vc,.slice PA s.l.length pc] 54)).alloc (by rw[hsz];exact Nat.le_succ _) (.cells #[.int .i64 t.kind,.int .i64 t.num,.string t.nm,.slice VB t.keys.length vd,.slice PB t.l.length pd] 54)
 obtain⟨sn,hsn⟩:∃ n,s.keys.length=n:=⟨_,rfl⟩;obtain⟨tn,htn⟩:∃ n,t.keys.length=n:=⟨_,rfl⟩;have hsl:=hs.len;have htl:=ht.len;rw[hsn] at hsl hz1 hz2 hb1 hsz ⊢;rw[htn] at htl hz1 hz2 hb1 ⊢;rw[← hsl.1] at hz1 hz2 hb1 hsz ⊢;rw[← htl.1] at hz1 hz2 hb1 ⊢;have HSN:=hid hsn;have HTN:=hid htn;have HSL:=hid hsl.1;have HTL:=hid htl.1;have HS:=hid hs;have HT:=hid ht;have R1:=hid r1;have R2:=hid r2;have R3:=hid r3;have R4:=hid r4;have hs16:=hsl.2;have ht16:=htl.2;clear hs ht r1 r2 r3 r4 hsl htl hsn htn;go_enter Tryz.func152,Tryz.ntmps152
 go_upto_region 1 with(fail)
 generalize (w.alloc (.cells #[.int .i64 s.kind,.int .i64 s.num,.string s.nm,.slice VA sn vc,.slice PA sn pc] 54)).alloc (.cells #[.int .i64 t.kind,.int .i64 t.num,.string t.nm,.slice VB tn vd,.slice PB tn pd] 54)=w1 at hz1 hz2 hb1 ⊢;obtain⟨wb,hwb⟩:∃ wb,w.heap.size=wb:=⟨_,rfl⟩;have HWB:=hid hwb;rw[hwb] at hz1 hz2 ⊢;have HB1:=hid hb1;have y3:=hz2.cell 3;simp at y3;obtain⟨cs,hcs,hmk⟩:=mk_pr tn (by omega) w1
 have how:=World.ownsRow_made (base:=wb+2) (e:=99) (size:=2) w1 cs tn (by have:=hz2.lt;omega) (by simp only[maxLen];omega) hcs
 have hz12:=hz1.alloc (.cells cs 99);have hz22:=hz2.alloc (.cells cs 99);have hb2:=hb1.alloc (hb1.size) (.cells cs 99);clear hz1 hz2 hb1 hsz hwb
 go_upto_region 2 with(fail)
 generalize hw2:w1.alloc (.cells cs 99)=w2 at how hz12 hz22 hb2 ⊢;have HOW:=hid how;have HZ1:=hid hz12;have HZ2:=hid hz22;have HB2:=hid hb2;clear how hmk hcs;have y3:=hz22.cell 3;simp at y3;clear hz12 hz22 hb2 hw2;go_wp2_with fail
 clear y3
 go_loopw [4,6,16] (fun u4 u6 u16 wr=>∃ (i a_:Nat) (l:List Pr) (u:Value),u16=.int .i64 (i:Int)∧u6=.int .i64 (a_:Int)∧u4=u∧i≤tn∧a_≤sn∧Hid (FP s t i a_ l)∧Hid (OwnP wr (wb+2) u l)∧Hid (Blk wr wb 54 #[.int .i64 s.kind,.int .i64 s.num,.string s.nm,.slice VA sn vc,.slice PA sn pc])∧Hid (Blk wr (wb+1) 54 #[.int .i64 t.kind,.int .i64 t.num,.string t.nm,.slice VB tn vd,.slice PB tn pd])∧Hid (Below w.heap.size w wr)) (fun _ _ u16 _=>tn-(intOf u16).toNat)
 case atStart=>exact⟨0,0,[],_,rfl,rfl,rfl,Nat.zero_le _,Nat.zero_le _,hid ⟨rfl,fun k hk=>by omega,fun j hj=>by omega⟩,HOW,HZ1,HZ2,HB2⟩
 case round =>
  obtain⟨i,a0,l,u,rfl,rfl,rfl,hi,ha,HFP,HO,HZ1r,HZ2r,HBr⟩:=hrel;obtain⟨LA,lc,hlv⟩:=own_formP HO.out;subst hlv;by_cases hlt:i<tn
  ·obtain⟨kb,ko,hVB,hkey⟩:=key_at (R3.out.below HBr.out) (i:=i) (by have:=HTN.out;omega)
   subst hVB;have c0:=hkey i (by have:=HTN.out;omega)
   have z3:=HZ1r.out.cell 3;simp at z3;have hltI:(i:Int)<(tn:Int):=by omega
   clear hkey;go_wp2_with fail
   go_loop [6] (fun u6=>∃ a_:Nat,u6=.int .i64 (a_:Int)∧a_≤sn∧Hid (FP s t i a_ l)) (fun u6=>sn-(intOf u6).toNat)
   case atStart=>exact⟨a0,rfl,ha,HFP⟩
   case round =>
    obtain⟨a_,rfl,ha_,HFa⟩:=hrel;by_cases hs:a_<sn
    ·obtain⟨sb,so,hVA,hsk⟩:=key_at (R1.out.below HBr.out) (i:=a_) (by have:=HSN.out;omega)
     subst hVA;have c1:=hsk a_ (by have:=HSN.out;omega)
     have hsI:(a_:Int)<(sn:Int):=by omega
     have hsE:((a_:Int)==(sn:Int))=false:=by simp;omega
     clear hsk;by_cases hl:lessB (keyN s a_) (keyN t i)=true
     ·have tl:Op.bytesLess (keyN s a_).toList (keyN t i).toList=true:=hl;have HL:=hid (HFa.out.more HT.out hl);clear hl;go_wp2_with fail
      go_round
      case rel=>exact⟨a_+1,by go_num,by omega,HL⟩
      case measure=>simp[intOf];omega
     ·have hl':lessB (keyN s a_) (keyN t i)=false:=by simpa using hl
      have tl:Op.bytesLess (keyN s a_).toList (keyN t i).toList=false:=hl';have HL:=hid hl';clear hl hl';by_cases he:keyN s a_=keyN t i
      ·have te:((keyN s a_).toList==(keyN t i).toList)=true:=by rw[he];simp
       have HFN:=hid (HFa.out.push (by have:=HSN.out;omega) he)
       obtain⟨pb,po,hPA,hk1⟩:=kid_all HS.out.nat R2.out (i:=a_) (by have:=HSL.out;omega)
       subst hPA;obtain⟨qb,qo,hPB,hk2⟩:=kid_all HT.out.nat R4.out (i:=i) (by have:=HTL.out;omega)
       subst hPB;have HK1:=hid hk1;have HK2:=hid hk2;have hS:(wr.drew.cell? ⟨wb,4,none⟩=some (.slice (some ⟨pb,po,none⟩) sn pc)∧wr.drew.cell? ⟨pb,po+a_,none⟩=some (.int .i64 (kidN s a_:Int))∧wr.drew.cell? ⟨wb+1,4,none⟩=some (.slice (some ⟨qb,qo,none⟩) tn pd)∧wr.drew.cell? ⟨qb,qo+i,none⟩=some (.int .i64 (kidN t i:Int))):=⟨HZ1r.out.cell 4,hk1 _ HBr.out.drew,HZ2r.out.cell 4,hk2 _ HBr.out.drew⟩;have hnw:=Blk.new wr 99 #[.int .i64 (kidN s a_:Int),.int .i64 (kidN t i:Int)];have HNW:=hid hnw;have hal1:=HZ1r.out.alloc (.cells #[.int .i64 (kidN s a_:Int),.int .i64 (kidN t i:Int)] 99);have hal2:=HZ2r.out.alloc (.cells #[.int .i64 (kidN s a_:Int),.int .i64 (kidN t i:Int)] 99);have hbal:=(HBr.out.alloc HBr.out.size (.cells #[.int .i64 (kidN s a_:Int),.int .i64 (kidN t i:Int)] 99)).drew;have hS2:((wr.alloc (.cells #[.int .i64 (kidN s a_:Int),.int .i64 (kidN t i:Int)] 99)).drew.cell? ⟨wb,4,none⟩=some (.slice (some ⟨pb,po,none⟩) sn pc)∧(wr.alloc (.cells #[.int .i64 (kidN s a_:Int),.int .i64 (kidN t i:Int)] 99)).drew.cell? ⟨pb,po+a_,none⟩=some (.int .i64 (kidN s a_:Int))∧(wr.alloc (.cells #[.int .i64 (kidN s a_:Int),.int .i64 (kidN t i:Int)] 99)).drew.cell? ⟨wb+1,4,none⟩=some (.slice (some ⟨qb,qo,none⟩) tn pd)∧(wr.alloc (.cells #[.int .i64 (kidN s a_:Int),.int .i64 (kidN t i:Int)] 99)).drew.cell? ⟨qb,qo+i,none⟩=some (.int .i64 (kidN t i:Int))):=⟨hal1.cell 4,hk1 _ hbal,hal2.cell 4,hk2 _ hbal⟩;have HAL1:=hid hal1;have HAL2:=hid hal2;have HBAL:=hid hbal
       have HLL:Hid (l.length=i):=hid HFa.out.len;have hi64:i≤16:=by omega
       have HSZ:Hid (wb+2≤wr.heap.size):=hid (by have:=HZ2r.out.lt;omega)
       have HPN:Hid (∀ w',Below w.heap.size w w'→w'.cell? ⟨pb,po+a_,none⟩=some (.int .i64 (kidN s a_:Int))∧w'.cell? ⟨qb,qo+i,none⟩=some (.int .i64 (kidN t i:Int))):=hid fun w' hb=>⟨HK1.out w' hb,HK2.out w' hb⟩
       clear hnw hal1 hal2 hbal hk1 hk2 he
       go_upto_region 10 with(fail)
       go_region_held3 (fun w'=>w'.cell? ⟨wb,4,none⟩=some (.slice (some ⟨pb,po,none⟩) sn pc)∧w'.cell? ⟨pb,po+a_,none⟩=some (.int .i64 (kidN s a_:Int))∧w'.cell? ⟨wb+1,4,none⟩=some (.slice (some ⟨qb,qo,none⟩) tn pd)∧w'.cell? ⟨qb,qo+i,none⟩=some (.int .i64 (kidN t i:Int))) (first | with_reducible exact hS | with_reducible exact hS2 | with_reducible exact hn9) (first | (refine step_pushP _ (by rfl) _ _ (by rfl) (wb+2) (.slice LA l.length lc) l (kidN s a_,kidN t i) ⟨wr.heap.size,0,none⟩ 1 (by rfl) ((HO.out.alloc _).drew) (by rfl) (HNW.out.cell 0) ((congrArg _ (addr_lit _ _ _)).trans (HNW.out.cell 1)) (by have:=HLL.out;omega) (by simp;have:=HSZ.out;have:=HLL.out;omega) ?_;intro gg cap w4 ho4 hg4 hat4 hlt4;have HO4:=hid ho4;have HZ14:=hid (own_blkP HO.out (by omega) hg4 (HAL1.out.drewN 1));have HZ24:=hid (own_blkP HO.out (by omega) hg4 (HAL2.out.drewN 1));have HB4:=hid (own_belP (by have:=HWB.out;omega) HO.out hg4 HBAL.out);have hn9:w4.cell? ⟨wb,4,none⟩=some (.slice (some ⟨pb,po,none⟩) sn pc)∧w4.cell? ⟨pb,po+a_,none⟩=some (.int .i64 (kidN s a_:Int))∧w4.cell? ⟨wb+1,4,none⟩=some (.slice (some ⟨qb,qo,none⟩) tn pd)∧w4.cell? ⟨qb,qo+i,none⟩=some (.int .i64 (kidN t i:Int)):=⟨HZ14.out.cell 4,(HPN.out w4 HB4.out).1,HZ24.out.cell 4,(HPN.out w4 HB4.out).2⟩;clear ho4 hg4 hat4 hlt4))
       all_goals
        rename_i hHH;clear hHH hn9 hS hS2;go_wp2_with fail
        exact⟨⟨i+1,a_,_,_,by go_num,rfl,rfl,by omega,by omega,HFN,HO4,HZ14,HZ24,HB4⟩,by simp[intOf];omega⟩
      ·have te:((keyN s a_).toList==(keyN t i).toList)=false:=by
        rw[beq_eq_false_iff_ne];exact fun h=>he (ba_toList_inj h)
       have HE:=hid he;clear he;go_wp2_with fail
       go_returns
       exact⟨HBr.out,.inl ⟨rfl,HFa.out.none HS.out (by have:=HTN.out;omega) (fun _=>⟨HL.out,HE.out⟩)⟩⟩
    ·have hsn:a_=sn:=by omega
     subst hsn;have hsI:¬((a_:Int)<(a_:Int)):=by omega
     have hsE:((a_:Int)==(a_:Int))=true:=by simp
     go_wp2_with fail
     go_returns
     exact⟨HBr.out,.inl ⟨rfl,HFa.out.none HS.out (by have:=HTN.out;omega) (fun h=>absurd h (by have:=HSN.out;omega))⟩⟩
  ·have hin:i=tn:=by omega
   have hltI:¬((i:Int)<(tn:Int)):=by omega
   have HFE:Hid (FldsIs s t (some l)):=hid (by have:=HFP.out;rw[hin,← HTN.out] at this;exact this.all)
   clear hin;go_wp2_with fail
   go_returns
   exact⟨HBr.out,.inr ⟨_,l,rfl,HFE.out,own_leP HO.out (by have:=HWB.out;omega)⟩⟩
end SM
end
section
open Lib (hid)
open Go.RowKit
namespace SM
open CM (nd kids)
theorem unlike_un {g:List Gi}{st:Bool}{a b:Nat}(h:(nd g a).kind=8∨(nd g a).kind=9∨(nd g b).kind=8):unlike g st a b=false:=by unfold unlike;rw[if_pos h]
theorem unlike_dyn {g:List Gi}{st:Bool}{a b:Nat}(h:¬((nd g a).kind=8∨(nd g a).kind=9∨(nd g b).kind=8))(hd:st=false∧((nd g a).kind=1∨(nd g b).kind=1)):unlike g st a b=false:=by unfold unlike;rw[if_neg h,if_pos hd]
theorem unlike_cmp {g:List Gi}{st:Bool}{a b:Nat}(h:¬((nd g a).kind=8∨(nd g a).kind=9∨(nd g b).kind=8))(hd:¬(st=false∧((nd g a).kind=1∨(nd g b).kind=1))):unlike g st a b=decide ((nd g a).kind≠(nd g b).kind∨(nd g a).nm≠(nd g b).nm):=by unfold unlike;rw[if_neg h,if_neg hd]
set_option maxRecDepth 100000 in
set_option maxHeartbeats 16000000 in
theorem unlike_any (x:Cx)(y:Lay)(S:St)(a b rel:Nat)(w:World)(h:RelW x w y S)(hrel:y.rel=rel)(ha:a<x.n)(hb:b<x.n) :
  Calls Tryz.prog 128 #[.pointer (some ⟨rel,0,none⟩),.agg #[.int .i64 (a:Int),.int .i64 (b:Int)]] w fun r w'=>r=.returned (.bool (unlike x.g x.st a b))∧Below w.heap.size w w':=by
 subst hrel;obtain⟨u,hu⟩:∃ u,unlike x.g x.st a b=u:=⟨_,rfl⟩;rw[hu];have HU:=hid hu;clear hu;have h1:=h.alloc (.cells #[.int .i64 (a:Int),.int .i64 (b:Int)] 99);have hz:=Blk.new w 99 #[.int .i64 (a:Int),.int .i64 (b:Int)];have hb0:=one_boxS w (.cells #[.int .i64 (a:Int),.int .i64 (b:Int)] 99);have hno:=h.new;have hlen:=h.len;go_enter Tryz.func128,Tryz.ntmps128
 go_upto_region 1 with(fail)
 generalize hw1:w.alloc (.cells #[.int .i64 (a:Int),.int .i64 (b:Int)] 99)=w1 at h1 hz hb0 ⊢;obtain⟨wb,hwb⟩:∃ wb,w.heap.size=wb:=⟨_,rfl⟩;have HWB:=hid hwb;rw[hwb] at hz hno ⊢;have HNO:=hid hno;have z0:=hz.cell 0;have z1:=hz.cell 1;simp at z0 z1;have c0:=h1.c0;have hrl:=(h1.lt .rel _ rfl).2;have hzl:=hz.lt;obtain⟨gb,go_,VA,vc,PA,pc,hA,k0,k1,k2,k3,k4,hlsa,-,-,-,-⟩:=h1.gnode ha;obtain⟨gb',go',VB,vd,PB,pd,hA',l0,l1,l2,l3,l4,hlsb,-,-,-,-⟩:=h1.gnode hb;rw[hA] at hA';injection hA' with hA'
 injection hA' with e1 e2
 subst e1 e2;rw[hA] at c0;have hgl:=block_lt_of_cell k0;have H1:=hid h1;have HB0:=hid hb0;have HZ:=hid hz;have HLA:=hid hlsa;have HLB:=hid hlsb;have HAB:=hid (And.intro ha hb);have HLEN:=hid hlen;obtain⟨xn,hxn⟩:∃ k,x.n=k:=⟨_,rfl⟩;rw[hxn] at c0 hlen ha hb;clear h h1 hz hb0 hw1 hA hno hlsa hlsb hwb hxn
 go_upto_region 1 with(fail)
 obtain⟨n0,hn0⟩:∃ n0,w1.heap.size=n0:=⟨_,rfl⟩;rw[hn0] at hrl hzl hgl;have HN0:=hid hn0;refine wp_region_any (by kernel_rfl) ?_
 change wpAny _ _ _ _ _ _ _ (World.drew _)
 refine wpAny_inv (fun L a' w'=>∃ (vs:Nat→Value) (qa qb:Nat),a'=⟨vals vs 63,[]⟩∧Two w1.drew n0 7 y.rel wb gb go_ xn x.c a b (nd x.g a) (nd x.g b) VA vc PA pc VB vd PB pd L vs qa qb w') (low_of (by kernel_rfl)) ?step ?done 20 _ _ _ (by rfl) (by decide) ?init
 case step =>
  intro L a' w' i hi hLi hdep hI;obtain⟨vs,qa,qb,rfl,T⟩:=hI;have hcs:i=0∨i=1∨i=2∨i=3∨i=4∨i=5∨i=6∨i=7∨i=8∨i=9∨i=10∨i=11∨i=12∨i=13∨i=14∨i=15∨i=16∨i=17∨i=18∨i=19:=by
   have:i<20:=hi;omega
  have hnw:n0≤w'.heap.size:=by have:=T.bel.size;have e:w1.drew.heap.size=w1.heap.size:=rfl;omega
  have q0:=(T.bel.cell (p:=⟨y.rel,0,none⟩) hrl).trans c0;have y0:=(T.bel.cell (p:=⟨wb,0,none⟩) hzl).trans z0;have y1:=(T.bel.cell (p:=⟨wb,1,none⟩) hzl).trans z1;have m0:=(T.bel.cell (p:=⟨gb,go_+a*5,none⟩) hgl).trans k0;have n0_:=(T.bel.cell (p:=⟨gb,go_+b*5,none⟩) hgl).trans l0;have m1:=(T.bel.cell (p:=⟨gb,go_+a*5+1,none⟩) hgl).trans k1;have n1_:=(T.bel.cell (p:=⟨gb,go_+b*5+1,none⟩) hgl).trans l1;have m2:=(T.bel.cell (p:=⟨gb,go_+a*5+2,none⟩) hgl).trans k2;have n2_:=(T.bel.cell (p:=⟨gb,go_+b*5+2,none⟩) hgl).trans l2;have m3:=(T.bel.cell (p:=⟨gb,go_+a*5+3,none⟩) hgl).trans k3;have n3_:=(T.bel.cell (p:=⟨gb,go_+b*5+3,none⟩) hgl).trans l3;have m4:=(T.bel.cell (p:=⟨gb,go_+a*5+4,none⟩) hgl).trans k4;have n4_:=(T.bel.cell (p:=⟨gb,go_+b*5+4,none⟩) hgl).trans l4;clear c0 z0 z1 k0 l0 k1 l1 k2 l2 k3 l3 k4 l4;rcases hcs with rfl | rfl | rfl | rfl | rfl | rfl | rfl | rfl | rfl | rfl | rfl | rfl | rfl | rfl | rfl | rfl | rfl | rfl | rfl | rfl
  ·have g0:=(vals_getD (vs:=vs) (n:=63) (k:=0) (by decide)).trans (T.v0)
   have HT:=hid T;clear hdep q0 y0 y1 m0 m1 m2 m3 m4 n0_ n1_ n2_ n3_ n4_ hi;clear hLi hnw T;refine wpOp_step rfl fun K' hK=>?_
   go_simp
   exact hK _ _ ⟨fun j=>if j=7 then(.pointer (some ⟨y.rel,0,none⟩)) else vs j,qa,qb,congrArg (fun z=>(⟨z,[]⟩:Go.Act)) (vals_set _ _ _ _),HT.out.slot (by decide) (i:=0) (by decide) rfl ⟨fun _=>rfl,fun e=>absurd e (by decide),fun e=>absurd e (by decide),fun e=>absurd e (by decide),fun e=>absurd e (by decide),fun e=>absurd e (by decide),fun e=>absurd e (by decide),fun e=>absurd e (by decide),fun e=>absurd e (by decide),fun e=>absurd e (by decide),fun e=>absurd e (by decide),fun e=>absurd e (by decide),fun e=>absurd e (by decide),fun e=>absurd e (by decide),fun e=>absurd e (by decide),fun e=>absurd e (by decide)⟩⟩
  ·have d0:=hdep _ rfl ⟨0,.data⟩ (by simp) (by rfl)
   have g0:=(vals_getD (vs:=vs) (n:=63) (k:=7) (by decide)).trans (T.o0 d0)
   have HT:=hid T;clear hdep q0 y0 y1 m0 m1 m2 m3 m4 n0_ n1_ n2_ n3_ n4_ hi;clear hLi hnw T;refine wpOp_step rfl fun K' hK=>?_
   go_simp
   exact hK _ _ ⟨fun j=>if j=8 then(.pointer (some ⟨y.rel,0,none⟩)) else vs j,qa,qb,congrArg (fun z=>(⟨z,[]⟩:Go.Act)) (vals_set _ _ _ _),HT.out.slot (by decide) (i:=1) (by decide) rfl ⟨fun e=>absurd e (by decide),fun _=>rfl,fun e=>absurd e (by decide),fun e=>absurd e (by decide),fun e=>absurd e (by decide),fun e=>absurd e (by decide),fun e=>absurd e (by decide),fun e=>absurd e (by decide),fun e=>absurd e (by decide),fun e=>absurd e (by decide),fun e=>absurd e (by decide),fun e=>absurd e (by decide),fun e=>absurd e (by decide),fun e=>absurd e (by decide),fun e=>absurd e (by decide),fun e=>absurd e (by decide)⟩⟩
  ·have d1:=hdep _ rfl ⟨1,.data⟩ (by simp) (by rfl)
   have g0:=(vals_getD (vs:=vs) (n:=63) (k:=8) (by decide)).trans (T.o1 d1)
   have HT:=hid T;clear hdep q0 y0 y1 m0 m1 m2 m3 m4 n0_ n1_ n2_ n3_ n4_ hi;clear hLi hnw T;refine wpOp_step rfl fun K' hK=>?_
   go_simp
   exact hK _ _ ⟨fun j=>if j=9 then(.pointer (some ⟨y.rel,0,none⟩)) else vs j,qa,qb,congrArg (fun z=>(⟨z,[]⟩:Go.Act)) (vals_set _ _ _ _),HT.out.slot (by decide) (i:=2) (by decide) rfl ⟨fun e=>absurd e (by decide),fun e=>absurd e (by decide),fun _=>rfl,fun e=>absurd e (by decide),fun e=>absurd e (by decide),fun e=>absurd e (by decide),fun e=>absurd e (by decide),fun e=>absurd e (by decide),fun e=>absurd e (by decide),fun e=>absurd e (by decide),fun e=>absurd e (by decide),fun e=>absurd e (by decide),fun e=>absurd e (by decide),fun e=>absurd e (by decide),fun e=>absurd e (by decide),fun e=>absurd e (by decide)⟩⟩
  ·have d2:=hdep _ rfl ⟨2,.data⟩ (by simp) (by rfl)
   have g0:=(vals_getD (vs:=vs) (n:=63) (k:=9) (by decide)).trans (T.o2 d2)
   have HT:=hid T;clear hdep y0 y1 m0 m1 m2 m3 m4 n0_ n1_ n2_ n3_ n4_ hi;clear hLi hnw T;refine wpOp_step rfl fun K' hK=>?_
   go_simp
   exact hK _ _ ⟨fun j=>if j=10 then(.slice (some ⟨gb,go_,none⟩) xn x.c) else vs j,qa,qb,congrArg (fun z=>(⟨z,[]⟩:Go.Act)) (vals_set _ _ _ _),HT.out.slot (by decide) (i:=3) (by decide) rfl ⟨fun e=>absurd e (by decide),fun e=>absurd e (by decide),fun e=>absurd e (by decide),fun _=>rfl,fun e=>absurd e (by decide),fun e=>absurd e (by decide),fun e=>absurd e (by decide),fun e=>absurd e (by decide),fun e=>absurd e (by decide),fun e=>absurd e (by decide),fun e=>absurd e (by decide),fun e=>absurd e (by decide),fun e=>absurd e (by decide),fun e=>absurd e (by decide),fun e=>absurd e (by decide),fun e=>absurd e (by decide)⟩⟩
  ·have g0:=(vals_getD (vs:=vs) (n:=63) (k:=3) (by decide)).trans (T.v3)
   have HT:=hid T;clear hdep q0 y0 y1 m0 m1 m2 m3 m4 n0_ n1_ n2_ n3_ n4_ hi;clear hLi hnw T;refine wpOp_step rfl fun K' hK=>?_
   go_simp
   exact hK _ _ ⟨fun j=>if j=11 then(.pointer (some ⟨wb,0,none⟩)) else vs j,qa,qb,congrArg (fun z=>(⟨z,[]⟩:Go.Act)) (vals_set _ _ _ _),HT.out.slot (by decide) (i:=4) (by decide) rfl ⟨fun e=>absurd e (by decide),fun e=>absurd e (by decide),fun e=>absurd e (by decide),fun e=>absurd e (by decide),fun _=>rfl,fun e=>absurd e (by decide),fun e=>absurd e (by decide),fun e=>absurd e (by decide),fun e=>absurd e (by decide),fun e=>absurd e (by decide),fun e=>absurd e (by decide),fun e=>absurd e (by decide),fun e=>absurd e (by decide),fun e=>absurd e (by decide),fun e=>absurd e (by decide),fun e=>absurd e (by decide)⟩⟩
  ·have d4:=hdep _ rfl ⟨4,.data⟩ (by simp) (by rfl)
   have g0:=(vals_getD (vs:=vs) (n:=63) (k:=11) (by decide)).trans (T.o4 d4)
   have HT:=hid T;clear hdep q0 y1 m0 m1 m2 m3 m4 n0_ n1_ n2_ n3_ n4_ hi;clear hLi hnw T;refine wpOp_step rfl fun K' hK=>?_
   go_simp
   exact hK _ _ ⟨fun j=>if j=12 then(.int .i64 (a:Int)) else vs j,qa,qb,congrArg (fun z=>(⟨z,[]⟩:Go.Act)) (vals_set _ _ _ _),HT.out.slot (by decide) (i:=5) (by decide) rfl ⟨fun e=>absurd e (by decide),fun e=>absurd e (by decide),fun e=>absurd e (by decide),fun e=>absurd e (by decide),fun e=>absurd e (by decide),fun _=>rfl,fun e=>absurd e (by decide),fun e=>absurd e (by decide),fun e=>absurd e (by decide),fun e=>absurd e (by decide),fun e=>absurd e (by decide),fun e=>absurd e (by decide),fun e=>absurd e (by decide),fun e=>absurd e (by decide),fun e=>absurd e (by decide),fun e=>absurd e (by decide)⟩⟩
  ·have d3:=hdep _ rfl ⟨3,.data⟩ (by simp) (by rfl)
   have d5:=hdep _ rfl ⟨5,.data⟩ (by simp) (by rfl)
   have g0:=(vals_getD (vs:=vs) (n:=63) (k:=10) (by decide)).trans (T.o3 d3)
   have g1:=(vals_getD (vs:=vs) (n:=63) (k:=12) (by decide)).trans (T.o5 d5)
   have HT:=hid T;clear hdep q0 y0 y1 m0 m1 m2 m3 m4 n0_ n1_ n2_ n3_ n4_ hi;clear hLi hnw T;have hbA:(a:Int)<(xn:Int):=by omega
   refine wpOp_step rfl fun K' hK=>?_
   go_simp
   exact hK _ _ ⟨fun j=>if j=13 then(.pointer (some ⟨gb,go_+a*5,none⟩)) else vs j,qa,qb,congrArg (fun z=>(⟨z,[]⟩:Go.Act)) (vals_set _ _ _ _),HT.out.slot (by decide) (i:=6) (by decide) rfl ⟨fun e=>absurd e (by decide),fun e=>absurd e (by decide),fun e=>absurd e (by decide),fun e=>absurd e (by decide),fun e=>absurd e (by decide),fun e=>absurd e (by decide),fun _=>rfl,fun e=>absurd e (by decide),fun e=>absurd e (by decide),fun e=>absurd e (by decide),fun e=>absurd e (by decide),fun e=>absurd e (by decide),fun e=>absurd e (by decide),fun e=>absurd e (by decide),fun e=>absurd e (by decide),fun e=>absurd e (by decide)⟩⟩
  ·have d6:=hdep _ rfl ⟨6,.data⟩ (by simp) (by rfl)
   have g0:=(vals_getD (vs:=vs) (n:=63) (k:=13) (by decide)).trans (T.o6 d6)
   have HT:=hid T;clear hdep q0 y0 y1 n0_ n1_ n2_ n3_ n4_ hi;clear hLi hnw T;refine wpOp_step rfl fun K' hK=>?_
   go_simp
   exact hK _ _ ⟨fun j=>if j=14 then(.agg (ndC (nd x.g a) VA vc PA pc)) else vs j,qa,qb,congrArg (fun z=>(⟨z,[]⟩:Go.Act)) (vals_set _ _ _ _),HT.out.slot (by decide) (i:=7) (by decide) rfl ⟨fun e=>absurd e (by decide),fun e=>absurd e (by decide),fun e=>absurd e (by decide),fun e=>absurd e (by decide),fun e=>absurd e (by decide),fun e=>absurd e (by decide),fun e=>absurd e (by decide),fun _=>rfl,fun e=>absurd e (by decide),fun e=>absurd e (by decide),fun e=>absurd e (by decide),fun e=>absurd e (by decide),fun e=>absurd e (by decide),fun e=>absurd e (by decide),fun e=>absurd e (by decide),fun e=>absurd e (by decide)⟩⟩
  ·have g0:=(vals_getD (vs:=vs) (n:=63) (k:=0) (by decide)).trans (T.v0)
   have HT:=hid T;clear hdep q0 y0 y1 m0 m1 m2 m3 m4 n0_ n1_ n2_ n3_ n4_ hi;clear hLi hnw T;refine wpOp_step rfl fun K' hK=>?_
   go_simp
   exact hK _ _ ⟨fun j=>if j=15 then(.pointer (some ⟨y.rel,0,none⟩)) else vs j,qa,qb,congrArg (fun z=>(⟨z,[]⟩:Go.Act)) (vals_set _ _ _ _),HT.out.slot (by decide) (i:=8) (by decide) rfl ⟨fun e=>absurd e (by decide),fun e=>absurd e (by decide),fun e=>absurd e (by decide),fun e=>absurd e (by decide),fun e=>absurd e (by decide),fun e=>absurd e (by decide),fun e=>absurd e (by decide),fun e=>absurd e (by decide),fun _=>rfl,fun e=>absurd e (by decide),fun e=>absurd e (by decide),fun e=>absurd e (by decide),fun e=>absurd e (by decide),fun e=>absurd e (by decide),fun e=>absurd e (by decide),fun e=>absurd e (by decide)⟩⟩
  ·have d8:=hdep _ rfl ⟨8,.data⟩ (by simp) (by rfl)
   have g0:=(vals_getD (vs:=vs) (n:=63) (k:=15) (by decide)).trans (T.o8 d8)
   have HT:=hid T;clear hdep q0 y0 y1 m0 m1 m2 m3 m4 n0_ n1_ n2_ n3_ n4_ hi;clear hLi hnw T;refine wpOp_step rfl fun K' hK=>?_
   go_simp
   exact hK _ _ ⟨fun j=>if j=16 then(.pointer (some ⟨y.rel,0,none⟩)) else vs j,qa,qb,congrArg (fun z=>(⟨z,[]⟩:Go.Act)) (vals_set _ _ _ _),HT.out.slot (by decide) (i:=9) (by decide) rfl ⟨fun e=>absurd e (by decide),fun e=>absurd e (by decide),fun e=>absurd e (by decide),fun e=>absurd e (by decide),fun e=>absurd e (by decide),fun e=>absurd e (by decide),fun e=>absurd e (by decide),fun e=>absurd e (by decide),fun e=>absurd e (by decide),fun _=>rfl,fun e=>absurd e (by decide),fun e=>absurd e (by decide),fun e=>absurd e (by decide),fun e=>absurd e (by decide),fun e=>absurd e (by decide),fun e=>absurd e (by decide)⟩⟩
  ·have d9:=hdep _ rfl ⟨9,.data⟩ (by simp) (by rfl)
   have g0:=(vals_getD (vs:=vs) (n:=63) (k:=16) (by decide)).trans (T.o9 d9)
   have HT:=hid T;clear hdep q0 y0 y1 m0 m1 m2 m3 m4 n0_ n1_ n2_ n3_ n4_ hi;clear hLi hnw T;refine wpOp_step rfl fun K' hK=>?_
   go_simp
   exact hK _ _ ⟨fun j=>if j=17 then(.pointer (some ⟨y.rel,0,none⟩)) else vs j,qa,qb,congrArg (fun z=>(⟨z,[]⟩:Go.Act)) (vals_set _ _ _ _),HT.out.slot (by decide) (i:=10) (by decide) rfl ⟨fun e=>absurd e (by decide),fun e=>absurd e (by decide),fun e=>absurd e (by decide),fun e=>absurd e (by decide),fun e=>absurd e (by decide),fun e=>absurd e (by decide),fun e=>absurd e (by decide),fun e=>absurd e (by decide),fun e=>absurd e (by decide),fun e=>absurd e (by decide),fun _=>rfl,fun e=>absurd e (by decide),fun e=>absurd e (by decide),fun e=>absurd e (by decide),fun e=>absurd e (by decide),fun e=>absurd e (by decide)⟩⟩
  ·have d10:=hdep _ rfl ⟨10,.data⟩ (by simp) (by rfl)
   have g0:=(vals_getD (vs:=vs) (n:=63) (k:=17) (by decide)).trans (T.o10 d10)
   have HT:=hid T;clear hdep y0 y1 m0 m1 m2 m3 m4 n0_ n1_ n2_ n3_ n4_ hi;clear hLi hnw T;refine wpOp_step rfl fun K' hK=>?_
   go_simp
   exact hK _ _ ⟨fun j=>if j=18 then(.slice (some ⟨gb,go_,none⟩) xn x.c) else vs j,qa,qb,congrArg (fun z=>(⟨z,[]⟩:Go.Act)) (vals_set _ _ _ _),HT.out.slot (by decide) (i:=11) (by decide) rfl ⟨fun e=>absurd e (by decide),fun e=>absurd e (by decide),fun e=>absurd e (by decide),fun e=>absurd e (by decide),fun e=>absurd e (by decide),fun e=>absurd e (by decide),fun e=>absurd e (by decide),fun e=>absurd e (by decide),fun e=>absurd e (by decide),fun e=>absurd e (by decide),fun e=>absurd e (by decide),fun _=>rfl,fun e=>absurd e (by decide),fun e=>absurd e (by decide),fun e=>absurd e (by decide),fun e=>absurd e (by decide)⟩⟩
  ·have g0:=(vals_getD (vs:=vs) (n:=63) (k:=3) (by decide)).trans (T.v3)
   have HT:=hid T;clear hdep q0 y0 y1 m0 m1 m2 m3 m4 n0_ n1_ n2_ n3_ n4_ hi;clear hLi hnw T;refine wpOp_step rfl fun K' hK=>?_
   go_simp
   exact hK _ _ ⟨fun j=>if j=19 then(.pointer (some ⟨wb,1,none⟩)) else vs j,qa,qb,congrArg (fun z=>(⟨z,[]⟩:Go.Act)) (vals_set _ _ _ _),HT.out.slot (by decide) (i:=12) (by decide) rfl ⟨fun e=>absurd e (by decide),fun e=>absurd e (by decide),fun e=>absurd e (by decide),fun e=>absurd e (by decide),fun e=>absurd e (by decide),fun e=>absurd e (by decide),fun e=>absurd e (by decide),fun e=>absurd e (by decide),fun e=>absurd e (by decide),fun e=>absurd e (by decide),fun e=>absurd e (by decide),fun e=>absurd e (by decide),fun _=>rfl,fun e=>absurd e (by decide),fun e=>absurd e (by decide),fun e=>absurd e (by decide)⟩⟩
  ·have d12:=hdep _ rfl ⟨12,.data⟩ (by simp) (by rfl)
   have g0:=(vals_getD (vs:=vs) (n:=63) (k:=19) (by decide)).trans (T.o12 d12)
   have HT:=hid T;clear hdep q0 y0 m0 m1 m2 m3 m4 n0_ n1_ n2_ n3_ n4_ hi;clear hLi hnw T;refine wpOp_step rfl fun K' hK=>?_
   go_simp
   exact hK _ _ ⟨fun j=>if j=20 then(.int .i64 (b:Int)) else vs j,qa,qb,congrArg (fun z=>(⟨z,[]⟩:Go.Act)) (vals_set _ _ _ _),HT.out.slot (by decide) (i:=13) (by decide) rfl ⟨fun e=>absurd e (by decide),fun e=>absurd e (by decide),fun e=>absurd e (by decide),fun e=>absurd e (by decide),fun e=>absurd e (by decide),fun e=>absurd e (by decide),fun e=>absurd e (by decide),fun e=>absurd e (by decide),fun e=>absurd e (by decide),fun e=>absurd e (by decide),fun e=>absurd e (by decide),fun e=>absurd e (by decide),fun e=>absurd e (by decide),fun _=>rfl,fun e=>absurd e (by decide),fun e=>absurd e (by decide)⟩⟩
  ·have d11:=hdep _ rfl ⟨11,.data⟩ (by simp) (by rfl)
   have d13:=hdep _ rfl ⟨13,.data⟩ (by simp) (by rfl)
   have g0:=(vals_getD (vs:=vs) (n:=63) (k:=18) (by decide)).trans (T.o11 d11)
   have g1:=(vals_getD (vs:=vs) (n:=63) (k:=20) (by decide)).trans (T.o13 d13)
   have HT:=hid T;clear hdep q0 y0 y1 m0 m1 m2 m3 m4 n0_ n1_ n2_ n3_ n4_ hi;clear hLi hnw T;have hbB:(b:Int)<(xn:Int):=by omega
   refine wpOp_step rfl fun K' hK=>?_
   go_simp
   exact hK _ _ ⟨fun j=>if j=21 then(.pointer (some ⟨gb,go_+b*5,none⟩)) else vs j,qa,qb,congrArg (fun z=>(⟨z,[]⟩:Go.Act)) (vals_set _ _ _ _),HT.out.slot (by decide) (i:=14) (by decide) rfl ⟨fun e=>absurd e (by decide),fun e=>absurd e (by decide),fun e=>absurd e (by decide),fun e=>absurd e (by decide),fun e=>absurd e (by decide),fun e=>absurd e (by decide),fun e=>absurd e (by decide),fun e=>absurd e (by decide),fun e=>absurd e (by decide),fun e=>absurd e (by decide),fun e=>absurd e (by decide),fun e=>absurd e (by decide),fun e=>absurd e (by decide),fun e=>absurd e (by decide),fun _=>rfl,fun e=>absurd e (by decide)⟩⟩
  ·have d14:=hdep _ rfl ⟨14,.data⟩ (by simp) (by rfl)
   have g0:=(vals_getD (vs:=vs) (n:=63) (k:=21) (by decide)).trans (T.o14 d14)
   have HT:=hid T;clear hdep q0 y0 y1 m0 m1 m2 m3 m4 hi;clear hLi hnw T;refine wpOp_step rfl fun K' hK=>?_
   go_simp
   exact hK _ _ ⟨fun j=>if j=22 then(.agg (ndC (nd x.g b) VB vd PB pd)) else vs j,qa,qb,congrArg (fun z=>(⟨z,[]⟩:Go.Act)) (vals_set _ _ _ _),HT.out.slot (by decide) (i:=15) (by decide) rfl ⟨fun e=>absurd e (by decide),fun e=>absurd e (by decide),fun e=>absurd e (by decide),fun e=>absurd e (by decide),fun e=>absurd e (by decide),fun e=>absurd e (by decide),fun e=>absurd e (by decide),fun e=>absurd e (by decide),fun e=>absurd e (by decide),fun e=>absurd e (by decide),fun e=>absurd e (by decide),fun e=>absurd e (by decide),fun e=>absurd e (by decide),fun e=>absurd e (by decide),fun e=>absurd e (by decide),fun _=>rfl⟩⟩
  ·have HT:=hid T;clear hdep q0 y0 y1 m0 m1 m2 m3 m4 n0_ n1_ n2_ n3_ n4_ hi;have HLI:=hid hLi;have HNW:=hid hnw;clear hLi hnw T;refine wpOp_step rfl fun K' hK=>?_
   go_simp
   exact hK _ _ ⟨fun j=>if j=5 then .pointer (some ⟨w'.heap.size,0,none⟩) else vs j,w'.heap.size,qb,congrArg (fun z=>(⟨z,[]⟩:Go.Act)) (vals_set _ _ _ _),HT.out.boxA (by decide) HNW.out HLI.out⟩
  ·have HT:=hid T;clear hdep q0 y0 y1 m0 m1 m2 m3 m4 n0_ n1_ n2_ n3_ n4_ hi;have HLI:=hid hLi;have HNW:=hid hnw;clear hLi hnw T;refine wpOp_step rfl fun K' hK=>?_
   go_simp
   exact hK _ _ ⟨fun j=>if j=6 then .pointer (some ⟨w'.heap.size,0,none⟩) else vs j,qa,w'.heap.size,congrArg (fun z=>(⟨z,[]⟩:Go.Act)) (vals_set _ _ _ _),HT.out.boxB (by decide) HNW.out HLI.out⟩
  ·have d16:=hdep _ rfl ⟨16,.data⟩ (by simp) (by rfl)
   have d7:=hdep _ rfl ⟨7,.data⟩ (by simp) (by rfl)
   have g0:=(vals_getD (vs:=vs) (n:=63) (k:=5) (by decide)).trans ((T.o16 d16).1)
   have g1:=(vals_getD (vs:=vs) (n:=63) (k:=14) (by decide)).trans (T.o7 d7)
   have HT:=hid T;clear hdep q0 y0 y1 m0 m1 m2 m3 m4 n0_ n1_ n2_ n3_ n4_ hi;have hblk:=(T.o16 d16).2.2.2;rw[if_neg (by rw[hLi];simp)] at hblk
   have HNW:=hid hnw;have HD:=hid d16;have r0:=hblk.cell 0;have s0:=hblk.frozen 0;have r1:=hblk.cell 1;have s1:=hblk.frozen 1;have r2:=hblk.cell 2;have s2:=hblk.frozen 2;have r3:=hblk.cell 3;have s3:=hblk.frozen 3;have r4:=hblk.cell 4;have s4:=hblk.frozen 4;simp[zeroC] at r0 r1 r2 r3 r4;have HBK:=hid hblk;clear hLi hnw T hblk d16 d7;have hnd:ndC (nd x.g a) VA vc PA pc = #[.int .i64 (nd x.g a).kind,.int .i64 (nd x.g a).num,.string (nd x.g a).nm,.slice VA (nd x.g a).keys.length vc,.slice PA (nd x.g a).l.length pc]:=rfl;refine wpOp_step rfl fun K' hK=>?_
   go_simp
   exact hK _ _ ⟨vs,qa,qb,rfl,HT.out.putA HNW.out HD.out (into5 _ _ _ _ _ HBK.out)⟩
  ·have d17:=hdep _ rfl ⟨17,.data⟩ (by simp) (by rfl)
   have d15:=hdep _ rfl ⟨15,.data⟩ (by simp) (by rfl)
   have g0:=(vals_getD (vs:=vs) (n:=63) (k:=6) (by decide)).trans ((T.o17 d17).1)
   have g1:=(vals_getD (vs:=vs) (n:=63) (k:=22) (by decide)).trans (T.o15 d15)
   have HT:=hid T;clear hdep q0 y0 y1 m0 m1 m2 m3 m4 n0_ n1_ n2_ n3_ n4_ hi;have hblk:=(T.o17 d17).2.2.2;rw[if_neg (by rw[hLi];simp)] at hblk
   have HNW:=hid hnw;have HD:=hid d17;have r0:=hblk.cell 0;have s0:=hblk.frozen 0;have r1:=hblk.cell 1;have s1:=hblk.frozen 1;have r2:=hblk.cell 2;have s2:=hblk.frozen 2;have r3:=hblk.cell 3;have s3:=hblk.frozen 3;have r4:=hblk.cell 4;have s4:=hblk.frozen 4;simp[zeroC] at r0 r1 r2 r3 r4;have HBK:=hid hblk;clear hLi hnw T hblk d17 d15;have hnd:ndC (nd x.g b) VB vd PB pd = #[.int .i64 (nd x.g b).kind,.int .i64 (nd x.g b).num,.string (nd x.g b).nm,.slice VB (nd x.g b).keys.length vd,.slice PB (nd x.g b).l.length pd]:=rfl;refine wpOp_step rfl fun K' hK=>?_
   go_simp
   exact hK _ _ ⟨vs,qa,qb,rfl,HT.out.putB HNW.out HD.out (into5 _ _ _ _ _ HBK.out)⟩
 case init=>exact⟨fun k=>(#[.pointer (some ⟨y.rel,0,none⟩),.agg #[.int .i64 (a:Int),.int .i64 (b:Int)],undef,.pointer (some ⟨wb,0,none⟩),.bool false]:Array Value).getD k undef,0,0,rfl,⟨Below.refl _ _,rfl,rfl,rfl,(fun h=>by cases h),(fun h=>by cases h),(fun h=>by cases h),(fun h=>by cases h),(fun h=>by cases h),(fun h=>by cases h),(fun h=>by cases h),(fun h=>by cases h),(fun h=>by cases h),(fun h=>by cases h),(fun h=>by cases h),(fun h=>by cases h),(fun h=>by cases h),(fun h=>by cases h),(fun h=>by cases h),(fun h=>by cases h),(fun h=>by cases h),(fun h=>by cases h),(fun h=>by cases h),(fun h=>by cases h),(fun h=>by cases h)⟩⟩
 case done =>
  intro L a' w2 hall hI;obtain⟨vs,q1,q2,rfl,T⟩:=hI;have L16:L 16=true:=hall 16 (by decide)
  have L17:L 17=true:=hall 17 (by decide)
  have L18:L 18=true:=hall 18 (by decide)
  have L19:L 19=true:=hall 19 (by decide)
  obtain⟨e5,hq1,-,hba⟩:=T.o16 L16;obtain⟨e6,hq2,-,hbb⟩:=T.o17 L17;rw[if_pos L18] at hba;rw[if_pos L19] at hbb;have hbw:Below w1.heap.size w1 w2:=by
   have:=T.bel;rw[← HN0.out] at this;exact⟨this.os,this.tape,this.output,this.size,this.block⟩
  have e0:=T.v0;have e3:=T.v3;have e4:=T.v4;have BA:=hid hba;have BB:=hid hbb;have H2:=hid (H1.out.same hbw);have HZ2:=hid (HZ.out.below hbw HZ.out.lt);have HBE:=hid (HB0.out.trans (hbw.mono HB0.out.size));have HN1:Hid (¬ Own y q1):=hid (fun⟨X,hX⟩=>by have:=(H1.out.lt X _ hX).2;have:=HN0.out;omega)
  have HN2:Hid (¬ Own y q2):=hid (fun⟨X,hX⟩=>by have:=(H1.out.lt X _ hX).2;have:=HN0.out;omega)
  have HLA2:=hid (HLA.out.mono (hbw.mono H1.out.size));have HLB2:=hid (HLB.out.mono (hbw.mono H1.out.size));have HAL:Hid (a<x.n):=hid HAB.out.1;have HBL:Hid (b<x.n):=hid HAB.out.2;have hv:vals vs 63 = #[vs 0,vs 1,vs 2,vs 3,vs 4,vs 5,vs 6,vs 7,vs 8,vs 9,vs 10,vs 11,vs 12,vs 13,vs 14,vs 15,vs 16,vs 17,vs 18,vs 19,vs 20,vs 21,vs 22,vs 23,vs 24,vs 25,vs 26,vs 27,vs 28,vs 29,vs 30,vs 31,vs 32,vs 33,vs 34,vs 35,vs 36,vs 37,vs 38,vs 39,vs 40,vs 41,vs 42,vs 43,vs 44,vs 45,vs 46,vs 47,vs 48,vs 49,vs 50,vs 51,vs 52,vs 53,vs 54,vs 55,vs 56,vs 57,vs 58,vs 59,vs 60,vs 61,vs 62]:=rfl;rw[hv,e0,e3,e4,e5,e6];clear T hall hba hbb e0 e3 e4 e5 e6 hv L16 L17 L18 L19 hbw hq1 hq2 HN0 H1 HZ HLA HLB HAB HB0 hrl hzl hgl hlen ha hb z0 z1 c0 k0 l0 k1 l1 k2 l2 k3 l3 k4 l4;have z0:=HZ2.out.cell 0;have z1:=HZ2.out.cell 1;have c1:=H2.out.c1;have a0:=BA.out.cell 0;have a1:=BA.out.cell 1;have a2:=BA.out.cell 2;have a3:=BA.out.cell 3;have a4:=BA.out.cell 4;have b0:=BB.out.cell 0;have b1:=BB.out.cell 1;have b2:=BB.out.cell 2;have b3:=BB.out.cell 3;have b4:=BB.out.cell 4;simp[ndC] at z0 z1 a0 a1 a2 a3 a4 b0 b1 b2 b3 b4;clear z0 z1 a1 a3 a4 b1 b3 b4 BA BB H2 HZ2 HN1 HN2 HLA2 HLB2 HAL HBL HLEN HNO;by_cases g1:(nd x.g a).kind=8
  ·have tg1:((nd x.g a).kind==8)=true:=by simp[g1]
   have hU:u=false:=by rw[← HU.out];exact unlike_un (.inl g1)
   subst hU;go_wp2_with fail
   go_returns
   exact⟨rfl,HBE.out⟩
  ·have tg1:((nd x.g a).kind==8)=false:=by simp[g1]
   have G1:=hid g1;clear g1;by_cases g2:(nd x.g a).kind=9
   ·have tg2:((nd x.g a).kind==9)=true:=by simp[g2]
    have hU:u=false:=by rw[← HU.out];exact unlike_un (.inr (.inl g2))
    subst hU;go_wp2_with fail
    go_returns
    exact⟨rfl,HBE.out⟩
   ·have tg2:((nd x.g a).kind==9)=false:=by simp[g2]
    have G2:=hid g2;clear g2;by_cases g3:(nd x.g b).kind=8
    ·have tg3:((nd x.g b).kind==8)=true:=by simp[g3]
     have hU:u=false:=by rw[← HU.out];exact unlike_un (.inr (.inr g3))
     subst hU;go_wp2_with fail
     go_returns
     exact⟨rfl,HBE.out⟩
    ·have tg3:((nd x.g b).kind==8)=false:=by simp[g3]
     have G3:=hid g3;clear g3;cases hst:x.st
     ·rw[hst] at c1;by_cases g4:(nd x.g a).kind=1
      ·have tg4:((nd x.g a).kind==1)=true:=by simp[g4]
       have hU:u=false:=by rw[← HU.out];exact unlike_dyn (fun e=>e.elim G1.out fun e=>e.elim G2.out G3.out) ⟨hst,.inl g4⟩
       subst hU;go_wp2_with fail
       go_returns
       exact⟨rfl,HBE.out⟩
      ·have tg4:((nd x.g a).kind==1)=false:=by simp[g4]
       have G4:=hid g4;clear g4;by_cases g5:(nd x.g b).kind=1
       ·have tg5:((nd x.g b).kind==1)=true:=by simp[g5]
        have hU:u=false:=by rw[← HU.out];exact unlike_dyn (fun e=>e.elim G1.out fun e=>e.elim G2.out G3.out) ⟨hst,.inr g5⟩
        subst hU;go_wp2_with fail
        go_returns
        exact⟨rfl,HBE.out⟩
       ·have tg5:((nd x.g b).kind==1)=false:=by simp[g5]
        have G5:=hid g5;clear g5;have GD:Hid (¬(x.st=false∧((nd x.g a).kind=1∨(nd x.g b).kind=1))):=hid (fun e=>e.2.elim G4.out G5.out)
        have hU0:u=decide ((nd x.g a).kind≠(nd x.g b).kind∨(nd x.g a).nm≠(nd x.g b).nm):=by rw[← HU.out];exact unlike_cmp (fun e=>e.elim G1.out fun e=>e.elim G2.out G3.out) GD.out
        by_cases e1:(nd x.g a).kind=(nd x.g b).kind
        ·have t6:((nd x.g a).kind==(nd x.g b).kind)=true:=by simp[e1]
         have u6:((nd x.g a).kind != (nd x.g b).kind)=false:=by simp[e1]
         by_cases e2:(nd x.g a).nm=(nd x.g b).nm
         ·have t7:((nd x.g a).nm.toList==(nd x.g b).nm.toList)=true:=by simp[e2]
          have u7:((nd x.g a).nm.toList != (nd x.g b).nm.toList)=false:=by simp[e2]
          have hU:u=false:=by rw[hU0];exact decide_eq_false (fun h=>h.elim (fun h=>h e1) (fun h=>h e2))
          subst hU;clear hU0 e1 e2;go_wp2_with fail
          go_returns
          exact⟨rfl,HBE.out⟩
         ·have t7:((nd x.g a).nm.toList==(nd x.g b).nm.toList)=false:=by
           rw[beq_eq_false_iff_ne];exact fun h=>e2 (ba_toList_inj h)
          have u7:((nd x.g a).nm.toList != (nd x.g b).nm.toList)=true:=by
           rw[bne_iff_ne];exact fun h=>e2 (ba_toList_inj h)
          have hU:u=true:=by rw[hU0];exact decide_eq_true (.inr e2)
          subst hU;clear hU0 e1 e2;go_wp2_with fail
          go_returns
          exact⟨rfl,HBE.out⟩
        ·have t6:((nd x.g a).kind==(nd x.g b).kind)=false:=by simp[e1]
         have u6:((nd x.g a).kind != (nd x.g b).kind)=true:=by simp[e1]
         have hU:u=true:=by rw[hU0];exact decide_eq_true (.inl e1)
         subst hU;clear hU0 e1;go_wp2_with fail
         go_returns
         exact⟨rfl,HBE.out⟩
     ·rw[hst] at c1;have GD:Hid (¬(x.st=false∧((nd x.g a).kind=1∨(nd x.g b).kind=1))):=hid (fun e=>by have:=hst.symm.trans e.1;cases this)
      clear hst;have hU0:u=decide ((nd x.g a).kind≠(nd x.g b).kind∨(nd x.g a).nm≠(nd x.g b).nm):=by rw[← HU.out];exact unlike_cmp (fun e=>e.elim G1.out fun e=>e.elim G2.out G3.out) GD.out
      by_cases e1:(nd x.g a).kind=(nd x.g b).kind
      ·have t6:((nd x.g a).kind==(nd x.g b).kind)=true:=by simp[e1]
       have u6:((nd x.g a).kind != (nd x.g b).kind)=false:=by simp[e1]
       by_cases e2:(nd x.g a).nm=(nd x.g b).nm
       ·have t7:((nd x.g a).nm.toList==(nd x.g b).nm.toList)=true:=by simp[e2]
        have u7:((nd x.g a).nm.toList != (nd x.g b).nm.toList)=false:=by simp[e2]
        have hU:u=false:=by rw[hU0];exact decide_eq_false (fun h=>h.elim (fun h=>h e1) (fun h=>h e2))
        subst hU;clear hU0 e1 e2;go_wp2_with fail
        go_returns
        exact⟨rfl,HBE.out⟩
       ·have t7:((nd x.g a).nm.toList==(nd x.g b).nm.toList)=false:=by
         rw[beq_eq_false_iff_ne];exact fun h=>e2 (ba_toList_inj h)
        have u7:((nd x.g a).nm.toList != (nd x.g b).nm.toList)=true:=by
         rw[bne_iff_ne];exact fun h=>e2 (ba_toList_inj h)
        have hU:u=true:=by rw[hU0];exact decide_eq_true (.inr e2)
        subst hU;clear hU0 e1 e2;go_wp2_with fail
        go_returns
        exact⟨rfl,HBE.out⟩
      ·have t6:((nd x.g a).kind==(nd x.g b).kind)=false:=by simp[e1]
       have u6:((nd x.g a).kind != (nd x.g b).kind)=true:=by simp[e1]
       have hU:u=true:=by rw[hU0];exact decide_eq_true (.inl e1)
       subst hU;clear hU0 e1;go_wp2_with fail
       go_returns
       exact⟨rfl,HBE.out⟩
end SM
end
section
open Lib (hid)
open Go.RowKit
namespace SM
open CM (nd kids)
def idxA {α:Type}(p:α→Bool)(l:List α):Int:=match l.findIdx? p with | some k=>(k:Int) | none => -1
theorem idxA_none {α:Type}{p:α→Bool}{l:List α}(h:l.any p=false):idxA p l = -1:=by
 unfold idxA;rw[List.findIdx?_eq_none_iff.2 fun x hx=>by
  cases hp:p x
  ·rfl
  ·rw[List.any_eq_true.2 ⟨x,hx,hp⟩] at h;cases h]
theorem idxA_at {α:Type}{p:α→Bool}{l:List α}{k:Nat}{x:α}(h:(l.take k).any p=false)(hx:l[k]? = some x)(hp:p x=true):idxA p l=(k:Int):=by
 unfold idxA;rw[List.findIdx?_eq_some_iff_getElem.2 ⟨(List.getElem?_eq_some_iff.1 hx).1,by rw[(List.getElem?_eq_some_iff.1 hx).2];exact hp,fun j hj=>by
  have hl:=(List.getElem?_eq_some_iff.1 hx).1;cases hq:p l[j]
  ·simp
  ·exfalso
   rw[List.any_eq_true.2 ⟨l[j],List.mem_take_iff_getElem.2 ⟨j,by omega,rfl⟩,hq⟩] at h
   cases h⟩]
theorem idxA_ge {α:Type}{p:α→Bool}{l:List α}:decide (0≤idxA p l)=l.any p:=by
 cases h:l.any p
 ·rw[idxA_none h];rfl
 ·obtain⟨x,hx,hp⟩:=List.any_eq_true.1 h;unfold idxA;cases hf:l.findIdx? p with
  | none=>rw[List.findIdx?_eq_none_iff] at hf;rw[hf x hx] at hp;cases hp
  | some k=>simp
def unl (x:Cx)(p:Pr):Bool:=unlike x.g x.st p.1 p.2
set_option maxRecDepth 100000 in
set_option maxHeartbeats 4000000 in
theorem index_unlike (x:Cx)(y:Lay)(S:St)(rel:Nat)(A:Option Addr)(c:Nat)(l:List Pr)(w:World)(h:RelW x w y S)(hrel:y.rel=rel)(hin:∀ p∈l,p.1<x.n∧p.2<x.n)(hl:l.length≤100000)
  (hr:∀ w',Below w.heap.size w w'→RdV w' A (l.flatMap prC)) :
  Calls Tryz.prog 166 #[.slice A l.length c,.func (.func 128) #[.pointer (some ⟨rel,0,none⟩)] #[]] w fun r w'=>r=.returned (.int .i64 (idxA (unl x) l))∧Below w.heap.size w w':=by
 have HR:=hid hr;have H:=hid h;have HIN:=hid hin;have HREL:=hid hrel;clear hr h hin hrel;obtain⟨n,hln⟩:∃ n,l.length=n:=⟨_,rfl⟩;rw[hln] at hl ⊢;have HLN:=hid hln;clear hln;go_enter Tryz.func166,Tryz.ntmps166
 go_wp2_with fail
 go_loopw [8] (fun u8 wr=>∃ (k:Nat),k≤n∧u8=.int .i64 (k:Int)∧Hid (Below w.heap.size w wr)∧Hid ((l.take k).any (unl x)=false)) (fun u8 _=>n-(intOf u8).toNat)
 case atStart=>exact⟨0,Nat.zero_le _,rfl,hid (Below.refl _ _),hid (by simp)⟩
 case round =>
  obtain⟨k,hk,rfl,HB,HP⟩:=hrel;by_cases hlt:k<n
  ·obtain⟨p,hx⟩:∃ p,l[k]? = some p:=⟨_,List.getElem?_eq_getElem (by have:=HLN.out;omega)⟩
   obtain⟨b,o,hA,hcell⟩:=(HR.out wr HB.out).at_ (k:=2) (fun _=>rfl) (by decide) (by have:=HLN.out;omega)
   subst hA;have c0:=hcell k p hx 0 _ rfl;have c1:=hcell k p hx 1 _ rfl;simp only[Nat.add_zero] at c0;rw[← Nat.add_assoc] at c1;have HX:=hid hx;have hki:(k:Int)<(n:Int):=by omega
   obtain⟨i1,i2⟩:=HIN.out p (List.mem_of_getElem? hx);have U:=unlike_any x y S p.1 p.2 rel wr (H.out.same HB.out) HREL.out i1 i2;clear hcell hx i1 i2;go_wp2_with fail
   refine U.mono ?_;rintro r w1 ⟨rfl,hb1⟩;have HB1:=hid (HB.out.trans (hb1.mono HB.out.size));clear hb1 U c0 c1;have hu:unlike x.g x.st p.1 p.2=unl x p:=rfl;rw[hu];cases hp:unl x p
   ·have HP2:=hid (take_any HP.out HX.out hp);clear hp hu;go_wp2_with fail
    go_roundw
    case rel=>exact⟨k+1,by omega,by go_num,HB1,HP2⟩
    case measure=>simp[intOf];omega
   ·have HQ:Hid (idxA (unl x) l=(k:Int)):=hid (idxA_at HP.out HX.out hp);clear hp hu;go_wp2_with fail
    go_returns
    exact⟨by rw[HQ.out];rfl,HB1.out⟩
  ·have hkn:k=n:=by omega
   subst hkn;have hki:¬((k:Int)<(k:Int)):=by omega
   have HQ:Hid (idxA (unl x) l = -1):=hid (idxA_none (by have:=HP.out;rwa [← HLN.out,List.take_length] at this))
   go_wp2_with fail
   go_returns
   exact⟨by rw[HQ.out];rfl,HB.out⟩
set_option maxRecDepth 100000 in
set_option maxHeartbeats 4000000 in
theorem contains_unlike (x:Cx)(y:Lay)(S:St)(rel:Nat)(A:Option Addr)(c:Nat)(l:List Pr)(w:World)(h:RelW x w y S)(hrel:y.rel=rel)(hin:∀ p∈l,p.1<x.n∧p.2<x.n)(hl:l.length≤100000)
  (hr:∀ w',Below w.heap.size w w'→RdV w' A (l.flatMap prC)) :
  Calls Tryz.prog 153 #[.slice A l.length c,.func (.func 128) #[.pointer (some ⟨rel,0,none⟩)] #[]] w fun r w'=>r=.returned (.bool (l.any (unl x)))∧Below w.heap.size w w':=by
 have I:=index_unlike x y S rel A c l w h hrel hin hl hr;have HG:=hid (idxA_ge (p:=unl x) (l:=l));clear h hrel hin hr;go_enter Tryz.func153,Tryz.ntmps153
 go_wp2_with fail
 refine I.mono ?_;rintro r w1 ⟨rfl,hb⟩;have HB:=hid hb;clear hb I;obtain⟨z,hz⟩:∃ z,idxA (unl x) l=z:=⟨_,rfl⟩;have hg:=HG.out;rw[hz] at hg ⊢;cases ha:l.any (unl x)
 ·rw[ha] at hg;have hg2:¬ 0≤z:=by simpa using hg
  have HA:=hid ha;have HGZ:=hid hg;clear ha hg hz;go_wp2_with fail
  go_returns
  exact⟨by first | (rw[HA.out];rfl) | (rw[HA.out,← HGZ.out];rfl),HB.out⟩
 ·rw[ha] at hg;have hg2:0≤z:=by simpa using hg
  have HA:=hid ha;have HGZ:=hid hg;clear ha hg hz;go_wp2_with fail
  go_returns
  exact⟨by first | (rw[HA.out];rfl) | (rw[HA.out,← HGZ.out];rfl),HB.out⟩
end SM
end
end Go.Proofs.YtfigdflcoaepaaaGreatDoor
