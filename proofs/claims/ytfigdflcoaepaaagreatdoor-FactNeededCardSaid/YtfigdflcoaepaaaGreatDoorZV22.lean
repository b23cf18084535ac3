/- Contracts and plain facts that the theorem rests on: GBring. -/
import Derived.Test.YtfigdflcoaepaaaGreatDoorZV0
import Derived.IntWalk
set_option linter.unusedSimpArgs false
set_option linter.unusedVariables false
namespace Go.Proofs.YtfigdflcoaepaaaGreatDoor
section
open Go.RowKit
def bringG (i n:Int):Int:=i % n
theorem tmod_neg_bounds (i n:Int)(hn:0<n)(h:i<0) : -n<i.tmod n∧i.tmod n≤0:=by
 have h1:=Int.tmod_nonneg (a := -i) n (by omega)
 have h2:=Int.tmod_lt_of_pos (a := -i) hn;rw[Int.neg_tmod] at h1 h2;omega
theorem emod_of_tmod_neg (i n:Int)(hn:0<n)(h:i<0):i % n=if i.tmod n<0 then i.tmod n+n else i.tmod n:=by
 have hb:=tmod_neg_bounds i n hn h;have hd:=Int.mul_tdiv_add_tmod i n;have e:i % n=(i.tmod n) % n:=by
  conv=>lhs;rw[← hd,Int.add_comm,Int.add_mul_emod_self_left]
 rw[e];split
 ·rw[← Int.add_emod_right,Int.emod_eq_of_lt (by omega) (by omega)]
 ·rw[Int.emod_eq_of_lt (by omega) (by omega)]
theorem bringG_nat (i n:Int)(hn:0<n):0≤bringG i n∧bringG i n<n:=⟨Int.emod_nonneg _ (by omega),Int.emod_lt_of_pos _ hn⟩
theorem bringG_any (i n:Int)(w:World)(hn:0<n)(hn2:n≤9223372036854775807) :
  Calls Tryz.prog 33 #[.int .i64 i,.int .i64 n] w fun e w'=>e=.returned (.int .i64 (bringG i n))∧w=w':=by
 by_cases h:0≤i
 ·have hb:0≤i % n:=Int.emod_nonneg _ (by omega)
  have hb1:i % n<n:=Int.emod_lt_of_pos _ hn;go_enter Tryz.func33,Tryz.ntmps33
  go_wp2
  go_ret
  exact⟨rfl,rfl⟩
 ·have hb:=tmod_neg_bounds i n hn (by omega)
  have he:=emod_of_tmod_neg i n hn (by omega)
  have hn0:(n==0)=false:=by simp;omega
  obtain⟨t,ht⟩:∃ t,t=i.tmod n:=⟨_,rfl⟩;have HE:Hid (i % n=if i.tmod n<0 then i.tmod n+n else i.tmod n):=he
  have HT:Hid (t=i.tmod n):=ht;by_cases hlt:i.tmod n<0
  all_goals
   clear he ht;go_enter Tryz.func33,Tryz.ntmps33
   go_wp2
   go_ret
   refine⟨?_,rfl⟩;unfold bringG;rw[HE.out]
  ·rw[if_pos hlt];rfl
  ·rw[if_neg (by omega)];rfl
end
end Go.Proofs.YtfigdflcoaepaaaGreatDoor
