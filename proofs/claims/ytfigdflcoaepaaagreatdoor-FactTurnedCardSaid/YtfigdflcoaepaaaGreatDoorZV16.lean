/- Contracts and plain facts that the theorem rests on: LCur. -/
import Derived.Test.YtfigdflcoaepaaaGreatDoorZV0
import Derived.Deep.QuietTactic
import Derived.BigQuiet
set_option linter.unusedSimpArgs false
set_option linter.unusedVariables false
namespace Go.Proofs.YtfigdflcoaepaaaGreatDoor
section
open Lib (hid)
open Go.RowKit
def chr (s:ByteArray)(k:Nat):Nat:=if h:k<s.size then s[k].toNat else 256
theorem chr_in {s:ByteArray}{k:Nat}(h:k<s.size):chr s k=s[k].toNat:=dif_pos h
theorem chr_end {s:ByteArray}{k:Nat}(h:¬ k<s.size):chr s k=256:=dif_neg h
def inR (f l c:Nat):Bool:=decide (f≤c)&&decide (c≤l)
def isC (b c:Nat):Bool:=inR b b c
def smallC (c:Nat):Bool:=inR 97 122 c
def digitC (c:Nat):Bool:=inR 48 57 c
def nameC (c:Nat):Bool:=smallC c || digitC c || isC 95 c
structure Cur (w:World)(g:Nat)(s:ByteArray)(k:Nat):Prop where
 blk:Blk w g 161 #[.string s,.int .i64 (k:Int)]
 le:k≤s.size
 max:s.size≤maxLen
theorem Cur.drewN {w:World}{g k:Nat}{s:ByteArray}(h:Cur w g s k)(q:Nat):Cur (w.drewN q) g s k:=⟨h.blk,h.le,h.max⟩
theorem Cur.c0 {w:World}{g k:Nat}{s:ByteArray}(h:Cur w g s k):w.cell? ⟨g,0,none⟩=some (.string s):=by have:=h.blk.cell 0;simpa using this
theorem Cur.c1 {w:World}{g k:Nat}{s:ByteArray}(h:Cur w g s k):w.cell? ⟨g,1,none⟩=some (.int .i64 (k:Int)):=by have:=h.blk.cell 1;simpa using this
theorem Cur.f1 {w:World}{g k:Nat}{s:ByteArray}(h:Cur w g s k):w.frozen? ⟨g,1,none⟩=false:=h.blk.frozen 1
def endB (s:ByteArray)(k:Nat):Bool:=decide (k=s.size)
theorem ended_any (g:Nat)(s:ByteArray)(k:Nat)(w:World)(h:Cur w g s k) :
  Calls Tryz.prog 156 #[.pointer (some ⟨g,0,none⟩)] w fun e w'=>e=.returned (.bool (endB s k))∧∃ q,w'=w.drewN q:=by
 have c0:=h.c0;have c1:=h.c1;by_cases hk:k=s.size
 ·have hb:((k:Int)==(s.size:Int))=true:=by simp;omega
  have HE:Hid (endB s k=true):=decide_eq_true hk;clear h hk;go_enter Tryz.func156,Tryz.ntmps156
  go_wp2
  go_quiet (fail)
  go_wp2
  go_ret
  exact⟨by rw[HE.out];rfl,_,rfl⟩
 ·have hb:((k:Int)==(s.size:Int))=false:=by simp;omega
  have HE:Hid (endB s k=false):=decide_eq_false hk;clear h hk;go_enter Tryz.func156,Tryz.ntmps156
  go_wp2
  go_quiet (fail)
  go_wp2
  go_ret
  exact⟨by rw[HE.out];rfl,_,rfl⟩
theorem endB_false {s:ByteArray}{k:Nat}(h:k<s.size):endB s k=false:=decide_eq_false (by omega)
theorem endB_true {s:ByteArray}{k:Nat}(h:k≤s.size)(h2:¬ k<s.size):endB s k=true:=decide_eq_true (by omega)
set_option maxHeartbeats 1000000 in
theorem within_any (f l:Nat)(hl:l<256)(hf:f<256)(g:Nat)(s:ByteArray)(k:Nat)(w:World)(h:Cur w g s k) :
  Calls Tryz.prog 157 #[.pointer (some ⟨g,0,none⟩),.int .u8 (f:Int),.int .u8 (l:Int)] w fun e w'=>e=.returned (.bool (inR f l (chr s k)))∧∃ q,w'=w.drewN q:=by
 have c0:=h.c0;have c1:=h.c1;have H:=hid h;by_cases hk:k<s.size
 ·have he:=endB_false hk;have hc:=chr_in hk;by_cases hf1:f≤s[k].toNat
  ·have hfb:decide ((f:Int)≤(s[k].toNat:Int))=true:=by simp;omega
   have hfb2:decide (f≤s[k].toNat)=true:=by simp;omega
   by_cases hl1:s[k].toNat≤l
   ·have hlb:decide ((s[k].toNat:Int)≤(l:Int))=true:=by simp;omega
    have hlb2:decide (s[k].toNat≤l)=true:=by simp;omega
    have HR:Hid (inR f l (chr s k)=true):=by show _=_;rw[hc,inR,hfb2,hlb2];rfl
    clear h hc hf1 hl1;go_enter Tryz.func157,Tryz.ntmps157
    go_wp2
    go_quiet ((go_at_call 156;exact Calls.quiet_of (ended_any g s k _ (H.out.drewN _))))
    go_wp2
    go_ret
    exact⟨by rw[HR.out];rfl,_,rfl⟩
   ·have hlb:decide ((s[k].toNat:Int)≤(l:Int))=false:=by simp;omega
    have hlb2:decide (s[k].toNat≤l)=false:=by simp;omega
    have HR:Hid (inR f l (chr s k)=false):=by show _=_;rw[hc,inR,hfb2,hlb2];rfl
    clear h hc hf1 hl1;go_enter Tryz.func157,Tryz.ntmps157
    go_wp2
    go_quiet ((go_at_call 156;exact Calls.quiet_of (ended_any g s k _ (H.out.drewN _))))
    go_wp2
    go_ret
    exact⟨by rw[HR.out];rfl,_,rfl⟩
  ·have hfb:decide ((f:Int)≤(s[k].toNat:Int))=false:=by simp;omega
   have hfb2:decide (f≤s[k].toNat)=false:=by simp;omega
   have HR:Hid (inR f l (chr s k)=false):=by show _=_;rw[hc,inR,hfb2];rfl
   clear h hc hf1;go_enter Tryz.func157,Tryz.ntmps157
   go_wp2
   go_quiet ((go_at_call 156;exact Calls.quiet_of (ended_any g s k _ (H.out.drewN _))))
   go_wp2
   go_ret
   exact⟨by rw[HR.out];rfl,_,rfl⟩
 ·have he:=endB_true h.le hk;have HR:Hid (inR f l (chr s k)=false):=by
   show _=_
   rw[chr_end hk,inR,show decide (256≤l)=false from by simp;omega,Bool.and_false]
  clear h hk;go_enter Tryz.func157,Tryz.ntmps157
  go_wp2
  go_quiet ((go_at_call 156;exact Calls.quiet_of (ended_any g s k _ (H.out.drewN _))))
  go_wp2
  go_ret
  exact⟨by rw[HR.out];rfl,_,rfl⟩
theorem is_any (b:Nat)(hb:b<256)(g:Nat)(s:ByteArray)(k:Nat)(w:World)(h:Cur w g s k) :
  Calls Tryz.prog 159 #[.pointer (some ⟨g,0,none⟩),.int .u8 (b:Int)] w fun e w'=>e=.returned (.bool (isC b (chr s k)))∧∃ q,w'=w.drewN q:=by
 have H:=hid h;clear h;go_enter Tryz.func159,Tryz.ntmps159
 go_wp2_with fail
 refine(within_any b b hb hb g s k w H.out).mono ?_;rintro e w1 ⟨rfl,q,rfl⟩;go_wp2_with fail
 go_ret
 exact⟨rfl,q,rfl⟩
theorem small_any (g:Nat)(s:ByteArray)(k:Nat)(w:World)(h:Cur w g s k) :
  Calls Tryz.prog 140 #[.pointer (some ⟨g,0,none⟩)] w fun e w'=>e=.returned (.bool (smallC (chr s k)))∧∃ q,w'=w.drewN q:=by
 have H:=hid h;clear h;go_enter Tryz.func140,Tryz.ntmps140
 go_wp2_with fail
 refine(within_any 97 122 (by omega) (by omega) g s k w H.out).mono ?_
 rintro e w1 ⟨rfl,q,rfl⟩;go_wp2_with fail
 go_ret
 exact⟨rfl,q,rfl⟩
theorem digit_any (g:Nat)(s:ByteArray)(k:Nat)(w:World)(h:Cur w g s k) :
  Calls Tryz.prog 158 #[.pointer (some ⟨g,0,none⟩)] w fun e w'=>e=.returned (.bool (digitC (chr s k)))∧∃ q,w'=w.drewN q:=by
 have H:=hid h;clear h;go_enter Tryz.func158,Tryz.ntmps158
 go_wp2_with fail
 refine(within_any 48 57 (by omega) (by omega) g s k w H.out).mono ?_
 rintro e w1 ⟨rfl,q,rfl⟩;go_wp2_with fail
 go_ret
 exact⟨rfl,q,rfl⟩
theorem inName_any (g:Nat)(s:ByteArray)(k:Nat)(w:World)(h:Cur w g s k) :
  Calls Tryz.prog 141 #[.pointer (some ⟨g,0,none⟩)] w fun e w'=>e=.returned (.bool (nameC (chr s k)))∧∃ q,w'=w.drewN q:=by
 have H:=hid h;clear h;cases h1:smallC (chr s k)
 ·cases h2:digitC (chr s k)
  ·have HB:Hid (nameC (chr s k)=isC 95 (chr s k)):=by show _=_;rw[nameC,h1,h2];rfl
   go_enter Tryz.func141,Tryz.ntmps141
   go_wp2_with fail
   refine(small_any g s k w H.out).mono ?_;rintro e w1 ⟨rfl,q,rfl⟩;go_wp2_with fail
   refine(digit_any g s k _ (H.out.drewN _)).mono ?_;rintro e w1 ⟨rfl,q2,rfl⟩;go_wp2_with fail
   refine(is_any 95 (by omega) g s k _ (H.out.drewN _)).mono ?_
   rintro e w1 ⟨rfl,q3,rfl⟩;go_wp2_with fail
   go_ret
   exact⟨by rw[HB.out];rfl,_,rfl⟩
  ·have HB:Hid (nameC (chr s k)=true):=by show _=_;rw[nameC,h1,h2];rfl
   go_enter Tryz.func141,Tryz.ntmps141
   go_wp2_with fail
   refine(small_any g s k w H.out).mono ?_;rintro e w1 ⟨rfl,q,rfl⟩;go_wp2_with fail
   refine(digit_any g s k _ (H.out.drewN _)).mono ?_;rintro e w1 ⟨rfl,q2,rfl⟩;go_wp2_with fail
   go_ret
   exact⟨by rw[HB.out];rfl,_,rfl⟩
 ·have HB:Hid (nameC (chr s k)=true):=by show _=_;rw[nameC,h1];rfl
  go_enter Tryz.func141,Tryz.ntmps141
  go_wp2_with fail
  refine(small_any g s k w H.out).mono ?_;rintro e w1 ⟨rfl,q,rfl⟩;go_wp2_with fail
  go_ret
  exact⟨by rw[HB.out];rfl,q,rfl⟩
def stop (p:Nat→Bool)(s:ByteArray)(k:Nat):Nat:=k+((s.data.toList.drop k).takeWhile fun c=>p c.toNat).length
theorem drop_cons (s:ByteArray){k:Nat}(h:k<s.size):s.data.toList.drop k=s[k]::s.data.toList.drop (k+1):=by
 rw[List.drop_eq_getElem_cons (by simpa using h)];rfl
theorem stop_end (p:Nat→Bool)(s:ByteArray){k:Nat}(h:¬ k<s.size):stop p s k=k:=by
 unfold stop;rw[List.drop_of_length_le (by simpa using h)];rfl
theorem stop_no (p:Nat→Bool)(s:ByteArray){k:Nat}(h:p (chr s k)=false):stop p s k=k:=by
 by_cases hk:k<s.size
 ·unfold stop;rw[drop_cons s hk,List.takeWhile_cons,← chr_in hk,h];rfl
 ·exact stop_end p s hk
theorem stop_yes (p:Nat→Bool)(s:ByteArray){k:Nat}(hk:k<s.size)(h:p (chr s k)=true):stop p s k=stop p s (k+1):=by
 unfold stop;rw[drop_cons s hk,List.takeWhile_cons,← chr_in hk,h];simp only[if_true,List.length_cons];omega
end
end Go.Proofs.YtfigdflcoaepaaaGreatDoor
