/- Contracts and plain facts that the theorem rests on: R6May, R6Rec, R6MayV, R6MayA, R6MayB, R6MayC, R6MayD, R6Chk. -/
import Derived.Test.YtmgbbndmmbgemaaGreatDoorZK7
import Derived.Test.YtmgbbndmmbgemaaGreatDoorZK11
import Derived.Test.YtmgbbndmmbgemaaGreatDoorZK12
import Derived.Laws.Cover1
set_option linter.unusedSimpArgs false
set_option linter.unusedVariables false
namespace Go.Proofs.YtmgbbndmmbgemaaGreatDoor
section
open Lib (hid)
open Go.RowKit
section
variable {g : List Gi} {x : Gi}
theorem valid1 (h:x.kind=1∨x.kind=2∨x.kind=3∨x.kind=4):validG g x=true↔x.keys=[]∧x.l=[]∧x.num=0∧x.nm=⟨#[]⟩:=by
 obtain ⟨kind,num,nm,keys,l⟩:=x
 simp only at h ⊢
 unfold validG okG restG
 simp only
 rw [if_pos h,if_neg (by omega),if_neg (by omega),if_neg (by omega),if_neg (by omega),Bool.true_and,decide_eq_true_eq]
 simp only [Gi.mk.injEq,true_and]
 constructor
 ·rintro ⟨h1,h2,h3,h4⟩;exact ⟨h3,h4,h1,h2⟩
 ·rintro ⟨h1,h2,h3,h4⟩;exact ⟨h3,h4,h1,h2⟩
theorem valid5 (h:x.kind=5):validG g x=true↔x.keys=[]∧x.l=[]∧x.num=0∧(nameB x.nm=true∨keyB x.nm=true):=by
 obtain ⟨kind,num,nm,keys,l⟩:=x
 simp only at h ⊢
 subst h
 unfold validG okG restG
 simp only
 rw [if_neg (by decide),if_pos trivial,if_pos trivial,Bool.and_eq_true,Bool.or_eq_true,decide_eq_true_eq]
 simp only [Gi.mk.injEq,true_and]
 constructor
 ·rintro ⟨h1,h2,h3,h4⟩;exact ⟨h3,h4,h2,h1⟩
 ·rintro ⟨h1,h2,h3,h4⟩;exact ⟨h4,h3,h1,h2⟩
theorem valid7 (h:x.kind=7):validG g x=true↔(List.range x.keys.length).all (keyAt x.keys)=true∧x.nm=⟨#[]⟩∧x.num=0∧x.keys.length≤16∧x.l.length=x.keys.length∧x.l.all (exI g.length)=true:=by
 obtain ⟨kind,num,nm,keys,l⟩:=x
 simp only at h ⊢
 subst h
 unfold validG okG restG keysOk
 simp only
 rw [if_neg (by decide),if_neg (by decide),if_pos trivial,if_neg (by decide),if_pos trivial,Bool.and_eq_true,Bool.and_eq_true,Bool.and_eq_true,Bool.and_eq_true,decide_eq_true_eq,decide_eq_true_eq,decide_eq_true_eq]
 simp only [Gi.mk.injEq,true_and,and_true]
 constructor
 ·rintro ⟨⟨⟨⟨h1,h2⟩,h3⟩,h4⟩,h5,h6⟩;exact ⟨h2,h6,h5,h1,h3,h4⟩
 ·rintro ⟨h2,h6,h5,h1,h3,h4⟩;exact ⟨⟨⟨⟨h1,h2⟩,h3⟩,h4⟩,h5,h6⟩
theorem valid8 (h:x.kind=8):validG g x=true↔x.nm=⟨#[]⟩∧x.num=0∧x.keys=[]∧2≤x.l.length∧plS g.length (List.replicate g.length false) x.l=true∧x.l.all (fun y=>decide ((g.getD y.toNat ⟨0,0,⟨#[]⟩,[],[]⟩).kind≠8))=true:=by
 obtain ⟨kind,num,nm,keys,l⟩:=x
 simp only at h ⊢
 subst h
 unfold validG okG restG membOk
 simp only
 rw [if_neg (by decide),if_neg (by decide),if_neg (by decide),if_pos trivial,if_neg (by decide),if_neg (by decide),if_pos trivial,Bool.and_eq_true,Bool.and_eq_true,decide_eq_true_eq,decide_eq_true_eq,plS_take,Bool.and_eq_true]
 simp only [Gi.mk.injEq,true_and,and_true]
 constructor
 ·rintro ⟨⟨⟨h1,h2⟩,h3⟩,h4,h5,h6⟩;exact ⟨h5,h4,h6,h3,h1,h2⟩
 ·rintro ⟨h5,h4,h6,h3,h1,h2⟩;exact ⟨⟨⟨h1,h2⟩,h3⟩,h4,h5,h6⟩
theorem valid9 (h:x.kind=9):validG g x=true↔x.nm=⟨#[]⟩∧x.keys=[]∧0≤x.num∧x.num<16∧x.l.length=1∧x.l.all (exI g.length)=true:=by
 obtain ⟨kind,num,nm,keys,l⟩:=x
 simp only at h ⊢
 subst h
 unfold validG okG restG
 simp only
 rw [if_neg (by decide),if_neg (by decide),if_neg (by decide),if_neg (by decide),if_pos trivial,if_neg (by decide),if_neg (by decide),if_neg (by decide),if_pos trivial,Bool.and_eq_true,Bool.and_eq_true,Bool.and_eq_true,decide_eq_true_eq,decide_eq_true_eq,decide_eq_true_eq]
 simp only [Gi.mk.injEq,true_and,and_true]
 constructor
 ·rintro ⟨⟨⟨⟨h1,h2⟩,h3⟩,h4⟩,h5,h6⟩;exact ⟨h5,h6,h1,h2,h3,h4⟩
 ·rintro ⟨h5,h6,h1,h2,h3,h4⟩;exact ⟨⟨⟨⟨h1,h2⟩,h3⟩,h4⟩,h5,h6⟩
theorem valid0 (h:¬ (x.kind=1∨x.kind=2∨x.kind=3∨x.kind=4)) (h5:x.kind≠5) (h7:x.kind≠7) (h8:x.kind≠8) (h9:x.kind≠9):validG g x=false:=by
 unfold validG okG
 rw [if_neg h,if_neg h5,if_neg h7,if_neg h8,if_neg h9,Bool.false_and]
theorem not_valid {P:Prop} (h:validG g x=true↔P) (hn:¬ P):validG g x=false:=by
 cases e:validG g x
 ·rfl
 ·exact absurd (h.1 e) hn
end
theorem nm_empty {s:ByteArray}:s.toList.isEmpty=true↔s=⟨#[]⟩:=by
 rw [ByteArray.toList_eq]
 constructor
 ·intro h
  obtain ⟨⟨l⟩⟩:=s
  have:l.isEmpty=true:=h
  rw [List.isEmpty_iff] at this
  rw [this]
 ·rintro rfl;rfl
theorem plS_in {n:Nat}:∀ {l:List Int} {u:List Bool},plS n u l=true→∀ y∈l,exI n y=true
 | [],_,_,_,hy=>by cases hy
 | x :: l,u,h,y,hy=>by
  unfold plS at h
  by_cases hc:exI n x=true∧u.getD x.toNat false=false
  ·rw [if_pos hc] at h
   rcases List.mem_cons.1 hy with rfl | hy
   ·exact hc.1
   ·exact plS_in h y hy
  ·rw [if_neg hc] at h;cases h
def gnA (x:Gi) (VA PA:Option Addr) (vc pc:Nat):Value := .agg #[.int .i64 x.kind,.int .i64 x.num,.string x.nm,.slice VA x.keys.length vc,.slice PA x.l.length pc]
set_option maxRecDepth 100000 in
set_option maxHeartbeats 8000000 in
theorem r6_union (x:Gi) (A VA PA:Option Addr) (c vc pc:Nat) (g:List Gi) (w:World) (hg:g.length≤100000) (hr:GsR w A g) (h2:RdV w PA (x.l.flatMap iC)) (l1:(x.keys.length:Int)≤9223372036854775807) (l2:(x.l.length:Int)≤9223372036854775807) (hk:x.kind=8) :
  Calls Tryz.prog 84 #[.slice A g.length c,gnA x VA PA vc pc] w fun r w'=>r = .returned (.bool (validG g x))∧Below w.heap.size w w':=by
 have HV:=hid (valid8 (g:=g) hk)
 have HG:=hid hr
 have H2:=hid h2
 obtain ⟨N,hN⟩:∃ N,g.length=N:=⟨_,rfl⟩
 obtain ⟨kn,hkn⟩:∃ kn,x.keys.length=kn:=⟨_,rfl⟩
 obtain ⟨n,hn⟩:∃ n,x.l.length=n:=⟨_,rfl⟩
 have HN:=hid hN
 have HKN:=hid hkn
 have Hn:=hid hn
 unfold gnA
 rw [hN] at hg ⊢
 rw [hkn] at l1 ⊢
 rw [hn] at l2 ⊢
 have hz:=Blk.new w 42 #[.int .i64 x.kind,.int .i64 x.num,.string x.nm,.slice VA kn vc,.slice PA n pc]
 have hy:=one_box w (.cells #[.int .i64 x.kind,.int .i64 x.num,.string x.nm,.slice VA kn vc,.slice PA n pc] 42)
 clear hr h2 hN hkn hn hk
 go_enter Tryz.func84,Tryz.ntmps84
 go_upto_region 1 with (fail)
 generalize w.alloc (.cells #[.int .i64 x.kind,.int .i64 x.num,.string x.nm,.slice VA kn vc,.slice PA n pc] 42)=w1 at hz hy ⊢
 obtain ⟨sb,hsb⟩:∃ sb,w.heap.size=sb:=⟨_,rfl⟩
 rw [hsb] at hz ⊢
 obtain ⟨nm,hnm⟩:∃ nm,x.nm=nm:=⟨_,rfl⟩
 obtain ⟨num,hnu⟩:∃ num,x.num=num:=⟨_,rfl⟩
 have HNM:=hid hnm
 have HNU:=hid hnu
 rw [hnm,hnu] at hz
 have HZ:=hid hz
 have HY:=hid hy
 have HSB:=hid hsb
 clear hz hy hnm hnu hsb
 have z1:=HZ.out.cell 1
 have z2:=HZ.out.cell 2
 have z3:=HZ.out.cell 3
 have z4:=HZ.out.cell 4
 simp at z1 z2 z3 z4
 by_cases e1:nm=⟨#[]⟩
 ·have b1:nm.toList.isEmpty=true:=nm_empty.2 e1
  by_cases e2:num=0
  ·have b2:(num != 0)=false:=by simp [e2]
   by_cases e3:kn=0
   ·have b3:((kn:Int) != 0)=false:=by simp;omega
    by_cases e4:n<2
    ·have b4:(n:Int)<2:=by omega
     have HF:=hid (not_valid HV.out (fun h=>by have:=h.2.2.2.1;have:=Hn.out;omega))
     clear e1 e2 e3
     go_wp2_with fail
     go_ret
     exact ⟨by rw [HF.out];rfl,HY.out⟩
    ·have b4:¬ (n:Int)<2:=by omega
     have C:=r6_places A PA N c pc x.l w1 (by omega) (by have:=Hn.out;omega) (H2.out.below HY.out)
     rw [Hn.out] at C
     obtain ⟨pl,hpl⟩:∃ pl,plS N (List.replicate N false) x.l=pl:=⟨_,rfl⟩
     rw [hpl] at C
     have HPL:=hid hpl
     have H1234:=hid (And.intro e1 (And.intro e2 e3))
     clear e1 e2 e3 hpl
     go_wp2_with fail
     refine C.mono ?_
     rintro r w2 ⟨rfl,hb2⟩
     have HB2:=hid (HY.out.trans (hb2.mono HY.out.size))
     have HZ2:=hid (HZ.out.below hb2 HZ.out.lt)
     clear C hb2
     cases pl
     ·have HF:=hid (not_valid HV.out (fun h=>by have:=h.2.2.2.2.1;rw [HN.out,HPL.out] at this;cases this))
      go_wp2_with fail
      go_ret
      exact ⟨by rw [HF.out];rfl,HB2.out⟩
     ·have HUB:Hid (plS N (List.replicate N false) x.l=true):=HPL
      go_wp2_with fail
      go_loopw [5] (fun u5 wr=>∃ k:Nat,k≤n∧u5 = .int .i64 (k:Int)∧wr=w2∧Hid ((x.l.take k).all (fun y=>decide ((g.getD y.toNat ⟨0,0,⟨#[]⟩,[],[]⟩).kind≠8))=true)) (fun u5 _=>n - (intOf u5).toNat)
      case atStart=>exact ⟨0,Nat.zero_le _,rfl,rfl,hid (by simp)⟩
      case round =>
       obtain ⟨k,hk,rfl,rfl,HP⟩:=hrel
       have z4:=HZ2.out.cell 4
       simp at z4
       by_cases hlt:k<n
       ·have hkI:(k:Int)<(n:Int):=by omega
        obtain ⟨y,hy⟩:∃ y,x.l[k]? = some y:=⟨_,List.getElem?_eq_getElem (by have:=Hn.out;omega)⟩
        obtain ⟨lb,lo,hLA,c0⟩:=rd_intG (H2.out.below HB2.out) hy
        have hyx:=plS_in HUB.out y (List.mem_of_getElem? hy)
        rw [exI_iff] at hyx
        obtain ⟨m,rfl⟩:∃ m:Nat,y=(m:Int):=⟨y.toNat,by omega⟩
        obtain ⟨z,hz⟩:∃ z,g[m]? = some z:=⟨_,List.getElem?_eq_getElem (by have:=HN.out;omega)⟩
        obtain ⟨gb,go_,hGA,hgn⟩:=(HG.out.below HB2.out).at_ hz
        obtain ⟨_,_,_,_,k0,_⟩:=hgn
        have hzd:g.getD ((m:Int)).toNat ⟨0,0,⟨#[]⟩,[],[]⟩=z:=by rw [Int.toNat_natCast,List.getD_eq_getElem?_getD,hz];rfl
        have hmi:(m:Int)<(N:Int):=hyx.2
        have HY2:=hid hy
        have HZD:=hid hzd
        have HLA:=hid hLA
        have HGA:=hid hGA
        rw [hLA] at z4
        rw [HLA.out,HGA.out]
        clear hy hz hyx hzd hLA hGA
        by_cases h8:z.kind=8
        ·have b8:(z.kind == 8)=true:=by simp [h8]
         have HF:=hid (not_valid HV.out (fun h=>by
          have:=h.2.2.2.2.2
          rw [all_at HY2.out (by rw [HZD.out];simp [h8])] at this
          cases this))
         clear h8
         go_wp2_with fail
         go_ret
         exact ⟨by rw [HF.out];rfl,HB2.out⟩
        ·have b8:(z.kind == 8)=false:=by simp [h8]
         have HP2:Hid ((x.l.take (k+1)).all (fun y=>decide ((g.getD y.toNat ⟨0,0,⟨#[]⟩,[],[]⟩).kind≠8))=true):=hid (all_take HP.out HY2.out (by rw [HZD.out];simp [h8]))
         clear h8
         go_wp2_with fail
         go_roundw
         case rel=>exact ⟨k+1,by omega,by go_num,trivial,HP2⟩
         case measure=>simp [intOf];omega
       ·have hkI:¬ (k:Int)<(n:Int):=by omega
        have HF:Hid (validG g x=true):=hid (HV.out.2 ⟨HNM.out.trans H1234.out.1,HNU.out.trans H1234.out.2.1,List.length_eq_zero_iff.1 (HKN.out.trans H1234.out.2.2),by have:=Hn.out;omega,by rw [HN.out];exact HUB.out,by have:=HP.out;rwa [show k=x.l.length by have:=Hn.out;omega,List.take_length] at this⟩)
        go_wp2_with fail
        go_ret
        exact ⟨by rw [HF.out];rfl,HB2.out⟩
   ·have b3:((kn:Int) != 0)=true:=by simp;omega
    have HF:=hid (not_valid HV.out (fun h=>e3 (by rw [← HKN.out,h.2.2.1];rfl)))
    clear e1 e2 e3
    go_wp2_with fail
    go_ret
    exact ⟨by rw [HF.out];rfl,HY.out⟩
  ·have b2:(num != 0)=true:=by simp [e2]
   have HF:=hid (not_valid HV.out (fun h=>e2 (HNU.out.symm.trans h.2.1)))
   clear e1 e2
   go_wp2_with fail
   go_ret
   exact ⟨by rw [HF.out];rfl,HY.out⟩
 ·have b1:nm.toList.isEmpty=false:=by rw [Bool.eq_false_iff];exact fun h=>e1 (nm_empty.1 h)
  have HF:=hid (not_valid HV.out (fun h=>e1 (HNM.out.symm.trans h.1)))
  clear e1
  go_wp2_with fail
  go_ret
  exact ⟨by rw [HF.out];rfl,HY.out⟩
end
section
open Lib (hid)
open Go.RowKit
set_option maxRecDepth 100000 in
set_option maxHeartbeats 8000000 in
theorem r6_record (x:Gi) (A VA PA:Option Addr) (c vc pc:Nat) (g:List Gi) (w:World) (hg:g.length≤100000) (h1:RdV w VA (x.keys.flatMap sC)) (h2:RdV w PA (x.l.flatMap iC)) (l1:(x.keys.length:Int)≤9223372036854775807) (l2:(x.l.length:Int)≤9223372036854775807) (hzk:∀ s∈x.keys,s.size≤maxLen) (hk:x.kind=7) :
  Calls Tryz.prog 83 #[.slice A g.length c,gnA x VA PA vc pc] w fun r w'=>r = .returned (.bool (validG g x))∧Below w.heap.size w w':=by
 have HV:=hid (valid7 (g:=g) hk)
 have H1:=hid h1
 have H2:=hid h2
 have HZK:=hid hzk
 obtain ⟨N,hN⟩:∃ N,g.length=N:=⟨_,rfl⟩
 obtain ⟨kn,hkn⟩:∃ kn,x.keys.length=kn:=⟨_,rfl⟩
 obtain ⟨n,hn⟩:∃ n,x.l.length=n:=⟨_,rfl⟩
 have HN:=hid hN
 have HKN:=hid hkn
 have Hn:=hid hn
 unfold gnA
 rw [hN] at hg ⊢
 rw [hkn] at l1 ⊢
 rw [hn] at l2 ⊢
 have hz:=Blk.new w 42 #[.int .i64 x.kind,.int .i64 x.num,.string x.nm,.slice VA kn vc,.slice PA n pc]
 have hy:=one_box w (.cells #[.int .i64 x.kind,.int .i64 x.num,.string x.nm,.slice VA kn vc,.slice PA n pc] 42)
 clear h1 h2 hzk hN hkn hn hk
 go_enter Tryz.func83,Tryz.ntmps83
 go_upto_region 1 with (fail)
 generalize w.alloc (.cells #[.int .i64 x.kind,.int .i64 x.num,.string x.nm,.slice VA kn vc,.slice PA n pc] 42)=w1 at hz hy ⊢
 obtain ⟨sb,hsb⟩:∃ sb,w.heap.size=sb:=⟨_,rfl⟩
 rw [hsb] at hz ⊢
 obtain ⟨nm,hnm⟩:∃ nm,x.nm=nm:=⟨_,rfl⟩
 obtain ⟨num,hnu⟩:∃ num,x.num=num:=⟨_,rfl⟩
 have HNM:=hid hnm
 have HNU:=hid hnu
 rw [hnm,hnu] at hz
 have HZ:=hid hz
 have HY:=hid hy
 have HSB:=hid hsb
 clear hz hy hnm hnu hsb
 go_wp2_with fail
 go_loopw [5] (fun u5 wr=>∃ k:Nat,k≤kn∧u5 = .int .i64 (k:Int)∧Hid (Below w1.heap.size w1 wr)∧Hid (∀ j,j<k→keyAt x.keys j=true)) (fun u5 _=>kn - (intOf u5).toNat)
 case atStart=>exact ⟨0,Nat.zero_le _,rfl,hid (Below.refl _ _),hid (fun j hj=>by omega)⟩
 case round =>
  obtain ⟨k,hk,rfl,HB,HP⟩:=hrel
  have hzz:=HZ.out.below HB.out HZ.out.lt
  have z1:=hzz.cell 1
  have z2:=hzz.cell 2
  have z3:=hzz.cell 3
  have z4:=hzz.cell 4
  simp at z1 z2 z3 z4
  clear hzz
  by_cases hlt:k<kn
  ·have hkI:(k:Int)<(kn:Int):=by omega
   obtain ⟨s,hs⟩:∃ s,x.keys[k]? = some s:=⟨_,List.getElem?_eq_getElem (by have:=HKN.out;omega)⟩
   obtain ⟨b,o,hA,hcell⟩:=rd_strG ((H1.out.below HY.out).below HB.out) (by have:=HKN.out;omega)
   have c0:=hcell k s hs
   have hgs:x.keys.getD k ⟨#[]⟩=s:=by rw [List.getD_eq_getElem?_getD,hs];rfl
   rw [hA] at z3
   have HA:=hid hA
   have hS:Below wr.heap.size wr wr.drew:=⟨rfl,rfl,rfl,Nat.le_refl _,fun _ _=>rfl⟩
   have C:=ref_isName s wr.drew (HZK.out s (List.mem_of_getElem? hs))
   have HGS:=hid hgs
   have HCL:=hid hcell
   have HLT:=hid hlt
   clear hs hA hcell hgs z1 z2 z4
   cases hnb:nameB s
   ·rw [hnb] at C
    have HF:=hid (not_valid HV.out (fun h=>by
     have:=h.1
     rw [HKN.out,all_range_no HLT.out (by unfold keyAt;rw [HGS.out,hnb];rfl)] at this
     cases this))
    go_upto_region 4 with (fail)
    refine K_start 100 (fun u=>Below wr.heap.size wr u) (by kernel_rfl) ?_
    refine K_pure (i:=0) (v:=?_) (by simp only [List.getElem?_toArray,List.getElem?_cons_succ,List.getElem?_cons_zero];exact rfl) (by kernel_rfl) (by kernel_rfl) (by kernel_rfl) (by decide) (by exact fun _ _ _ h=>h) (fun _=>hS) (by rfl) ?_ ?_
    rotate_left
    ·intro uu
     go_simp
     try with_reducible rfl
    simp only [Act.put,List.setIfInBounds_toArray,List.set_cons_zero,List.set_cons_succ]
    refine K_takeA (i:=1) (v:=?_) (by simp only [List.getElem?_toArray,List.getElem?_cons_succ,List.getElem?_cons_zero];exact rfl) (by kernel_rfl) (by kernel_rfl) (by kernel_rfl) (of_decide_eq_true (by kernel_rfl)) (by kernel_rfl) (by exact fun _ _ _ h=>h) hS (by rfl) ?_ ?_
    rotate_left
    ·intro uu hu
     have z3_:=cell_below hu z3
     go_simp
     try with_reducible rfl
    simp only [Act.put,List.setIfInBounds_toArray,List.set_cons_zero,List.set_cons_succ]
    refine K_pure (i:=2) (v:=?_) (by simp only [List.getElem?_toArray,List.getElem?_cons_succ,List.getElem?_cons_zero];exact rfl) (by kernel_rfl) (by kernel_rfl) (by kernel_rfl) (by decide) (by exact fun _ _ _ h=>h) (fun _=>hS) (by rfl) ?_ ?_
    rotate_left
    ·intro uu
     go_simp
     try with_reducible rfl
    simp only [Act.put,List.setIfInBounds_toArray,List.set_cons_zero,List.set_cons_succ]
    refine K_pure (i:=3) (v:=?_) (by simp only [List.getElem?_toArray,List.getElem?_cons_succ,List.getElem?_cons_zero];exact rfl) (by kernel_rfl) (by kernel_rfl) (by kernel_rfl) (by decide) (by exact fun _ _ _ h=>h) (fun _=>hS) (by rfl) ?_ ?_
    rotate_left
    ·intro uu
     go_simp
     try with_reducible rfl
    simp only [Act.put,List.setIfInBounds_toArray,List.set_cons_zero,List.set_cons_succ]
    refine K_takeA (i:=4) (v:=?_) (by simp only [List.getElem?_toArray,List.getElem?_cons_succ,List.getElem?_cons_zero];exact rfl) (by kernel_rfl) (by kernel_rfl) (by kernel_rfl) (of_decide_eq_true (by kernel_rfl)) (by kernel_rfl) (by exact fun _ _ _ h=>h) hS (by rfl) ?_ ?_
    rotate_left
    ·intro uu hu
     have c0_:=cell_below hu c0
     go_simp
     try with_reducible rfl
    simp only [Act.put,List.setIfInBounds_toArray,List.set_cons_zero,List.set_cons_succ]
    refine K_one (i:=5) (by kernel_rfl) rfl (fun K hK=>?_)
    go_simp
    go_at_call 81
    refine C.mono ?_
    rintro e w8 ⟨rfl,hb8⟩
    have hS8:Below wr.heap.size wr w8:=⟨hb8.os,hb8.tape,hb8.output,hb8.size,hb8.block⟩
    refine hK _ _ (fun _=>hS8) ?_
    clear hK K hS hb8
    have hS:=hS8
    have HB8:=hid (HB.out.trans (hS8.mono HB.out.size))
    refine K_pure (i:=6) (v:=?_) (by simp only [List.getElem?_toArray,List.getElem?_cons_succ,List.getElem?_cons_zero];exact rfl) (by kernel_rfl) (by kernel_rfl) (by kernel_rfl) (by decide) (by exact fun _ _ _ h=>h) (fun _=>hS) (by rfl) ?_ ?_
    rotate_left
    ·intro uu
     go_simp
     try with_reducible rfl
    simp only [Act.put,List.setIfInBounds_toArray,List.set_cons_zero,List.set_cons_succ]
    refine K_pure (i:=7) (v:=?_) (by simp only [List.getElem?_toArray,List.getElem?_cons_succ,List.getElem?_cons_zero];exact rfl) (by kernel_rfl) (by kernel_rfl) (by kernel_rfl) (by decide) (by exact fun _ _ _ h=>h) (fun _=>hS) (by rfl) ?_ ?_
    rotate_left
    ·intro uu
     go_simp
     try with_reducible rfl
    simp only [Act.put,List.setIfInBounds_toArray,List.set_cons_zero,List.set_cons_succ]
    refine K_skipA (i:=8) (by simp only [List.getElem?_toArray,List.getElem?_cons_succ,List.getElem?_cons_zero];exact rfl) (by kernel_rfl) (by kernel_rfl) (by kernel_rfl) (of_decide_eq_true (by kernel_rfl)) (by kernel_rfl) (by exact fun _ _ _ h=>h) hS (by rfl) ?_
    simp only [Act.put,List.setIfInBounds_toArray,List.set_cons_zero,List.set_cons_succ]
    refine K_skipA (i:=9) (by simp only [List.getElem?_toArray,List.getElem?_cons_succ,List.getElem?_cons_zero];exact rfl) (by kernel_rfl) (by kernel_rfl) (by kernel_rfl) (of_decide_eq_true (by kernel_rfl)) (by kernel_rfl) (by exact fun _ _ _ h=>h) hS (by rfl) ?_
    simp only [Act.put,List.setIfInBounds_toArray,List.set_cons_zero,List.set_cons_succ]
    refine K_skipA (i:=10) (by simp only [List.getElem?_toArray,List.getElem?_cons_succ,List.getElem?_cons_zero];exact rfl) (by kernel_rfl) (by kernel_rfl) (by kernel_rfl) (of_decide_eq_true (by kernel_rfl)) (by kernel_rfl) (by exact fun _ _ _ h=>h) hS (by rfl) ?_
    simp only [Act.put,List.setIfInBounds_toArray,List.set_cons_zero,List.set_cons_succ]
    refine K_skipA (i:=11) (by simp only [List.getElem?_toArray,List.getElem?_cons_succ,List.getElem?_cons_zero];exact rfl) (by kernel_rfl) (by kernel_rfl) (by kernel_rfl) (of_decide_eq_true (by kernel_rfl)) (by kernel_rfl) (by exact fun _ _ _ h=>h) hS (by rfl) ?_
    simp only [Act.put,List.setIfInBounds_toArray,List.set_cons_zero,List.set_cons_succ]
    refine K_skipA (i:=12) (by simp only [List.getElem?_toArray,List.getElem?_cons_succ,List.getElem?_cons_zero];exact rfl) (by kernel_rfl) (by kernel_rfl) (by kernel_rfl) (of_decide_eq_true (by kernel_rfl)) (by kernel_rfl) (by exact fun _ _ _ h=>h) hS (by rfl) ?_
    simp only [Act.put,List.setIfInBounds_toArray,List.set_cons_zero,List.set_cons_succ]
    refine K_skipA (i:=13) (by simp only [List.getElem?_toArray,List.getElem?_cons_succ,List.getElem?_cons_zero];exact rfl) (by kernel_rfl) (by kernel_rfl) (by kernel_rfl) (of_decide_eq_true (by kernel_rfl)) (by kernel_rfl) (by exact fun _ _ _ h=>h) hS (by rfl) ?_
    simp only [Act.put,List.setIfInBounds_toArray,List.set_cons_zero,List.set_cons_succ]
    refine K_skipA (i:=14) (by simp only [List.getElem?_toArray,List.getElem?_cons_succ,List.getElem?_cons_zero];exact rfl) (by kernel_rfl) (by kernel_rfl) (by kernel_rfl) (of_decide_eq_true (by kernel_rfl)) (by kernel_rfl) (by exact fun _ _ _ h=>h) hS (by rfl) ?_
    simp only [Act.put,List.setIfInBounds_toArray,List.set_cons_zero,List.set_cons_succ]
    refine K_skipA (i:=15) (by simp only [List.getElem?_toArray,List.getElem?_cons_succ,List.getElem?_cons_zero];exact rfl) (by kernel_rfl) (by kernel_rfl) (by kernel_rfl) (of_decide_eq_true (by kernel_rfl)) (by kernel_rfl) (by exact fun _ _ _ h=>h) hS (by rfl) ?_
    simp only [Act.put,List.setIfInBounds_toArray,List.set_cons_zero,List.set_cons_succ]
    refine K_skipA (i:=16) (by simp only [List.getElem?_toArray,List.getElem?_cons_succ,List.getElem?_cons_zero];exact rfl) (by kernel_rfl) (by kernel_rfl) (by kernel_rfl) (of_decide_eq_true (by kernel_rfl)) (by kernel_rfl) (by exact fun _ _ _ h=>h) hS (by rfl) ?_
    simp only [Act.put,List.setIfInBounds_toArray,List.set_cons_zero,List.set_cons_succ]
    refine K_skipA (i:=17) (by simp only [List.getElem?_toArray,List.getElem?_cons_succ,List.getElem?_cons_zero];exact rfl) (by kernel_rfl) (by kernel_rfl) (by kernel_rfl) (of_decide_eq_true (by kernel_rfl)) (by kernel_rfl) (by exact fun _ _ _ h=>h) hS (by rfl) ?_
    simp only [Act.put,List.setIfInBounds_toArray,List.set_cons_zero,List.set_cons_succ]
    refine K_skipA (i:=18) (by simp only [List.getElem?_toArray,List.getElem?_cons_succ,List.getElem?_cons_zero];exact rfl) (by kernel_rfl) (by kernel_rfl) (by kernel_rfl) (of_decide_eq_true (by kernel_rfl)) (by kernel_rfl) (by exact fun _ _ _ h=>h) hS (by rfl) ?_
    simp only [Act.put,List.setIfInBounds_toArray,List.set_cons_zero,List.set_cons_succ]
    refine K_skipA (i:=19) (by simp only [List.getElem?_toArray,List.getElem?_cons_succ,List.getElem?_cons_zero];exact rfl) (by kernel_rfl) (by kernel_rfl) (by kernel_rfl) (of_decide_eq_true (by kernel_rfl)) (by kernel_rfl) (by exact fun _ _ _ h=>h) hS (by rfl) ?_
    simp only [Act.put,List.setIfInBounds_toArray,List.set_cons_zero,List.set_cons_succ]
    refine K_skipA (i:=20) (by simp only [List.getElem?_toArray,List.getElem?_cons_succ,List.getElem?_cons_zero];exact rfl) (by kernel_rfl) (by kernel_rfl) (by kernel_rfl) (of_decide_eq_true (by kernel_rfl)) (by kernel_rfl) (by exact fun _ _ _ h=>h) hS (by rfl) ?_
    simp only [Act.put,List.setIfInBounds_toArray,List.set_cons_zero,List.set_cons_succ]
    refine K_skipA (i:=21) (by simp only [List.getElem?_toArray,List.getElem?_cons_succ,List.getElem?_cons_zero];exact rfl) (by kernel_rfl) (by kernel_rfl) (by kernel_rfl) (of_decide_eq_true (by kernel_rfl)) (by kernel_rfl) (by exact fun _ _ _ h=>h) hS (by rfl) ?_
    simp only [Act.put,List.setIfInBounds_toArray,List.set_cons_zero,List.set_cons_succ]
    refine K_skipA (i:=22) (by simp only [List.getElem?_toArray,List.getElem?_cons_succ,List.getElem?_cons_zero];exact rfl) (by kernel_rfl) (by kernel_rfl) (by kernel_rfl) (of_decide_eq_true (by kernel_rfl)) (by kernel_rfl) (by exact fun _ _ _ h=>h) hS (by rfl) ?_
    simp only [Act.put,List.setIfInBounds_toArray,List.set_cons_zero,List.set_cons_succ]
    refine K_skipA (i:=23) (by simp only [List.getElem?_toArray,List.getElem?_cons_succ,List.getElem?_cons_zero];exact rfl) (by kernel_rfl) (by kernel_rfl) (by kernel_rfl) (of_decide_eq_true (by kernel_rfl)) (by kernel_rfl) (by exact fun _ _ _ h=>h) hS (by rfl) ?_
    simp only [Act.put,List.setIfInBounds_toArray,List.set_cons_zero,List.set_cons_succ]
    refine K_pure (i:=24) (v:=?_) (by simp only [List.getElem?_toArray,List.getElem?_cons_succ,List.getElem?_cons_zero];exact rfl) (by kernel_rfl) (by kernel_rfl) (by kernel_rfl) (by decide) (by exact fun _ _ _ h=>h) (fun _=>hS) (by rfl) ?_ ?_
    rotate_left
    ·intro uu
     go_simp
     try with_reducible rfl
    simp only [Act.put,List.setIfInBounds_toArray,List.set_cons_zero,List.set_cons_succ]
    refine K_done (by kernel_rfl) ?_
    clear hS hS8 C
    go_wp2_with fail
    go_ret
    exact ⟨by rw [HF.out];rfl,HY.out.trans (HB8.out.mono HY.out.size)⟩
   ·rw [hnb] at C
    by_cases hk0:k=0
    ·subst hk0
     rw [Nat.add_zero] at c0
     have HP2:Hid (∀ j,j<0+1→keyAt x.keys j=true):=hid fun j hj=>by
      have:j=0:=by omega
      subst this
      unfold keyAt
      rw [HGS.out,hnb];rfl
     clear hnb
     go_upto_region 4 with (fail)
     refine K_start 100 (fun u=>Below wr.heap.size wr u) (by kernel_rfl) ?_
     refine K_pure (i:=0) (v:=?_) (by simp only [List.getElem?_toArray,List.getElem?_cons_succ,List.getElem?_cons_zero];exact rfl) (by kernel_rfl) (by kernel_rfl) (by kernel_rfl) (by decide) (by exact fun _ _ _ h=>h) (fun _=>hS) (by rfl) ?_ ?_
     rotate_left
     ·intro uu
      go_simp
      try with_reducible rfl
     simp only [Act.put,List.setIfInBounds_toArray,List.set_cons_zero,List.set_cons_succ]
     refine K_takeA (i:=1) (v:=?_) (by simp only [List.getElem?_toArray,List.getElem?_cons_succ,List.getElem?_cons_zero];exact rfl) (by kernel_rfl) (by kernel_rfl) (by kernel_rfl) (of_decide_eq_true (by kernel_rfl)) (by kernel_rfl) (by exact fun _ _ _ h=>h) hS (by rfl) ?_ ?_
     rotate_left
     ·intro uu hu
      have z3_:=cell_below hu z3
      go_simp
      try with_reducible rfl
     simp only [Act.put,List.setIfInBounds_toArray,List.set_cons_zero,List.set_cons_succ]
     refine K_pure (i:=2) (v:=?_) (by simp only [List.getElem?_toArray,List.getElem?_cons_succ,List.getElem?_cons_zero];exact rfl) (by kernel_rfl) (by kernel_rfl) (by kernel_rfl) (by decide) (by exact fun _ _ _ h=>h) (fun _=>hS) (by rfl) ?_ ?_
     rotate_left
     ·intro uu
      go_simp
      try with_reducible rfl
     simp only [Act.put,List.setIfInBounds_toArray,List.set_cons_zero,List.set_cons_succ]
     refine K_pure (i:=3) (v:=?_) (by simp only [List.getElem?_toArray,List.getElem?_cons_succ,List.getElem?_cons_zero];exact rfl) (by kernel_rfl) (by kernel_rfl) (by kernel_rfl) (by decide) (by exact fun _ _ _ h=>h) (fun _=>hS) (by rfl) ?_ ?_
     rotate_left
     ·intro uu
      go_simp
      try with_reducible rfl
     simp only [Act.put,List.setIfInBounds_toArray,List.set_cons_zero,List.set_cons_succ]
     refine K_takeA (i:=4) (v:=?_) (by simp only [List.getElem?_toArray,List.getElem?_cons_succ,List.getElem?_cons_zero];exact rfl) (by kernel_rfl) (by kernel_rfl) (by kernel_rfl) (of_decide_eq_true (by kernel_rfl)) (by kernel_rfl) (by exact fun _ _ _ h=>h) hS (by rfl) ?_ ?_
     rotate_left
     ·intro uu hu
      have c0_:=cell_below hu c0
      go_simp
      try with_reducible rfl
     simp only [Act.put,List.setIfInBounds_toArray,List.set_cons_zero,List.set_cons_succ]
     refine K_one (i:=5) (by kernel_rfl) rfl (fun K hK=>?_)
     go_simp
     go_at_call 81
     refine C.mono ?_
     rintro e w8 ⟨rfl,hb8⟩
     have hS8:Below wr.heap.size wr w8:=⟨hb8.os,hb8.tape,hb8.output,hb8.size,hb8.block⟩
     refine hK _ _ (fun _=>hS8) ?_
     clear hK K hS hb8
     have hS:=hS8
     have HB8:=hid (HB.out.trans (hS8.mono HB.out.size))
     refine K_pure (i:=6) (v:=?_) (by simp only [List.getElem?_toArray,List.getElem?_cons_succ,List.getElem?_cons_zero];exact rfl) (by kernel_rfl) (by kernel_rfl) (by kernel_rfl) (by decide) (by exact fun _ _ _ h=>h) (fun _=>hS) (by rfl) ?_ ?_
     rotate_left
     ·intro uu
      go_simp
      try with_reducible rfl
     simp only [Act.put,List.setIfInBounds_toArray,List.set_cons_zero,List.set_cons_succ]
     refine K_pure (i:=7) (v:=?_) (by simp only [List.getElem?_toArray,List.getElem?_cons_succ,List.getElem?_cons_zero];exact rfl) (by kernel_rfl) (by kernel_rfl) (by kernel_rfl) (by decide) (by exact fun _ _ _ h=>h) (fun _=>hS) (by rfl) ?_ ?_
     rotate_left
     ·intro uu
      go_simp
      try with_reducible rfl
     simp only [Act.put,List.setIfInBounds_toArray,List.set_cons_zero,List.set_cons_succ]
     refine K_pure (i:=8) (v:=?_) (by simp only [List.getElem?_toArray,List.getElem?_cons_succ,List.getElem?_cons_zero];exact rfl) (by kernel_rfl) (by kernel_rfl) (by kernel_rfl) (by decide) (by exact fun _ _ _ h=>h) (fun _=>hS) (by rfl) ?_ ?_
     rotate_left
     ·intro uu
      go_simp
      try with_reducible rfl
     simp only [Act.put,List.setIfInBounds_toArray,List.set_cons_zero,List.set_cons_succ]
     refine K_pure (i:=9) (v:=?_) (by simp only [List.getElem?_toArray,List.getElem?_cons_succ,List.getElem?_cons_zero];exact rfl) (by kernel_rfl) (by kernel_rfl) (by kernel_rfl) (by decide) (by exact fun _ _ _ h=>h) (fun _=>hS) (by rfl) ?_ ?_
     rotate_left
     ·intro uu
      go_simp
      try with_reducible rfl
     simp only [Act.put,List.setIfInBounds_toArray,List.set_cons_zero,List.set_cons_succ]
     refine K_pure (i:=10) (v:=?_) (by simp only [List.getElem?_toArray,List.getElem?_cons_succ,List.getElem?_cons_zero];exact rfl) (by kernel_rfl) (by kernel_rfl) (by kernel_rfl) (by decide) (by exact fun _ _ _ h=>h) (fun _=>hS) (by rfl) ?_ ?_
     rotate_left
     ·intro uu
      go_simp
      try with_reducible rfl
     simp only [Act.put,List.setIfInBounds_toArray,List.set_cons_zero,List.set_cons_succ]
     refine K_skipA (i:=11) (by simp only [List.getElem?_toArray,List.getElem?_cons_succ,List.getElem?_cons_zero];exact rfl) (by kernel_rfl) (by kernel_rfl) (by kernel_rfl) (of_decide_eq_true (by kernel_rfl)) (by kernel_rfl) (by exact fun _ _ _ h=>h) hS (by rfl) ?_
     simp only [Act.put,List.setIfInBounds_toArray,List.set_cons_zero,List.set_cons_succ]
     refine K_skipA (i:=12) (by simp only [List.getElem?_toArray,List.getElem?_cons_succ,List.getElem?_cons_zero];exact rfl) (by kernel_rfl) (by kernel_rfl) (by kernel_rfl) (of_decide_eq_true (by kernel_rfl)) (by kernel_rfl) (by exact fun _ _ _ h=>h) hS (by rfl) ?_
     simp only [Act.put,List.setIfInBounds_toArray,List.set_cons_zero,List.set_cons_succ]
     refine K_skipA (i:=13) (by simp only [List.getElem?_toArray,List.getElem?_cons_succ,List.getElem?_cons_zero];exact rfl) (by kernel_rfl) (by kernel_rfl) (by kernel_rfl) (of_decide_eq_true (by kernel_rfl)) (by kernel_rfl) (by exact fun _ _ _ h=>h) hS (by rfl) ?_
     simp only [Act.put,List.setIfInBounds_toArray,List.set_cons_zero,List.set_cons_succ]
     refine K_skipA (i:=14) (by simp only [List.getElem?_toArray,List.getElem?_cons_succ,List.getElem?_cons_zero];exact rfl) (by kernel_rfl) (by kernel_rfl) (by kernel_rfl) (of_decide_eq_true (by kernel_rfl)) (by kernel_rfl) (by exact fun _ _ _ h=>h) hS (by rfl) ?_
     simp only [Act.put,List.setIfInBounds_toArray,List.set_cons_zero,List.set_cons_succ]
     refine K_skipA (i:=15) (by simp only [List.getElem?_toArray,List.getElem?_cons_succ,List.getElem?_cons_zero];exact rfl) (by kernel_rfl) (by kernel_rfl) (by kernel_rfl) (of_decide_eq_true (by kernel_rfl)) (by kernel_rfl) (by exact fun _ _ _ h=>h) hS (by rfl) ?_
     simp only [Act.put,List.setIfInBounds_toArray,List.set_cons_zero,List.set_cons_succ]
     refine K_skipA (i:=16) (by simp only [List.getElem?_toArray,List.getElem?_cons_succ,List.getElem?_cons_zero];exact rfl) (by kernel_rfl) (by kernel_rfl) (by kernel_rfl) (of_decide_eq_true (by kernel_rfl)) (by kernel_rfl) (by exact fun _ _ _ h=>h) hS (by rfl) ?_
     simp only [Act.put,List.setIfInBounds_toArray,List.set_cons_zero,List.set_cons_succ]
     refine K_skipA (i:=17) (by simp only [List.getElem?_toArray,List.getElem?_cons_succ,List.getElem?_cons_zero];exact rfl) (by kernel_rfl) (by kernel_rfl) (by kernel_rfl) (of_decide_eq_true (by kernel_rfl)) (by kernel_rfl) (by exact fun _ _ _ h=>h) hS (by rfl) ?_
     simp only [Act.put,List.setIfInBounds_toArray,List.set_cons_zero,List.set_cons_succ]
     refine K_skipA (i:=18) (by simp only [List.getElem?_toArray,List.getElem?_cons_succ,List.getElem?_cons_zero];exact rfl) (by kernel_rfl) (by kernel_rfl) (by kernel_rfl) (of_decide_eq_true (by kernel_rfl)) (by kernel_rfl) (by exact fun _ _ _ h=>h) hS (by rfl) ?_
     simp only [Act.put,List.setIfInBounds_toArray,List.set_cons_zero,List.set_cons_succ]
     refine K_skipA (i:=19) (by simp only [List.getElem?_toArray,List.getElem?_cons_succ,List.getElem?_cons_zero];exact rfl) (by kernel_rfl) (by kernel_rfl) (by kernel_rfl) (of_decide_eq_true (by kernel_rfl)) (by kernel_rfl) (by exact fun _ _ _ h=>h) hS (by rfl) ?_
     simp only [Act.put,List.setIfInBounds_toArray,List.set_cons_zero,List.set_cons_succ]
     refine K_skipA (i:=20) (by simp only [List.getElem?_toArray,List.getElem?_cons_succ,List.getElem?_cons_zero];exact rfl) (by kernel_rfl) (by kernel_rfl) (by kernel_rfl) (of_decide_eq_true (by kernel_rfl)) (by kernel_rfl) (by exact fun _ _ _ h=>h) hS (by rfl) ?_
     simp only [Act.put,List.setIfInBounds_toArray,List.set_cons_zero,List.set_cons_succ]
     refine K_skipA (i:=21) (by simp only [List.getElem?_toArray,List.getElem?_cons_succ,List.getElem?_cons_zero];exact rfl) (by kernel_rfl) (by kernel_rfl) (by kernel_rfl) (of_decide_eq_true (by kernel_rfl)) (by kernel_rfl) (by exact fun _ _ _ h=>h) hS (by rfl) ?_
     simp only [Act.put,List.setIfInBounds_toArray,List.set_cons_zero,List.set_cons_succ]
     refine K_skipA (i:=22) (by simp only [List.getElem?_toArray,List.getElem?_cons_succ,List.getElem?_cons_zero];exact rfl) (by kernel_rfl) (by kernel_rfl) (by kernel_rfl) (of_decide_eq_true (by kernel_rfl)) (by kernel_rfl) (by exact fun _ _ _ h=>h) hS (by rfl) ?_
     simp only [Act.put,List.setIfInBounds_toArray,List.set_cons_zero,List.set_cons_succ]
     refine K_pure (i:=23) (v:=?_) (by simp only [List.getElem?_toArray,List.getElem?_cons_succ,List.getElem?_cons_zero];exact rfl) (by kernel_rfl) (by kernel_rfl) (by kernel_rfl) (by decide) (by exact fun _ _ _ h=>h) (fun _=>hS) (by rfl) ?_ ?_
     rotate_left
     ·intro uu
      go_simp
      try with_reducible rfl
     simp only [Act.put,List.setIfInBounds_toArray,List.set_cons_zero,List.set_cons_succ]
     refine K_pure (i:=24) (v:=?_) (by simp only [List.getElem?_toArray,List.getElem?_cons_succ,List.getElem?_cons_zero];exact rfl) (by kernel_rfl) (by kernel_rfl) (by kernel_rfl) (by decide) (by exact fun _ _ _ h=>h) (fun _=>hS) (by rfl) ?_ ?_
     rotate_left
     ·intro uu
      go_simp
      try with_reducible rfl
     simp only [Act.put,List.setIfInBounds_toArray,List.set_cons_zero,List.set_cons_succ]
     refine K_done (by kernel_rfl) ?_
     clear hS hS8 C
     go_wp2_with fail
     go_roundw
     case rel=>exact ⟨0+1,by omega,by go_num,HB8,HP2⟩
     case measure=>simp [intOf];omega
    ·obtain ⟨m,hm⟩:∃ m,k=m+1:=⟨k - 1,by omega⟩
     have HMK:=hid hm
     have hgt0:(0:Int)<(k:Int):=by omega
     obtain ⟨t,ht⟩:∃ t,x.keys[m]? = some t:=⟨_,List.getElem?_eq_getElem (by have:=HKN.out;omega)⟩
     have hgt:x.keys.getD m ⟨#[]⟩=t:=by rw [List.getD_eq_getElem?_getD,ht];rfl
     have c1:=HCL.out m t ht
     have HKA:Hid (keyAt x.keys k=Op.bytesLess t.toList s.toList):=hid (by
      unfold keyAt
      rw [HGS.out,hnb,show k - 1=m from by omega,hgt,show (k == 0)=false from by simp;omega]
      simp)
     have hw1:IntKind.i64.wrap ((k:Int) - 1)=(m:Int):=by rw [show (k:Int) - 1=(m:Int) from by omega];exact IntWalk.i64_in _ (by omega)
     have hmk:(m:Int)<(kn:Int):=by omega
     have hmz:(0:Int)≤(m:Int):=by omega
     clear ht hgt hnb hk0 hm
     cases hls:Op.bytesLess t.toList s.toList
     ·have HF:=hid (not_valid HV.out (fun h=>by
       have:=h.1
       rw [HKN.out,all_range_no HLT.out (by rw [HKA.out,hls])] at this
       cases this))
      have hls2:(!Op.bytesLess t.toList s.toList)=true:=by rw [hls];rfl
      go_upto_region 4 with (fail)
      refine K_start 100 (fun u=>Below wr.heap.size wr u) (by kernel_rfl) ?_
      refine K_pure (i:=0) (v:=?_) (by simp only [List.getElem?_toArray,List.getElem?_cons_succ,List.getElem?_cons_zero];exact rfl) (by kernel_rfl) (by kernel_rfl) (by kernel_rfl) (by decide) (by exact fun _ _ _ h=>h) (fun _=>hS) (by rfl) ?_ ?_
      rotate_left
      ·intro uu
       go_simp
       try with_reducible rfl
      simp only [Act.put,List.setIfInBounds_toArray,List.set_cons_zero,List.set_cons_succ]
      refine K_takeA (i:=1) (v:=?_) (by simp only [List.getElem?_toArray,List.getElem?_cons_succ,List.getElem?_cons_zero];exact rfl) (by kernel_rfl) (by kernel_rfl) (by kernel_rfl) (of_decide_eq_true (by kernel_rfl)) (by kernel_rfl) (by exact fun _ _ _ h=>h) hS (by rfl) ?_ ?_
      rotate_left
      ·intro uu hu
       have z3_:=cell_below hu z3
       go_simp
       try with_reducible rfl
      simp only [Act.put,List.setIfInBounds_toArray,List.set_cons_zero,List.set_cons_succ]
      refine K_pure (i:=2) (v:=?_) (by simp only [List.getElem?_toArray,List.getElem?_cons_succ,List.getElem?_cons_zero];exact rfl) (by kernel_rfl) (by kernel_rfl) (by kernel_rfl) (by decide) (by exact fun _ _ _ h=>h) (fun _=>hS) (by rfl) ?_ ?_
      rotate_left
      ·intro uu
       go_simp
       try with_reducible rfl
      simp only [Act.put,List.setIfInBounds_toArray,List.set_cons_zero,List.set_cons_succ]
      refine K_pure (i:=3) (v:=?_) (by simp only [List.getElem?_toArray,List.getElem?_cons_succ,List.getElem?_cons_zero];exact rfl) (by kernel_rfl) (by kernel_rfl) (by kernel_rfl) (by decide) (by exact fun _ _ _ h=>h) (fun _=>hS) (by rfl) ?_ ?_
      rotate_left
      ·intro uu
       go_simp
       try with_reducible rfl
      simp only [Act.put,List.setIfInBounds_toArray,List.set_cons_zero,List.set_cons_succ]
      refine K_takeA (i:=4) (v:=?_) (by simp only [List.getElem?_toArray,List.getElem?_cons_succ,List.getElem?_cons_zero];exact rfl) (by kernel_rfl) (by kernel_rfl) (by kernel_rfl) (of_decide_eq_true (by kernel_rfl)) (by kernel_rfl) (by exact fun _ _ _ h=>h) hS (by rfl) ?_ ?_
      rotate_left
      ·intro uu hu
       have c0_:=cell_below hu c0
       go_simp
       try with_reducible rfl
      simp only [Act.put,List.setIfInBounds_toArray,List.set_cons_zero,List.set_cons_succ]
      refine K_one (i:=5) (by kernel_rfl) rfl (fun K hK=>?_)
      go_simp
      go_at_call 81
      refine C.mono ?_
      rintro e w8 ⟨rfl,hb8⟩
      have hS8:Below wr.heap.size wr w8:=⟨hb8.os,hb8.tape,hb8.output,hb8.size,hb8.block⟩
      refine hK _ _ (fun _=>hS8) ?_
      clear hK K hS hb8
      have hS:=hS8
      have HB8:=hid (HB.out.trans (hS8.mono HB.out.size))
      refine K_pure (i:=6) (v:=?_) (by simp only [List.getElem?_toArray,List.getElem?_cons_succ,List.getElem?_cons_zero];exact rfl) (by kernel_rfl) (by kernel_rfl) (by kernel_rfl) (by decide) (by exact fun _ _ _ h=>h) (fun _=>hS) (by rfl) ?_ ?_
      rotate_left
      ·intro uu
       go_simp
       try with_reducible rfl
      simp only [Act.put,List.setIfInBounds_toArray,List.set_cons_zero,List.set_cons_succ]
      refine K_pure (i:=7) (v:=?_) (by simp only [List.getElem?_toArray,List.getElem?_cons_succ,List.getElem?_cons_zero];exact rfl) (by kernel_rfl) (by kernel_rfl) (by kernel_rfl) (by decide) (by exact fun _ _ _ h=>h) (fun _=>hS) (by rfl) ?_ ?_
      rotate_left
      ·intro uu
       go_simp
       try with_reducible rfl
      simp only [Act.put,List.setIfInBounds_toArray,List.set_cons_zero,List.set_cons_succ]
      refine K_pure (i:=8) (v:=?_) (by simp only [List.getElem?_toArray,List.getElem?_cons_succ,List.getElem?_cons_zero];exact rfl) (by kernel_rfl) (by kernel_rfl) (by kernel_rfl) (by decide) (by exact fun _ _ _ h=>h) (fun _=>hS) (by rfl) ?_ ?_
      rotate_left
      ·intro uu
       go_simp
       try with_reducible rfl
      simp only [Act.put,List.setIfInBounds_toArray,List.set_cons_zero,List.set_cons_succ]
      refine K_pure (i:=9) (v := .bool true) (by simp only [List.getElem?_toArray,List.getElem?_cons_succ,List.getElem?_cons_zero];exact rfl) (by kernel_rfl) (by kernel_rfl) (by kernel_rfl) (by decide) (by exact fun _ _ _ h=>h) (fun _=>hS) (by rfl) ?_ ?_
      ·intro uu
       go_simp
       first
        | done
        | omega
      simp only [Act.put,List.setIfInBounds_toArray,List.set_cons_zero,List.set_cons_succ]
      refine K_pure (i:=10) (v:=?_) (by simp only [List.getElem?_toArray,List.getElem?_cons_succ,List.getElem?_cons_zero];exact rfl) (by kernel_rfl) (by kernel_rfl) (by kernel_rfl) (by decide) (by exact fun _ _ _ h=>h) (fun _=>hS) (by rfl) ?_ ?_
      rotate_left
      ·intro uu
       go_simp
       try with_reducible rfl
      simp only [Act.put,List.setIfInBounds_toArray,List.set_cons_zero,List.set_cons_succ]
      refine K_pure (i:=11) (v:=?_) (by simp only [List.getElem?_toArray,List.getElem?_cons_succ,List.getElem?_cons_zero];exact rfl) (by kernel_rfl) (by kernel_rfl) (by kernel_rfl) (by decide) (by exact fun _ _ _ h=>h) (fun _=>hS) (by rfl) ?_ ?_
      rotate_left
      ·intro uu
       go_simp
       try with_reducible rfl
      simp only [Act.put,List.setIfInBounds_toArray,List.set_cons_zero,List.set_cons_succ]
      refine K_takeA (i:=12) (v:=?_) (by simp only [List.getElem?_toArray,List.getElem?_cons_succ,List.getElem?_cons_zero];exact rfl) (by kernel_rfl) (by kernel_rfl) (by kernel_rfl) (of_decide_eq_true (by kernel_rfl)) (by kernel_rfl) (by exact fun _ _ _ h=>h) hS (by rfl) ?_ ?_
      rotate_left
      ·intro uu hu
       have z3_:=cell_below hu z3
       go_simp
       try with_reducible rfl
      simp only [Act.put,List.setIfInBounds_toArray,List.set_cons_zero,List.set_cons_succ]
      refine K_pure (i:=13) (v:=?_) (by simp only [List.getElem?_toArray,List.getElem?_cons_succ,List.getElem?_cons_zero];exact rfl) (by kernel_rfl) (by kernel_rfl) (by kernel_rfl) (by decide) (by exact fun _ _ _ h=>h) (fun _=>hS) (by rfl) ?_ ?_
      rotate_left
      ·intro uu
       go_simp
       try with_reducible rfl
      simp only [Act.put,List.setIfInBounds_toArray,List.set_cons_zero,List.set_cons_succ]
      refine K_pure (i:=14) (v:=?_) (by simp only [List.getElem?_toArray,List.getElem?_cons_succ,List.getElem?_cons_zero];exact rfl) (by kernel_rfl) (by kernel_rfl) (by kernel_rfl) (by decide) (by exact fun _ _ _ h=>h) (fun _=>hS) (by rfl) ?_ ?_
      rotate_left
      ·intro uu
       go_simp
       try with_reducible rfl
      simp only [Act.put,List.setIfInBounds_toArray,List.set_cons_zero,List.set_cons_succ]
      refine K_pure (i:=15) (v:=?_) (by simp only [List.getElem?_toArray,List.getElem?_cons_succ,List.getElem?_cons_zero];exact rfl) (by kernel_rfl) (by kernel_rfl) (by kernel_rfl) (by decide) (by exact fun _ _ _ h=>h) (fun _=>hS) (by rfl) ?_ ?_
      rotate_left
      ·intro uu
       go_simp
       try with_reducible rfl
      simp only [Act.put,List.setIfInBounds_toArray,List.set_cons_zero,List.set_cons_succ]
      refine K_takeA (i:=16) (v:=?_) (by simp only [List.getElem?_toArray,List.getElem?_cons_succ,List.getElem?_cons_zero];exact rfl) (by kernel_rfl) (by kernel_rfl) (by kernel_rfl) (of_decide_eq_true (by kernel_rfl)) (by kernel_rfl) (by exact fun _ _ _ h=>h) hS (by rfl) ?_ ?_
      rotate_left
      ·intro uu hu
       have c1_:=cell_below hu c1
       go_simp
       try with_reducible rfl
      simp only [Act.put,List.setIfInBounds_toArray,List.set_cons_zero,List.set_cons_succ]
      refine K_pure (i:=17) (v:=?_) (by simp only [List.getElem?_toArray,List.getElem?_cons_succ,List.getElem?_cons_zero];exact rfl) (by kernel_rfl) (by kernel_rfl) (by kernel_rfl) (by decide) (by exact fun _ _ _ h=>h) (fun _=>hS) (by rfl) ?_ ?_
      rotate_left
      ·intro uu
       go_simp
       try with_reducible rfl
      simp only [Act.put,List.setIfInBounds_toArray,List.set_cons_zero,List.set_cons_succ]
      refine K_takeA (i:=18) (v:=?_) (by simp only [List.getElem?_toArray,List.getElem?_cons_succ,List.getElem?_cons_zero];exact rfl) (by kernel_rfl) (by kernel_rfl) (by kernel_rfl) (of_decide_eq_true (by kernel_rfl)) (by kernel_rfl) (by exact fun _ _ _ h=>h) hS (by rfl) ?_ ?_
      rotate_left
      ·intro uu hu
       have z3_:=cell_below hu z3
       go_simp
       try with_reducible rfl
      simp only [Act.put,List.setIfInBounds_toArray,List.set_cons_zero,List.set_cons_succ]
      refine K_pure (i:=19) (v:=?_) (by simp only [List.getElem?_toArray,List.getElem?_cons_succ,List.getElem?_cons_zero];exact rfl) (by kernel_rfl) (by kernel_rfl) (by kernel_rfl) (by decide) (by exact fun _ _ _ h=>h) (fun _=>hS) (by rfl) ?_ ?_
      rotate_left
      ·intro uu
       go_simp
       try with_reducible rfl
      simp only [Act.put,List.setIfInBounds_toArray,List.set_cons_zero,List.set_cons_succ]
      refine K_pure (i:=20) (v:=?_) (by simp only [List.getElem?_toArray,List.getElem?_cons_succ,List.getElem?_cons_zero];exact rfl) (by kernel_rfl) (by kernel_rfl) (by kernel_rfl) (by decide) (by exact fun _ _ _ h=>h) (fun _=>hS) (by rfl) ?_ ?_
      rotate_left
      ·intro uu
       go_simp
       try with_reducible rfl
      simp only [Act.put,List.setIfInBounds_toArray,List.set_cons_zero,List.set_cons_succ]
      refine K_takeA (i:=21) (v:=?_) (by simp only [List.getElem?_toArray,List.getElem?_cons_succ,List.getElem?_cons_zero];exact rfl) (by kernel_rfl) (by kernel_rfl) (by kernel_rfl) (of_decide_eq_true (by kernel_rfl)) (by kernel_rfl) (by exact fun _ _ _ h=>h) hS (by rfl) ?_ ?_
      rotate_left
      ·intro uu hu
       have c0_:=cell_below hu c0
       go_simp
       try with_reducible rfl
      simp only [Act.put,List.setIfInBounds_toArray,List.set_cons_zero,List.set_cons_succ]
      refine K_pure (i:=22) (v:=?_) (by simp only [List.getElem?_toArray,List.getElem?_cons_succ,List.getElem?_cons_zero];exact rfl) (by kernel_rfl) (by kernel_rfl) (by kernel_rfl) (by decide) (by exact fun _ _ _ h=>h) (fun _=>hS) (by rfl) ?_ ?_
      rotate_left
      ·intro uu
       go_simp
       try with_reducible rfl
      simp only [Act.put,List.setIfInBounds_toArray,List.set_cons_zero,List.set_cons_succ]
      refine K_pure (i:=23) (v:=?_) (by simp only [List.getElem?_toArray,List.getElem?_cons_succ,List.getElem?_cons_zero];exact rfl) (by kernel_rfl) (by kernel_rfl) (by kernel_rfl) (by decide) (by exact fun _ _ _ h=>h) (fun _=>hS) (by rfl) ?_ ?_
      rotate_left
      ·intro uu
       go_simp
       try with_reducible rfl
      simp only [Act.put,List.setIfInBounds_toArray,List.set_cons_zero,List.set_cons_succ]
      refine K_pure (i:=24) (v:=?_) (by simp only [List.getElem?_toArray,List.getElem?_cons_succ,List.getElem?_cons_zero];exact rfl) (by kernel_rfl) (by kernel_rfl) (by kernel_rfl) (by decide) (by exact fun _ _ _ h=>h) (fun _=>hS) (by rfl) ?_ ?_
      rotate_left
      ·intro uu
       go_simp
       try with_reducible rfl
      simp only [Act.put,List.setIfInBounds_toArray,List.set_cons_zero,List.set_cons_succ]
      refine K_done (by kernel_rfl) ?_
      clear hS hS8 C
      clear c1
      go_wp2_with fail
      go_ret
      exact ⟨by rw [HF.out];rfl,HY.out.trans (HB8.out.mono HY.out.size)⟩
     ·have HP2:Hid (∀ j,j<k+1→keyAt x.keys j=true):=hid fun j hj=>by
       by_cases h:j=k
       ·rw [h,HKA.out,hls]
       ·exact HP.out j (by omega)
      have hls2:(!Op.bytesLess t.toList s.toList)=false:=by rw [hls];rfl
      go_upto_region 4 with (fail)
      refine K_start 100 (fun u=>Below wr.heap.size wr u) (by kernel_rfl) ?_
      refine K_pure (i:=0) (v:=?_) (by simp only [List.getElem?_toArray,List.getElem?_cons_succ,List.getElem?_cons_zero];exact rfl) (by kernel_rfl) (by kernel_rfl) (by kernel_rfl) (by decide) (by exact fun _ _ _ h=>h) (fun _=>hS) (by rfl) ?_ ?_
      rotate_left
      ·intro uu
       go_simp
       try with_reducible rfl
      simp only [Act.put,List.setIfInBounds_toArray,List.set_cons_zero,List.set_cons_succ]
      refine K_takeA (i:=1) (v:=?_) (by simp only [List.getElem?_toArray,List.getElem?_cons_succ,List.getElem?_cons_zero];exact rfl) (by kernel_rfl) (by kernel_rfl) (by kernel_rfl) (of_decide_eq_true (by kernel_rfl)) (by kernel_rfl) (by exact fun _ _ _ h=>h) hS (by rfl) ?_ ?_
      rotate_left
      ·intro uu hu
       have z3_:=cell_below hu z3
       go_simp
       try with_reducible rfl
      simp only [Act.put,List.setIfInBounds_toArray,List.set_cons_zero,List.set_cons_succ]
      refine K_pure (i:=2) (v:=?_) (by simp only [List.getElem?_toArray,List.getElem?_cons_succ,List.getElem?_cons_zero];exact rfl) (by kernel_rfl) (by kernel_rfl) (by kernel_rfl) (by decide) (by exact fun _ _ _ h=>h) (fun _=>hS) (by rfl) ?_ ?_
      rotate_left
      ·intro uu
       go_simp
       try with_reducible rfl
      simp only [Act.put,List.setIfInBounds_toArray,List.set_cons_zero,List.set_cons_succ]
      refine K_pure (i:=3) (v:=?_) (by simp only [List.getElem?_toArray,List.getElem?_cons_succ,List.getElem?_cons_zero];exact rfl) (by kernel_rfl) (by kernel_rfl) (by kernel_rfl) (by decide) (by exact fun _ _ _ h=>h) (fun _=>hS) (by rfl) ?_ ?_
      rotate_left
      ·intro uu
       go_simp
       try with_reducible rfl
      simp only [Act.put,List.setIfInBounds_toArray,List.set_cons_zero,List.set_cons_succ]
      refine K_takeA (i:=4) (v:=?_) (by simp only [List.getElem?_toArray,List.getElem?_cons_succ,List.getElem?_cons_zero];exact rfl) (by kernel_rfl) (by kernel_rfl) (by kernel_rfl) (of_decide_eq_true (by kernel_rfl)) (by kernel_rfl) (by exact fun _ _ _ h=>h) hS (by rfl) ?_ ?_
      rotate_left
      ·intro uu hu
       have c0_:=cell_below hu c0
       go_simp
       try with_reducible rfl
      simp only [Act.put,List.setIfInBounds_toArray,List.set_cons_zero,List.set_cons_succ]
      refine K_one (i:=5) (by kernel_rfl) rfl (fun K hK=>?_)
      go_simp
      go_at_call 81
      refine C.mono ?_
      rintro e w8 ⟨rfl,hb8⟩
      have hS8:Below wr.heap.size wr w8:=⟨hb8.os,hb8.tape,hb8.output,hb8.size,hb8.block⟩
      refine hK _ _ (fun _=>hS8) ?_
      clear hK K hS hb8
      have hS:=hS8
      have HB8:=hid (HB.out.trans (hS8.mono HB.out.size))
      refine K_pure (i:=6) (v:=?_) (by simp only [List.getElem?_toArray,List.getElem?_cons_succ,List.getElem?_cons_zero];exact rfl) (by kernel_rfl) (by kernel_rfl) (by kernel_rfl) (by decide) (by exact fun _ _ _ h=>h) (fun _=>hS) (by rfl) ?_ ?_
      rotate_left
      ·intro uu
       go_simp
       try with_reducible rfl
      simp only [Act.put,List.setIfInBounds_toArray,List.set_cons_zero,List.set_cons_succ]
      refine K_pure (i:=7) (v:=?_) (by simp only [List.getElem?_toArray,List.getElem?_cons_succ,List.getElem?_cons_zero];exact rfl) (by kernel_rfl) (by kernel_rfl) (by kernel_rfl) (by decide) (by exact fun _ _ _ h=>h) (fun _=>hS) (by rfl) ?_ ?_
      rotate_left
      ·intro uu
       go_simp
       try with_reducible rfl
      simp only [Act.put,List.setIfInBounds_toArray,List.set_cons_zero,List.set_cons_succ]
      refine K_pure (i:=8) (v:=?_) (by simp only [List.getElem?_toArray,List.getElem?_cons_succ,List.getElem?_cons_zero];exact rfl) (by kernel_rfl) (by kernel_rfl) (by kernel_rfl) (by decide) (by exact fun _ _ _ h=>h) (fun _=>hS) (by rfl) ?_ ?_
      rotate_left
      ·intro uu
       go_simp
       try with_reducible rfl
      simp only [Act.put,List.setIfInBounds_toArray,List.set_cons_zero,List.set_cons_succ]
      refine K_pure (i:=9) (v := .bool true) (by simp only [List.getElem?_toArray,List.getElem?_cons_succ,List.getElem?_cons_zero];exact rfl) (by kernel_rfl) (by kernel_rfl) (by kernel_rfl) (by decide) (by exact fun _ _ _ h=>h) (fun _=>hS) (by rfl) ?_ ?_
      ·intro uu
       go_simp
       first
        | done
        | omega
      simp only [Act.put,List.setIfInBounds_toArray,List.set_cons_zero,List.set_cons_succ]
      refine K_pure (i:=10) (v:=?_) (by simp only [List.getElem?_toArray,List.getElem?_cons_succ,List.getElem?_cons_zero];exact rfl) (by kernel_rfl) (by kernel_rfl) (by kernel_rfl) (by decide) (by exact fun _ _ _ h=>h) (fun _=>hS) (by rfl) ?_ ?_
      rotate_left
      ·intro uu
       go_simp
       try with_reducible rfl
      simp only [Act.put,List.setIfInBounds_toArray,List.set_cons_zero,List.set_cons_succ]
      refine K_pure (i:=11) (v:=?_) (by simp only [List.getElem?_toArray,List.getElem?_cons_succ,List.getElem?_cons_zero];exact rfl) (by kernel_rfl) (by kernel_rfl) (by kernel_rfl) (by decide) (by exact fun _ _ _ h=>h) (fun _=>hS) (by rfl) ?_ ?_
      rotate_left
      ·intro uu
       go_simp
       try with_reducible rfl
      simp only [Act.put,List.setIfInBounds_toArray,List.set_cons_zero,List.set_cons_succ]
      refine K_takeA (i:=12) (v:=?_) (by simp only [List.getElem?_toArray,List.getElem?_cons_succ,List.getElem?_cons_zero];exact rfl) (by kernel_rfl) (by kernel_rfl) (by kernel_rfl) (of_decide_eq_true (by kernel_rfl)) (by kernel_rfl) (by exact fun _ _ _ h=>h) hS (by rfl) ?_ ?_
      rotate_left
      ·intro uu hu
       have z3_:=cell_below hu z3
       go_simp
       try with_reducible rfl
      simp only [Act.put,List.setIfInBounds_toArray,List.set_cons_zero,List.set_cons_succ]
      refine K_pure (i:=13) (v:=?_) (by simp only [List.getElem?_toArray,List.getElem?_cons_succ,List.getElem?_cons_zero];exact rfl) (by kernel_rfl) (by kernel_rfl) (by kernel_rfl) (by decide) (by exact fun _ _ _ h=>h) (fun _=>hS) (by rfl) ?_ ?_
      rotate_left
      ·intro uu
       go_simp
       try with_reducible rfl
      simp only [Act.put,List.setIfInBounds_toArray,List.set_cons_zero,List.set_cons_succ]
      refine K_pure (i:=14) (v:=?_) (by simp only [List.getElem?_toArray,List.getElem?_cons_succ,List.getElem?_cons_zero];exact rfl) (by kernel_rfl) (by kernel_rfl) (by kernel_rfl) (by decide) (by exact fun _ _ _ h=>h) (fun _=>hS) (by rfl) ?_ ?_
      rotate_left
      ·intro uu
       go_simp
       try with_reducible rfl
      simp only [Act.put,List.setIfInBounds_toArray,List.set_cons_zero,List.set_cons_succ]
      refine K_pure (i:=15) (v:=?_) (by simp only [List.getElem?_toArray,List.getElem?_cons_succ,List.getElem?_cons_zero];exact rfl) (by kernel_rfl) (by kernel_rfl) (by kernel_rfl) (by decide) (by exact fun _ _ _ h=>h) (fun _=>hS) (by rfl) ?_ ?_
      rotate_left
      ·intro uu
       go_simp
       try with_reducible rfl
      simp only [Act.put,List.setIfInBounds_toArray,List.set_cons_zero,List.set_cons_succ]
      refine K_takeA (i:=16) (v:=?_) (by simp only [List.getElem?_toArray,List.getElem?_cons_succ,List.getElem?_cons_zero];exact rfl) (by kernel_rfl) (by kernel_rfl) (by kernel_rfl) (of_decide_eq_true (by kernel_rfl)) (by kernel_rfl) (by exact fun _ _ _ h=>h) hS (by rfl) ?_ ?_
      rotate_left
      ·intro uu hu
       have c1_:=cell_below hu c1
       go_simp
       try with_reducible rfl
      simp only [Act.put,List.setIfInBounds_toArray,List.set_cons_zero,List.set_cons_succ]
      refine K_pure (i:=17) (v:=?_) (by simp only [List.getElem?_toArray,List.getElem?_cons_succ,List.getElem?_cons_zero];exact rfl) (by kernel_rfl) (by kernel_rfl) (by kernel_rfl) (by decide) (by exact fun _ _ _ h=>h) (fun _=>hS) (by rfl) ?_ ?_
      rotate_left
      ·intro uu
       go_simp
       try with_reducible rfl
      simp only [Act.put,List.setIfInBounds_toArray,List.set_cons_zero,List.set_cons_succ]
      refine K_takeA (i:=18) (v:=?_) (by simp only [List.getElem?_toArray,List.getElem?_cons_succ,List.getElem?_cons_zero];exact rfl) (by kernel_rfl) (by kernel_rfl) (by kernel_rfl) (of_decide_eq_true (by kernel_rfl)) (by kernel_rfl) (by exact fun _ _ _ h=>h) hS (by rfl) ?_ ?_
      rotate_left
      ·intro uu hu
       have z3_:=cell_below hu z3
       go_simp
       try with_reducible rfl
      simp only [Act.put,List.setIfInBounds_toArray,List.set_cons_zero,List.set_cons_succ]
      refine K_pure (i:=19) (v:=?_) (by simp only [List.getElem?_toArray,List.getElem?_cons_succ,List.getElem?_cons_zero];exact rfl) (by kernel_rfl) (by kernel_rfl) (by kernel_rfl) (by decide) (by exact fun _ _ _ h=>h) (fun _=>hS) (by rfl) ?_ ?_
      rotate_left
      ·intro uu
       go_simp
       try with_reducible rfl
      simp only [Act.put,List.setIfInBounds_toArray,List.set_cons_zero,List.set_cons_succ]
      refine K_pure (i:=20) (v:=?_) (by simp only [List.getElem?_toArray,List.getElem?_cons_succ,List.getElem?_cons_zero];exact rfl) (by kernel_rfl) (by kernel_rfl) (by kernel_rfl) (by decide) (by exact fun _ _ _ h=>h) (fun _=>hS) (by rfl) ?_ ?_
      rotate_left
      ·intro uu
       go_simp
       try with_reducible rfl
      simp only [Act.put,List.setIfInBounds_toArray,List.set_cons_zero,List.set_cons_succ]
      refine K_takeA (i:=21) (v:=?_) (by simp only [List.getElem?_toArray,List.getElem?_cons_succ,List.getElem?_cons_zero];exact rfl) (by kernel_rfl) (by kernel_rfl) (by kernel_rfl) (of_decide_eq_true (by kernel_rfl)) (by kernel_rfl) (by exact fun _ _ _ h=>h) hS (by rfl) ?_ ?_
      rotate_left
      ·intro uu hu
       have c0_:=cell_below hu c0
       go_simp
       try with_reducible rfl
      simp only [Act.put,List.setIfInBounds_toArray,List.set_cons_zero,List.set_cons_succ]
      refine K_pure (i:=22) (v:=?_) (by simp only [List.getElem?_toArray,List.getElem?_cons_succ,List.getElem?_cons_zero];exact rfl) (by kernel_rfl) (by kernel_rfl) (by kernel_rfl) (by decide) (by exact fun _ _ _ h=>h) (fun _=>hS) (by rfl) ?_ ?_
      rotate_left
      ·intro uu
       go_simp
       try with_reducible rfl
      simp only [Act.put,List.setIfInBounds_toArray,List.set_cons_zero,List.set_cons_succ]
      refine K_pure (i:=23) (v:=?_) (by simp only [List.getElem?_toArray,List.getElem?_cons_succ,List.getElem?_cons_zero];exact rfl) (by kernel_rfl) (by kernel_rfl) (by kernel_rfl) (by decide) (by exact fun _ _ _ h=>h) (fun _=>hS) (by rfl) ?_ ?_
      rotate_left
      ·intro uu
       go_simp
       try with_reducible rfl
      simp only [Act.put,List.setIfInBounds_toArray,List.set_cons_zero,List.set_cons_succ]
      refine K_pure (i:=24) (v:=?_) (by simp only [List.getElem?_toArray,List.getElem?_cons_succ,List.getElem?_cons_zero];exact rfl) (by kernel_rfl) (by kernel_rfl) (by kernel_rfl) (by decide) (by exact fun _ _ _ h=>h) (fun _=>hS) (by rfl) ?_ ?_
      rotate_left
      ·intro uu
       go_simp
       try with_reducible rfl
      simp only [Act.put,List.setIfInBounds_toArray,List.set_cons_zero,List.set_cons_succ]
      refine K_done (by kernel_rfl) ?_
      clear hS hS8 C
      clear c1
      go_wp2_with fail
      go_roundw
      case rel=>exact ⟨k+1,by omega,by go_num,HB8,HP2⟩
      case measure=>simp [intOf];omega
  ·have hkI:¬ (k:Int)<(kn:Int):=by omega
   have HALL:Hid ((List.range x.keys.length).all (keyAt x.keys)=true):=hid (all_range fun j hj=>HP.out j (by have:=HKN.out;omega))
   have C:=r6_inside A PA N c pc x.l wr (by omega) (by have:=Hn.out;omega) ((H2.out.below HY.out).below HB.out)
   rw [Hn.out] at C
   obtain ⟨ins,hins⟩:∃ ins,x.l.all (exI N)=ins:=⟨_,rfl⟩
   rw [hins] at C
   have HINS:=hid hins
   have HBF:Hid (Below w.heap.size w wr):=hid (HY.out.trans (HB.out.mono HY.out.size))
   clear hins
   by_cases e1:nm=⟨#[]⟩
   ·have b1:nm.toList.isEmpty=true:=nm_empty.2 e1
    by_cases e2:num=0
    ·have b2:(num == 0)=true:=by simp [e2]
     by_cases e3:kn≤16
     ·have b3:(kn:Int)≤16:=by omega
      by_cases e4:n=kn
      ·have b4:((n:Int) == (kn:Int))=true:=by simp [e4]
       have H1234:=hid (And.intro e1 (And.intro e2 (And.intro e3 e4)))
       have HVV:Hid (validG g x=ins):=hid (by
        cases ins
        ·exact not_valid HV.out (fun h=>by have:=h.2.2.2.2.2;rw [HN.out,HINS.out] at this;cases this)
        ·exact HV.out.2 ⟨HALL.out,HNM.out.trans H1234.out.1,HNU.out.trans H1234.out.2.1,by rw [HKN.out];exact H1234.out.2.2.1,by rw [HKN.out,Hn.out];exact H1234.out.2.2.2,by rw [HN.out];exact HINS.out⟩)
       clear e1 e2 e4
       go_wp2_with fail
       refine C.mono ?_
       rintro r w9 ⟨rfl,rfl⟩
       clear C
       go_wp2_with fail
       go_ret
       exact ⟨by rw [HVV.out];rfl,HBF.out⟩
      ·have b4:((n:Int) == (kn:Int))=false:=by simp;omega
       have HF:=hid (not_valid HV.out (fun h=>e4 (by rw [← Hn.out,← HKN.out];exact h.2.2.2.2.1)))
       clear e1 e2 e4 C
       go_wp2_with fail
       go_ret
       exact ⟨by rw [HF.out];rfl,HBF.out⟩
     ·have b3:¬ (kn:Int)≤16:=by omega
      have HF:=hid (not_valid HV.out (fun h=>e3 (by rw [← HKN.out];exact h.2.2.2.1)))
      clear e1 e2 e3 C
      go_wp2_with fail
      go_ret
      exact ⟨by rw [HF.out];rfl,HBF.out⟩
    ·have b2:(num == 0)=false:=by simp [e2]
     have HF:=hid (not_valid HV.out (fun h=>e2 (HNU.out.symm.trans h.2.2.1)))
     clear e1 e2 C
     go_wp2_with fail
     go_ret
     exact ⟨by rw [HF.out];rfl,HBF.out⟩
   ·have b1:nm.toList.isEmpty=false:=by rw [Bool.eq_false_iff];exact fun h=>e1 (nm_empty.1 h)
    have HF:=hid (not_valid HV.out (fun h=>e1 (HNM.out.symm.trans h.2.1)))
    clear e1 C
    go_wp2_with fail
    go_ret
    exact ⟨by rw [HF.out];rfl,HBF.out⟩
end
section
open Go.RowKit
section
variable {g : List Gi} {x : Gi}
theorem valB1 (h:x.kind=1∨x.kind=2∨x.kind=3∨x.kind=4):validG g x=(((x.keys.length:Int) == 0) && ((x.l.length:Int) == 0) && (x.num == 0) && x.nm.toList.isEmpty):=by
 rw [Bool.eq_iff_iff,valid1 h,Bool.and_eq_true,Bool.and_eq_true,Bool.and_eq_true,beq_iff_eq,beq_iff_eq,beq_iff_eq,nm_empty]
 constructor
 ·rintro ⟨h1,h2,h3,h4⟩;exact ⟨⟨⟨by rw [h1];rfl,by rw [h2];rfl⟩,h3⟩,h4⟩
 ·rintro ⟨⟨⟨h1,h2⟩,h3⟩,h4⟩;exact ⟨List.length_eq_zero_iff.1 (by omega),List.length_eq_zero_iff.1 (by omega),h3,h4⟩
theorem valB5 (h:x.kind=5):validG g x=(((x.keys.length:Int) == 0) && ((x.l.length:Int) == 0) && (x.num == 0) && (nameB x.nm || keyB x.nm)):=by
 rw [Bool.eq_iff_iff,valid5 h,Bool.and_eq_true,Bool.and_eq_true,Bool.and_eq_true,beq_iff_eq,beq_iff_eq,beq_iff_eq,Bool.or_eq_true]
 constructor
 ·rintro ⟨h1,h2,h3,h4⟩;exact ⟨⟨⟨by rw [h1];rfl,by rw [h2];rfl⟩,h3⟩,h4⟩
 ·rintro ⟨⟨⟨h1,h2⟩,h3⟩,h4⟩;exact ⟨List.length_eq_zero_iff.1 (by omega),List.length_eq_zero_iff.1 (by omega),h3,h4⟩
theorem valB9 (h:x.kind=9):validG g x=(x.nm.toList.isEmpty && ((x.keys.length:Int) == 0) && decide (0≤x.num) && decide (x.num<16) && ((x.l.length:Int) == 1) && x.l.all (exI g.length)):=by
 rw [Bool.eq_iff_iff,valid9 h,Bool.and_eq_true,Bool.and_eq_true,Bool.and_eq_true,Bool.and_eq_true,Bool.and_eq_true,beq_iff_eq,beq_iff_eq,decide_eq_true_eq,decide_eq_true_eq,nm_empty]
 constructor
 ·rintro ⟨h1,h2,h3,h4,h5,h6⟩;exact ⟨⟨⟨⟨⟨h1,by rw [h2];rfl⟩,h3⟩,h4⟩,by rw [h5];rfl⟩,h6⟩
 ·rintro ⟨⟨⟨⟨⟨h1,h2⟩,h3⟩,h4⟩,h5⟩,h6⟩;exact ⟨h1,List.length_eq_zero_iff.1 (by omega),h3,h4,by omega,h6⟩
end
end
section
open Lib (hid)
open Go.RowKit
set_option maxRecDepth 100000 in
set_option maxHeartbeats 8000000 in
theorem r6_may1 (x:Gi) (A VA PA:Option Addr) (c vc pc:Nat) (g:List Gi) (w:World) (hg:g.length≤100000) (hr:GsR w A g) (h1:RdV w VA (x.keys.flatMap sC)) (h2:RdV w PA (x.l.flatMap iC)) (l1:(x.keys.length:Int)≤9223372036854775807) (l2:(x.l.length:Int)≤9223372036854775807) (hzn:x.nm.size≤maxLen) (hzk:∀ s∈x.keys,s.size≤maxLen) (hk:x.kind=1) :
  Calls Tryz.prog 58 #[.slice A g.length c,gnA x VA PA vc pc] w fun r w'=>r = .returned (.bool (validG g x))∧Below w.heap.size w w':=by
 have HG:=hid hr
 have H1:=hid h1
 have H2:=hid h2
 have HZK:=hid hzk
 have HZN:=hid hzn
 obtain ⟨N,hN⟩:∃ N,g.length=N:=⟨_,rfl⟩
 obtain ⟨kn,hkn⟩:∃ kn,x.keys.length=kn:=⟨_,rfl⟩
 obtain ⟨n,hn⟩:∃ n,x.l.length=n:=⟨_,rfl⟩
 have HN:=hid hN
 have HKN:=hid hkn
 have Hn:=hid hn
 unfold gnA
 have hvb:=valB1 (g:=g) (x:=x) (by omega)
 rw [hN] at hg ⊢
 rw [hkn] at l1 hvb ⊢
 rw [hn] at l2 hvb ⊢
 have hz:=Blk.new w 42 #[.int .i64 x.kind,.int .i64 x.num,.string x.nm,.slice VA kn vc,.slice PA n pc]
 have hy:=one_box w (.cells #[.int .i64 x.kind,.int .i64 x.num,.string x.nm,.slice VA kn vc,.slice PA n pc] 42)
 have HK:=hid hk
 clear hr h1 h2 hzk hzn hN hkn hn hk
 go_enter Tryz.func58,Tryz.ntmps58
 go_upto_region 1 with (fail)
 generalize w.alloc (.cells #[.int .i64 x.kind,.int .i64 x.num,.string x.nm,.slice VA kn vc,.slice PA n pc] 42)=w1 at hz hy ⊢
 obtain ⟨sb,hsb⟩:∃ sb,w.heap.size=sb:=⟨_,rfl⟩
 rw [hsb] at hz ⊢
 rw [HK.out] at hz
 have HZ:=hid hz
 have HY:=hid hy
 have HSB:=hid hsb
 have z0:=hz.cell 0
 have z1:=hz.cell 1
 have z2:=hz.cell 2
 have z3:=hz.cell 3
 have z4:=hz.cell 4
 simp at z0 z1 z2 z3 z4
 obtain ⟨v3,b3⟩:∃ v3,((kn:Int) == 0)=v3:=⟨_,rfl⟩
 obtain ⟨v4,b4⟩:∃ v4,((n:Int) == 0)=v4:=⟨_,rfl⟩
 obtain ⟨v5,b5⟩:∃ v5,(x.num == 0)=v5:=⟨_,rfl⟩
 obtain ⟨v6,b6⟩:∃ v6,x.nm.toList.isEmpty=v6:=⟨_,rfl⟩
 rw [b3,b4,b5,b6] at hvb
 have HVB:=hid hvb
 clear hvb hz hy hsb
 cases v3 <;> cases v4 <;> cases v5 <;> cases v6
 all_goals
  go_wp2_with fail
  go_ret
  exact ⟨by rw [HVB.out];rfl,HY.out⟩
set_option maxRecDepth 100000 in
set_option maxHeartbeats 8000000 in
theorem r6_may2 (x:Gi) (A VA PA:Option Addr) (c vc pc:Nat) (g:List Gi) (w:World) (hg:g.length≤100000) (hr:GsR w A g) (h1:RdV w VA (x.keys.flatMap sC)) (h2:RdV w PA (x.l.flatMap iC)) (l1:(x.keys.length:Int)≤9223372036854775807) (l2:(x.l.length:Int)≤9223372036854775807) (hzn:x.nm.size≤maxLen) (hzk:∀ s∈x.keys,s.size≤maxLen) (hk:x.kind=2) :
  Calls Tryz.prog 58 #[.slice A g.length c,gnA x VA PA vc pc] w fun r w'=>r = .returned (.bool (validG g x))∧Below w.heap.size w w':=by
 have HG:=hid hr
 have H1:=hid h1
 have H2:=hid h2
 have HZK:=hid hzk
 have HZN:=hid hzn
 obtain ⟨N,hN⟩:∃ N,g.length=N:=⟨_,rfl⟩
 obtain ⟨kn,hkn⟩:∃ kn,x.keys.length=kn:=⟨_,rfl⟩
 obtain ⟨n,hn⟩:∃ n,x.l.length=n:=⟨_,rfl⟩
 have HN:=hid hN
 have HKN:=hid hkn
 have Hn:=hid hn
 unfold gnA
 have hvb:=valB1 (g:=g) (x:=x) (by omega)
 rw [hN] at hg ⊢
 rw [hkn] at l1 hvb ⊢
 rw [hn] at l2 hvb ⊢
 have hz:=Blk.new w 42 #[.int .i64 x.kind,.int .i64 x.num,.string x.nm,.slice VA kn vc,.slice PA n pc]
 have hy:=one_box w (.cells #[.int .i64 x.kind,.int .i64 x.num,.string x.nm,.slice VA kn vc,.slice PA n pc] 42)
 have HK:=hid hk
 clear hr h1 h2 hzk hzn hN hkn hn hk
 go_enter Tryz.func58,Tryz.ntmps58
 go_upto_region 1 with (fail)
 generalize w.alloc (.cells #[.int .i64 x.kind,.int .i64 x.num,.string x.nm,.slice VA kn vc,.slice PA n pc] 42)=w1 at hz hy ⊢
 obtain ⟨sb,hsb⟩:∃ sb,w.heap.size=sb:=⟨_,rfl⟩
 rw [hsb] at hz ⊢
 rw [HK.out] at hz
 have HZ:=hid hz
 have HY:=hid hy
 have HSB:=hid hsb
 have z0:=hz.cell 0
 have z1:=hz.cell 1
 have z2:=hz.cell 2
 have z3:=hz.cell 3
 have z4:=hz.cell 4
 simp at z0 z1 z2 z3 z4
 obtain ⟨v3,b3⟩:∃ v3,((kn:Int) == 0)=v3:=⟨_,rfl⟩
 obtain ⟨v4,b4⟩:∃ v4,((n:Int) == 0)=v4:=⟨_,rfl⟩
 obtain ⟨v5,b5⟩:∃ v5,(x.num == 0)=v5:=⟨_,rfl⟩
 obtain ⟨v6,b6⟩:∃ v6,x.nm.toList.isEmpty=v6:=⟨_,rfl⟩
 rw [b3,b4,b5,b6] at hvb
 have HVB:=hid hvb
 clear hvb hz hy hsb
 cases v3 <;> cases v4 <;> cases v5 <;> cases v6
 all_goals
  go_wp2_with fail
  go_ret
  exact ⟨by rw [HVB.out];rfl,HY.out⟩
end
section
open Lib (hid)
open Go.RowKit
set_option maxRecDepth 100000 in
set_option maxHeartbeats 8000000 in
theorem r6_may3 (x:Gi) (A VA PA:Option Addr) (c vc pc:Nat) (g:List Gi) (w:World) (hg:g.length≤100000) (hr:GsR w A g) (h1:RdV w VA (x.keys.flatMap sC)) (h2:RdV w PA (x.l.flatMap iC)) (l1:(x.keys.length:Int)≤9223372036854775807) (l2:(x.l.length:Int)≤9223372036854775807) (hzn:x.nm.size≤maxLen) (hzk:∀ s∈x.keys,s.size≤maxLen) (hk:x.kind=3) :
  Calls Tryz.prog 58 #[.slice A g.length c,gnA x VA PA vc pc] w fun r w'=>r = .returned (.bool (validG g x))∧Below w.heap.size w w':=by
 have HG:=hid hr
 have H1:=hid h1
 have H2:=hid h2
 have HZK:=hid hzk
 have HZN:=hid hzn
 obtain ⟨N,hN⟩:∃ N,g.length=N:=⟨_,rfl⟩
 obtain ⟨kn,hkn⟩:∃ kn,x.keys.length=kn:=⟨_,rfl⟩
 obtain ⟨n,hn⟩:∃ n,x.l.length=n:=⟨_,rfl⟩
 have HN:=hid hN
 have HKN:=hid hkn
 have Hn:=hid hn
 unfold gnA
 have hvb:=valB1 (g:=g) (x:=x) (by omega)
 rw [hN] at hg ⊢
 rw [hkn] at l1 hvb ⊢
 rw [hn] at l2 hvb ⊢
 have hz:=Blk.new w 42 #[.int .i64 x.kind,.int .i64 x.num,.string x.nm,.slice VA kn vc,.slice PA n pc]
 have hy:=one_box w (.cells #[.int .i64 x.kind,.int .i64 x.num,.string x.nm,.slice VA kn vc,.slice PA n pc] 42)
 have HK:=hid hk
 clear hr h1 h2 hzk hzn hN hkn hn hk
 go_enter Tryz.func58,Tryz.ntmps58
 go_upto_region 1 with (fail)
 generalize w.alloc (.cells #[.int .i64 x.kind,.int .i64 x.num,.string x.nm,.slice VA kn vc,.slice PA n pc] 42)=w1 at hz hy ⊢
 obtain ⟨sb,hsb⟩:∃ sb,w.heap.size=sb:=⟨_,rfl⟩
 rw [hsb] at hz ⊢
 rw [HK.out] at hz
 have HZ:=hid hz
 have HY:=hid hy
 have HSB:=hid hsb
 have z0:=hz.cell 0
 have z1:=hz.cell 1
 have z2:=hz.cell 2
 have z3:=hz.cell 3
 have z4:=hz.cell 4
 simp at z0 z1 z2 z3 z4
 obtain ⟨v3,b3⟩:∃ v3,((kn:Int) == 0)=v3:=⟨_,rfl⟩
 obtain ⟨v4,b4⟩:∃ v4,((n:Int) == 0)=v4:=⟨_,rfl⟩
 obtain ⟨v5,b5⟩:∃ v5,(x.num == 0)=v5:=⟨_,rfl⟩
 obtain ⟨v6,b6⟩:∃ v6,x.nm.toList.isEmpty=v6:=⟨_,rfl⟩
 rw [b3,b4,b5,b6] at hvb
 have HVB:=hid hvb
 clear hvb hz hy hsb
 cases v3 <;> cases v4 <;> cases v5 <;> cases v6
 all_goals
  go_wp2_with fail
  go_ret
  exact ⟨by rw [HVB.out];rfl,HY.out⟩
set_option maxRecDepth 100000 in
set_option maxHeartbeats 8000000 in
theorem r6_may4 (x:Gi) (A VA PA:Option Addr) (c vc pc:Nat) (g:List Gi) (w:World) (hg:g.length≤100000) (hr:GsR w A g) (h1:RdV w VA (x.keys.flatMap sC)) (h2:RdV w PA (x.l.flatMap iC)) (l1:(x.keys.length:Int)≤9223372036854775807) (l2:(x.l.length:Int)≤9223372036854775807) (hzn:x.nm.size≤maxLen) (hzk:∀ s∈x.keys,s.size≤maxLen) (hk:x.kind=4) :
  Calls Tryz.prog 58 #[.slice A g.length c,gnA x VA PA vc pc] w fun r w'=>r = .returned (.bool (validG g x))∧Below w.heap.size w w':=by
 have HG:=hid hr
 have H1:=hid h1
 have H2:=hid h2
 have HZK:=hid hzk
 have HZN:=hid hzn
 obtain ⟨N,hN⟩:∃ N,g.length=N:=⟨_,rfl⟩
 obtain ⟨kn,hkn⟩:∃ kn,x.keys.length=kn:=⟨_,rfl⟩
 obtain ⟨n,hn⟩:∃ n,x.l.length=n:=⟨_,rfl⟩
 have HN:=hid hN
 have HKN:=hid hkn
 have Hn:=hid hn
 unfold gnA
 have hvb:=valB1 (g:=g) (x:=x) (by omega)
 rw [hN] at hg ⊢
 rw [hkn] at l1 hvb ⊢
 rw [hn] at l2 hvb ⊢
 have hz:=Blk.new w 42 #[.int .i64 x.kind,.int .i64 x.num,.string x.nm,.slice VA kn vc,.slice PA n pc]
 have hy:=one_box w (.cells #[.int .i64 x.kind,.int .i64 x.num,.string x.nm,.slice VA kn vc,.slice PA n pc] 42)
 have HK:=hid hk
 clear hr h1 h2 hzk hzn hN hkn hn hk
 go_enter Tryz.func58,Tryz.ntmps58
 go_upto_region 1 with (fail)
 generalize w.alloc (.cells #[.int .i64 x.kind,.int .i64 x.num,.string x.nm,.slice VA kn vc,.slice PA n pc] 42)=w1 at hz hy ⊢
 obtain ⟨sb,hsb⟩:∃ sb,w.heap.size=sb:=⟨_,rfl⟩
 rw [hsb] at hz ⊢
 rw [HK.out] at hz
 have HZ:=hid hz
 have HY:=hid hy
 have HSB:=hid hsb
 have z0:=hz.cell 0
 have z1:=hz.cell 1
 have z2:=hz.cell 2
 have z3:=hz.cell 3
 have z4:=hz.cell 4
 simp at z0 z1 z2 z3 z4
 obtain ⟨v3,b3⟩:∃ v3,((kn:Int) == 0)=v3:=⟨_,rfl⟩
 obtain ⟨v4,b4⟩:∃ v4,((n:Int) == 0)=v4:=⟨_,rfl⟩
 obtain ⟨v5,b5⟩:∃ v5,(x.num == 0)=v5:=⟨_,rfl⟩
 obtain ⟨v6,b6⟩:∃ v6,x.nm.toList.isEmpty=v6:=⟨_,rfl⟩
 rw [b3,b4,b5,b6] at hvb
 have HVB:=hid hvb
 clear hvb hz hy hsb
 cases v3 <;> cases v4 <;> cases v5 <;> cases v6
 all_goals
  go_wp2_with fail
  go_ret
  exact ⟨by rw [HVB.out];rfl,HY.out⟩
end
section
open Lib (hid)
open Go.RowKit
set_option maxRecDepth 100000 in
set_option maxHeartbeats 8000000 in
theorem r6_may5 (x:Gi) (A VA PA:Option Addr) (c vc pc:Nat) (g:List Gi) (w:World) (hg:g.length≤100000) (hr:GsR w A g) (h1:RdV w VA (x.keys.flatMap sC)) (h2:RdV w PA (x.l.flatMap iC)) (l1:(x.keys.length:Int)≤9223372036854775807) (l2:(x.l.length:Int)≤9223372036854775807) (hzn:x.nm.size≤maxLen) (hzk:∀ s∈x.keys,s.size≤maxLen) (hk:x.kind=5) :
  Calls Tryz.prog 58 #[.slice A g.length c,gnA x VA PA vc pc] w fun r w'=>r = .returned (.bool (validG g x))∧Below w.heap.size w w':=by
 have HG:=hid hr
 have H1:=hid h1
 have H2:=hid h2
 have HZK:=hid hzk
 have HZN:=hid hzn
 obtain ⟨N,hN⟩:∃ N,g.length=N:=⟨_,rfl⟩
 obtain ⟨kn,hkn⟩:∃ kn,x.keys.length=kn:=⟨_,rfl⟩
 obtain ⟨n,hn⟩:∃ n,x.l.length=n:=⟨_,rfl⟩
 have HN:=hid hN
 have HKN:=hid hkn
 have Hn:=hid hn
 unfold gnA
 have hvb:=valB5 (g:=g) (x:=x) (by omega)
 rw [hN] at hg ⊢
 rw [hkn] at l1 hvb ⊢
 rw [hn] at l2 hvb ⊢
 have hz:=Blk.new w 42 #[.int .i64 x.kind,.int .i64 x.num,.string x.nm,.slice VA kn vc,.slice PA n pc]
 have hy:=one_box w (.cells #[.int .i64 x.kind,.int .i64 x.num,.string x.nm,.slice VA kn vc,.slice PA n pc] 42)
 have HK:=hid hk
 clear hr h1 h2 hzk hzn hN hkn hn hk
 go_enter Tryz.func58,Tryz.ntmps58
 go_upto_region 1 with (fail)
 generalize w.alloc (.cells #[.int .i64 x.kind,.int .i64 x.num,.string x.nm,.slice VA kn vc,.slice PA n pc] 42)=w1 at hz hy ⊢
 obtain ⟨sb,hsb⟩:∃ sb,w.heap.size=sb:=⟨_,rfl⟩
 rw [hsb] at hz ⊢
 rw [HK.out] at hz
 have HZ:=hid hz
 have HY:=hid hy
 have HSB:=hid hsb
 have z0:=hz.cell 0
 have z1:=hz.cell 1
 have z2:=hz.cell 2
 have z3:=hz.cell 3
 have z4:=hz.cell 4
 simp at z0 z1 z2 z3 z4
 obtain ⟨v3,b3⟩:∃ v3,((kn:Int) == 0)=v3:=⟨_,rfl⟩
 obtain ⟨v4,b4⟩:∃ v4,((n:Int) == 0)=v4:=⟨_,rfl⟩
 obtain ⟨v5,b5⟩:∃ v5,(x.num == 0)=v5:=⟨_,rfl⟩
 rw [b3,b4,b5] at hvb
 have HVB:=hid hvb
 have C1:=ref_isName x.nm w1 HZN.out
 clear hvb hz hy hsb
 obtain ⟨v6,b6⟩:∃ v6,nameB x.nm=v6:=⟨_,rfl⟩
 obtain ⟨v7,b7⟩:∃ v7,keyB x.nm=v7:=⟨_,rfl⟩
 rw [b6] at C1 HVB
 rw [b7] at HVB
 have H7:=hid b7
 clear b6 b7
 by_cases hb:v3=true∧v4=true∧v5=true
 ·obtain ⟨rfl,rfl,rfl⟩:=hb
  go_wp2_with fail
  refine C1.mono ?_
  rintro r w2 ⟨rfl,hb2⟩
  have HB2:=hid (HY.out.trans (hb2.mono HY.out.size))
  have z2:=(HZ.out.below hb2 HZ.out.lt).cell 2
  simp at z2
  clear C1 hb2
  cases v6
  ·have C2:=ref_isKey x.nm w2
   rw [H7.out] at C2
   go_wp2_with fail
   refine C2.mono ?_
   rintro r w3 ⟨rfl,hb3⟩
   have HB3:=hid (HB2.out.trans (hb3.mono HB2.out.size))
   clear C2 hb3
   go_wp2_with fail
   go_ret
   exact ⟨by rw [HVB.out];simp,HB3.out⟩
  ·go_wp2_with fail
   go_ret
   exact ⟨by rw [HVB.out];rfl,HB2.out⟩
 ·cases v3 <;> cases v4 <;> cases v5
  all_goals first
   | exact absurd ⟨rfl,rfl,rfl⟩ hb
   | (clear hb C1;go_wp2_with fail;go_ret;exact ⟨by rw [HVB.out];rfl,HY.out⟩)
set_option maxRecDepth 100000 in
set_option maxHeartbeats 8000000 in
theorem r6_may7 (x:Gi) (A VA PA:Option Addr) (c vc pc:Nat) (g:List Gi) (w:World) (hg:g.length≤100000) (hr:GsR w A g) (h1:RdV w VA (x.keys.flatMap sC)) (h2:RdV w PA (x.l.flatMap iC)) (l1:(x.keys.length:Int)≤9223372036854775807) (l2:(x.l.length:Int)≤9223372036854775807) (hzn:x.nm.size≤maxLen) (hzk:∀ s∈x.keys,s.size≤maxLen) (hk:x.kind=7) :
  Calls Tryz.prog 58 #[.slice A g.length c,gnA x VA PA vc pc] w fun r w'=>r = .returned (.bool (validG g x))∧Below w.heap.size w w':=by
 have HG:=hid hr
 have H1:=hid h1
 have H2:=hid h2
 have HZK:=hid hzk
 have HZN:=hid hzn
 obtain ⟨N,hN⟩:∃ N,g.length=N:=⟨_,rfl⟩
 obtain ⟨kn,hkn⟩:∃ kn,x.keys.length=kn:=⟨_,rfl⟩
 obtain ⟨n,hn⟩:∃ n,x.l.length=n:=⟨_,rfl⟩
 have HN:=hid hN
 have HKN:=hid hkn
 have Hn:=hid hn
 unfold gnA
 rw [hN] at hg ⊢
 rw [hkn] at l1 ⊢
 rw [hn] at l2 ⊢
 have hz:=Blk.new w 42 #[.int .i64 x.kind,.int .i64 x.num,.string x.nm,.slice VA kn vc,.slice PA n pc]
 have hy:=one_box w (.cells #[.int .i64 x.kind,.int .i64 x.num,.string x.nm,.slice VA kn vc,.slice PA n pc] 42)
 have HK:=hid hk
 clear hr h1 h2 hzk hzn hN hkn hn hk
 go_enter Tryz.func58,Tryz.ntmps58
 go_upto_region 1 with (fail)
 generalize w.alloc (.cells #[.int .i64 x.kind,.int .i64 x.num,.string x.nm,.slice VA kn vc,.slice PA n pc] 42)=w1 at hz hy ⊢
 obtain ⟨sb,hsb⟩:∃ sb,w.heap.size=sb:=⟨_,rfl⟩
 rw [hsb] at hz ⊢
 rw [HK.out] at hz
 have HZ:=hid hz
 have HY:=hid hy
 have HSB:=hid hsb
 have z0:=hz.cell 0
 have z1:=hz.cell 1
 have z2:=hz.cell 2
 have z3:=hz.cell 3
 have z4:=hz.cell 4
 simp at z0 z1 z2 z3 z4
 obtain ⟨v3,b3⟩:∃ v3,((kn:Int) == 0)=v3:=⟨_,rfl⟩
 obtain ⟨v4,b4⟩:∃ v4,((n:Int) == 0)=v4:=⟨_,rfl⟩
 obtain ⟨v5,b5⟩:∃ v5,(x.num == 0)=v5:=⟨_,rfl⟩
 have C0:=r6_record x A VA PA c vc pc g w1 (by rw [HN.out];exact hg) (H1.out.below hy) (H2.out.below hy) (by rw [HKN.out];exact l1) (by rw [Hn.out];exact l2) HZK.out HK.out
 unfold gnA at C0
 rw [HN.out,HKN.out,Hn.out,HK.out] at C0
 clear hz hy hsb
 cases v3 <;> cases v4 <;> cases v5
 all_goals
  go_wp2_with fail
  refine C0.mono ?_
  rintro r w2 ⟨rfl,hb2⟩
  have HB2:=hid (HY.out.trans (hb2.mono HY.out.size))
  clear C0 hb2
  go_wp2_with fail
  go_ret
  exact ⟨rfl,HB2.out⟩
set_option maxRecDepth 100000 in
set_option maxHeartbeats 8000000 in
theorem r6_may8 (x:Gi) (A VA PA:Option Addr) (c vc pc:Nat) (g:List Gi) (w:World) (hg:g.length≤100000) (hr:GsR w A g) (h1:RdV w VA (x.keys.flatMap sC)) (h2:RdV w PA (x.l.flatMap iC)) (l1:(x.keys.length:Int)≤9223372036854775807) (l2:(x.l.length:Int)≤9223372036854775807) (hzn:x.nm.size≤maxLen) (hzk:∀ s∈x.keys,s.size≤maxLen) (hk:x.kind=8) :
  Calls Tryz.prog 58 #[.slice A g.length c,gnA x VA PA vc pc] w fun r w'=>r = .returned (.bool (validG g x))∧Below w.heap.size w w':=by
 have HG:=hid hr
 have H1:=hid h1
 have H2:=hid h2
 have HZK:=hid hzk
 have HZN:=hid hzn
 obtain ⟨N,hN⟩:∃ N,g.length=N:=⟨_,rfl⟩
 obtain ⟨kn,hkn⟩:∃ kn,x.keys.length=kn:=⟨_,rfl⟩
 obtain ⟨n,hn⟩:∃ n,x.l.length=n:=⟨_,rfl⟩
 have HN:=hid hN
 have HKN:=hid hkn
 have Hn:=hid hn
 unfold gnA
 rw [hN] at hg ⊢
 rw [hkn] at l1 ⊢
 rw [hn] at l2 ⊢
 have hz:=Blk.new w 42 #[.int .i64 x.kind,.int .i64 x.num,.string x.nm,.slice VA kn vc,.slice PA n pc]
 have hy:=one_box w (.cells #[.int .i64 x.kind,.int .i64 x.num,.string x.nm,.slice VA kn vc,.slice PA n pc] 42)
 have HK:=hid hk
 clear hr h1 h2 hzk hzn hN hkn hn hk
 go_enter Tryz.func58,Tryz.ntmps58
 go_upto_region 1 with (fail)
 generalize w.alloc (.cells #[.int .i64 x.kind,.int .i64 x.num,.string x.nm,.slice VA kn vc,.slice PA n pc] 42)=w1 at hz hy ⊢
 obtain ⟨sb,hsb⟩:∃ sb,w.heap.size=sb:=⟨_,rfl⟩
 rw [hsb] at hz ⊢
 rw [HK.out] at hz
 have HZ:=hid hz
 have HY:=hid hy
 have HSB:=hid hsb
 have z0:=hz.cell 0
 have z1:=hz.cell 1
 have z2:=hz.cell 2
 have z3:=hz.cell 3
 have z4:=hz.cell 4
 simp at z0 z1 z2 z3 z4
 obtain ⟨v3,b3⟩:∃ v3,((kn:Int) == 0)=v3:=⟨_,rfl⟩
 obtain ⟨v4,b4⟩:∃ v4,((n:Int) == 0)=v4:=⟨_,rfl⟩
 obtain ⟨v5,b5⟩:∃ v5,(x.num == 0)=v5:=⟨_,rfl⟩
 have C0:=r6_union x A VA PA c vc pc g w1 (by rw [HN.out];exact hg) (HG.out.below hy) (H2.out.below hy) (by rw [HKN.out];exact l1) (by rw [Hn.out];exact l2) HK.out
 unfold gnA at C0
 rw [HN.out,HKN.out,Hn.out,HK.out] at C0
 clear hz hy hsb
 cases v3 <;> cases v4 <;> cases v5
 all_goals
  go_wp2_with fail
  refine C0.mono ?_
  rintro r w2 ⟨rfl,hb2⟩
  have HB2:=hid (HY.out.trans (hb2.mono HY.out.size))
  clear C0 hb2
  go_wp2_with fail
  go_ret
  exact ⟨rfl,HB2.out⟩
end
section
open Lib (hid)
open Go.RowKit
set_option maxRecDepth 100000 in
set_option maxHeartbeats 8000000 in
theorem r6_may9 (x:Gi) (A VA PA:Option Addr) (c vc pc:Nat) (g:List Gi) (w:World) (hg:g.length≤100000) (hr:GsR w A g) (h1:RdV w VA (x.keys.flatMap sC)) (h2:RdV w PA (x.l.flatMap iC)) (l1:(x.keys.length:Int)≤9223372036854775807) (l2:(x.l.length:Int)≤9223372036854775807) (hzn:x.nm.size≤maxLen) (hzk:∀ s∈x.keys,s.size≤maxLen) (hk:x.kind=9) :
  Calls Tryz.prog 58 #[.slice A g.length c,gnA x VA PA vc pc] w fun r w'=>r = .returned (.bool (validG g x))∧Below w.heap.size w w':=by
 have HG:=hid hr
 have H1:=hid h1
 have H2:=hid h2
 have HZK:=hid hzk
 have HZN:=hid hzn
 obtain ⟨N,hN⟩:∃ N,g.length=N:=⟨_,rfl⟩
 obtain ⟨kn,hkn⟩:∃ kn,x.keys.length=kn:=⟨_,rfl⟩
 obtain ⟨n,hn⟩:∃ n,x.l.length=n:=⟨_,rfl⟩
 have HN:=hid hN
 have HKN:=hid hkn
 have Hn:=hid hn
 unfold gnA
 have hvb:=valB9 (g:=g) (x:=x) (by omega)
 rw [hN] at hg ⊢
 rw [hkn] at l1 hvb ⊢
 rw [hn] at l2 hvb ⊢
 have hz:=Blk.new w 42 #[.int .i64 x.kind,.int .i64 x.num,.string x.nm,.slice VA kn vc,.slice PA n pc]
 have hy:=one_box w (.cells #[.int .i64 x.kind,.int .i64 x.num,.string x.nm,.slice VA kn vc,.slice PA n pc] 42)
 have HK:=hid hk
 clear hr h1 h2 hzk hzn hN hkn hn hk
 go_enter Tryz.func58,Tryz.ntmps58
 go_upto_region 1 with (fail)
 generalize w.alloc (.cells #[.int .i64 x.kind,.int .i64 x.num,.string x.nm,.slice VA kn vc,.slice PA n pc] 42)=w1 at hz hy ⊢
 obtain ⟨sb,hsb⟩:∃ sb,w.heap.size=sb:=⟨_,rfl⟩
 rw [hsb] at hz ⊢
 rw [HK.out] at hz
 have HZ:=hid hz
 have HY:=hid hy
 have HSB:=hid hsb
 have z0:=hz.cell 0
 have z1:=hz.cell 1
 have z2:=hz.cell 2
 have z3:=hz.cell 3
 have z4:=hz.cell 4
 simp at z0 z1 z2 z3 z4
 obtain ⟨v3,b3⟩:∃ v3,((kn:Int) == 0)=v3:=⟨_,rfl⟩
 obtain ⟨v4,b4⟩:∃ v4,((n:Int) == 0)=v4:=⟨_,rfl⟩
 obtain ⟨v5,b5⟩:∃ v5,(x.num == 0)=v5:=⟨_,rfl⟩
 obtain ⟨v6,b6⟩:∃ v6,x.nm.toList.isEmpty=v6:=⟨_,rfl⟩
 obtain ⟨v9,b9⟩:∃ v9,((n:Int) == 1)=v9:=⟨_,rfl⟩
 rw [b6,b3,b9] at hvb
 have C0:=r6_inside A PA N c pc x.l w1 (by omega) (by have:=Hn.out;omega) (H2.out.below hy)
 rw [Hn.out] at C0
 rw [HN.out] at hvb
 obtain ⟨v1,hv1⟩:∃ v1,x.l.all (exI N)=v1:=⟨_,rfl⟩
 rw [hv1] at C0 hvb
 have HVB:=hid hvb
 clear hvb hz hy hsb hv1
 by_cases d1:0≤x.num
 ·by_cases d2:x.num<16
  ·have HVC:Hid (validG g x=(v6 && v3 && v9 && v1)):=hid (by rw [HVB.out,decide_eq_true d1,decide_eq_true d2];simp)
   cases v3 <;> cases v4 <;> cases v5 <;> cases v6 <;> cases v9
   all_goals first
    | (go_wp2_with fail;go_ret;exact ⟨by rw [HVC.out];rfl,HY.out⟩)
    | (go_wp2_with fail;refine C0.mono ?_;rintro r w2 ⟨rfl,rfl⟩;go_wp2_with fail;go_ret;exact ⟨by rw [HVC.out];simp,HY.out⟩)
  ·have HVC:Hid (validG g x=false):=hid (by rw [HVB.out,decide_eq_false d2];simp)
   clear C0
   cases v3 <;> cases v4 <;> cases v5 <;> cases v6
   all_goals
    go_wp2_with fail
    go_ret
    exact ⟨by rw [HVC.out];rfl,HY.out⟩
 ·have HVC:Hid (validG g x=false):=hid (by rw [HVB.out,decide_eq_false d1];simp)
  clear C0
  cases v3 <;> cases v4 <;> cases v5 <;> cases v6
  all_goals
   go_wp2_with fail
   go_ret
   exact ⟨by rw [HVC.out];rfl,HY.out⟩
set_option maxRecDepth 100000 in
set_option maxHeartbeats 8000000 in
theorem r6_may0 (x:Gi) (A VA PA:Option Addr) (c vc pc:Nat) (g:List Gi) (w:World) (hg:g.length≤100000) (hr:GsR w A g) (h1:RdV w VA (x.keys.flatMap sC)) (h2:RdV w PA (x.l.flatMap iC)) (l1:(x.keys.length:Int)≤9223372036854775807) (l2:(x.l.length:Int)≤9223372036854775807) (hzn:x.nm.size≤maxLen) (hzk:∀ s∈x.keys,s.size≤maxLen) (hk:¬ (x.kind=1∨x.kind=2∨x.kind=3∨x.kind=4)∧x.kind≠5∧x.kind≠7∧x.kind≠8∧x.kind≠9) :
  Calls Tryz.prog 58 #[.slice A g.length c,gnA x VA PA vc pc] w fun r w'=>r = .returned (.bool (validG g x))∧Below w.heap.size w w':=by
 have HG:=hid hr
 have H1:=hid h1
 have H2:=hid h2
 have HZK:=hid hzk
 have HZN:=hid hzn
 obtain ⟨N,hN⟩:∃ N,g.length=N:=⟨_,rfl⟩
 obtain ⟨kn,hkn⟩:∃ kn,x.keys.length=kn:=⟨_,rfl⟩
 obtain ⟨n,hn⟩:∃ n,x.l.length=n:=⟨_,rfl⟩
 have HN:=hid hN
 have HKN:=hid hkn
 have Hn:=hid hn
 unfold gnA
 rw [hN] at hg ⊢
 rw [hkn] at l1 ⊢
 rw [hn] at l2 ⊢
 have hz:=Blk.new w 42 #[.int .i64 x.kind,.int .i64 x.num,.string x.nm,.slice VA kn vc,.slice PA n pc]
 have hy:=one_box w (.cells #[.int .i64 x.kind,.int .i64 x.num,.string x.nm,.slice VA kn vc,.slice PA n pc] 42)
 have HK:=hid hk
 clear hr h1 h2 hzk hzn hN hkn hn hk
 go_enter Tryz.func58,Tryz.ntmps58
 go_upto_region 1 with (fail)
 generalize w.alloc (.cells #[.int .i64 x.kind,.int .i64 x.num,.string x.nm,.slice VA kn vc,.slice PA n pc] 42)=w1 at hz hy ⊢
 obtain ⟨sb,hsb⟩:∃ sb,w.heap.size=sb:=⟨_,rfl⟩
 rw [hsb] at hz ⊢
 have HZ:=hid hz
 have HY:=hid hy
 have HSB:=hid hsb
 have z0:=hz.cell 0
 have z1:=hz.cell 1
 have z2:=hz.cell 2
 have z3:=hz.cell 3
 have z4:=hz.cell 4
 simp at z0 z1 z2 z3 z4
 obtain ⟨v3,b3⟩:∃ v3,((kn:Int) == 0)=v3:=⟨_,rfl⟩
 obtain ⟨v4,b4⟩:∃ v4,((n:Int) == 0)=v4:=⟨_,rfl⟩
 obtain ⟨v5,b5⟩:∃ v5,(x.num == 0)=v5:=⟨_,rfl⟩
 have HVC:Hid (validG g x=false):=hid (valid0 HK.out.1 HK.out.2.1 HK.out.2.2.1 HK.out.2.2.2.1 HK.out.2.2.2.2)
 have hk:=HK.out
 have k1:(x.kind == 1)=false:=by rw [beq_eq_false_iff_ne];omega
 have k2:(x.kind == 2)=false:=by rw [beq_eq_false_iff_ne];omega
 have k3:(x.kind == 3)=false:=by rw [beq_eq_false_iff_ne];omega
 have k4:(x.kind == 4)=false:=by rw [beq_eq_false_iff_ne];omega
 have k5:(x.kind == 5)=false:=by rw [beq_eq_false_iff_ne];omega
 have k7:(x.kind == 7)=false:=by rw [beq_eq_false_iff_ne];omega
 have k8:(x.kind == 8)=false:=by rw [beq_eq_false_iff_ne];omega
 have k9:(x.kind == 9)=false:=by rw [beq_eq_false_iff_ne];omega
 clear hk
 clear hz hy hsb
 cases v3 <;> cases v4 <;> cases v5
 all_goals
  go_wp2_with fail
  go_ret
  exact ⟨by rw [HVC.out];rfl,HY.out⟩
end
section
open Lib (hid)
open Go.RowKit
theorem r6_may (x:Gi) (A VA PA:Option Addr) (c vc pc:Nat) (g:List Gi) (w:World) (hg:g.length≤100000) (hr:GsR w A g) (h1:RdV w VA (x.keys.flatMap sC)) (h2:RdV w PA (x.l.flatMap iC)) (l1:(x.keys.length:Int)≤9223372036854775807) (l2:(x.l.length:Int)≤9223372036854775807) (hzn:x.nm.size≤maxLen) (hzk:∀ s∈x.keys,s.size≤maxLen) :
  Calls Tryz.prog 58 #[.slice A g.length c,gnA x VA PA vc pc] w fun r w'=>r = .returned (.bool (validG g x))∧Below w.heap.size w w':=by
 by_cases k1:x.kind=1
 ·exact r6_may1 x A VA PA c vc pc g w hg hr h1 h2 l1 l2 hzn hzk k1
 by_cases k2:x.kind=2
 ·exact r6_may2 x A VA PA c vc pc g w hg hr h1 h2 l1 l2 hzn hzk k2
 by_cases k3:x.kind=3
 ·exact r6_may3 x A VA PA c vc pc g w hg hr h1 h2 l1 l2 hzn hzk k3
 by_cases k4:x.kind=4
 ·exact r6_may4 x A VA PA c vc pc g w hg hr h1 h2 l1 l2 hzn hzk k4
 by_cases k5:x.kind=5
 ·exact r6_may5 x A VA PA c vc pc g w hg hr h1 h2 l1 l2 hzn hzk k5
 by_cases k7:x.kind=7
 ·exact r6_may7 x A VA PA c vc pc g w hg hr h1 h2 l1 l2 hzn hzk k7
 by_cases k8:x.kind=8
 ·exact r6_may8 x A VA PA c vc pc g w hg hr h1 h2 l1 l2 hzn hzk k8
 by_cases k9:x.kind=9
 ·exact r6_may9 x A VA PA c vc pc g w hg hr h1 h2 l1 l2 hzn hzk k9
 exact r6_may0 x A VA PA c vc pc g w hg hr h1 h2 l1 l2 hzn hzk ⟨by omega,k5,k7,k8,k9⟩
set_option maxRecDepth 100000 in
set_option maxHeartbeats 4000000 in
theorem r6_check (A:Option Addr) (c:Nat) (g:List Gi) (w:World) (hl:(g.length:Int)≤9223372036854775807) (hr:GsR w A g) (ht:Texts g) :
  Calls Tryz.prog 31 #[.slice A g.length c] w fun r w'=>r = .returned (.int .i64 (checkG g:Int))∧Below w.heap.size w w':=by
 have HG:=hid hr
 have HT:=hid ht
 obtain ⟨n,hn⟩:∃ n,g.length=n:=⟨_,rfl⟩
 have HN:=hid hn
 rw [hn] at hl ⊢
 clear hr ht hn
 by_cases h2:n≤2000
 ·have b2:¬ (2000:Int)<(n:Int):=by omega
  have H2:=hid h2
  go_enter Tryz.func31,Tryz.ntmps31
  go_wp2_with fail
  go_loopw [3] (fun u3 wr=>∃ k:Nat,k≤n∧u3 = .int .i64 (k:Int)∧Hid (Below w.heap.size w wr)∧Hid ((g.take k).all (validG g)=true)) (fun u3 _=>n - (intOf u3).toNat)
  case atStart=>exact ⟨0,Nat.zero_le _,rfl,hid (Below.refl _ _),hid (by simp)⟩
  case round =>
   obtain ⟨k,hk,rfl,HB,HP⟩:=hrel
   obtain ⟨ws,rfl⟩:∃ ws,ws=wr:=⟨_,rfl⟩
   by_cases hlt:k<n
   ·have hkI:(k:Int)<(n:Int):=by omega
    obtain ⟨x,hx⟩:∃ x,g[k]? = some x:=⟨_,List.getElem?_eq_getElem (by have:=HN.out;omega)⟩
    obtain ⟨gb,go_,hA,hgn⟩:=(HG.out.below HB.out).at_ hx
    obtain ⟨VA,vc,PA,pc,g0,g1,g2,g3,g4,g5,g6,m1,m2,-,-⟩:=hgn
    have C:=r6_may x A VA PA c vc pc g ws (by have:=HN.out;omega) (HG.out.below HB.out) g5 g6 m1 m2 (HT.out x (List.mem_of_getElem? hx)).1 (HT.out x (List.mem_of_getElem? hx)).2
    unfold gnA at C
    rw [HN.out] at C
    obtain ⟨v,hv⟩:∃ v,validG g x=v:=⟨_,rfl⟩
    rw [hv] at C
    have HX:=hid hx
    have HV:=hid hv
    rw [hA] at C ⊢
    clear hx hv hA g5 g6
    go_wp2_with fail
    refine C.mono ?_
    rintro r w2 ⟨rfl,hb2⟩
    have HB2:=hid (HB.out.trans (hb2.mono HB.out.size))
    clear C hb2 g0 g1 g2 g3 g4
    cases v
    ·have HF:Hid (checkG g=2):=hid (by unfold checkG;rw [if_neg (by rw [HN.out];have:=H2.out;omega),if_neg (by rw [all_at HX.out HV.out];decide)])
     go_wp2_with fail
     go_ret
     exact ⟨by rw [HF.out];rfl,HB2.out⟩
    ·have HP2:Hid ((g.take (k+1)).all (validG g)=true):=hid (all_take HP.out HX.out HV.out)
     go_wp2_with fail
     go_roundw
     case rel=>exact ⟨k+1,by omega,by go_num,HB2,HP2⟩
     case measure=>simp [intOf];omega
   ·have hkI:¬ (k:Int)<(n:Int):=by omega
    have HF:Hid (checkG g=0):=hid (by
     have:=HP.out
     rw [show k=g.length by have:=HN.out;omega,List.take_length] at this
     unfold checkG
     rw [if_neg (by rw [HN.out];have:=H2.out;omega),if_pos this])
    go_wp2_with fail
    go_ret
    exact ⟨by rw [HF.out];rfl,HB.out⟩
 ·have b2:(2000:Int)<(n:Int):=by omega
  have HF:Hid (checkG g=5):=hid (by unfold checkG;rw [if_pos (by rw [HN.out];omega)])
  go_enter Tryz.func31,Tryz.ntmps31
  go_wp2_with fail
  go_ret
  exact ⟨by rw [HF.out];rfl,Below.refl _ _⟩
end
end Go.Proofs.YtmgbbndmmbgemaaGreatDoor
