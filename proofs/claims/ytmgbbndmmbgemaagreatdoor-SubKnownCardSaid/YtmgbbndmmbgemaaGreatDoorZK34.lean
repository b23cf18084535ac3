/- Contracts and plain facts that the theorem rests on: SDist, SLeast, S8KnP, SSome, SOnce. -/
import Derived.Test.YtmgbbndmmbgemaaGreatDoorZK30
import Derived.Test.YtmgbbndmmbgemaaGreatDoorZK33
import Derived.Test.YtmgbbndmmbgemaaGreatDoorZK29
import Derived.Test.YtmgbbndmmbgemaaGreatDoorZK32
set_option linter.unusedSimpArgs false
set_option linter.unusedVariables false
namespace Go.Proofs.YtmgbbndmmbgemaaGreatDoor
section
open Lib (hid)
open Go.RowKit
namespace SM
open CM (nd kids)
theorem onceS_snoc (l:List Int) (x:Int):onceS (l++[x])=onceF (onceS l) x:=by unfold onceS;rw [List.foldl_append];rfl
theorem own_blkI {w w1 w2:World} {B:Nat} {v:Value} {l:List Int} {g:Nat} {t:TypeId} {cs:Array Value} (ho:OwnI w B v l) (hb:g<B) (hg:w1.grownBy w2 v.ownBlock) (h:Blk w1 g t cs):Blk w2 g t cs:=
 ((Kept.refl (fun i=>v.ownBlock=some i) w1).grownG hg (fun i _ e=>e)).blk h fun e=>by have:=(own_ltG ho e).1;omega
theorem own_belI {w0 w w1 w2:World} {B:Nat} {v:Value} {l:List Int} (hN:w0.heap.size≤B) (ho:OwnI w B v l) (hg:w1.grownBy w2 v.ownBlock) (h:Below w0.heap.size w0 w1):Below w0.heap.size w0 w2:=
 h.grown hg h.size fun k hk=>by have:=(own_ltG ho hk).1;omega
theorem own_leI {w:World} {B B':Nat} {v:Value} {l:List Int} (h:OwnI w B v l) (hb:B'≤B):OwnI w B' v l:=by
 refine ⟨h.1,?_⟩
 rcases h.2 with h | ⟨g,cap,cur,h1,h2,h3⟩
 ·exact .inl h
 ·exact .inr ⟨g,cap,cur,h1,by omega,h3⟩
set_option maxRecDepth 100000 in
set_option maxHeartbeats 8000000 in
theorem distinct_any (A LA:Option Addr) (n c lc:Nat) (l:List Int) (w:World) (hn:n≤2000) (hl:(l.length:Int)≤1000000000000) (hin:∀ x∈l,0≤x∧x<(n:Int)) (h:RdV w LA (l.flatMap iC)) :
  Calls Tryz.prog 43 #[.slice A n c,.slice LA l.length lc] w fun r w'=>∃ v,r = .returned v∧OwnI w' w.heap.size v (onceS l)∧Below w.heap.size w w':=by
 have HR:=hid h
 have HIN:=hid hin
 obtain ⟨m,hm⟩:∃ m,l.length=m:=⟨_,rfl⟩
 have HM:=hid hm
 have hmk:=mk_bools n (by omega) w
 rw [hm] at hl ⊢
 clear h hin hm
 go_enter Tryz.func43,Tryz.ntmps43
 go_upto_region 2 with (fail)
 have hb:=Blk.new w 4 (vals (fun _ => .bool false) n)
 have hbe:=one_boxS w (.cells (vals (fun _ => .bool false) n) 4)
 generalize w.alloc (.cells (vals (fun _ => .bool false) n) 4)=w1 at hb hbe ⊢
 obtain ⟨tb,htb⟩:∃ tb,w.heap.size=tb:=⟨_,rfl⟩
 have HTB:=hid htb
 rw [htb] at hb ⊢
 have HB1:=hid hbe
 have HT1:Hid (Blk w1 tb 4 (vals (fun j => .bool (decide ((j:Int)∈onceS (l.take 0)))) n)):=hid (by
  have e:(fun j:Nat=>Value.bool (decide ((j:Int)∈onceS (l.take 0))))=fun _ => .bool false:=by funext j;rfl
  rw [e];exact hb)
 clear hmk hb hbe htb
 go_wp2_with fail
 go_loopw [4,13] (fun u4 u13 wr=>∃ (k:Nat) (v:Value),k≤m∧u13 = .int .i64 (k:Int)∧u4=v∧Hid (OwnI wr (tb+1) v (onceS (l.take k)))∧Hid (Blk wr tb 4 (vals (fun j => .bool (decide ((j:Int)∈onceS (l.take k)))) n))∧Hid (Below w.heap.size w wr)) (fun _ u13 _=>m - (intOf u13).toNat)
 case atStart=>exact ⟨0,.slice none 0 0,Nat.zero_le _,rfl,rfl,hid (OwnI.nil _ _),HT1,HB1⟩
 case round =>
  obtain ⟨k,v,hk,rfl,rfl,HO,HTr,HBr⟩:=hrel
  obtain ⟨VA,vc,hv,-,-,-⟩:=HO.out.rd
  by_cases hlt:k<m
  ·obtain ⟨x,hx⟩:∃ x,l[k]? = some x:=⟨_,List.getElem?_eq_getElem (by have:=HM.out;omega)⟩
   obtain ⟨b,o,hA,c0⟩:=rd_intG (HR.out.below HBr.out) hx
   subst hA
   obtain ⟨x0,x1⟩:=HIN.out x (List.mem_of_getElem? hx)
   obtain ⟨y,rfl⟩:∃ y:Nat,x=(y:Int):=⟨x.toNat,by omega⟩
   have hyn:y<n:=by omega
   have e1:l.take (k+1)=l.take k++[(y:Int)]:=by rw [List.take_add_one,hx];rfl
   have hon:=onceS_snoc (l.take k) (y:Int)
   rw [← e1] at hon
   have HON:=hid hon
   have c1:=(HTr.out.cell y).trans (vals_get hyn)
   have hki:(k:Int)<(m:Int):=by omega
   have hyi:(y:Int)<(n:Int):=by omega
   obtain ⟨Z,hZ⟩:∃ Z,onceS (l.take k)=Z:=⟨_,rfl⟩
   have HZ:=hid hZ
   rw [hZ] at c1 HO HTr hv
   have hzl:Z.length≤1000000000000:=by rw [← hZ];have:=(onceS_in (l.take k)).2.2;rw [List.length_take] at this;omega
   have HZL:=hid hzl
   subst hv
   clear hx e1 hon x0 x1 hZ hzl
   by_cases hin:(y:Int)∈Z
   ·rw [decide_eq_true hin] at c1
    have HE:Hid (onceS (l.take (k+1))=Z):=hid (by rw [HON.out,HZ.out];unfold onceF;rw [if_pos hin])
    clear hin
    go_wp2_with fail
    go_roundw
    case rel=>exact ⟨k+1,_,by omega,by go_num,rfl,by rw [HE.out];exact HO,by rw [HE.out];exact HTr,HBr⟩
    case measure=>simp [intOf];omega
   ·rw [decide_eq_false hin] at c1
    have HE:Hid (onceS (l.take (k+1))=Z++[(y:Int)]):=hid (by rw [HON.out,HZ.out];unfold onceF;rw [if_neg hin])
    have c2:=HTr.out.frozen y
    have ht2:=HTr.out.set_ y (.bool true)
    rw [vals_set] at ht2
    have HT2:Hid (Blk (wr.setCell ⟨tb,y,none⟩ (.bool true)) tb 4 (vals (fun j => .bool (decide ((j:Int)∈Z++[(y:Int)]))) n)):=hid (by
     have e:(fun j:Nat=>if j=y then Value.bool true else .bool (decide ((j:Int)∈Z)))=fun j => .bool (decide ((j:Int)∈Z++[(y:Int)])):=by
      funext j
      by_cases e:j=y
      ·subst e;rw [if_pos rfl];simp
      ·rw [if_neg e]
       congr 1
       refine decide_eq_decide.2 ?_
       rw [List.mem_append,List.mem_singleton]
       exact ⟨fun h => .inl h,fun h=>h.elim id fun h=>by omega⟩
     rw [← e];exact ht2)
    have hb2:Below w.heap.size w (wr.setCell ⟨tb,y,none⟩ (.bool true)):=HBr.out.setCell (show w.heap.size≤tb by rw [HTB.out];exact Nat.le_refl _) _
    have ho2:OwnI (wr.setCell ⟨tb,y,none⟩ (.bool true)) (tb+1) (.slice VA Z.length vc) Z:=own_keptG HO.out ((Kept.refl (· = tb) wr).setCell (p:=⟨tb,y,none⟩) (fun _=>rfl) _) (fun k hk e=>by have:=(own_ltG HO.out hk).1;have:k=tb:=e;omega)
    have hs2:tb+1≤(wr.setCell ⟨tb,y,none⟩ (.bool true)).heap.size:=by have:=HT2.out.lt;omega
    have HO2:=hid ho2
    have HB2:=hid hb2
    have HS2:=hid hs2
    clear ht2 hb2 ho2 hs2 hin
    go_upto_region 7 with (fail)
    clear c0 c1 c2
    generalize wr.setCell ⟨tb,y,none⟩ (.bool true)=w2 at HT2 HB2 HO2 HS2 ⊢
    have hnw:=Blk.new w2 3 #[.int .i64 (y:Int)]
    have HNW:=hid hnw
    clear hnw
    go_wp2_with (at_builtin;refine unhidG ?_)
    refine hid ?_
    refine wpList_step fun K' hK=>?_
    refine step_pushI _ (by rfl) _ _ (by rfl) (tb+1) (.slice VA Z.length vc) Z (y:Int) ⟨w2.heap.size,0,none⟩ 1 (by rfl) (World.ownsRow.alloc HO2.out _) (by rfl) (HNW.out.cell 0) HZL.out (by have:=HS2.out;show tb+1≤(w2.heap.push _).size;rw [Array.size_push];omega) ?_
    intro gg cap w4 ho4 hg4 hat4 hlt4
    have HO4:=hid ho4
    have HT4:=hid (own_blkI HO2.out (Nat.lt_succ_self tb) hg4 (HT2.out.alloc (.cells #[.int .i64 (y:Int)] 3)))
    have HB4:=hid (own_belI (by have:=HTB.out;omega) HO2.out hg4 (HB2.out.alloc HB2.out.size (.cells #[.int .i64 (y:Int)] 3)))
    clear ho4 hg4 hat4 hlt4
    refine hK _ _ ?_
    go_wp2_with fail
    go_roundw
    case rel=>exact ⟨k+1,_,by omega,by go_num,rfl,by rw [HE.out];exact HO4,by rw [HE.out];exact HT4,HB4⟩
    case measure=>simp [intOf];omega
  ·have hkm:k=m:=by omega
   have hki:¬ ((k:Int)<(m:Int)):=by omega
   have HF:Hid (l.take k=l):=hid (by rw [hkm,← HM.out,List.take_length])
   have HOF:Hid (OwnI wr w.heap.size (.slice VA (onceS (l.take k)).length vc) (onceS l)):=hid (by
    have:=own_leI (B':=w.heap.size) HO.out (by have:=HTB.out;omega)
    rw [hv] at this
    rw [HF.out] at this ⊢
    exact this)
   clear hkm
   go_wp2_with fail
   go_returns
   exact ⟨_,rfl,HOF.out,HBr.out⟩
end SM
end
section
open Lib (hid)
open Go.RowKit
namespace SM
open CM (nd kids)
def LeastIs (g:List Gi) (l:List Int) (m:Int):Prop:=∃ k,l[k]? = some m∧(∀ b∈l,Gr g true m.toNat b.toNat)∧∀ (j:Nat) (a:Int),j<k→l[j]? = some a→∃ b∈l,¬ Gr g true a.toNat b.toNat
def LeastOut (g : List Gi) (l : List Int) (w : World) (r : Ending) (w' : World) : Prop := Below w.heap.size w w' ∧
  ((checkG g ≠ 0 ∧ r = .returned (.tuple #[.int .i64 0, .int .i64 (checkG g : Int)])) ∨
   (checkG g = 0 ∧ l.all (exI g.length) = false ∧ r = .returned (.tuple #[.int .i64 0, .int .i64 9])) ∨
   (checkG g = 0 ∧ l.all (exI g.length) = true ∧ (∃ m, LeastIs g (onceS l) m ∧ r = .returned (.tuple #[.int .i64 m, .int .i64 0]))) ∨
   (checkG g = 0 ∧ l.all (exI g.length) = true ∧ (∀ a ∈ onceS l, ∃ b ∈ onceS l, ¬ Gr g true a.toNat b.toNat) ∧ r = .returned (.tuple #[.int .i64 0, .int .i64 2])))
set_option maxRecDepth 100000 in
set_option maxHeartbeats 4000000 in
theorem least_item (x:Cx) (y:Lay) (S:St) (rel a b rb ab:Nat) (w:World) (h:RelW x w y S) (hrel:y.rel=rel) (ha:a<x.n) (hb:b<x.n) (hr:RowsAt x.g y a b) (h1:Blk w rb 49 #[.pointer (some ⟨rel,0,none⟩)]) (h2:Blk w ab 3 #[.int .i64 (a:Int)]) :
  Calls Tryz.prog 45 #[.int .i64 (b:Int),.pointer (some ⟨rb,0,none⟩),.pointer (some ⟨ab,0,none⟩)] w fun r w'=>r = .returned (.bool (!decide (S.q.cnt (a,b)≠0)))∧Below w.heap.size w w':=by
 have c0:=h1.cell 0
 have c1:=h2.cell 0
 simp at c0 c1
 have H:=holds_any x y S a b rel w h hrel ha hb hr
 clear h h1 h2 hr
 generalize decide (S.q.cnt (a,b)≠0)=v at H ⊢
 go_enter Tryz.func45,Tryz.ntmps45
 go_wp2_with fail
 refine H.mono ?_
 rintro r w1 ⟨rfl,hb1⟩
 have HB:=hid hb1
 clear hb1 H c0 c1
 go_wp2_with fail
 go_returns
 exact ⟨rfl,HB.out⟩
set_option maxRecDepth 100000 in
set_option maxHeartbeats 16000000 in
theorem Least_any (g:List Gi) (A LA:Option Addr) (c lc:Nat) (l:List Int) (w:World) (hg:GsR w A g) (hk:Gnd w) (hl:(g.length:Int)≤9223372036854775807) (ht:Texts g) (hll:(l.length:Int)≤1000000000000) (h:RdV w LA (l.flatMap iC)) :
  Calls Tryz.prog 20 #[.slice A g.length c,.slice LA l.length lc] w (LeastOut g l w):=by
 have C1:=check_any A c g w hk.kw hl hg ht
 have HG:=hid hg
 have HK:=hid hk
 have HR:=hid h
 obtain ⟨n,hn⟩:∃ n,g.length=n:=⟨_,rfl⟩
 obtain ⟨m,hm⟩:∃ m,l.length=m:=⟨_,rfl⟩
 have HN:=hid hn
 have HM:=hid hm
 have HML:=hid hll
 rw [hn] at C1 ⊢
 rw [hm] at hll ⊢
 clear hg hk hl ht h hn hm hll
 go_enter Tryz.func20,Tryz.ntmps20
 go_wp2_with fail
 refine C1.mono ?_
 rintro r w1 ⟨rfl,hb1⟩
 have HB1:=hid hb1
 clear hb1 C1
 by_cases hc:checkG g=0
 ·have HC:=hid hc
  have HF:Hid (Fine g):=hid (fine_of hc)
  have hn2:n≤2000:=by rw [← HN.out];exact HF.out.len
  rw [hc]
  clear hc
  have E1:=subexist_any A LA n c lc l w1 (by have:=HML.out;omega) (HR.out.below HB1.out)
  rw [HM.out] at E1
  go_wp2_with fail
  refine E1.mono ?_
  rintro r w2 ⟨rfl,hb2⟩
  have HB2:=hid (HB1.out.trans (hb2.mono HB1.out.size))
  clear hb2 E1
  cases hex:l.all (exI n)
  ·have HE:Hid (l.all (exI g.length)=false):=hid (by rw [HN.out];exact hex)
   clear hex
   go_wp2_with fail
   go_returns
   exact ⟨HB2.out,.inr (.inl ⟨HC.out,HE.out,rfl⟩)⟩
  ·have HE:Hid (l.all (exI g.length)=true):=hid (by rw [HN.out];exact hex)
   have HIN:Hid (∀ x∈l,0≤x∧x<(n:Int)):=hid (fun x hx=>exI_iff.1 (List.all_eq_true.1 hex x hx))
   have D1:=distinct_any A LA n c lc l w2 hn2 (by rw [HM.out];have:=HML.out;rw [HM.out] at this;exact this) HIN.out (HR.out.below HB2.out)
   rw [HM.out] at D1
   clear hex
   go_wp2_with fail
   refine D1.mono ?_
   rintro r w3 ⟨v,rfl,ho3,hb3⟩
   obtain ⟨VA,vc,rfl,hvc,hvc2,hrd⟩:=ho3.rd
   have HB3:=hid (HB2.out.trans (hb3.mono HB2.out.size))
   have hoin:=onceS_in l
   have HOI:Hid (∀ x∈onceS l,0≤x∧x<(n:Int)):=hid (fun x hx=>HIN.out x (hoin.1 x hx))
   obtain ⟨Zl,hZl⟩:∃ Zl,(onceS l).map Int.toNat=Zl:=⟨_,rfl⟩
   have HZL:Hid (onceS l=Zl.map nI):=hid (by
    rw [← hZl,List.map_map]
    have:∀ z∈onceS l,(nI ∘ Int.toNat) z=z:=fun z hz=>by have:=(HOI.out z hz).1;show ((z.toNat:Nat):Int)=z;omega
    rw [List.map_congr_left this,List.map_id'])
   have hzlen:Zl.length≤n:=by
    have hnd:Zl.Nodup:=by
     have:=hoin.2.1
     rw [HZL.out] at this
     unfold List.Nodup at this ⊢
     rw [List.pairwise_map] at this
     exact this.imp fun hne e=>hne (by rw [e])
    have:=nodup_sub_len hnd (m:=List.range n) (fun z hz=>by
     have hz':(z:Int)∈onceS l:=by rw [HZL.out];exact List.mem_map.2 ⟨z,hz,rfl⟩
     have:=HOI.out _ hz'
     exact List.mem_range.2 (by omega))
    rw [List.length_range] at this
    exact this
   have hx:∀ a∈Zl,a<n:=fun a ha=>by
    have ha':(a:Int)∈onceS l:=by rw [HZL.out];exact List.mem_map.2 ⟨a,ha,rfl⟩
    have:=HOI.out _ ha'
    omega
   have hrd2:RdV w3 VA ((Zl.map nI).flatMap iC):=by rw [← HZL.out];exact hrd
   have hlz:(onceS l).length=Zl.length:=by rw [HZL.out,List.length_map]
   have R1:=newRelation_any g A c true VA VA vc vc Zl Zl w3 (HG.out.below HB3.out) HF.out hrd2 hrd2 (by omega) (by omega) (Nat.le_trans (Nat.mul_le_mul (Nat.le_trans hzlen hn2) (Nat.le_trans hzlen hn2)) (by decide)) (fun a ha=>by rw [HN.out];exact hx a ha) (fun a ha=>by rw [HN.out];exact hx a ha) (HK.out.next HB3.out).tab (HK.out.next HB3.out).lt
   rw [HN.out] at R1
   rw [hlz]
   have HRD:=hid hrd2
   have HX:=hid hx
   have HZN:=hid hzlen
   obtain ⟨z,hz⟩:∃ z,Zl.length=z:=⟨_,rfl⟩
   have HZZ:=hid hz
   have hzb:z≤2000:=by omega
   rw [hz] at R1 ⊢
   clear D1 ho3 hb3 hvc hvc2 hrd hoin hZl hzlen hx hrd2 hlz hz
   go_wp2_with fail
   refine R1.mono ?_
   rintro r w4 ⟨y,S,rfl,h4,hb4,hP,hle,hlt4,hrows,hgr,-⟩
   have HB4:=hid (HB3.out.trans (hb4.mono HB3.out.size))
   have HB34:=hid hb4
   have H4:=hid h4
   have HP4:=hid hP
   have HRW:=hid hrows
   have HGR:=hid hgr
   obtain ⟨xx,hxx⟩:∃ xx:Cx,xx=⟨g,A,c,true,w3.heap.size⟩:=⟨_,rfl⟩
   have HXN:Hid (xx.n=n):=hid (by rw [hxx];exact HN.out)
   have HXG:Hid (xx.g=g):=hid (by rw [hxx])
   rw [← hxx] at H4
   clear R1 h4 hb4 hP hle hlt4 hrows hgr hxx
   go_upto_region 8 with (fail)
   have hrb:=Blk.new w4 49 #[.pointer (some ⟨y.rel,0,none⟩)]
   have hbx:=one_boxS w4 (.cells #[.pointer (some ⟨y.rel,0,none⟩)] 49)
   obtain ⟨rb,hrbs⟩:∃ rb,w4.heap.size=rb:=⟨_,rfl⟩
   rw [hrbs] at hrb ⊢
   have HB5:=hid (HB4.out.trans (hbx.mono HB4.out.size))
   have HB45:=hid (HB34.out.trans (hbx.mono HB34.out.size))
   have H5:=hid (H4.out.alloc (.cells #[.pointer (some ⟨y.rel,0,none⟩)] 49))
   generalize w4.alloc (.cells #[.pointer (some ⟨y.rel,0,none⟩)] 49)=w5 at hrb HB5 HB45 H5 ⊢
   have HRB:=hid hrb
   clear hrb hbx hrbs
   go_wp2_with fail
   go_loopw [28] (fun u28 wr=>∃ i:Nat,i≤z∧u28 = .int .i64 (i:Int)∧Hid (Below w5.heap.size w5 wr)∧Hid (∀ j a,j<i→Zl[j]? = some a→∃ b∈Zl,¬ Gr g true a b)) (fun u28 _=>z - (intOf u28).toNat)
   case atStart=>exact ⟨0,Nat.zero_le _,rfl,hid (Below.refl _ _),hid (fun j a hj=>by omega)⟩
   case round =>
    obtain ⟨i,hi,rfl,Hb,Hi⟩:=hrel
    by_cases hlt:i<z
    ·obtain ⟨a,ha⟩:∃ a,Zl[i]? = some a:=⟨_,List.getElem?_eq_getElem (by rw [HZZ.out];exact hlt)⟩
     obtain ⟨pb,po,hPA,c0⟩:=rd_intG (HRD.out.below (HB45.out.trans (Hb.out.mono HB45.out.size))) (i:=i) (j:=nI a) (by rw [List.getElem?_map,ha];rfl)
     subst hPA
     unfold nI at c0
     have HA:=hid ha
     have HAL:Hid (a<n):=hid (HX.out a (List.mem_of_getElem? ha))
     have hii:(i:Int)<(z:Int):=by omega
     clear ha
     go_upto_region 11 with (fail)
     have hab:=Blk.new wr 3 #[.int .i64 (a:Int)]
     have hbx:=one_boxS wr (.cells #[.int .i64 (a:Int)] 3)
     obtain ⟨ab,habs⟩:∃ ab,wr.heap.size=ab:=⟨_,rfl⟩
     rw [habs] at hab ⊢
     have HB6:=hid (Hb.out.trans (hbx.mono Hb.out.size))
     generalize wr.alloc (.cells #[.int .i64 (a:Int)] 3)=w6 at hab HB6 ⊢
     have HAB:=hid hab
     have K1:=contains_least (.pointer (some ⟨rb,0,none⟩)) (.pointer (some ⟨ab,0,none⟩)) (fun b => !decide (S.q.cnt (a,b.toNat)≠0)) (some ⟨pb,po,none⟩) vc (Zl.map nI) w6 (by rw [List.length_map,HZZ.out];omega) (HRD.out.below (HB45.out.trans (HB6.out.mono HB45.out.size))) (fun b wr' hbm hbr=>by
      obtain ⟨b',hb',rfl⟩:=List.mem_map.1 hbm
      have h1:=(H5.out.same HB6.out).same hbr
      exact least_item xx y S _ a b' rb ab wr' h1 rfl (by rw [HXN.out];exact HAL.out) (by rw [HXN.out];exact HX.out b' hb') (by rw [HXG.out];exact HRW.out a b' (HP4.out a (List.mem_of_getElem? HA.out) b' hb')) ((HRB.out.below HB6.out HRB.out.lt).below hbr (HRB.out.below HB6.out HRB.out.lt).lt) (HAB.out.below hbr HAB.out.lt))
     rw [List.length_map,HZZ.out] at K1
     obtain ⟨u,hu⟩:∃ u,(Zl.map nI).any (fun b => !decide (S.q.cnt (a,b.toNat)≠0))=u:=⟨_,rfl⟩
     rw [hu] at K1
     have HU:Hid (u=true↔∃ b∈Zl,¬ Gr g true a b):=hid (by
      rw [← hu,List.any_eq_true]
      constructor
      ·rintro ⟨b,hb,e⟩
       obtain ⟨b',hb',rfl⟩:=List.mem_map.1 hb
       refine ⟨b',hb',fun hg'=>?_⟩
       have:=(HGR.out a b' (HP4.out a (List.mem_of_getElem? HA.out) b' hb')).2 hg'
       have e2:(nI b').toNat=b':=by unfold nI;omega
       rw [e2,decide_eq_true this] at e
       cases e
      ·rintro ⟨b',hb',hn'⟩
       refine ⟨nI b',List.mem_map.2 ⟨b',hb',rfl⟩,?_⟩
       have e2:(nI b').toNat=b':=by unfold nI;omega
       have e4:=decide_eq_false (fun h=>hn' ((HGR.out a b' (HP4.out a (List.mem_of_getElem? HA.out) b' hb')).1 h))
       show (!decide (S.q.cnt (a,(nI b').toNat)≠0))=true
       rw [e2,e4];rfl)
     clear hab hbx habs c0 hu
     go_wp2_with fail
     refine K1.mono ?_
     rintro r w7 ⟨rfl,hb7⟩
     have HB7:=hid (HB6.out.trans (hb7.mono HB6.out.size))
     have c7:=(HAB.out.below hb7 HAB.out.lt).cell 0
     simp at c7
     clear K1 hb7
     cases u
     ·have HL:Hid (LeastIs g (onceS l) (a:Int)):=hid (by
       rw [HZL.out]
       refine ⟨i,by rw [List.getElem?_map,HA.out];rfl,fun b hb=>?_,fun j b hj hb=>?_⟩
       ·obtain ⟨b',hb',rfl⟩:=List.mem_map.1 hb
        have e2:(nI b').toNat=b':=by unfold nI;omega
        rw [e2]
        refine Classical.byContradiction fun hn'=>?_
        have:=HU.out.2 ⟨b',hb',by simpa using hn'⟩
        cases this
       ·rw [List.getElem?_map] at hb
        obtain ⟨b',hb',rfl⟩:=Option.map_eq_some_iff.1 hb
        obtain ⟨d,hd,hn'⟩:=Hi.out j b' hj hb'
        have e2:(nI b').toNat=b':=by unfold nI;omega
        have e3:(nI d).toNat=d:=by unfold nI;omega
        exact ⟨nI d,List.mem_map.2 ⟨d,hd,rfl⟩,by rw [e2,e3];exact hn'⟩)
      have HBW:=hid (HB5.out.trans (HB7.out.mono HB5.out.size))
      go_wp2_with fail
      go_returns
      exact ⟨HBW.out,.inr (.inr (.inl ⟨HC.out,HE.out,(a:Int),HL.out,rfl⟩))⟩
     ·have HI2:Hid (∀ j a,j<i+1→Zl[j]? = some a→∃ b∈Zl,¬ Gr g true a b):=hid (fun j b hj hb=>by
       by_cases e:j=i
       ·subst e
        rw [HA.out] at hb
        injection hb with hb
        subst hb
        exact HU.out.1 rfl
       ·exact Hi.out j b (by omega) hb)
      clear c7
      go_wp2_with fail
      go_roundw
      case rel=>exact ⟨i+1,by omega,by go_num,HB7,HI2⟩
      case measure=>simp [intOf];omega
    ·have hiz:i=z:=by omega
     have hii:¬ ((i:Int)<(z:Int)):=by omega
     have HBW:=hid (HB5.out.trans (Hb.out.mono HB5.out.size))
     have HNO:Hid (∀ a∈onceS l,∃ b∈onceS l,¬ Gr g true a.toNat b.toNat):=hid (fun a ha=>by
      rw [HZL.out] at ha ⊢
      obtain ⟨a',ha',rfl⟩:=List.mem_map.1 ha
      obtain ⟨j,hj⟩:=List.getElem?_of_mem ha'
      obtain ⟨d,hd,hn'⟩:=Hi.out j a' (by have:=(List.getElem?_eq_some_iff.1 hj).1;rw [HZZ.out] at this;omega) hj
      have e2:(nI a').toNat=a':=by unfold nI;omega
      have e3:(nI d).toNat=d:=by unfold nI;omega
      exact ⟨nI d,List.mem_map.2 ⟨d,hd,rfl⟩,by rw [e2,e3];exact hn'⟩)
     clear hiz
     go_wp2_with fail
     go_returns
     exact ⟨HBW.out,.inr (.inr (.inr ⟨HC.out,HE.out,HNO.out,rfl⟩))⟩
 ·have hc1:(((checkG g:Nat):Int) != 0)=true:=by simp;omega
  have HC:=hid hc
  clear hc
  go_wp2_with fail
  go_returns
  exact ⟨HB1.out,.inl ⟨HC.out,rfl⟩⟩
end SM
end
section
open Go.RowKit
namespace SM
open CM (nd kids)
def chainA (n i:Nat):List Gi:=(List.range i).map fun k=>recN [((k:Nat):Int)+1]
def chainB (n i:Nat):List Gi:=(List.range i).map fun k=>recN [((n:Nat):Int)+2+((k:Nat):Int)]
def intN:Gi:=⟨4,0,⟨#[]⟩,[],[]⟩
def nullN:Gi:=⟨2,0,⟨#[]⟩,[],[]⟩
def uniN (n:Nat):Gi:=⟨8,0,⟨#[]⟩,[],[((n:Nat):Int),2*((n:Nat):Int)+2]⟩
def hG (n:Nat):List Gi:=((chainA n n++[intN])++chainB n n)++[uniN n,nullN]
theorem chainA_next (n i:Nat):chainA n (i+1)=chainA n i++[recN [((i:Nat):Int)+1]]:=by unfold chainA;rw [List.range_succ,List.map_append];rfl
theorem chainB_next (n i:Nat):chainB n (i+1)=chainB n i++[recN [((n:Nat):Int)+2+((i:Nat):Int)]]:=by unfold chainB;rw [List.range_succ,List.map_append];rfl
theorem chainA_len (n i:Nat):(chainA n i).length=i:=by unfold chainA;rw [List.length_map,List.length_range]
theorem chainB_len (n i:Nat):(chainB n i).length=i:=by unfold chainB;rw [List.length_map,List.length_range]
theorem hG_len (n:Nat):(hG n).length=2*n+3:=by unfold hG;simp only [List.length_append,chainA_len,chainB_len,List.length_cons,List.length_nil];omega
def refB (g:List Gi) (st:Bool):List (Nat × Nat)→Bool
 | []=>true
 | p :: rest=>refB g st rest && (decide (p.1<g.length) && decide (p.2<g.length) && !holdsB g st (fun a b => !isIn rest a b) p.1 p.2)
theorem ref_no {g:List Gi} (hf:Fine g) {st:Bool}:∀ {L:List (Nat × Nat)},refB g st L=true→∀ a b,(a,b)∈L→¬ Gr g st a b
 | [],_,a,b,h=>by cases h
 | p :: rest,hr,a,b,h=>by
  unfold refB at hr
  rw [Bool.and_eq_true,Bool.and_eq_true,Bool.and_eq_true,decide_eq_true_eq,decide_eq_true_eq] at hr
  obtain ⟨h1,⟨h2,h3⟩,h4⟩:=hr
  have ih:=ref_no hf h1
  rcases List.mem_cons.1 h with rfl | h
  ·refine not_gr hf (I:=fun a b => !isIn rest a b) (fun x y _ _ hg=>?_) h2 h3 (by simpa using h4)
   cases e:isIn rest x y
   ·rfl
   ·exact absurd hg (ih x y (isIn_iff.1 e))
  ·exact ih a b h
def allB (g:List Gi) (st:Bool) (L:List (Nat × Nat)):Bool:=L.all fun p=>holdsB g st (isIn L) p.1 p.2
theorem all_gr {g:List Gi} {st:Bool} {L:List (Nat × Nat)} (h:allB g st L=true) {a b:Nat} (hm:(a,b)∈L):Gr g st a b:=by
 refine ⟨fun a b=>isIn L a b=true,fun a b hab=>?_,isIn_iff.2 hm⟩
 unfold allB at h
 rw [List.all_eq_true] at h
 exact holdsB_iff.1 (h (a,b) (isIn_iff.1 hab))
def upL (n:Nat):List (Nat × Nat):=(List.range (n+1)).map fun i=>(i,n+1+i)
def dnL (n:Nat):List (Nat × Nat):=(List.range (n+1)).map fun i=>(n+1+i,i)
def chainOk (n:Nat):Bool:=Nat.beq (checkG (hG n)) 0 && (allB (hG n) true (upL n) && refB (hG n) false (dnL n))
theorem chains_ok:((List.range 8).all fun k=>chainOk (k+1))=true:=by kernel_rfl
theorem up_mem (n:Nat):(0,n+1)∈upL n:=List.mem_map.2 ⟨0,List.mem_range.2 (by omega),rfl⟩
theorem dn_mem (n:Nat):(n+1,0)∈dnL n:=List.mem_map.2 ⟨0,List.mem_range.2 (by omega),rfl⟩
theorem chain_is {n:Nat} (h1:1≤n) (h2:n<9):checkG (hG n)=0∧Gr (hG n) true 0 (n+1)∧¬ Gr (hG n) false (n+1) 0:=by
 have h:=chains_ok
 rw [List.all_eq_true] at h
 have h3:=h (n - 1) (List.mem_range.2 (by omega))
 rw [show n - 1+1=n by omega] at h3
 unfold chainOk at h3
 rw [Bool.and_eq_true,Bool.and_eq_true] at h3
 have hc:checkG (hG n)=0:=Nat.eq_of_beq_eq_true h3.1
 exact ⟨hc,all_gr h3.2.1 (up_mem n),ref_no (fine_of hc) h3.2.2 _ _ (dn_mem n)⟩
theorem chain_strict {n:Nat} (h1:1≤n) (h2:n<9) {v:Bool} (h:Bel (hG n) true 0 (((n:Nat):Int)+1) v):v=true:=by
 obtain ⟨hc,hg,-⟩:=chain_is h1 h2
 refine h.2 ⟨hc,exI_iff.2 (by rw [hG_len];omega),exI_iff.2 (by rw [hG_len];omega),?_⟩
 rw [show ((n:Nat):Int)+1=((n+1:Nat):Int) by omega,Int.toNat_natCast]
 exact hg
theorem chain_may {n:Nat} (h1:1≤n) (h2:n<9) {v:Bool} (h:Bel (hG n) false (((n:Nat):Int)+1) 0 v):v=false:=by
 obtain ⟨-,-,hg⟩:=chain_is h1 h2
 cases v
 ·rfl
 ·have:=(h.1 rfl).2.2.2
  rw [show ((n:Nat):Int)+1=((n+1:Nat):Int) by omega,Int.toNat_natCast] at this
  exact absurd this hg
def oddG:List Gi:=[⟨9,0,⟨#[]⟩,[],[0]⟩,⟨9,1,⟨#[]⟩,[],[3]⟩,⟨9,1,⟨#[]⟩,[],[4]⟩,⟨4,0,⟨#[]⟩,[],[]⟩,⟨3,0,⟨#[]⟩,[],[]⟩,⟨5,0,⟨#[97]⟩,[],[]⟩,⟨5,0,⟨#[98]⟩,[],[]⟩]
theorem odd_ok:checkG oddG=0:=by kernel_rfl
def zeroN:Gi:=⟨0,0,⟨#[]⟩,[],[]⟩
theorem zero_no:checkG [zeroN]=2:=by kernel_rfl
theorem many_no:checkG (List.replicate 2001 zeroN)=5:=by
 unfold checkG
 rw [if_pos (by rw [List.length_replicate];omega)]
end SM
end
section
open Lib (hid)
open Go.RowKit
namespace SM
open CM (nd kids)
theorem bring_at (i n:Int) (w:World) (hn:0<n) (hn2:n≤9223372036854775807) :
  Calls Tryz.prog 48 #[.int .i64 i,.int .i64 n] w fun e w'=>e = .returned (.int .i64 (bringG i n))∧w'=w:=
 (bringG_any i n w hn hn2).mono fun e w' h=>⟨h.1,h.2.symm⟩
set_option maxRecDepth 100000 in
set_option maxHeartbeats 8000000 in
theorem some_any (LA:Option Addr) (lc:Nat) (l:List Int) (n:Int) (w:World) (hl:(l.length:Int)≤9223372036854775807) (hn:0<n) (hn2:n≤1000) (h:RdV w LA (l.flatMap iC)) :
  Calls Tryz.prog 46 #[.slice LA l.length lc,.int .i64 n] w fun r w'=>∃ v,r = .returned v∧OwnI w' w.heap.size v (someS l n)∧Below w.heap.size w w':=by
 have HR:=hid h
 obtain ⟨m,hm⟩:∃ m,l.length=m:=⟨_,rfl⟩
 have HM:=hid hm
 have HN:=hid hn
 have HN2:=hid hn2
 rw [hm] at hl ⊢
 clear h hm hn hn2
 go_enter Tryz.func46,Tryz.ntmps46
 go_wp2_with fail
 go_loopw [5,6] (fun u5 u6 wr=>∃ (k:Nat) (v:Value),k≤m∧k≤4∧u6 = .int .i64 (k:Int)∧u5=v∧Hid (OwnI wr w.heap.size v ((l.take k).map fun x=>bringG x n))∧Hid (Below w.heap.size w wr)) (fun _ u6 _=>m - (intOf u6).toNat)
 case atStart=>exact ⟨0,.slice none 0 0,Nat.zero_le _,Nat.zero_le _,rfl,rfl,hid (OwnI.nil _ _),hid (Below.refl _ _)⟩
 case round =>
  obtain ⟨k,v,hk,hk4,rfl,rfl,HO,HB⟩:=hrel
  obtain ⟨VA,vc,hv,-,-,-⟩:=HO.out.rd
  have hzl:((l.take k).map fun x=>bringG x n).length=k:=by rw [List.length_map,List.length_take,HM.out];omega
  obtain ⟨Z,hZ⟩:∃ Z,((l.take k).map fun x=>bringG x n)=Z:=⟨_,rfl⟩
  rw [hZ] at hv HO hzl
  rw [hzl] at hv
  have HZ:=hid hZ
  have HZL:=hid hzl
  clear hZ hzl
  by_cases hlt:k<m∧k<4
  ·obtain ⟨x,hx⟩:∃ x,l[k]? = some x:=⟨_,List.getElem?_eq_getElem (by have:=HM.out;omega)⟩
   obtain ⟨b,o,hA,c0⟩:=rd_intG (HR.out.below HB.out) hx
   subst hA
   have HE:Hid ((l.take (k+1)).map (fun x=>bringG x n)=Z++[bringG x n]):=hid (by rw [List.take_add_one,hx,List.map_append,HZ.out];rfl)
   have hki:(k:Int)<(m:Int):=by omega
   have hk4i:(k:Int)<4:=by omega
   obtain ⟨z,hz⟩:∃ z,bringG x n=z:=⟨_,rfl⟩
   have B1:=bring_at x n wr HN.out (by have:=HN2.out;omega)
   rw [hz] at B1 HE
   subst hv
   clear hx hz
   go_wp2_with fail
   refine B1.mono ?_
   rintro e w' ⟨rfl,rfl⟩
   clear B1 c0
   have hnw:=Blk.new w' 3 #[.int .i64 z]
   have HNW:=hid hnw
   clear hnw
   go_wp2_with (at_builtin;refine unhidG ?_)
   refine hid ?_
   refine wpList_step fun K' hK=>?_
   refine step_pushI _ (by rfl) _ _ (by rfl) w.heap.size (.slice VA k vc) Z z ⟨w'.heap.size,0,none⟩ 1 (by rfl) (World.ownsRow.alloc HO.out _) (by rfl) (HNW.out.cell 0) (by rw [HZL.out];omega) (by have:=HB.out.size;show w.heap.size≤(w'.heap.push _).size;rw [Array.size_push];omega) ?_
   intro gg cap w4 ho4 hg4 hat4 hlt4
   have HO4:=hid ho4
   have HB4:=hid (own_belI (Nat.le_refl _) HO.out hg4 (HB.out.alloc HB.out.size (.cells #[.int .i64 z] 3)))
   rw [HZL.out] at HO4 ⊢
   clear ho4 hg4 hat4 hlt4
   refine hK _ _ ?_
   go_wp2_with fail
   go_roundw
   case rel=>exact ⟨k+1,_,by omega,by omega,by go_num,rfl,by rw [HE.out];exact HO4,HB4⟩
   case measure=>simp [intOf];omega
  ·have HZZ:Hid (someS l n=Z++List.replicate (2 - k) 0):=hid (by
    have e:l.take 4=l.take k:=by
     by_cases h4:k=4
     ·rw [h4]
     ·have:k=m:=by omega
      rw [List.take_of_length_le (by rw [HM.out];omega),List.take_of_length_le (by rw [HM.out];omega)]
    unfold someS padS
    rw [e,HZ.out,HZL.out])
   have hno:(k:Int)<(m:Int)→¬ (k:Int)<4:=fun h=>by omega
   have hrest:∀ (r:Nat) (u:Value) (w5:World),r≤2 - k→OwnI w5 w.heap.size u (Z++List.replicate r 0)→Below w.heap.size w w5→True:=fun _ _ _ _ _ _=>trivial
   clear hrest
   by_cases hkm:k<m
   ·have hki:(k:Int)<(m:Int):=by omega
    have hk4i:¬ (k:Int)<4:=hno hki
    have hk2:¬ (k:Int)<2:=by omega
    have HF:Hid (OwnI wr w.heap.size (.slice VA k vc) (someS l n)):=hid (by rw [HZZ.out,show 2 - k=0 by omega];simp only [List.replicate_zero,List.append_nil];rw [← hv];exact HO.out)
    subst hv
    clear hno
    go_wp2_with fail
    go_loopw [5] (fun u5 wr2=>u5 = .slice VA k vc∧wr2=wr) (fun _ _=>0)
    case atStart=>exact ⟨rfl,rfl⟩
    case round =>
     obtain ⟨rfl,rfl⟩:=hrel
     go_wp2_with fail
     go_returns
     exact ⟨_,rfl,HF.out,HB.out⟩
   ·have hki:¬ (k:Int)<(m:Int):=by omega
    have HO0:Hid (OwnI wr w.heap.size (.slice VA k vc) (Z++List.replicate 0 0)):=hid (by simp only [List.replicate_zero,List.append_nil];rw [← hv];exact HO.out)
    subst hv
    clear hno
    go_wp2_with fail
    go_loopw [5] (fun u5 wr2=>∃ (r:Nat) (A2:Option Addr) (c2:Nat),r≤2 - k∧u5 = .slice A2 (k+r) c2∧Hid (OwnI wr2 w.heap.size (.slice A2 (k+r) c2) (Z++List.replicate r 0))∧Hid (Below w.heap.size w wr2)) (fun u5 _=>match u5 with | .slice _ q _=>2 - q | _=>0)
    case atStart=>exact ⟨0,VA,vc,Nat.zero_le _,rfl,HO0,HB⟩
    case round =>
     obtain ⟨r,A2,c2,hr,rfl,HO2,HB2⟩:=hrel
     have hlen:(Z++List.replicate r (0:Int)).length=k+r:=by rw [List.length_append,HZL.out,List.length_replicate]
     have HLEN:=hid hlen
     clear hlen
     by_cases h2:k+r<2
     ·have h2i:((k+r:Nat):Int)<2:=by omega
      have hnw:=Blk.new wr 3 #[.int .i64 0]
      have HNW:=hid hnw
      have HE:Hid (Z++List.replicate (r+1) (0:Int)=(Z++List.replicate r 0)++[0]):=hid (by rw [List.replicate_succ',← List.append_assoc])
      obtain ⟨kr,hkr⟩:∃ kr,k+r=kr:=⟨_,rfl⟩
      have HKR:=hid hkr
      rw [hkr] at HO2 HLEN h2i h2 ⊢
      clear hnw hkr
      go_wp2_with (at_builtin;refine unhidG ?_)
      refine hid ?_
      refine wpList_step fun K' hK=>?_
      refine step_pushI _ (by rfl) _ _ (by rfl) w.heap.size (.slice A2 kr c2) (Z++List.replicate r 0) 0 ⟨wr.heap.size,0,none⟩ 1 (by rfl) (World.ownsRow.alloc HO2.out _) (by rfl) (HNW.out.cell 0) (by rw [HLEN.out];omega) (by have:=HB2.out.size;show w.heap.size≤(wr.heap.push _).size;rw [Array.size_push];omega) ?_
      intro gg cap w4 ho4 hg4 hat4 hlt4
      have HO4:=hid ho4
      have HB4:=hid (own_belI (Nat.le_refl _) HO2.out hg4 (HB2.out.alloc HB2.out.size (.cells #[.int .i64 0] 3)))
      rw [HLEN.out] at HO4 ⊢
      clear ho4 hg4 hat4 hlt4
      refine hK _ _ ?_
      go_wp2_with fail
      go_roundw
      case rel=>exact ⟨r+1,_,_,by have:=HKR.out;omega,by rw [← HKR.out,Nat.add_assoc],by rw [HE.out,← Nat.add_assoc,HKR.out];exact HO4,HB4⟩
      case measure=>simp;omega
     ·have h2i:¬ ((k+r:Nat):Int)<2:=by omega
      have HF:Hid (OwnI wr w.heap.size (.slice A2 (k+r) c2) (someS l n)):=hid (by rw [HZZ.out,show 2 - k=r by omega];exact HO2.out)
      obtain ⟨kr,hkr⟩:∃ kr,k+r=kr:=⟨_,rfl⟩
      rw [hkr] at HF h2i ⊢
      go_wp2_with fail
      go_returns
      exact ⟨_,rfl,HF.out,HB2.out⟩
end SM
end
section
open Lib (hid)
open Go.RowKit
namespace SM
open CM (nd kids)
theorem mem_take_succ {l:List Int} {k:Nat} {x z:Int} (h:l[k]? = some z):(x∈l.take (k+1))↔(x∈l.take k∨z=x):=by
 rw [List.take_add_one,h,List.mem_append]
 simp [eq_comm]
set_option maxRecDepth 100000 in
set_option maxHeartbeats 8000000 in
theorem once_any (LA:Option Addr) (lc:Nat) (l:List Int) (w:World) (hl:l.length≤100000) (h:RdV w LA (l.flatMap iC)) :
  Calls Tryz.prog 47 #[.slice LA l.length lc] w fun r w'=>∃ v,r = .returned v∧OwnI w' w.heap.size v (onceS l)∧Below w.heap.size w w':=by
 have HR:=hid h
 obtain ⟨m,hm⟩:∃ m,l.length=m:=⟨_,rfl⟩
 have HM:=hid hm
 rw [hm] at hl ⊢
 clear h hm
 go_enter Tryz.func47,Tryz.ntmps47
 go_wp2_with fail
 go_loopw [3,4] (fun u3 u4 wr=>∃ (i:Nat) (v:Value),i≤m∧u4 = .int .i64 (i:Int)∧u3=v∧Hid (OwnI wr w.heap.size v (onceS (l.take i)))∧Hid (Below w.heap.size w wr)) (fun _ u4 _=>m - (intOf u4).toNat)
 case atStart=>exact ⟨0,.slice none 0 0,Nat.zero_le _,rfl,rfl,hid (OwnI.nil _ _),hid (Below.refl _ _)⟩
 case round =>
  obtain ⟨i,v,hi,rfl,rfl,HO,HB⟩:=hrel
  obtain ⟨ws,rfl⟩:∃ ws,ws=wr:=⟨_,rfl⟩
  obtain ⟨VA,vc,hv,hvc,hvc2,-⟩:=HO.out.rd
  obtain ⟨Z,hZ⟩:∃ Z,onceS (l.take i)=Z:=⟨_,rfl⟩
  have hzl:Z.length≤100000:=by rw [← hZ];have:=(onceS_in (l.take i)).2.2;rw [List.length_take] at this;omega
  rw [hZ] at hv HO hvc
  obtain ⟨zn,hzn⟩:∃ zn,Z.length=zn:=⟨_,rfl⟩
  rw [hzn] at hv hzl hvc
  have HZ:=hid hZ
  have HZN:=hid hzn
  clear hZ hzn
  by_cases hlt:i<m
  ·obtain ⟨x,hx⟩:∃ x,l[i]? = some x:=⟨_,List.getElem?_eq_getElem (by have:=HM.out;omega)⟩
   have HON:Hid (onceS (l.take (i+1))=onceF Z x):=hid (by rw [List.take_add_one,hx];show onceS (l.take i++[x])=_;rw [onceS_snoc,HZ.out])
   have HX:=hid hx
   have hii:(i:Int)<(m:Int):=by omega
   subst hv
   clear hx
   go_wp2_with fail
   go_loopw [5,6] (fun u5 u6 wr=>∃ k:Nat,k≤zn∧u6 = .int .i64 (k:Int)∧u5 = .bool (decide (x∈Z.take k))∧Hid (OwnI wr w.heap.size (.slice VA zn vc) Z)∧Hid (Below w.heap.size w wr)) (fun _ u6 _=>zn - (intOf u6).toNat)
   case atStart=>exact ⟨0,Nat.zero_le _,rfl,rfl,HO,HB⟩
   case round =>
    obtain ⟨k,hk,rfl,rfl,HO2,HB2⟩:=hrel
    have HO3:Hid (OwnI wr.drew w.heap.size (.slice VA zn vc) Z):=hid (World.ownsRow.drew HO2.out)
    have HB3:=hid HB2.out.drew
    by_cases hlt2:k<zn
    ·obtain ⟨z,hz⟩:∃ z,Z[k]? = some z:=⟨_,List.getElem?_eq_getElem (by have:=HZN.out;omega)⟩
     obtain ⟨A5,c5,e5,-,-,hrz⟩:=HO2.out.rd
     injection e5 with e51 e52 e53
     subst e51 e53
     obtain ⟨b1,o1,hA1,c1⟩:=rd_intG hrz hz
     obtain ⟨b2,o2,hA2,c2⟩:=rd_intG (HR.out.below HB2.out) HX.out
     have hkz:(k:Int)<(zn:Int):=by omega
     have HMT:=mem_take_succ (x:=x) hz
     have HT:=hid HMT
     clear hrz hz HMT
     by_cases hin:x∈Z.take k
     ·have HE:Hid (decide (x∈Z.take (k+1))=true):=hid (decide_eq_true (HT.out.2 (.inl hin)))
      rw [decide_eq_true hin]
      clear hin c1 c2 hA1 hA2
      go_wp2_with fail
      go_region
      go_wp2_with fail
      go_roundw
      case rel=>exact ⟨k+1,by omega,by go_num,by rw [HE.out],HO3,HB3⟩
      case measure=>simp [intOf];omega
     ·rw [decide_eq_false hin]
      subst hA1
      subst hA2
      by_cases hzx:z=x
      ·have t1:(z == x)=true:=by simp [hzx]
       have HE:Hid (decide (x∈Z.take (k+1))=true):=hid (decide_eq_true (HT.out.2 (.inr hzx)))
       clear hin hzx
       go_wp2_with fail
       go_region
       go_wp2_with fail
       go_roundw
       case rel=>exact ⟨k+1,by omega,by go_num,by rw [HE.out],HO3,HB3⟩
       case measure=>simp [intOf];omega
      ·have t1:(z == x)=false:=by simp [hzx]
       have HE:Hid (decide (x∈Z.take (k+1))=false):=hid (decide_eq_false fun h=>(HT.out.1 h).elim hin hzx)
       clear hin hzx
       go_wp2_with fail
       go_region
       go_wp2_with fail
       go_roundw
       case rel=>exact ⟨k+1,by omega,by go_num,by rw [HE.out],HO3,HB3⟩
       case measure=>simp [intOf];omega
    ·have hkz:¬ (k:Int)<(zn:Int):=by omega
     have hkk:Z.take k=Z:=List.take_of_length_le (by have:=HZN.out;omega)
     rw [hkk]
     clear hkk
     by_cases hin:x∈Z
     ·rw [decide_eq_true hin]
      have HE:Hid (onceS (l.take (i+1))=Z):=hid (by rw [HON.out];unfold onceF;rw [if_pos hin])
      clear hin
      go_wp2_with fail
      go_roundw
      case rel=>exact ⟨i+1,_,by omega,by go_num,rfl,by rw [HE.out];exact HO2,HB2⟩
      case measure=>simp [intOf];omega
     ·rw [decide_eq_false hin]
      have HE:Hid (onceS (l.take (i+1))=Z++[x]):=hid (by rw [HON.out];unfold onceF;rw [if_neg hin])
      obtain ⟨b2,o2,hA2,c2⟩:=rd_intG (HR.out.below HB2.out) HX.out
      subst hA2
      have hnw:=Blk.new wr 3 #[.int .i64 x]
      have HNW:=hid hnw
      clear hin hnw
      go_wp2_with (at_builtin;refine unhidG ?_)
      refine hid ?_
      refine wpList_step fun K' hK=>?_
      refine step_pushI _ (by rfl) _ _ (by rfl) w.heap.size (.slice VA zn vc) Z x ⟨wr.heap.size,0,none⟩ 1 (by rfl) (World.ownsRow.alloc HO2.out _) (by rfl) (HNW.out.cell 0) (by have:=HZN.out;omega) (by have:=HB2.out.size;show w.heap.size≤(wr.heap.push _).size;rw [Array.size_push];omega) ?_
      intro gg cap w4 ho4 hg4 hat4 hlt4
      have HO4:=hid ho4
      have HB4:=hid (own_belI (Nat.le_refl _) HO2.out hg4 (HB2.out.alloc HB2.out.size (.cells #[.int .i64 x] 3)))
      clear ho4 hg4 hat4 hlt4
      refine hK _ _ ?_
      go_wp2_with fail
      go_roundw
      case rel=>exact ⟨i+1,_,by omega,by go_num,rfl,by rw [HE.out];exact HO4,HB4⟩
      case measure=>simp [intOf];omega
  ·have him:i=m:=by omega
   have hii:¬ ((i:Int)<(m:Int)):=by omega
   have HF:Hid (OwnI ws w.heap.size (.slice VA zn vc) (onceS l)):=hid (by
    have:=HO.out
    rw [hv] at this
    rw [← HZ.out,him,← HM.out,List.take_length] at this
    exact this)
   subst hv
   clear him
   go_wp2_with fail
   go_returns
   exact ⟨_,rfl,HF.out,HB.out⟩
end SM
end
end Go.Proofs.YtmgbbndmmbgemaaGreatDoor
