/- Contracts and plain facts that the theorem rests on: SBelow, SAll, SMx. -/
import Derived.Test.YtfigdflcoaepaaaGreatDoorZV15
import Derived.Test.YtfigdflcoaepaaaGreatDoorZV20
set_option linter.unusedSimpArgs false
set_option linter.unusedVariables false
namespace Go.Proofs.YtfigdflcoaepaaaGreatDoor
section
open Go.RowKit
namespace SM
open CM (nd kids)
structure Gnd (w:World):Prop where
 kw:Keys w
 tab:TabAt 1 Lib.deBruijn64tab w
 lt:1<w.heap.size
theorem Gnd.below {w w':World}(h:Gnd w){B:Nat}(hb:Below B w w')(h1:0<B)(h2:1<B):Gnd w':=
 ⟨h.kw.below hb h1,fun j hj=>(hb.cell (p:=⟨_,j,none⟩) h2).trans (h.tab j hj),Nat.lt_of_lt_of_le h.lt hb.size⟩
theorem Gnd.next {w w':World}(h:Gnd w)(hb:Below w.heap.size w w'):Gnd w':=h.below hb h.kw.1 h.lt
theorem rd_lit1 (w:World)(x:Int):RdV (w.alloc (.cells #[.int .i64 x] 3)) (some ⟨w.heap.size,0,none⟩) ([x].flatMap iC):=fun _=>⟨w.heap.size,0,rfl,fun j v hj=>by
 rw[Nat.zero_add]
 match j,hj with
 | 0,hj =>
  have:=(Blk.new w 3 #[.int .i64 x]).cell 0;rw[this];exact hj
 | j+1,hj=>cases hj⟩
end SM
end
section
open Lib (hid)
open Go.RowKit
namespace SM
open CM (nd kids)
theorem mk_i64 (n:Nat)(hn:n≤5000)(w:World):(Instr.makeSlice 35 (.int .i64 (n:Int)) (.int .i64 (n:Int))).run Tryz.prog w=.ok (.slice (some ⟨w.heap.size,0,none⟩) n n) (w.alloc (.cells (vals (fun _=>.int .i64 0) n) 3)):=by
 rw[← made_vals];exact run_make_row' 35 3 (.int .i64 0) 8 Tryz.underlying35 (by kernel_rfl) rfl .i64 .i64 n (by omega) (by omega) w
theorem mk_bb (n:Nat)(hn:n≤5000)(w:World):(Instr.makeSlice 41 (.int .i64 (n:Int)) (.int .i64 (n:Int))).run Tryz.prog w=.ok (.slice (some ⟨w.heap.size,0,none⟩) n n) (w.alloc (.cells (vals (fun _=>nilV) n) 46)):=by
 rw[← made_vals];exact run_make_row' 41 46 nilV 24 Tryz.underlying41 (by kernel_rfl) rfl .i64 .i64 n (by omega) (by omega) w
theorem flat_nI (f:Nat→Nat):∀ l:List Nat,((l.map f).map nI).flatMap iC=l.map fun j=>Value.int .i64 (f j:Int)
 | []=>rfl
 | j::l=>by
  have:=flat_nI f l;simp only[List.map_cons,List.flatMap_cons];rw[this];rfl
theorem rd_vals {w:World}{b n:Nat}{t:TypeId}{f:Nat→Nat}(h:Blk w b t (vals (fun j=>.int .i64 (f j:Int)) n)):RdV w (some ⟨b,0,none⟩) ((((List.range n).map f).map nI).flatMap iC):=fun _=>⟨b,0,rfl,fun j v hj=>by
 rw[Nat.zero_add,h.cell j];rw[flat_nI] at hj;rw[vals,List.getElem?_toArray];exact hj⟩
structure Sq (w0:World)(B:Nat)(n:Nat)(u:Nat→Nat→Bool)(rb:Nat)(q:Nat→Nat)(i:Nat)(w:World):Prop where
 bel:Below B w0 w
 rows:Blk w rb 46 (vals (fun j=>if j<i then .slice (some ⟨q j,0,none⟩) n n else nilV) n)
 row:∀ j,j<i→B≤q j∧q j<w.heap.size∧q j≠rb∧Blk w (q j) 4 (vals (fun b=>.bool (u j b)) n)
 ne:∀ j k,j<i→k<i→j≠k→q j≠q k
structure Sq2 (w0:World)(B:Nat)(n:Nat)(u:Nat→Nat→Bool)(rb:Nat)(q:Nat→Nat)(i m:Nat)(w:World):Prop where
 bel:Below B w0 w
 rows:Blk w rb 46 (vals (fun j=>if j<i+1 then .slice (some ⟨q j,0,none⟩) n n else nilV) n)
 lt:∀ j,j<i+1→B≤q j∧q j<w.heap.size∧q j≠rb
 row:∀ j,j<i→Blk w (q j) 4 (vals (fun b=>.bool (u j b)) n)
 last:Blk w (q i) 4 (vals (fun b=>.bool (if b<m then u i b else false)) n)
 ne:∀ j k,j<i+1→k<i+1→j≠k→q j≠q k
section
variable {w0 : World} {B n : Nat} {u : Nat → Nat → Bool} {rb : Nat} {q : Nat → Nat} {i m : Nat} {w : World}
theorem Sq.next (h:Sq w0 B n u rb q i w)(hB:B≤w.heap.size)(hrb:B≤rb) :
  Sq2 w0 B n u rb (fun j=>if j=i then w.heap.size else q j) i 0 ((w.alloc (.cells (vals (fun _=>.bool false) n) 4)).setCell ⟨rb,i,none⟩ (.slice (some ⟨w.heap.size,0,none⟩) n n)):=by
 have hlt:=h.rows.lt;have hsz:((w.alloc (.cells (vals (fun _=>.bool false) n) 4)).setCell ⟨rb,i,none⟩ (.slice (some ⟨w.heap.size,0,none⟩) n n)).heap.size=w.heap.size+1:=by
  have e:((w.alloc (.cells (vals (fun _=>.bool false) n) 4)).setCell ⟨rb,i,none⟩ (.slice (some ⟨w.heap.size,0,none⟩) n n)).heap.size=(w.alloc (.cells (vals (fun _=>.bool false) n) 4)).heap.size:=by simp[World.setCell]
  rw[e];exact Array.size_push _
 refine⟨(h.bel.alloc hB _).setCell (show B≤rb from hrb) _,?_,fun j hj=>?_,fun j hj=>?_,?_,fun j k hj hk hne=>?_⟩
 ·have:=(h.rows.alloc (.cells (vals (fun _=>.bool false) n) 4)).set_ i (.slice (some ⟨w.heap.size,0,none⟩) n n)
  rw[vals_set] at this;have e:(fun j=>if j=i then Value.slice (some ⟨w.heap.size,0,none⟩) n n else if j<i then .slice (some ⟨q j,0,none⟩) n n else nilV)=fun j=>if j<i+1 then .slice (some ⟨(if j=i then w.heap.size else q j),0,none⟩) n n else nilV:=by
   funext j
   by_cases e:j=i
   ·subst e;rw[if_pos rfl,if_pos (by omega),if_pos rfl]
   ·rw[if_neg e,if_neg e];by_cases e':j<i
    ·rw[if_pos e',if_pos (by omega)]
    ·rw[if_neg e',if_neg (by omega)]
  rw[← e];exact this
 ·rw[hsz];by_cases e:j=i
  ·rw[if_pos e];exact⟨hB,by omega,by omega⟩
  ·rw[if_neg e];obtain⟨h1,h2,h3,_⟩:=h.row j (by omega)
   exact⟨h1,by omega,h3⟩
 ·rw[if_neg (by omega)]
  obtain⟨h1,h2,h3,h4⟩:=h.row j hj;exact(h4.alloc _).far (p:=⟨rb,i,none⟩) h3 _
 ·rw[if_pos rfl];have e:(fun b=>Value.bool (if b<0 then u i b else false))=fun _=>.bool false:=by funext b;rw[if_neg (by omega)]
  rw[e];exact(Blk.new w 4 (vals (fun _=>.bool false) n)).far (p:=⟨rb,i,none⟩) (by show w.heap.size≠rb;omega) _
 ·by_cases e:j=i
  ·rw[if_pos e,if_neg (by omega)]
   have:=(h.row k (by omega)).2.1
   omega
  ·rw[if_neg e];by_cases e':k=i
   ·rw[if_pos e'];have:=(h.row j (by omega)).2.1
    omega
   ·rw[if_neg e'];exact h.ne j k (by omega) (by omega) hne
theorem Sq2.put (h:Sq2 w0 B n u rb q i m w):Sq2 w0 B n u rb q i (m+1) (w.setCell ⟨q i,m,none⟩ (.bool (u i m))):=by
 have hi:=h.lt i (by omega)
 have hsz:(w.setCell ⟨q i,m,none⟩ (.bool (u i m))).heap.size=w.heap.size:=by simp[World.setCell]
 refine⟨h.bel.setCell (show B≤q i from hi.1) _,h.rows.far (p:=⟨q i,m,none⟩) (fun e=>hi.2.2 e.symm) _,fun j hj=>by rw[hsz];exact h.lt j hj,fun j hj=>(h.row j hj).far (p:=⟨q i,m,none⟩) (h.ne j i (by omega) (by omega) (by omega)) _,?_,h.ne⟩
 have:=h.last.set_ m (.bool (u i m));rw[vals_set] at this;have e:(fun j=>if j=m then Value.bool (u i m) else .bool (if j<m then u i j else false))=fun b=>.bool (if b<m+1 then u i b else false):=by
  funext j
  by_cases e:j=m
  ·subst e;rw[if_pos rfl,if_pos (by omega)]
  ·rw[if_neg e];by_cases e':j<m
   ·rw[if_pos e',if_pos (by omega)]
   ·rw[if_neg e',if_neg (by omega)]
 rw[← e];exact this
theorem Sq2.below (h:Sq2 w0 B n u rb q i m w)(hB:B≤w.heap.size){w':World}(hb:Below w.heap.size w w'):Sq2 w0 B n u rb q i m w':=
 ⟨h.bel.trans (hb.mono hB),h.rows.below hb h.rows.lt,fun j hj=>⟨(h.lt j hj).1,Nat.lt_of_lt_of_le (h.lt j hj).2.1 hb.size,(h.lt j hj).2.2⟩,fun j hj=>(h.row j hj).below hb (h.row j hj).lt,h.last.below hb h.last.lt,h.ne⟩
theorem Sq2.full (h:Sq2 w0 B n u rb q i n w):Sq w0 B n u rb q (i+1) w:=by
 refine⟨h.bel,h.rows,fun j hj=>⟨(h.lt j hj).1,(h.lt j hj).2.1,(h.lt j hj).2.2,?_⟩,h.ne⟩
 by_cases e:j=i
 ·subst e;have e:vals (fun b=>Value.bool (if b<n then u j b else false)) n=vals (fun b=>.bool (u j b)) n:=by
   apply Array.ext_getElem?
   intro b;by_cases hb:b<n
   ·rw[vals_get hb,vals_get hb,if_pos hb]
   ·rw[Array.getElem?_eq_none (by simp[vals];omega),Array.getElem?_eq_none (by simp[vals];omega)]
  rw[← e];exact h.last
 ·exact h.row j (by omega)
end
def AllP (g : List Gi) (st : Bool) (n : Nat) (w : World) (r : Ending) (w' : World) : Prop := Below w.heap.size w w' ∧
  ((checkG g ≠ 0 ∧ r = .returned (.tuple #[.slice none 0 0, .int .i64 (checkG g : Int)])) ∨
   (checkG g = 0 ∧ ∃ rb q u, r = .returned (.tuple #[.slice (some ⟨rb, 0, none⟩) n n, .int .i64 0]) ∧ Sq w w.heap.size n u rb q n w' ∧ ∀ a b, a < n → b < n → (u a b = true ↔ Gr g st a b)))
def AllOut (g:List Gi)(st:Bool)(w:World)(r:Ending)(w':World):Prop:=AllP g st g.length w r w'
set_option maxRecDepth 100000 in
set_option maxHeartbeats 16000000 in
theorem All_any (g:List Gi)(A:Option Addr)(c:Nat)(st:Bool)(w:World)(hg:GsR w A g)(hk:Gnd w)(hl:(g.length:Int)≤9223372036854775807)(ht:Texts g) :
  Calls Tryz.prog 30 #[.slice A g.length c,.bool st] w (AllOut g st w):=by
 have C1:=check_any A c g w hk.kw hl hg ht;have HG:=hid hg;have HK:=hid hk;obtain⟨n,hn⟩:∃ n,g.length=n:=⟨_,rfl⟩;have HN:=hid hn;have HOUT:∀ r w',AllP g st n w r w'→AllOut g st w r w':=fun r w' h=>by
  unfold AllOut;rw[hn];exact h
 refine Calls.mono ?_ HOUT;rw[hn] at C1 ⊢;clear hg hk hl ht hn HOUT;go_enter Tryz.func30,Tryz.ntmps30
 go_wp2_with fail
 refine C1.mono ?_;rintro r w1 ⟨rfl,hb1⟩;have HB1:=hid hb1;clear hb1 C1;by_cases hc:checkG g=0
 ·have HC:=hid hc;have HF:Hid (Fine g):=hid (fine_of hc);have hn2:n≤2000:=by rw[← HN.out];exact HF.out.len
  rw[hc];clear hc;have hmk:=mk_i64 n (by omega) w1
  go_upto_region 5 with(fail)
  have hnb:=Blk.new w1 3 (vals (fun _=>.int .i64 0) n)
  have hby:=HB1.out.trans ((one_boxS w1 (.cells (vals (fun _=>.int .i64 0) n) 3)).mono HB1.out.size)
  obtain⟨nb,hnbs⟩:∃ nb,w1.heap.size=nb:=⟨_,rfl⟩;have HNB:Hid (w.heap.size≤nb):=hid (by rw[← hnbs];exact HB1.out.size)
  rw[hnbs] at hnb ⊢;generalize w1.alloc (.cells (vals (fun _=>.int .i64 0) n) 3)=w2 at hnb hby ⊢
  have HB2:=hid hby;have HBL2:Hid (Blk w2 nb 3 (vals (fun j=>.int .i64 ((if j<0 then j else 0:Nat):Int)) n)):=hid (by
   have e:(fun j=>Value.int .i64 ((if j<0 then j else 0:Nat):Int))=fun _=>.int .i64 0:=by funext j;rw[if_neg (by omega)];rfl
   rw[e];exact hnb)
  clear hmk hnb hby hnbs;go_wp2_with fail
  go_loopw [23] (fun u23 wr=>∃ k:Nat,k≤n∧u23=.int .i64 (k:Int)∧Hid (Below w.heap.size w wr)∧Hid (Blk wr nb 3 (vals (fun j=>.int .i64 ((if j<k then j else 0:Nat):Int)) n))) (fun u23 _=>n-(intOf u23).toNat)
  case atStart=>exact⟨0,Nat.zero_le _,rfl,HB2,HBL2⟩
  case round =>
   obtain⟨k,hk,rfl,Hb,Hv⟩:=hrel;by_cases hlt:k<n
   ·have c0:=(Hv.out.cell k).trans (vals_get hlt);have c1:=Hv.out.frozen k;have hki:(k:Int)<(n:Int):=by omega
    have hb3:Below w.heap.size w (wr.setCell ⟨nb,k,none⟩ (.int .i64 (k:Int))):=Hb.out.setCell (show w.heap.size≤nb from HNB.out) _
    have hv3:=Hv.out.set_ k (.int .i64 (k:Int));rw[vals_set] at hv3;have HB3:=hid hb3;have HV3:Hid (Blk (wr.setCell ⟨nb,k,none⟩ (.int .i64 (k:Int))) nb 3 (vals (fun j=>.int .i64 ((if j<k+1 then j else 0:Nat):Int)) n)):=hid (by
     have e:(fun j=>if j=k then Value.int .i64 (k:Int) else .int .i64 ((if j<k then j else 0:Nat):Int))=fun j=>.int .i64 ((if j<k+1 then j else 0:Nat):Int):=by
      funext j
      by_cases e:j=k
      ·subst e;rw[if_pos rfl,if_pos (by omega)]
      ·rw[if_neg e];by_cases e':j<k
       ·rw[if_pos e',if_pos (by omega)]
       ·rw[if_neg e',if_neg (by omega)]
     rw[← e];exact hv3)
    clear hb3 hv3;go_wp2_with fail
    go_roundw
    case rel=>exact⟨k+1,by omega,by go_num,HB3,HV3⟩
    case measure=>simp[intOf];omega
   ·have hkn:k=n:=by omega
    subst hkn;have hki:¬((k:Int)<(k:Int)):=by omega
    have HV3:Hid (Blk wr nb 3 (vals (fun j=>.int .i64 (j:Int)) k)):=hid (by
     have e:vals (fun j=>Value.int .i64 ((if j<k then j else 0:Nat):Int)) k=vals (fun j=>.int .i64 (j:Int)) k:=by
      apply Array.ext_getElem?
      intro j;by_cases hj:j<k
      ·rw[vals_get hj,vals_get hj,if_pos hj]
      ·rw[Array.getElem?_eq_none (by simp[vals];omega),Array.getElem?_eq_none (by simp[vals];omega)]
     rw[← e];exact Hv.out)
    have hrd:=rd_vals (f:=fun j=>j) HV3.out
    rw[List.map_id'] at hrd;have R1:=newRelation_any g A c st (some ⟨nb,0,none⟩) (some ⟨nb,0,none⟩) k k (List.range k) (List.range k) wr (HG.out.below Hb.out) HF.out hrd hrd (by rw[List.length_range];omega) (by rw[List.length_range];omega) (by rw[List.length_range];exact Nat.le_trans (Nat.mul_le_mul hn2 hn2) (by decide)) (fun a ha=>by rw[HN.out];exact List.mem_range.1 ha) (fun a ha=>by rw[HN.out];exact List.mem_range.1 ha) (HK.out.next Hb.out).tab (HK.out.next Hb.out).lt
    rw[List.length_range,HN.out] at R1;clear hrd;go_wp2_with fail
    refine R1.mono ?_;rintro r w3 ⟨y,S,rfl,h3,hb3,hP,hle,hlt3,hrows,hgr,-⟩;have HB3:=hid (Hb.out.trans (hb3.mono Hb.out.size));have H3:=hid h3;have HM:Hid (∀ a b,a<k→b<k→(a,b)∈S.P):=hid (fun a b ha hb=>hP a (List.mem_range.2 ha) b (List.mem_range.2 hb))
    have HRW:=hid hrows;have HGR:=hid hgr;clear R1 h3 hb3 hP hle hlt3 hrows hgr;have hmk:=mk_bb k (by omega) w3
    go_upto_region 12 with(fail)
    have hrb:=Blk.new w3 46 (vals (fun _=>nilV) k)
    have hbx:=one_boxS w3 (.cells (vals (fun _=>nilV) k) 46)
    obtain⟨B,hB⟩:∃ B,w3.heap.size=B:=⟨_,rfl⟩;have HBB:=hid hB;rw[hB] at hrb hbx ⊢;have HS0:Hid (Sq w3 B k (fun a b=>decide (S.q.cnt (a,b)≠0)) B (fun _=>0) 0 (w3.alloc (.cells (vals (fun _=>nilV) k) 46))):=hid ⟨hbx,by
     have e:(fun j=>if j<0 then Value.slice (some ⟨(fun _=>0) j,0,none⟩) k k else nilV)=fun _=>nilV:=by funext j;rw[if_neg (by omega)]
     rw[e];exact hrb,fun j hj=>by omega,fun j _ hj=>by omega⟩
    clear hmk hrb hbx hB;generalize w3.alloc (.cells (vals (fun _=>nilV) k) 46)=w4 at HS0 ⊢
    obtain⟨xx,hxx⟩:∃ xx:Cx,xx=⟨g,A,c,st,wr.heap.size⟩:=⟨_,rfl⟩;have HXN:Hid (xx.n=k):=hid (by rw[hxx];exact HN.out)
    have HXG:Hid (xx.g=g):=hid (by rw[hxx])
    rw[← hxx] at H3;obtain⟨U,hU⟩:∃ U:Nat→Nat→Bool,U=fun a b=>decide (S.q.cnt (a,b)≠0):=⟨_,rfl⟩
    rw[← hU] at HS0;have HU:Hid (∀ a b,U a b=decide (S.q.cnt (a,b)≠0)):=hid (fun a b=>by rw[hU])
    have HQ:Hid (∀ w' q,Sq w3 B k U B q k w'→AllP g st k w (.returned (.tuple #[.slice (some ⟨B,0,none⟩) k k,.int .i64 0])) w'):=hid (fun w' q hq=>by
     have hbw:Below w.heap.size w w':=HB3.out.trans (hq.bel.mono (by rw[← HBB.out];exact HB3.out.size))
     refine⟨hbw,.inr ⟨HC.out,B,q,U,rfl,⟨hbw,hq.rows,fun j hj=>⟨Nat.le_trans (by rw[← HBB.out];exact HB3.out.size) (hq.row j hj).1,(hq.row j hj).2⟩,hq.ne⟩,fun a b ha hb=>?_⟩⟩
     rw[HU.out,decide_eq_true_eq];exact HGR.out a b (HM.out a b ha hb))
    clear hU;go_wp2_with fail
    go_loopw [41] (fun u41 wr=>∃ (i:Nat) (q:Nat→Nat),i≤k∧u41=.int .i64 (i:Int)∧Hid (Sq w3 B k U B q i wr)) (fun u41 _=>k-(intOf u41).toNat)
    case atStart=>exact⟨0,fun _=>0,Nat.zero_le _,rfl,HS0⟩
    case round =>
     obtain⟨i,q,hi,rfl,HS⟩:=hrel;obtain⟨ws,rfl⟩:∃ ws,ws=wr:=⟨_,rfl⟩;by_cases hlt4:i<k
     ·have hmk:=mk_bools k (by omega) ws
      have c0:=(HS.out.rows.cell i).trans (vals_get hlt4);rw[if_neg (by omega)] at c0
      have c1:=HS.out.rows.frozen i;have c0a:=((HS.out.rows.alloc (.cells (vals (fun _=>.bool false) k) 4)).cell i).trans (vals_get hlt4)
      rw[if_neg (by omega)] at c0a
      have c1a:=(HS.out.rows.alloc (.cells (vals (fun _=>.bool false) k) 4)).frozen i
      have hii:(i:Int)<(k:Int):=by omega
      have hBs:B≤ws.heap.size:=by rw[← HBB.out];have:=HS.out.bel.size;exact this
      have h5:=HS.out.next hBs (Nat.le_refl _)
      go_upto_region 16 with(fail)
      have H5:=hid h5;clear h5 hmk c0 c1 c0a c1a;generalize (ws.alloc (.cells (vals (fun _=>.bool false) k) 4)).setCell ⟨B,i,none⟩ (.slice (some ⟨ws.heap.size,0,none⟩) k k)=w5 at H5 ⊢
      obtain⟨q5,hq5⟩:∃ q5:Nat→Nat,q5=fun j=>if j=i then ws.heap.size else q j:=⟨_,rfl⟩
      rw[← hq5] at H5;have d0:=(H5.out.rows.cell i).trans (vals_get hlt4);rw[if_pos (by omega)] at d0
      clear hq5;go_wp2_with fail
      clear d0
      go_loopw [55] (fun u55 wr=>∃ m:Nat,m≤k∧u55=.int .i64 (m:Int)∧Hid (Sq2 w3 B k U B q5 i m wr)) (fun u55 _=>k-(intOf u55).toNat)
      case atStart=>exact⟨0,Nat.zero_le _,rfl,H5⟩
      case round =>
       obtain⟨m,hm,rfl,HS2⟩:=hrel;by_cases hlt5:m<k
       ·have d0:=(HS2.out.rows.cell i).trans (vals_get hlt4);rw[if_pos (by omega)] at d0
        have d1:=(HS2.out.last.cell m).trans (vals_get hlt5);rw[if_neg (by omega)] at d1
        have d2:=HS2.out.last.frozen m;have hmi:(m:Int)<(k:Int):=by omega
        have hBr:B≤wr.heap.size:=by rw[← HBB.out];exact HS2.out.bel.size
        have hbw:Below w3.heap.size w3 wr:=by rw[HBB.out];exact HS2.out.bel
        have H1:=holds_any xx y S i m _ wr.drew (H3.out.same hbw).drew rfl (by rw[HXN.out];exact hlt4) (by rw[HXN.out];exact hlt5) (by rw[HXG.out];exact HRW.out i m (HM.out i m hlt4 hlt5))
        rw[← HU.out] at H1;have hS:(wr.drew.cell? ⟨B,i,none⟩=some (.slice (some ⟨q5 i,0,none⟩) k k)):=d0;clear hBr hbw
        go_upto_region 19 with(fail)
        go_region_held3 (fun w'=>w'.cell? ⟨B,i,none⟩=some (.slice (some ⟨q5 i,0,none⟩) k k)) (first | with_reducible exact hS | with_reducible exact hn6 | with_reducible exact hn7) (first | (go_simp;go_at_call 64;refine H1.mono ?_;rintro e w6 ⟨rfl,hb6⟩;have HS6:=hid (HS2.out.below (by rw[← HBB.out];exact HS2.out.bel.size) (w':=w6) ⟨hb6.os,hb6.tape,hb6.output,hb6.size,hb6.block⟩);have hn6:w6.cell? ⟨B,i,none⟩=some (.slice (some ⟨q5 i,0,none⟩) k k):=(by have:=(HS6.out.rows.cell i).trans (vals_get hlt4);rw[if_pos (by omega)] at this;exact this);have hn8:w6.cell? ⟨q5 i,m,none⟩=some (.bool false):=(by have:=(HS6.out.last.cell m).trans (vals_get hlt5);rw[if_neg (by omega)] at this;exact this);have hn9:=HS6.out.last.frozen m;have hn7:(w6.setCell ⟨q5 i,m,none⟩ (.bool (U i m))).cell? ⟨B,i,none⟩=some (.slice (some ⟨q5 i,0,none⟩) k k):=(by have:=(HS6.out.put.rows.cell i).trans (vals_get hlt4);rw[if_pos (by omega)] at this;exact this);clear hb6))
        all_goals
         rename_i hHH;clear hHH hn6 hn7 hn8 hn9 hS d0 d1 d2 H1;have HS7:=hid HS6.out.put;go_wp2_with fail
         go_roundw
         case rel=>exact⟨m+1,by omega,by go_num,HS7⟩
         case measure=>simp[intOf];omega
       ·have hmk:m=k:=by omega
        have hmi:¬((m:Int)<(k:Int)):=by omega
        have HS7:Hid (Sq w3 B k U B q5 (i+1) wr):=hid (by have:=HS2.out;rw[hmk] at this;exact this.full)
        clear hmk;go_wp2_with fail
        go_roundw
        case rel=>exact⟨i+1,q5,by omega,by go_num,HS7⟩
        case measure=>simp[intOf];omega
     ·have hik:i=k:=by omega
      have hii:¬((i:Int)<(k:Int)):=by omega
      have HQ2:=hid (HQ.out ws q (by have:=HS.out;rw[hik] at this;exact this))
      clear hik;go_wp2_with fail
      go_returns
      exact HQ2.out
 ·have hc1:(((checkG g:Nat):Int) != 0)=true:=by simp;omega
  have HC:=hid hc;clear hc;go_wp2_with fail
  go_returns
  exact⟨HB1.out,.inl ⟨HC.out,rfl⟩⟩
end SM
end
section
open Go.RowKit
namespace SM
open CM (nd kids)
structure Mx (w:World)(n:Nat)(u:Nat→Nat→Bool)(rb:Nat)(q:Nat→Nat):Prop where
 rows:Blk w rb 46 (vals (fun j=>.slice (some ⟨q j,0,none⟩) n n) n)
 row:∀ j,j<n→Blk w (q j) 4 (vals (fun b=>.bool (u j b)) n)
section
variable {w0 w : World} {B n : Nat} {u : Nat → Nat → Bool} {rb : Nat} {q : Nat → Nat}
theorem Sq.mx (h:Sq w0 B n u rb q n w):Mx w n u rb q:=by
 refine⟨?_,fun j hj=>(h.row j hj).2.2.2⟩
 have e:vals (fun j=>if j<n then Value.slice (some ⟨q j,0,none⟩) n n else nilV) n=vals (fun j=>.slice (some ⟨q j,0,none⟩) n n) n:=by
  apply Array.ext_getElem?
  intro j;by_cases hj:j<n
  ·rw[vals_get hj,vals_get hj,if_pos hj]
  ·rw[Array.getElem?_eq_none (by simp[vals];omega),Array.getElem?_eq_none (by simp[vals];omega)]
 rw[← e];exact h.rows
theorem Mx.below (h:Mx w n u rb q){w':World}(hb:Below w.heap.size w w'):Mx w' n u rb q:=
 ⟨h.rows.below hb h.rows.lt,fun j hj=>(h.row j hj).below hb (h.row j hj).lt⟩
theorem Mx.c (h:Mx w n u rb q){i:Nat}(hi:i<n):w.cell? ⟨rb,i,none⟩=some (.slice (some ⟨q i,0,none⟩) n n):=(h.rows.cell i).trans (vals_get hi)
theorem Mx.d (h:Mx w n u rb q){i j:Nat}(hi:i<n)(hj:j<n):w.cell? ⟨q i,j,none⟩=some (.bool (u i j)):=((h.row i hi).cell j).trans (vals_get hj)
end
end SM
end
end Go.Proofs.YtfigdflcoaepaaaGreatDoor
