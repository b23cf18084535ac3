/- Contracts and plain facts that the theorem rests on: SUsers. -/
import Derived.Test.YtfigdflcoaepaaaGreatDoorZV5
import Derived.Laws.Cover1
set_option linter.unusedSimpArgs false
set_option linter.unusedVariables false
namespace Go.Proofs.YtfigdflcoaepaaaGreatDoor
section
open Lib (hid)
open Go.RowKit
namespace SM
open CM (nd kids)
theorem own_form2 {w:World}{B:Nat}{t:TypeId}{v:Value}{n:Nat}{xs:List Value}(h:w.ownsRow B t 2 v n xs):∃ A c,v=.slice A n c∧n≤c∧(c:Int)≤9223372036854775807∧RdV w A xs∧(0<n→∃ g,A=some ⟨g,0,none⟩):=by
 rcases h.2 with⟨rfl,h0⟩ | ⟨g,cap,cur,rfl,hb,hg,hn,hm,hcs,hr⟩
 ·exact⟨none,0,by rw[h0],by omega,by omega,fun hl=>by have:=h.1;omega,fun h1=>by omega⟩
 ·refine⟨_,cap,rfl,hn,by simp only[maxLen] at hm;omega,fun _=>⟨g,0,rfl,fun j u hu=>?_⟩,fun _=>⟨g,rfl⟩⟩
  have:=h.cells (g:=g) rfl j u hu
  rwa [addr_lit] at this
section
variable {x : Cx} {w : World} {y : Lay} {S : St}
theorem RelW.svrd (h:RelW x w y S)(c:Nat):∃ A cap,y.sv c=.slice A (S.us c).length cap∧(S.us c).length≤cap∧(cap:Int)≤9223372036854775807∧RdV w A ((S.us c).flatMap (usC (y.nv c)))∧(0<(S.us c).length→∃ g,A=some ⟨g,0,none⟩):=own_form2 (h.comp (.us c))
theorem RelW.nvrd (h:RelW x w y S)(c:Nat)(k:ByteArray):∃ A cap,y.nv c k=.slice A (at_ (S.us c) k).length cap∧(at_ (S.us c) k).length≤cap∧(cap:Int)≤9223372036854775807∧RdV w A (((at_ (S.us c) k).map nI).flatMap iC):=by
 obtain⟨A,c,h1,h2,h3,h4⟩:=OwnI.rd (h.comp (.nd c k));rw[List.length_map] at h1 h2;exact⟨A,c,h1,h2,h3,h4⟩
theorem us_cell {nv:ByteArray→Value}{l:List (ByteArray × List Nat)}{g:Nat}(h:RdV w (some ⟨g,0,none⟩) (l.flatMap (usC nv))){i:Nat}{z:ByteArray × List Nat}(hz:l[i]? = some z) :
  w.cell? ⟨g,i*2,none⟩=some (.string z.1)∧w.cell? ⟨g,i*2+1,none⟩=some (nv z.1):=by
 have hlen:=rowc_len (usC nv) 2 (fun _=>rfl) l
 have hlt:=(List.getElem?_eq_some_iff.1 hz).1;obtain⟨b,o,hA,hc⟩:=h (by rw[hlen];omega)
 injection hA with hA
 injection hA with e1 e2
 subst e1 e2;have c0:=hc (i*2+0) _ (rowc_get (usC nv) 2 (fun _=>rfl) l i z hz 0 _ rfl)
 have c1:=hc (i*2+1) _ (rowc_get (usC nv) 2 (fun _=>rfl) l i z hz 1 _ rfl)
 rw[Nat.zero_add] at c0 c1;exact⟨c0,c1⟩
end
def boL (l:List (ByteArray × List Nat)):List Nat:=match l with
 | []=>[]
 | z::_=>if z.1=⟨#[]⟩ then z.2 else []
def BoOut (y:Lay)(S:St)(c:Nat)(w:World)(r:Ending)(w':World):Prop:=∃ v,r=.returned v∧w'=w∧((v=y.nv c ⟨#[]⟩∧boL (S.us c)=at_ (S.us c) ⟨#[]⟩)∨(v=.slice none 0 0∧boL (S.us c)=[]))
theorem isEmpty_no {s:ByteArray}(h:s≠⟨#[]⟩):s.toList.isEmpty=false:=by
 rw[ByteArray.toList_eq];obtain⟨⟨l⟩⟩:=s;cases l with
 | nil=>exact absurd rfl h
 | cons=>rfl
set_option maxRecDepth 100000 in
set_option maxHeartbeats 4000000 in
theorem boundedBy_any (x:Cx)(y:Lay)(S:St)(c:Nat)(w:World)(h:RelW x w y S)(hc:c<x.n) :
  Calls Tryz.prog 137 #[.pointer (some ⟨y.rel,0,none⟩),.int .i64 (c:Int)] w (BoOut y S c w):=by
 have c9:=h.c9;have cs:=h.cs hc;have hlen:=h.len;obtain⟨A,cap,hsv,hcap,hcap2,hrd,hg⟩:=h.svrd c;rw[hsv] at cs;generalize hn:x.n=n at c9 hlen hc;cases hus:S.us c with
 | nil =>
  have H0:Hid (boL (S.us c)=[]):=hid (by rw[hus];rfl)
  rw[hus] at cs;clear hrd hg hsv hus h;go_enter Tryz.func137,Tryz.ntmps137
  go_wp2_with fail
  go_returns
  exact⟨_,rfl,rfl,.inr ⟨rfl,H0.out⟩⟩
 | cons z l =>
  obtain⟨g,rfl⟩:=hg (by rw[hus];simp)
  rw[hus] at hrd;obtain⟨u0,u1⟩:=us_cell hrd (i:=0) (z:=z) rfl;obtain⟨NA,nc,hnv,-⟩:=h.nvrd c z.1;have HNV:=hid hnv;rw[hnv] at u1;rw[hus,List.length_cons] at cs hcap;have HUS:=hid hus;simp at u0 u1;generalize hl1:l.length+1=m at cs hcap;have hm0:0<m:=by omega
  generalize (at_ (S.us c) z.1).length=an at u1 hnv HNV;clear hrd hg hsv hus h hnv hl1;by_cases h0:z.1=⟨#[]⟩
  ·have H0:Hid (boL (S.us c)=at_ (S.us c) ⟨#[]⟩):=hid (by rw[HUS.out];unfold boL at_;simp[h0])
   rw[h0] at u0 HNV;clear h0;go_enter Tryz.func137,Tryz.ntmps137
   go_wp2_with fail
   go_returns
   exact⟨_,rfl,rfl,.inl ⟨HNV.out.symm,H0.out⟩⟩
  ·have H0:Hid (boL (S.us c)=[]):=hid (by rw[HUS.out];unfold boL;simp[h0])
   have hne:z.1.toList.isEmpty=false:=isEmpty_no h0;clear h0;go_enter Tryz.func137,Tryz.ntmps137
   go_wp2_with fail
   go_returns
   exact⟨_,rfl,rfl,.inr ⟨rfl,H0.out⟩⟩
theorem nodup_sub_len {α:Type}[DecidableEq α]:∀ {l m:List α},l.Nodup→(∀ x∈l,x∈m)→l.length≤m.length
 | [],m,_,_=>Nat.zero_le _
 | a::l,m,h,hs=>by
  rw[List.nodup_cons] at h;have ha:=hs a (List.mem_cons_self ..);have:=nodup_sub_len (l:=l) (m:=m.erase a) h.2 fun x hx=>(List.mem_erase_of_ne (fun(e:x=a)=>h.1 (e▸hx))).2 (hs x (List.mem_cons_of_mem _ hx))
  rw[List.length_erase_of_mem ha] at this;have:=List.length_pos_of_mem ha;simp only[List.length_cons];omega
theorem bytesLess_eq:∀(l m:List UInt8),Op.bytesLess l m=false→Op.bytesLess m l=false→l=m
 | [],[],_,_=>rfl
 | [],b::m,h,_=>by simp[Op.bytesLess] at h
 | a::l,[],_,h=>by simp[Op.bytesLess] at h
 | a::l,b::m,h,k=>by
  simp[Op.bytesLess] at h k;have hab:a=b:=UInt8.le_antisymm k.1 h.1;subst hab;rw[bytesLess_eq l m (h.2 rfl) (k.2 rfl)]
theorem drop_at {α:Type}{l:List α}{i:Nat}{z:α}(h:l[i]? = some z):l.drop i=z::l.drop (i+1):=by
 obtain⟨hi,rfl⟩:=List.getElem?_eq_some_iff.1 h;exact List.drop_eq_getElem_cons hi
def prodP (l m:List Nat):List Pr:=l.flatMap fun s=>m.map fun t=>(s,t)
def mergeP:List (ByteArray × List Nat)→List (ByteArray × List Nat)→List Pr
 | [],_=>[]
 | _::_,[]=>[]
 | a::l,b::m=>if Op.bytesLess a.1.toList b.1.toList then mergeP l (b::m) else if Op.bytesLess b.1.toList a.1.toList then mergeP (a::l) m else prodP a.2 b.2++mergeP l m
termination_by l m=>l.length+m.length
theorem mergeP_nil (m):mergeP [] m=[]:=by rw[mergeP]
theorem mergeP_nil2 (l):mergeP l []=[]:=by cases l<;>rw[mergeP]
theorem mergeP_cons (a l b m):mergeP (a::l) (b::m)=if Op.bytesLess a.1.toList b.1.toList then mergeP l (b::m) else if Op.bytesLess b.1.toList a.1.toList then mergeP (a::l) m else prodP a.2 b.2++mergeP l m:=by rw[mergeP]
theorem Q.uncoverL_app (un)(q:Q)(l m:List Pr):q.uncoverL un (l++m)=(q.uncoverL un l).uncoverL un m:=by unfold Q.uncoverL;rw[List.foldl_append]
theorem Q.uncover_le {q:Q}{N:Nat}(un)(h:∀ p,q.cnt p≤N)(p:Pr):∀ z,(q.uncover un p).cnt z≤N:=by
 unfold Q.uncover;split
 ·exact h
 ·exact Q.dropL_le _ (Q.drop_le (q:={ q with asm:=fun x=>if x=p then false else q.asm x }) h p)
theorem Zero.len {P D:List Pr}{q:Q}(h:Zero P D q):q.ref.length≤P.length:=by
 have h1:q.ref.Nodup:=(List.nodup_append.1 h.nodup).2.1;exact nodup_sub_len h1 fun p hp=>h.sub p (List.mem_append_right _ hp)
theorem prodP_snoc (l m:List Nat)(a:Nat):prodP (l++[a]) m=prodP l m++m.map fun t=>(a,t):=by unfold prodP;rw[List.flatMap_append];simp
theorem Q.uncoverL_snoc (un)(q:Q)(l:List Pr)(p:Pr):q.uncoverL un (l++[p])=(q.uncoverL un l).uncover un p:=by unfold Q.uncoverL;rw[List.foldl_append];rfl
structure Gd (x:Cx)(S:St):Prop where
 P:S.P.length≤5000000
 un:∀ c,(S.un c).length≤5000∧∀ u∈S.un c,u<x.n
 us:∀ c,(S.us c).length≤100000
 nod:∀ c,∀ z∈S.us c,z.2.length≤5000∧at_ (S.us c) z.1=z.2∧z.1.size≤maxLen∧∀ v∈z.2,v<x.n∧(nd x.g v).kind≠8
set_option maxRecDepth 100000 in
set_option maxHeartbeats 8000000 in
theorem users_any (x : Cx) (y : Lay) (S : St) (D : List Pr) (c d : Nat) (w : World) (h : RelW x w y S) (hc : c < x.n) (hd : d < x.n) (hz : Zero S.P D S.q) (hl : ∀ p, S.q.cnt p ≤ 30000) (hgd : Gd x S) :
    Calls Tryz.prog 138 #[.pointer (some ⟨y.rel, 0, none⟩), y.sv c, y.sv d] w (Chg x y { S with q := S.q.uncoverL S.un (mergeP (S.us c) (S.us d)) } w) := by
  obtain ⟨LA, lcap, hsl, hlc, hlc2, -, hlg⟩ := h.svrd c
  obtain ⟨RA, rcap, hsr, hrc, hrc2, -, hrg⟩ := h.svrd d
  obtain ⟨nl, hnl⟩ : ∃ nl, (S.us c).length = nl := ⟨_, rfl⟩
  obtain ⟨nr, hnr⟩ : ∃ nr, (S.us d).length = nr := ⟨_, rfl⟩
  have hnl3 : nl ≤ 100000 := hnl ▸ hgd.us c
  have hnr3 : nr ≤ 100000 := hnr ▸ hgd.us d
  rw [hnl] at hsl hlc hlg
  rw [hnr] at hsr hrc hrg
  have H := hid h
  have HL := hid hl
  have HZ := hid hz
  have HG := hid hgd
  have HNL := hid hnl
  have HNR := hid hnr
  rw [hsl, hsr]
  by_cases h0 : nl = 0 ∨ nr = 0
  · have HM : Hid (S.q.uncoverL S.un (mergeP (S.us c) (S.us d)) = S.q) := hid (by
      rcases h0 with h0 | h0
      · rw [h0, List.length_eq_zero_iff] at hnl
        rw [hnl, mergeP_nil]; rfl
      · rw [h0, List.length_eq_zero_iff] at hnr
        rw [hnr, mergeP_nil2]; rfl)
    clear h hl hz hgd hnl hnr hsl hsr hlg hrg
    have hf : RelW x w y { S with q := S.q.uncoverL S.un (mergeP (S.us c) (S.us d)) } := by rw [HM.out]; exact H.out
    have HF := hid hf
    clear hf
    by_cases hl0 : nl = 0
    · subst hl0
      go_enter Tryz.func138, Tryz.ntmps138
      go_wp2_with fail
      refine wp_loop_rounds 1 ?_
      rw [rounds_succ]
      go_wp2_with fail
      go_returns
      exact ⟨rfl, y.fv, HF.out, Stp.refl _ _⟩
    · have hr0 : nr = 0 := h0.resolve_left hl0
      subst hr0
      go_enter Tryz.func138, Tryz.ntmps138
      go_wp2_with fail
      refine wp_loop_rounds 1 ?_
      rw [rounds_succ]
      go_wp2_with fail
      go_returns
      exact ⟨rfl, y.fv, HF.out, Stp.refl _ _⟩
  · obtain ⟨gl, rfl⟩ := hlg (by omega)
    obtain ⟨gr, rfl⟩ := hrg (by omega)
    have HSL := hid hsl
    have HSR := hid hsr
    clear h hl hz hgd hnl hnr hsl hsr hlg hrg h0
    go_enter Tryz.func138, Tryz.ntmps138
    go_wp2_with fail
    go_loopw [1, 2] (fun u1 u2 wr => ∃ (i j li lj cl cr : Nat) (PL PR : Option Addr) (fv : Value) (q : Q), i + li = nl ∧ j + lj = nr ∧ li ≤ cl ∧ lj ≤ cr ∧ cl ≤ lcap ∧ cr ≤ rcap ∧ u1 = .slice PL li cl ∧ u2 = .slice PR lj cr ∧ Hid ((0 < li → PL = some ⟨gl, i * 2, none⟩) ∧ (0 < lj → PR = some ⟨gr, j * 2, none⟩)) ∧ Hid (RelW x wr { y with fv := fv } { S with q := q }) ∧ Hid (Stp w y wr { y with fv := fv }) ∧ Hid (Zero S.P D q) ∧ Hid (∀ p, q.cnt p ≤ 30000) ∧ Hid (S.q.uncoverL S.un (mergeP (S.us c) (S.us d)) = q.uncoverL S.un (mergeP ((S.us c).drop i) ((S.us d).drop j)))) (fun u1 u2 _ => (match u1 with | .slice _ n _ => n | _ => 0) + (match u2 with | .slice _ n _ => n | _ => 0))
    case atStart => exact ⟨0, 0, nl, nr, lcap, rcap, some ⟨gl, 0, none⟩, some ⟨gr, 0, none⟩, y.fv, S.q, by omega, by omega, hlc, hrc, Nat.le_refl _, Nat.le_refl _, rfl, rfl, hid ⟨fun _ => by simp, fun _ => by simp⟩, H, hid (Stp.refl _ _), HZ, HL, hid rfl⟩
    case round =>
      obtain ⟨i, j, li, lj, cl, cr, PL, PR, fv, q, hi, hj, hcl, hcr, hcl2, hcr2, rfl, rfl, HPP, Hr, HSt, HZr, HLr, HE⟩ := hrel
      by_cases hl0 : li = 0
      · subst hl0
        have HF : Hid (S.q.uncoverL S.un (mergeP (S.us c) (S.us d)) = q) := hid (by rw [HE.out, List.drop_of_length_le (by rw [HNL.out]; omega), mergeP_nil]; rfl)
        go_wp2_with fail
        go_returns
        refine ⟨rfl, fv, ?_, HSt.out⟩
        rw [HF.out]
        exact Hr.out
      · by_cases hr0 : lj = 0
        · subst hr0
          have HF : Hid (S.q.uncoverL S.un (mergeP (S.us c) (S.us d)) = q) := hid (by rw [HE.out, List.drop_of_length_le (l := S.us d) (by rw [HNR.out]; omega), mergeP_nil2]; rfl)
          have hpos : (0 : Int) < (li : Int) := by omega
          go_wp2_with fail
          go_returns
          refine ⟨rfl, fv, ?_, HSt.out⟩
          rw [HF.out]
          exact Hr.out
        · obtain rfl := HPP.out.1 (by omega)
          obtain rfl := HPP.out.2 (by omega)
          have hpos : (0 : Int) < (li : Int) := by omega
          have hpos2 : (0 : Int) < (lj : Int) := by omega
          obtain ⟨za, hza⟩ : ∃ za, (S.us c)[i]? = some za := ⟨_, List.getElem?_eq_getElem (by have := HNL.out; omega)⟩
          obtain ⟨zb, hzb⟩ : ∃ zb, (S.us d)[j]? = some zb := ⟨_, List.getElem?_eq_getElem (by have := HNR.out; omega)⟩
          have hrl : RdV wr (some ⟨gl, 0, none⟩) ((S.us c).flatMap (usC (y.nv c))) := by
            obtain ⟨A, cap, e, -, -, hrd, -⟩ := Hr.out.svrd c
            have e2 : ({ y with fv := fv } : Lay).sv c = _ := HSL.out
            rw [e2] at e
            injection e with e1
            rw [e1]; exact hrd
          have hrr : RdV wr (some ⟨gr, 0, none⟩) ((S.us d).flatMap (usC (y.nv d))) := by
            obtain ⟨A, cap, e, -, -, hrd, -⟩ := Hr.out.svrd d
            have e2 : ({ y with fv := fv } : Lay).sv d = _ := HSR.out
            rw [e2] at e
            injection e with e1
            rw [e1]; exact hrd
          obtain ⟨a0, a1⟩ := us_cell hrl hza
          obtain ⟨b0, b1⟩ := us_cell hrr hzb
          obtain ⟨NA, na, hna, hna1, hna2, -⟩ := Hr.out.nvrd c za.1
          obtain ⟨NB, nb, hnb, hnb1, hnb2, -⟩ := Hr.out.nvrd d zb.1
          change y.nv c za.1 = .slice NA (at_ (S.us c) za.1).length na at hna
          change y.nv d zb.1 = .slice NB (at_ (S.us d) zb.1).length nb at hnb
          obtain ⟨ga1, ga2, ga3, ga4⟩ := HG.out.nod c za (List.mem_of_getElem? hza)
          obtain ⟨gb1, gb2, gb3, gb4⟩ := HG.out.nod d zb (List.mem_of_getElem? hzb)
          rw [ga2] at hna hna1
          rw [gb2] at hnb hnb1
          rw [hna] at a1
          rw [hnb] at b1
          have HNA := hid hna
          have HNB := hid hnb
          have HZA := hid hza
          have HZB := hid hzb
          have GA4 := hid ga4
          have GB4 := hid gb4
          have GA2 := hid ga2
          have GB2 := hid gb2
          clear hrl hrr hna hnb hza hzb ga4 gb4 ga2 gb2
          have hgl : gl < wr.heap.size := World.block_lt_of_cell? wr _ a0
          have hgr : gr < wr.heap.size := World.block_lt_of_cell? wr _ b0
          go_upto_region 1 with (fail)
          go_region
          all_goals
            first
            | (obtain ⟨wX, hwX⟩ : ∃ wX, ((wr.alloc (.cells #[.string za.1, .slice NA za.2.length na] 166)).alloc (.cells #[.string zb.1, .slice NB zb.2.length nb] 166)).drew = wX := ⟨_, rfl⟩
               rw [hwX]
               have hX1 := (Blk.new wr 166 #[.string za.1, .slice NA za.2.length na]).alloc (.cells #[.string zb.1, .slice NB zb.2.length nb] 166)
               have hX2 := Blk.new (wr.alloc (.cells #[.string za.1, .slice NA za.2.length na] 166)) 166 #[.string zb.1, .slice NB zb.2.length nb]
               have hsz : (wr.alloc (.cells #[.string za.1, .slice NA za.2.length na] 166)).heap.size = wr.heap.size + 1 := by simp
               rw [hsz] at hX2
               have hrX := ((Hr.out.alloc (.cells #[.string za.1, .slice NA za.2.length na] 166)).alloc (.cells #[.string zb.1, .slice NB zb.2.length nb] 166)).drew
               have hsX : Stp wr { y with fv := fv } (((wr.alloc (.cells #[.string za.1, .slice NA za.2.length na] 166)).alloc (.cells #[.string zb.1, .slice NB zb.2.length nb] 166)).drew) { y with fv := fv } := ((Stp.of_below _ (one_boxS wr (.cells #[.string za.1, .slice NA za.2.length na] 166))).trans (Stp.of_below _ (one_boxS (wr.alloc (.cells #[.string za.1, .slice NA za.2.length na] 166)) (.cells #[.string zb.1, .slice NB zb.2.length nb] 166)))).drew
               change Blk (((wr.alloc (.cells #[.string za.1, .slice NA za.2.length na] 166)).alloc (.cells #[.string zb.1, .slice NB zb.2.length nb] 166)).drew) _ _ _ at hX1
               change Blk (((wr.alloc (.cells #[.string za.1, .slice NA za.2.length na] 166)).alloc (.cells #[.string zb.1, .slice NB zb.2.length nb] 166)).drew) _ _ _ at hX2
               have hn1 : ¬ Own { y with fv := fv } wr.heap.size := Hr.out.new
               have hn2 : ¬ Own { y with fv := fv } (wr.heap.size + 1) := fun ⟨X, hX⟩ => by have := (Hr.out.lt X _ hX).2; omega
               rw [hwX] at hX1 hX2 hrX hsX
               clear hwX hsz
               obtain ⟨bb, hbb⟩ : ∃ bb, wr.heap.size + 1 = bb := ⟨_, rfl⟩
               rw [hbb] at hX2 hn2 ⊢
               obtain ⟨ba, hba⟩ : ∃ ba, wr.heap.size = ba := ⟨_, rfl⟩
               rw [hba] at hX1 hn1 ⊢
               have HXA := hid hX1
               have HXB := hid hX2
               have HNA2 := hid hn1
               have HNB2 := hid hn2
               have HRX := hid hrX
               have HSX := hid (HSt.out.trans hsX)
               clear hX1 hX2 hn1 hn2 hrX hsX hba hbb)
            | (obtain ⟨wX, hwX⟩ : ∃ wX, ((wr.alloc (.cells #[.string zb.1, .slice NB zb.2.length nb] 166)).alloc (.cells #[.string za.1, .slice NA za.2.length na] 166)).drew = wX := ⟨_, rfl⟩
               rw [hwX]
               have hX1 := (Blk.new wr 166 #[.string zb.1, .slice NB zb.2.length nb]).alloc (.cells #[.string za.1, .slice NA za.2.length na] 166)
               have hX2 := Blk.new (wr.alloc (.cells #[.string zb.1, .slice NB zb.2.length nb] 166)) 166 #[.string za.1, .slice NA za.2.length na]
               have hsz : (wr.alloc (.cells #[.string zb.1, .slice NB zb.2.length nb] 166)).heap.size = wr.heap.size + 1 := by simp
               rw [hsz] at hX2
               have hrX := ((Hr.out.alloc (.cells #[.string zb.1, .slice NB zb.2.length nb] 166)).alloc (.cells #[.string za.1, .slice NA za.2.length na] 166)).drew
               have hsX : Stp wr { y with fv := fv } (((wr.alloc (.cells #[.string zb.1, .slice NB zb.2.length nb] 166)).alloc (.cells #[.string za.1, .slice NA za.2.length na] 166)).drew) { y with fv := fv } := ((Stp.of_below _ (one_boxS wr (.cells #[.string zb.1, .slice NB zb.2.length nb] 166))).trans (Stp.of_below _ (one_boxS (wr.alloc (.cells #[.string zb.1, .slice NB zb.2.length nb] 166)) (.cells #[.string za.1, .slice NA za.2.length na] 166)))).drew
               change Blk (((wr.alloc (.cells #[.string zb.1, .slice NB zb.2.length nb] 166)).alloc (.cells #[.string za.1, .slice NA za.2.length na] 166)).drew) _ _ _ at hX1
               change Blk (((wr.alloc (.cells #[.string zb.1, .slice NB zb.2.length nb] 166)).alloc (.cells #[.string za.1, .slice NA za.2.length na] 166)).drew) _ _ _ at hX2
               have hn1 : ¬ Own { y with fv := fv } wr.heap.size := Hr.out.new
               have hn2 : ¬ Own { y with fv := fv } (wr.heap.size + 1) := fun ⟨X, hX⟩ => by have := (Hr.out.lt X _ hX).2; omega
               rw [hwX] at hX1 hX2 hrX hsX
               clear hwX hsz
               obtain ⟨ba, hba⟩ : ∃ ba, wr.heap.size + 1 = ba := ⟨_, rfl⟩
               rw [hba] at hX2 hn2 ⊢
               obtain ⟨bb, hbb⟩ : ∃ bb, wr.heap.size = bb := ⟨_, rfl⟩
               rw [hbb] at hX1 hn1 ⊢
               have HXB := hid hX1
               have HXA := hid hX2
               have HNB2 := hid hn1
               have HNA2 := hid hn2
               have HRX := hid hrX
               have HSX := hid (HSt.out.trans hsX)
               clear hX1 hX2 hn1 hn2 hrX hsX hba hbb)
          all_goals
            clear a0 a1 b0 b1 hgl hgr
            have a0 := HXA.out.cell 0
            have a1 := HXA.out.cell 1
            have b0 := HXB.out.cell 0
            have b1 := HXB.out.cell 1
            simp at a0 a1 b0 b1
            have hdA : (S.us c).drop i = za :: (S.us c).drop (i + 1) := drop_at HZA.out
            have hdB : (S.us d).drop j = zb :: (S.us d).drop (j + 1) := drop_at HZB.out
            have HM := hid (mergeP_cons za ((S.us c).drop (i + 1)) zb ((S.us d).drop (j + 1)))
            rw [← hdA, ← hdB] at HM
            clear hdA hdB
            cases hlt : Op.bytesLess za.1.toList zb.1.toList with
            | true =>
                have HE2 : Hid (S.q.uncoverL S.un (mergeP (S.us c) (S.us d)) = q.uncoverL S.un (mergeP ((S.us c).drop (i + 1)) ((S.us d).drop j))) := hid (by rw [HE.out, HM.out, if_pos hlt])
                go_wp2_with fail
                exact ⟨⟨i + 1, j, li - 1, lj, cl - 1, cr, _, _, fv, q, by omega, by omega, by omega, by omega, by omega, by omega, rfl, rfl, hid ⟨fun h1 => by rw [if_neg (by omega)]; simp [Nat.succ_mul], fun _ => rfl⟩, HRX, HSX, HZr, HLr, HE2⟩, by simp; omega⟩
            | false =>
                cases hgt : Op.bytesLess zb.1.toList za.1.toList with
                | true =>
                  have heq : (za.1.toList == zb.1.toList) = false := by
                    rw [beq_eq_false_iff_ne]
                    intro e
                    rw [e, bytesLess_irrefl] at hgt
                    cases hgt
                  have HE2 : Hid (S.q.uncoverL S.un (mergeP (S.us c) (S.us d)) = q.uncoverL S.un (mergeP ((S.us c).drop i) ((S.us d).drop (j + 1)))) := hid (by rw [HE.out, HM.out, if_neg (by rw [hlt]; decide), if_pos hgt])
                  go_wp2_with fail
                  exact ⟨⟨i, j + 1, li, lj - 1, cl, cr - 1, _, _, fv, q, by omega, by omega, by omega, by omega, by omega, by omega, rfl, rfl, hid ⟨fun _ => rfl, fun h1 => by rw [if_neg (by omega)]; simp [Nat.succ_mul]⟩, HRX, HSX, HZr, HLr, HE2⟩, by simp; omega⟩
                | false =>
                  have heq : (za.1.toList == zb.1.toList) = true := by rw [bytesLess_eq _ _ hlt hgt]; simp
                  have HE2 : Hid (S.q.uncoverL S.un (mergeP (S.us c) (S.us d)) = (q.uncoverL S.un (prodP za.2 zb.2)).uncoverL S.un (mergeP ((S.us c).drop (i + 1)) ((S.us d).drop (j + 1)))) := hid (by rw [HE.out, HM.out, if_neg (by rw [hlt]; decide), if_neg (by rw [hgt]; decide), Q.uncoverL_app])
                  go_wp2_with fail
                  obtain ⟨nA, hnA⟩ : ∃ nA, za.2.length = nA := ⟨_, rfl⟩
                  obtain ⟨nB, hnB⟩ : ∃ nB, zb.2.length = nB := ⟨_, rfl⟩
                  have HNA' := hid hnA
                  have HNB' := hid hnB
                  rw [hnA] at a1 hna1 ga1 ⊢
                  rw [hnB] at b1 hnb1 gb1 ⊢
                  clear hnA hnB
                  go_loopw [29] (fun u29 wr => ∃ (k : Nat) (fvk : Value) (qk : Q), k ≤ nA ∧ u29 = .int .i64 (k : Int) ∧ Hid (RelW x wr { y with fv := fvk } { S with q := qk }) ∧ Hid (Stp w y wr { y with fv := fvk }) ∧ Hid (Zero S.P D qk) ∧ Hid (∀ p, qk.cnt p ≤ 30000) ∧ Hid (qk = q.uncoverL S.un (prodP (za.2.take k) zb.2)) ∧ Hid (Blk wr ba 166 #[.string za.1, .slice NA nA na]) ∧ Hid (Blk wr bb 166 #[.string zb.1, .slice NB nB nb]) ∧ Hid (¬ Own { y with fv := fvk } ba) ∧ Hid (¬ Own { y with fv := fvk } bb)) (fun u29 _ => nA - (intOf u29).toNat)
                  case atStart => exact ⟨0, fv, q, Nat.zero_le _, rfl, HRX, HSX, HZr, HLr, hid rfl, hid (by rw [← HNA'.out]; exact HXA.out), hid (by rw [← HNB'.out]; exact HXB.out), HNA2, HNB2⟩
                  case round =>
                    obtain ⟨k, fvk, qk, hk, rfl, Hrk, Hsk, Hzk, Hlk, Hqk, HAk, HBk, HOA, HOB⟩ := hrel
                    by_cases hlt2 : k < nA
                    · obtain ⟨s, hs⟩ : ∃ s, za.2[k]? = some s := ⟨_, List.getElem?_eq_getElem (by have := HNA'.out; omega)⟩
                      obtain ⟨hsn, hs8⟩ := GA4.out s (List.mem_of_getElem? hs)
                      obtain ⟨NA', na', e9, -, -, hrd⟩ := Hrk.out.nvrd c za.1
                      change y.nv c za.1 = _ at e9
                      rw [HNA.out] at e9
                      injection e9 with e9 e9a e9b
                      subst e9
                      clear e9a e9b
                      change RdV _ NA (((at_ (S.us c) za.1).map nI).flatMap iC) at hrd
                      rw [GA2.out] at hrd
                      obtain ⟨vb, vo, hVA, c1⟩ := rd_intG hrd (nI_get hs)
                      have HVA := hid hVA
                      have HTK : Hid (prodP (za.2.take (k + 1)) zb.2 = prodP (za.2.take k) zb.2 ++ zb.2.map fun t => (s, t)) := hid (by rw [take_snoc hs, prodP_snoc])
                      have b1 := HBk.out.cell 1
                      simp at b1
                      rw [HVA.out]
                      clear hs hrd hVA
                      go_wp2_with fail
                      go_loopw [36] (fun u36 wr => ∃ (m : Nat) (fvm : Value) (qm : Q), m ≤ nB ∧ u36 = .int .i64 (m : Int) ∧ Hid (RelW x wr { y with fv := fvm } { S with q := qm }) ∧ Hid (Stp w y wr { y with fv := fvm }) ∧ Hid (Zero S.P D qm) ∧ Hid (∀ p, qm.cnt p ≤ 30000) ∧ Hid (qm = qk.uncoverL S.un ((zb.2.take m).map fun t => (s, t))) ∧ Hid (Blk wr ba 166 #[.string za.1, .slice NA nA na]) ∧ Hid (Blk wr bb 166 #[.string zb.1, .slice NB nB nb]) ∧ Hid (¬ Own { y with fv := fvm } ba) ∧ Hid (¬ Own { y with fv := fvm } bb)) (fun u36 _ => nB - (intOf u36).toNat)
                      case atStart => exact ⟨0, fvk, qk, Nat.zero_le _, rfl, Hrk, Hsk, Hzk, Hlk, hid rfl, HAk, HBk, HOA, HOB⟩
                      case round =>
                        obtain ⟨m, fvm, qm, hm, rfl, Hrm, Hsm, Hzm, Hlm, Hqm, HAm, HBm, HOAm, HOBm⟩ := hrel
                        by_cases hlt3 : m < nB
                        · obtain ⟨t, ht⟩ : ∃ t, zb.2[m]? = some t := ⟨_, List.getElem?_eq_getElem (by have := HNB'.out; omega)⟩
                          obtain ⟨htn, ht8⟩ := GB4.out t (List.mem_of_getElem? ht)
                          obtain ⟨NB', nb', e9, -, -, hrd⟩ := Hrm.out.nvrd d zb.1
                          change y.nv d zb.1 = _ at e9
                          rw [HNB.out] at e9
                          injection e9 with e9 e9a e9b
                          subst e9
                          clear e9a e9b
                          change RdV _ NB (((at_ (S.us d) zb.1).map nI).flatMap iC) at hrd
                          rw [GB2.out] at hrd
                          obtain ⟨tb, tof, hTB, c2⟩ := rd_intG hrd (nI_get ht)
                          have HTB := hid hTB
                          have HTT : Hid ((zb.2.take (m + 1)).map (fun t => (s, t)) = (zb.2.take m).map (fun t => (s, t)) ++ [(s, t)]) := hid (by rw [take_snoc ht, List.map_append]; rfl)
                          rw [HTB.out]
                          clear ht hrd hTB
                          go_wp2_with fail
                          refine (uncover_any x _ _ s t _ Hrm.out hsn htn hs8 Hlm.out (by
                            have h1 := Hzm.out.len
                            have h2 := HG.out.P
                            have h3 := (HG.out.un t).1
                            show qm.ref.length + (S.un t).length ≤ _
                            omega) (fun u hu => (HG.out.un t).2 u hu)).mono ?_
                          rintro r w7 ⟨rfl, fv7, h7, hb7⟩
                          obtain ⟨hz7, hn7⟩ := hb7.blk HAm.out HOAm.out
                          obtain ⟨hz8, hn8⟩ := hb7.blk HBm.out HOBm.out
                          have HR7 := hid h7
                          have HB7 := hid (Hsm.out.trans hb7)
                          have HZ7 := hid hz7
                          have HN7 := hid hn7
                          have HZ8 := hid hz8
                          have HN8 := hid hn8
                          have HZZ := hid (Hzm.out.uncover S.un (s, t))
                          have HLL := hid (Q.uncover_le S.un Hlm.out (s, t))
                          have HQQ : Hid (qm.uncover S.un (s, t) = qk.uncoverL S.un ((zb.2.take (m + 1)).map fun t => (s, t))) := hid (by rw [HTT.out, Q.uncoverL_snoc, ← Hqm.out])
                          clear h7 hb7 hz7 hn7 hz8 hn8
                          go_wp2_with fail
                          go_roundw
                          case rel => exact ⟨m + 1, fv7, _, by omega, by go_num, HR7, HB7, HZZ, HLL, HQQ, HZ7, (by rw [← HTB.out]; exact HZ8), HN7, HN8⟩
                          case measure => simp [intOf]; omega
                        · have hkm : m = nB := by omega
                          subst hkm
                          have HQQ : Hid (qm = q.uncoverL S.un (prodP (za.2.take (k + 1)) zb.2)) := hid (by rw [HTK.out, Q.uncoverL_app, ← Hqk.out, Hqm.out, ← HNB'.out, List.take_length])
                          go_wp2_with fail
                          go_roundw
                          case rel => exact ⟨k + 1, fvm, qm, by omega, by go_num, Hrm, Hsm, Hzm, Hlm, HQQ, (by rw [← HVA.out]; exact HAm), HBm, HOAm, HOBm⟩
                          case measure => simp [intOf]; omega
                    · have hkm : k = nA := by omega
                      subst hkm
                      have HQQ : Hid (S.q.uncoverL S.un (mergeP (S.us c) (S.us d)) = qk.uncoverL S.un (mergeP ((S.us c).drop (i + 1)) ((S.us d).drop (j + 1)))) := hid (by rw [HE2.out, Hqk.out, ← HNA'.out, List.take_length])
                      go_wp2_with fail
                      go_region
                      go_wp2_with fail
                      exact ⟨⟨i + 1, j + 1, li - 1, lj - 1, cl - 1, cr - 1, _, _, fvk, qk, by omega, by omega, by omega, by omega, by omega, by omega, rfl, rfl, hid ⟨fun h1 => by rw [if_neg (by omega)]; simp [Nat.succ_mul], fun h1 => by rw [if_neg (by omega)]; simp [Nat.succ_mul]⟩, hid Hrk.out.drew, hid Hsk.out.drew, Hzk, Hlk, HQQ⟩, by simp; omega⟩
end SM
end
end Go.Proofs.YtfigdflcoaepaaaGreatDoor
