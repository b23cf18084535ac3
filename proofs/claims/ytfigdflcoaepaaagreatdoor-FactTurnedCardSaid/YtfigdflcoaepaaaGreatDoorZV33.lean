/- Contracts and plain facts that the theorem rests on: FSrch, FStep, FNew, FNs, FPOf. -/
import Derived.Test.YtfigdflcoaepaaaGreatDoorZV31
import Derived.Test.YtfigdflcoaepaaaGreatDoorZV20
import Derived.Test.YtfigdflcoaepaaaGreatDoorZV32
import Derived.Test.YtfigdflcoaepaaaGreatDoorZV27
import Derived.Test.YtfigdflcoaepaaaGreatDoorZV28
import Derived.Deep.AppendLies
import Derived.Test.YtfigdflcoaepaaaGreatDoorZV30
import Derived.Test.YtfigdflcoaepaaaGreatDoorZV2
import Derived.Test.YtfigdflcoaepaaaGreatDoorZV22
set_option linter.unusedSimpArgs false
set_option linter.unusedVariables false
namespace Go.Proofs.YtfigdflcoaepaaaGreatDoor
section
open Go.RowKit
namespace FM
open CM (nd kids)
open SM
structure NoP (w:World)(P:Nat→Prop):Prop where
 i:∀ b j z,w.cell? ⟨b,j,none⟩=some (.int .i64 z)→¬ P b
 s:∀ b j z,w.cell? ⟨b,j,none⟩=some (.string z)→¬ P b
 r:∀ b cs,Blk w b 46 cs→¬ P b
 b:∀ b cs,Blk w b 4 cs→¬ P b
section
variable {w w' : World} {P : Nat → Prop}
theorem rd_intN {A:Option Addr}{l:List Int}(h:RdV w A (l.flatMap iC))(hk:Kept P w w')(hn:NoP w P):RdV w' A (l.flatMap iC):=by
 refine h.keptG hk fun b o h0 hA=>?_
 obtain⟨b',o',hA',hc⟩:=h h0;rw[hA] at hA';injection hA' with hA'
 injection hA' with e1 e2 _
 subst e1 e2;rw[rowc_len iC 1 (fun _=>rfl),Nat.mul_one] at h0
 have c0:=hc (0*1+0) (.int .i64 l[0]) (rowc_get iC 1 (fun _=>rfl) l 0 l[0] (List.getElem?_eq_getElem h0) 0 _ rfl)
 exact hn.i _ _ _ c0
theorem rd_strN {A:Option Addr}{l:List ByteArray}(h:RdV w A (l.flatMap sC))(hk:Kept P w w')(hn:NoP w P):RdV w' A (l.flatMap sC):=by
 refine h.keptG hk fun b o h0 hA=>?_
 obtain⟨b',o',hA',hc⟩:=h h0;rw[hA] at hA';injection hA' with hA'
 injection hA' with e1 e2 _
 subst e1 e2;rw[rowc_len sC 1 (fun _=>rfl),Nat.mul_one] at h0
 have c0:=hc (0*1+0) (.string l[0]) (rowc_get sC 1 (fun _=>rfl) l 0 l[0] (List.getElem?_eq_getElem h0) 0 _ rfl)
 exact hn.s _ _ _ c0
theorem cell_keptN (hk:Kept P w w'){b j:Nat}{v:Value}(h:w.cell? ⟨b,j,none⟩=some v)(hb:¬ P b):w'.cell? ⟨b,j,none⟩=some v:=
 (hk.cell (p:=⟨b,j,none⟩) (World.block_lt_of_cell? w _ h) hb).trans h
theorem gs_keptN {A:Option Addr}{g:List Gi}(h:GsR w A g)(hk:Kept P w w')(hn:NoP w P):GsR w' A g:=fun h0=>by
 obtain⟨b,o,hA,hc⟩:=h h0;refine⟨b,o,hA,fun i x hx=>?_⟩
 obtain⟨VA,vc,PA,pc,c0,c1,c2,c3,c4,r1,r2,hr⟩:=hc i x hx;have hb:=hn.i _ _ _ c0;exact⟨VA,vc,PA,pc,cell_keptN hk c0 hb,cell_keptN hk c1 hb,cell_keptN hk c2 hb,cell_keptN hk c3 hb,cell_keptN hk c4 hb,rd_strN r1 hk hn,rd_intN r2 hk hn,hr⟩
theorem Bw.keptN {PL:Option Addr}{pn pc:Nat}{pl:List Int}{rb n:Nat}{q:Nat→Nat}{u:Nat→Nat→Bool}(h:Bw w PL pn pc pl rb n q u)(hk:Kept P w w')(hn:NoP w P):Bw w' PL pn pc pl rb n q u:=
 ⟨rd_intN h.rd hk hn,h.len,⟨hk.blk h.mx.rows (hn.r _ _ h.mx.rows),fun j hj=>hk.blk (h.mx.row j hj) (hn.b _ _ (h.mx.row j hj))⟩⟩
end
structure Sl where
 sb:Nat
 mb:Nat
 A:Option Addr
 gn:Nat
 gc:Nat
 PL:Option Addr
 pn:Nat
 pc:Nat
 rb:Nat
 n:Nat
def Sl.P (s:Sl):Nat→Prop:=fun i=>i=s.sb∨i=s.mb
def Sl.cells (s:Sl)(v:Value):Array Value := #[.slice s.A s.gn s.gc,.slice s.PL s.pn s.pc,.slice (some ⟨s.rb,0,none⟩) s.n s.n,.map (some s.mb),v]
structure SrS (w0:World)(s:Sl)(g:List Gi)(R:List Nat)(pl:List Int)(q:Nat→Nat)(u:Nat→Nat→Bool):Prop where
 gs:GsR w0 s.A g
 len:g.length=s.gn
 ok:checkG g=0
 bw:Bw w0 s.PL s.pn s.pc pl s.rb s.n q u
 no:NoP w0 s.P
 ne:s.sb≠s.mb
 closed:ClosedG g R
 lt:∀ x∈R,x<g.length
 at_:∀ x∈R,∃ k:Nat,pl[x]? = some (k:Int)∧k<s.n
 says:∀ a b pa pb:Nat,a∈R→b∈R→pl[a]? = some (pa:Int)→pl[b]? = some (pb:Int)→pa<s.n→pb<s.n→u pa pb=grU g a b
def Sl.bar (s:Sl)(D:Nat→Prop):Nat→Prop:=fun i=>D i∨s.P i
structure SrW (w0 w:World)(s:Sl)(D:Nat→Prop)(ps:List Fp)(qs:List (Int × Int))(v:Value):Prop where
 kept:Kept s.P w0 w
 box:Blk w s.sb 82 (s.cells v)
 map:MpF w s.mb qs
 own:OwnF w (s.bar D) v ps
 sbD:¬ D s.sb
 mbD:¬ D s.mb
 old:∀ i,i<w0.heap.size→i≠s.sb→i≠s.mb→D i
 lt:∀ i,D i→i<w.heap.size
section
variable {w0 w w' w1 : World} {s : Sl} {D D' : Nat → Prop} {ps ps' : List Fp} {qs : List (Int × Int)} {v v' : Value} {g : List Gi} {R : List Nat} {pl : List Int} {q : Nat → Nat} {u : Nat → Nat → Bool}
theorem SrW.gs (h:SrW w0 w s D ps qs v)(hs:SrS w0 s g R pl q u):GsR w s.A g:=gs_keptN hs.gs h.kept hs.no
theorem SrW.bw (h:SrW w0 w s D ps qs v)(hs:SrS w0 s g R pl q u):Bw w s.PL s.pn s.pc pl s.rb s.n q u:=hs.bw.keptN h.kept hs.no
theorem SrW.jd (h:SrW w0 w s D ps qs v)(hs:SrS w0 s g R pl q u):Jd w s.sb s.A s.gn s.gc g:=⟨h.box.cell 0,h.gs hs,hs.len⟩
theorem SrW.mlt (h:SrW w0 w s D ps qs v):s.mb<w.heap.size:=by obtain⟨es,cl,h1,_⟩:=h.map;exact(Array.getElem?_eq_some_iff.1 h1).1
theorem SrW.blt (h:SrW w0 w s D ps qs v):∀ i,s.bar D i→i<w.heap.size:=by
 rintro i (h1 | h1 | h1)
 ·exact h.lt i h1
 ·rw[h1];exact h.box.lt
 ·rw[h1];exact h.mlt
def withB (D:Nat→Prop)(n m:Nat):Nat→Prop:=fun i=>D i∨(n≤i∧i<m)
theorem SrW.grow (h:SrW w0 w s D ps qs v)(hb:Below w.heap.size w w'):SrW w0 w' s (withB D w.heap.size w'.heap.size) ps qs v:=by
 have hsb:=h.box.lt;have hmb:=h.mlt;have hk:Kept (fun _=>False) w w':=Kept.of_below hb _
 refine⟨h.kept.trans hk (fun _ _ h=>h.elim),h.box.below hb hsb,h.map.kept hk (fun h=>h),(h.own.to (D':=s.bar (withB D w.heap.size w'.heap.size)) ?_).below hb,?_,?_,fun i hi h1 h2=>.inl (h.old i hi h1 h2),?_⟩
 ·rintro i hi ((h1 | h1) | h1)
  ·exact .inl h1
  ·omega
  ·exact .inr h1
 ·rintro (h1 | h1)
  ·exact h.sbD h1
  ·omega
 ·rintro (h1 | h1)
  ·exact h.mbD h1
  ·omega
 ·rintro i (h1 | h1)
  ·have:=h.lt i h1;have:=hb.size;omega
  ·exact h1.2
theorem SrW.down (h:SrW w0 w s D' ps qs v)(hD:∀ i,D i→D' i)(hold:∀ i,i<w0.heap.size→i≠s.sb→i≠s.mb→D i):SrW w0 w s D ps qs v:=
 ⟨h.kept,h.box,h.map,h.own.to (fun i _ hi=>hi.elim (fun a=>.inl (hD i a)) .inr),fun a=>h.sbD (hD _ a),fun a=>h.mbD (hD _ a),hold,fun i a=>h.lt i (hD i a)⟩
theorem SrW.facts (h:SrW w0 w s D ps qs v)(hk:Kept (fun i=>¬ s.bar D i) w w')(ho:OwnF w' (s.bar D) v ps'):SrW w0 w' s D ps' qs v:=by
 refine⟨h.kept.trans hk (fun i hi hn=>?_),hk.blk h.box (fun a=>a (.inr (.inl rfl))),h.map.kept hk (fun a=>a (.inr (.inr rfl))),ho,h.sbD,h.mbD,h.old,fun i hi=>Nat.lt_of_lt_of_le (h.lt i hi) hk.size⟩
 by_cases h1:i=s.sb
 ·exact .inl h1
 ·by_cases h2:i=s.mb
  ·exact .inr h2
  ·exact absurd (.inl (h.old i hi h1 h2)) hn
theorem SrW.hdr (hne:s.sb≠s.mb)(h:SrW w0 w s D ps qs v)(hk:Kept (fun i=>¬ s.bar D i) w w1)(ho:OwnF w1 (s.bar D) v' ps'):SrW w0 (w1.setCell ⟨s.sb,4,none⟩ v') s D ps' qs v':=by
 have hbx:Blk w1 s.sb 82 (s.cells v):=hk.blk h.box (fun a=>a (.inr (.inl rfl)))
 have hk2:Kept (fun i=>i=s.sb) w1 (w1.setCell ⟨s.sb,4,none⟩ v'):=(Kept.refl (fun i=>i=s.sb) w1).setCell (p:=⟨s.sb,4,none⟩) (fun _=>rfl) v'
 have h1:Kept s.P w0 w1:=h.kept.trans hk (fun i hi hn=>by
  by_cases h1:i=s.sb
  ·exact .inl h1
  ·by_cases h2:i=s.mb
   ·exact .inr h2
   ·exact absurd (.inl (h.old i hi h1 h2)) hn)
 refine⟨h1.trans hk2 (fun i _ e=>.inl e),?_,(h.map.kept hk (fun a=>a (.inr (.inr rfl)))).kept hk2 (fun e=>hne e.symm),ho.kept hk2 (fun i _ e=>.inr (.inl e)),h.sbD,h.mbD,h.old,fun i hi=>Nat.lt_of_lt_of_le (h.lt i hi) (Nat.le_trans hk.size hk2.size)⟩
 have:=hbx.set_ 4 v'
 simpa [Sl.cells] using this
theorem SrW.putM (hne:s.sb≠s.mb)(h:SrW w0 w s D ps qs v){o:Obj}{p:Int × Int}(hm:MpF (Go.ChangeMaps.setBlock w s.mb o) s.mb (qs++[p])):SrW w0 (Go.ChangeMaps.setBlock w s.mb o) s D ps (qs++[p]) v:=by
 have hk:=kept_block w s.mb o;exact⟨h.kept.trans hk (fun i _ e=>.inr e),hk.blk h.box (fun e=>hne e),hm,h.own.kept hk (fun i _ e=>.inr (.inr e)),h.sbD,h.mbD,h.old,fun i hi=>Nat.lt_of_lt_of_le (h.lt i hi) hk.size⟩
end
end FM
end
section
open Go.RowKit
namespace FM
open CM (nd kids)
open SM
theorem step_pushI (w:World){ops:Array Oper}{o:Oper}{a:Go.Act}{K:Go.Act→World→Prop}{Q:Exit→Go.Act→World→Prop}{E:Prop}(hgd:o.guard=none)(s x:Operand)
  (hop:o.op=Op.call { callee:=Callee.builtin Builtin.append,args := #[s,x],argTypes := #[35,35] })
  (B:Nat)(v:Value)(l:List Int)(m:Int)(eb:Nat)(hs:a.eval s=v)(hown:OwnI w B v l)(hx:a.eval x=.slice (some ⟨eb,0,none⟩) 1 1)(hc:w.cell? ⟨eb,0,none⟩=some (.int .i64 m))(hlen:l.length≤1000000000000)(hbase:B≤w.heap.size)
  (h:∀ gg cap w',OwnI w' B (.slice (some ⟨gg,0,none⟩) (l.length+1) cap) (l++[m])→w.grownBy w' v.ownBlock→(v.ownBlock=some gg∨gg=w.heap.size)→K (a.put o.dst (.slice (some ⟨gg,0,none⟩) (l.length+1) cap)) w') :
  if Region.wanted o (yielded ops a.tmps)=true then Oper.wp Tryz.prog o a w K Q else E:=by
 obtain⟨i0,hi,hz0,hz1,hz2⟩:=info_parts info_intG;refine step_append_lies w hgd s x 35 hop B 3 i0 (.int .i64 0) 1 8 Tryz.underlying35 hi hz0 hz1 hz2 rfl (by decide) v l.length (l.flatMap iC) hs hown ⟨eb,0,none⟩ 1 1 [.int .i64 m] hx rfl ?_ ?_ (by decide) (by unfold maxLen;omega) (by omega) hbase w.heap.size rfl ?_
 ·intro j u hj;have hj0:j=0:=by have:=(List.getElem?_eq_some_iff.1 hj).1;simp at this;omega
  subst hj0;simp at hj;subst hj;exact hc
 ·intro u hu;rw[List.mem_singleton] at hu;subst hu;rfl
 ·intro gg cap w' h4 h5 h6 h7;refine h gg cap w' ?_ h5 h6;unfold OwnI;rw[List.flatMap_append,List.length_append];exact h4
theorem step_pushF (w:World){ops:Array Oper}{o:Oper}{a:Go.Act}{K:Go.Act→World→Prop}{Q:Exit→Go.Act→World→Prop}{E:Prop}(hgd:o.guard=none)(s x:Operand)
  (hop:o.op=Op.call { callee:=Callee.builtin Builtin.append,args := #[s,x],argTypes := #[23,23] })
  (D:Nat→Prop)(v:Value)(ps:List Fp)(p:Fp)(eb:Nat)(hs:a.eval s=v)(hown:OwnF w D v ps)(hx:a.eval x=.slice (some ⟨eb,0,none⟩) 1 1)(hc:Blk w eb 45 p.cells.toArray)(hlen:ps.length≤100000000000)(hD:∀ i,D i→i<w.heap.size)
  (hp:OwnI w 0 p.2 p.1.why)(hpb:∀ i,p.2.ownBlock=some i→¬ D i)(hne:∀ q∈ps,∀ i,q.2.ownBlock=some i→p.2.ownBlock≠some i)
  (h:∀ gg cap w',OwnF w' D (.slice (some ⟨gg,0,none⟩) (ps.length+1) cap) (ps++[p])→Kept (fun i=>v.ownBlock=some i) w w'→K (a.put o.dst (.slice (some ⟨gg,0,none⟩) (ps.length+1) cap)) w') :
  if Region.wanted o (yielded ops a.tmps)=true then Oper.wp Tryz.prog o a w K Q else E:=by
 have hinfo:(Tryz.prog.info? 45).map (fun i=>(i.zero,i.size,i.bytes))=some (some (.agg #[.int .i64 0,.int .i64 0,.slice none 0 0]),3,40):=by kernel_rfl
 obtain⟨i0,hi,hz0,hz1,hz2⟩:=info_parts hinfo;obtain⟨KA,kc,ek,-⟩:=hp.rd;refine step_append_lies w hgd s x 23 hop 0 45 i0 (.agg #[.int .i64 0,.int .i64 0,.slice none 0 0]) 3 40 Tryz.underlying23 hi hz0 hz1 hz2 rfl (by decide) v ps.length (ps.flatMap Fp.cells) hs hown.row ⟨eb,0,none⟩ 1 1 p.cells hx rfl ?_ ?_ (by decide) (by unfold maxLen;omega) (by omega) (Nat.zero_le _) w.heap.size rfl ?_
 ·intro j u hj;rw[addr_lit,Nat.zero_add,hc.cell j,List.getElem?_toArray];exact hj
 ·intro u hu;unfold Fp.cells at hu;rw[ek] at hu;simp only[List.mem_cons,List.not_mem_nil,or_false] at hu;rcases hu with rfl | rfl | rfl<;>rfl
 ·intro gg cap w' h4 h5 h6 h7;have hk:Kept (fun i=>v.ownBlock=some i) w w':=(Kept.refl (fun i=>v.ownBlock=some i) w).grownG h5 fun i _ h=>h
  refine h gg cap w' ⟨?_,fun q hq=>?_,fun i hi hd=>?_,fun q hq i hi=>?_,?_⟩ hk
  ·rw[List.length_append,List.length_singleton,List.flatMap_append]
   simpa using h4
  ·rcases List.mem_append.1 hq with hq | hq
   ·exact(hown.why q hq).kept hk fun i hi e=>hown.why_ne hq hi e
   ·rw[List.mem_singleton] at hq;subst hq;refine hp.kept hk fun i hi e=>?_
    rcases own_ne hp hown.row (by decide) with h1 | h1
    ·rw[h1] at hi;cases hi
    ·exact h1 (hi.trans e.symm)
  ·have hgi:gg=i:=by unfold Value.ownBlock at hi;injection hi
   subst hgi;rcases h6 with h6 | h6
   ·exact hown.bar _ h6 hd
   ·have:=hD _ hd;omega
  ·rcases List.mem_append.1 hq with hq | hq
   ·exact hown.bars q hq i hi
   ·rw[List.mem_singleton] at hq;subst hq;exact hpb i hi
  ·rw[List.pairwise_append];refine⟨hown.ne,List.pairwise_singleton _ _,fun q hq r hr i hi=>?_⟩
   rw[List.mem_singleton] at hr;subst hr;exact hne q hq i hi
theorem full2_any (sb n fc:Nat)(FA:Option Addr)(w:World)(h:w.cell? ⟨sb,4,none⟩=some (.slice FA n fc)) :
  Calls Tryz.prog 60 #[.pointer (some ⟨sb,0,none⟩)] w fun r w'=>r=.returned (.bool (decide (8000<n)))∧Below w.heap.size w w':=by
 by_cases hn:8000<n
 ·have hnI:(8000:Int)<(n:Int):=by omega
  rw[decide_eq_true hn];go_enter Tryz.func60,Tryz.ntmps60
  go_wp2_with fail
  go_ret
  exact⟨rfl,Below.refl _ _⟩
 ·have hnI:¬(8000:Int)<(n:Int):=by omega
  rw[decide_eq_false hn];go_enter Tryz.func60,Tryz.ntmps60
  go_wp2_with fail
  go_ret
  exact⟨rfl,Below.refl _ _⟩
end FM
end
section
open Lib (hid)
open Go.RowKit
namespace FM
open CM (nd kids)
open SM
def KsR (w:World)(p:Gp):Prop:=∃ VA vc,p.2.1=.slice VA p.1.keys.length vc∧(p.1.keys.length:Int)≤9223372036854775807∧p.1.keys.length≤vc∧RdV w VA (p.1.keys.flatMap sC)
def LsB (w:World)(hb:Nat)(p:Gp):Prop:=∃ lb,hb<lb∧p.2.2=.slice (some ⟨lb,0,none⟩) p.1.l.length p.1.l.length∧(p.1.l.length:Int)≤9223372036854775807∧Blk w lb 3 (intG p.1.l)
theorem LsB.kept {w w':World}{hb:Nat}{p:Gp}{P:Nat→Prop}(h:LsB w hb p)(hk:Kept P w w')(hP:∀ i,hb<i→¬ P i):LsB w' hb p:=by
 obtain⟨lb,h1,h2,h3,h4⟩:=h;exact⟨lb,h1,h2,h3,hk.blk h4 (hP lb h1)⟩
theorem FillB.at {w:World}{g N:Nat}{t:TypeId}{xs:List Value}(h:FillB w g t N xs){j:Nat}{u:Value}(hj:xs[j]? = some u):w.cell? ⟨g,j,none⟩=some u:=by
 obtain⟨cs,h1,h2,h3⟩:=h;exact(h1.cell j).trans (h3 j u hj)
theorem FillB.over {w:World}{g N:Nat}{t:TypeId}{xs:List Value}(h:FillB w g t N xs)(v:Value){j:Nat}(hj:xs.length≤j):FillB (w.setCell ⟨g,j,none⟩ v) g t N xs:=by
 obtain⟨cs,h1,h2,h3⟩:=h;refine⟨_,h1.set_ j v,by rw[Array.size_setIfInBounds,h2],fun i u hi=>?_⟩
 have:=(List.getElem?_eq_some_iff.1 hi).1;rw[Array.getElem?_setIfInBounds,if_neg (by omega)]
 exact h3 i u hi
theorem FillB.far {w:World}{g N:Nat}{t:TypeId}{xs:List Value}(h:FillB w g t N xs){b j:Nat}(hb:b≠g)(v:Value):FillB (w.setCell ⟨b,j,none⟩ v) g t N xs:=by
 obtain⟨cs,h1,h2,h3⟩:=h;exact⟨cs,h1.far (p:=⟨b,j,none⟩) (fun e=>hb e.symm) v,h2,h3⟩
theorem take_set {sl:List Int}{k:Nat}{v:Int}(h:sl[k]? = some v):(sl.take k++List.replicate (sl.length-k) 0).set k v=sl.take (k+1)++List.replicate (sl.length-(k+1)) 0:=by
 obtain⟨hk,e⟩:=List.getElem?_eq_some_iff.1 h;have hl:(sl.take k).length=k:=by rw[List.length_take];omega
 obtain⟨m,hm⟩:∃ m,sl.length-k=m+1:=⟨sl.length-k-1,by omega⟩
 rw[List.set_append_right _ _ (by omega),hl,Nat.sub_self,hm,List.replicate_succ,List.set_cons_zero,List.take_add_one,h,show sl.length-(k+1)=m by omega,List.append_assoc]
 rfl
theorem flat_int (q:List Int):q.flatMap iC=q.map (Value.int .i64):=by
 induction q with
 | nil=>rfl
 | cons a q ih=>rw[List.flatMap_cons,ih];rfl
theorem blk_neT {w:World}{a b:Nat}{t t':TypeId}{cs cs':Array Value}(h:Blk w a t cs)(h':Blk w b t' cs')(hne:t≠t'):a≠b:=fun e=>by
 subst e;unfold Blk at h h';rw[h] at h';injection h' with h'
 injection h' with _ ht
 exact hne ht
theorem gs_of {w0 w:World}{hb N:Nat}{ps:List Gp}(hf:FillB w hb 54 (N*5) (gcells ps))(hk:∀ p∈ps,KsR w0 p)(hb0:Below w0.heap.size w0 w)(hl:∀ p∈ps,LsB w hb p):GsR w (some ⟨hb,0,none⟩) (ps.map (·.1)):=fun _=>by
 refine⟨hb,0,rfl,fun i x hx=>?_⟩
 rw[List.getElem?_map] at hx;obtain⟨p,hp,rfl⟩:=Option.map_eq_some_iff.1 hx;have hm:=List.mem_of_getElem? hp;obtain⟨VA,vc,ek,k1,k2,kr⟩:=hk p hm;obtain⟨lb,-,el,l1,lr⟩:=hl p hm;have hcc:∀(t:Nat) (u:Value),(Gp.cells p)[t]? = some u→w.cell? ⟨hb,0+i*5+t,none⟩=some u:=fun t u hu=>by
  rw[Nat.zero_add];exact hf.at (rowc_get Gp.cells 5 (fun _=>rfl) ps i p hp t u hu)
 unfold Gp.cells at hcc;rw[ek,el] at hcc;refine⟨VA,vc,_,_,hcc 0 _ rfl,hcc 1 _ rfl,hcc 2 _ rfl,hcc 3 _ rfl,hcc 4 _ rfl,kr.below hb0,?_,k1,l1,k2,Nat.le_refl _⟩;refine fun _=>⟨lb,0,rfl,fun j v hj=>?_⟩
 rw[Nat.zero_add,lr.cell j,intG,List.getElem?_toArray];rw[← flat_int];exact hj
def BelowOut (g:List Gi)(ps:List (Int × Int))(w:World)(r:Ending)(w':World):Prop:=
 ∃ (PL:Option Addr) (pn pc:Nat) (pl:List Int) (rb n:Nat) (q:Nat→Nat) (u:Nat→Nat→Bool) (l:List Nat),r=.returned (.agg #[.slice PL pn pc,.slice (some ⟨rb,0,none⟩) n n])∧Bw w' PL pn pc pl rb n q u∧Below w.heap.size w w' ∧
  ClosedG g l∧(∀ x∈l,x<g.length)∧(∀ x∈ps,x.1.toNat∈l∧x.2.toNat∈l)∧(∀ x∈l,∃ k:Nat,pl[x]? = some (k:Int)∧k<n) ∧
  ∀ a b pa pb:Nat,a∈l→b∈l→pl[a]? = some (pa:Int)→pl[b]? = some (pb:Int)→pa<n→pb<n→u pa pb=grU g a b
theorem leads_of {g:List Gi}(hf:Fine g):Leads g:=fun x hx y hy=>by
 obtain⟨i,hi⟩:=List.getElem?_of_mem hx;have hil:=(List.getElem?_eq_some_iff.1 hi).1;have e:=nd_at hi;have h1:=hf.kidI i hil y (by rw[e];exact hy)
 have h2:=hf.kid i hil y.toNat (by unfold CM.kids;rw[e];exact List.mem_map_of_mem hy)
 rw[exI_iff];omega
theorem sub_short {g:List Gi}(hf:Fine g){a:Nat}(ha:a<g.length):(nd g a).l.length≤2000:=by
 have h1:=hf.len;have h2:(nd g a).l.length=(kids (nd g a)).length:=(kids_len _).symm;by_cases h5:(nd g a).kind≤5
 ·rw[hf.bare a ha h5];exact Nat.zero_le _
 ·have hk:=hf.kind a ha;by_cases h7:(nd g a).kind=7
  ·have:=hf.recd a ha h7;omega
  ·by_cases h8:(nd g a).kind=8
   ·have hu:=hf.uni a ha h8;have:=nodup_len g.length _ hu.1 (hf.kid a ha);omega
   ·have:=hf.var a ha (by omega)
    omega
set_option maxRecDepth 100000 in
set_option maxHeartbeats 16000000 in
theorem newBelow_any (A PA:Option Addr)(c pc:Nat)(g:List Gi)(ps:List (Int × Int))(w:World)(hk:Gnd w)(hok:checkG g=0)(hg:GsR w A g)(hp:PaR w PA ps)(hpl:(ps.length:Int)≤9223372036854775807)(hpi:∀ x∈ps,exI g.length x.1=true∧exI g.length x.2=true) :
  Calls Tryz.prog 79 #[.slice A g.length c,.slice PA ps.length pc] w (BelowOut g ps w):=by
 have hf:=fine_of hok;have HF:=hid hf;have HOK:=hid hok;have HG:=hid hg;have HK:=hid hk;have hz:=Blk.new w 79 #[.slice none 0 0,.slice none 0 0];have hbx:=alloc_belowH w (.cells #[.slice none 0 0,.slice none 0 0] 79);have C1:=reached_any A PA c pc g ps (w.alloc (.cells #[.slice none 0 0,.slice none 0 0] 79)) (by have:=hf.len;omega) (hg.below hbx) (leads_of hf) (hp.below hbx) hpl hpi
 obtain⟨gn,hgn⟩:∃ gn,g.length=gn:=⟨_,rfl⟩;have HGN:=hid hgn;obtain⟨pn,hpn⟩:∃ pn,ps.length=pn:=⟨_,rfl⟩;rw[hgn,hpn] at C1 ⊢;obtain⟨zb,hzb⟩:∃ zb,w.heap.size=zb:=⟨_,rfl⟩;have HZB:=hid hzb;rw[hzb] at hz hbx;clear hf hok hg hk hp hpl hpi hgn hpn;go_enter Tryz.func79,Tryz.ntmps79
 go_upto_region 1 with(fail)
 have HZ:=hid hz;have HB0:=hid hbx;clear hz hbx hzb;generalize w.alloc (.cells #[.slice none 0 0,.slice none 0 0] 79)=w1 at C1 HZ HB0 ⊢;go_wp2_with fail
 refine C1.mono ?_;rintro r w2 ⟨l,v,ub,u,rfl,hown,hub,hlub,hvub,hpr,hin,hcl,hb2⟩;have HOWN:=hid hown;have HUB:=hid hub;have HPR:=hid hpr;have HIN:=hid hin;have HCL:Hid (ClosedG g l):=hid hcl;have HB2:Hid (Below zb w w2):=hid (HB0.out.trans (hb2.mono (by have:=HZ.out.lt;omega)))
 have HZ2:=hid (HZ.out.below hb2 HZ.out.lt);have hroom:=hpr.room;have hlt:=hpr.lt;obtain⟨VA,vc,rfl,-,-,hvr⟩:=HOWN.out.rd;have HVR:=hid hvr;obtain⟨N,hN⟩:∃ N,l.length=N:=⟨_,rfl⟩;have HN:=hid hN;have hN2:N≤2000:=by have:=HF.out.len;omega
 rw[show(l.map natI).length=l.length from List.length_map ..,hN,HGN.out]
 rw[HGN.out] at hlt;clear hown hub hlub hvub hpr hin hcl hb2 HB0 HZ hroom C1 hvr hN HOWN;have HLT:=hid hlt;clear hlt;have hmk:=mkB 22 54 (Value.agg #[Value.int .i64 0,Value.int .i64 0,Value.string ⟨#[]⟩,Value.slice none 0 0,Value.slice none 0 0]) 5 80 Tryz.underlying22 (by kernel_rfl) N (by omega) (by omega) w2
 have hq:=FillB.new w2 54 (madeCells #[Value.int .i64 0,Value.int .i64 0,Value.string ⟨#[]⟩,Value.slice none 0 0,Value.slice none 0 0] (N*5));rw[size_madeCells] at hq;have hyq:=alloc_belowH w2 (.cells (madeCells #[Value.int .i64 0,Value.int .i64 0,Value.string ⟨#[]⟩,Value.slice none 0 0,Value.slice none 0 0] (N*5)) 54);obtain⟨hb,hhb⟩:∃ hb,w2.heap.size=hb:=⟨_,rfl⟩;have HHB:=hid hhb;rw[hhb] at hq hmk hyq;clear hhb
 go_upto_region 3 with(fail)
 have HQ:=hid hq;have HY:=hid hyq;clear hq hyq hmk;generalize w2.alloc (.cells (madeCells #[Value.int .i64 0,Value.int .i64 0,Value.string ⟨#[]⟩,Value.slice none 0 0,Value.slice none 0 0] (N*5)) 54)=w3 at HQ HY ⊢;go_wp2_with fail
 go_loopw [25] (fun u25 wr=>∃ (i:Nat) (gp:List Gp),i≤N∧u25=.int .i64 (i:Int)∧Hid (gp.map (·.1)=(subG g l).take i)∧Hid (FillB wr hb 54 (N*5) (gcells gp))∧Hid (∀ p∈gp,KsR w p)∧Hid (∀ p∈gp,LsB wr hb p)∧Hid (Below hb w2 wr)) (fun u25 _=>N-(intOf u25).toNat)
 case atStart=>exact⟨0,[],Nat.zero_le _,rfl,hid (by rw[List.take_zero];rfl),HQ,hid (fun p hp=>by cases hp),hid (fun p hp=>by cases hp),HY⟩
 case round =>
  obtain⟨i,gp,hi,rfl,HGP,HQi,HKi,HLi,HYi⟩:=hrel;obtain⟨ws,rfl⟩:∃ ws,ws=wr:=⟨_,rfl⟩;have HBw:Hid (Below zb w ws):=hid (HB2.out.trans (HYi.out.mono (by have h1:=HHB.out;have h2:=HB2.out.size;have h3:=HZB.out;omega)))
  by_cases hlt:i<N
  ·have hiI:(i:Int)<(N:Int):=by omega
   have hi0:(0:Int)≤(i:Int):=by omega
   obtain⟨a,ha⟩:∃ a,l[i]? = some a:=⟨_,List.getElem?_eq_getElem (by have:=HN.out;omega)⟩
   have hal:=HLT.out a (List.mem_of_getElem? ha);have hai:(l.map natI)[i]? = some (a:Int):=by rw[List.getElem?_map,ha];rfl
   obtain⟨vb,vo,hVA,c1⟩:=rd_intG (HVR.out.below (w':=ws) (by rw[HHB.out];exact HYi.out)) hai
   have hx:=at_nd (g:=g) (n:=a) (by have:=HGN.out;omega)
   have hbw:Below w.heap.size w ws:=by rw[HZB.out];exact HBw.out
   obtain⟨gb,go_,hGA,KA,kc,XA,xc,y0,y1,y2,y3,y4,rk,rl,kl63,xl63,klc,xlc⟩:=HG.out.at_ hx;have g0:=gcell_below hbw y0;have g1:=gcell_below hbw y1;have g2:=gcell_below hbw y2;have g3:=gcell_below hbw y3;have g4:=gcell_below hbw y4;have HKS:Hid (KsR w (subGi l (nd g a),.slice KA (nd g a).keys.length kc,.slice none 0 0)):=hid ⟨_,_,rfl,kl63,klc,rk⟩;have HY4:=hid y4;clear y0 y1 y2 y3 y4 hbw;have HRL:=hid rl;have HX63:=hid xl63;have HXC:=hid xlc;have hxs:=sub_short HF.out (a:=a) (by have:=HGN.out;omega)
   have HCLA:=hid (HCL.out a (List.mem_of_getElem? ha));have HKI:=hid (HF.out.kidI a (by have:=HGN.out;omega))
   have HSUB:Hid ((subG g l).take (i+1)=(subG g l).take i++[subGi l (nd g a)]):=hid (by rw[List.take_add_one];unfold subG;rw[List.getElem?_map,ha];rfl)
   obtain⟨x,hxe⟩:∃ x,nd g a=x:=⟨_,rfl⟩;rw[hxe] at g0 g1 g2 g3 g4 HY4 HKS HRL HX63 HXC hxs HCLA HKI HSUB;obtain⟨xl,hxl⟩:∃ xl,x.l.length=xl:=⟨_,rfl⟩;have HXL:=hid hxl;rw[hxl] at g4 HY4 hxs;have HVA:=hid hVA;have HGA:=hid hGA;rw[HVA.out,HGA.out];have HTL:Hid ((gcells gp).length=i*5):=hid (by rw[gcells_len];have h1:=congrArg List.length HGP.out;rw[List.length_map,List.length_take,sub_len,HN.out] at h1;rw[h1,Nat.min_eq_left (by omega)])
   have haI:(a:Int)<(gn:Int):=by omega
   have ha0:(0:Int)≤(a:Int):=by omega
   obtain⟨z0,q0⟩:=HQi.out.cell (j:=i*5) (by omega)
   have f0:=HQi.out.frozen (i*5);obtain⟨z1,q1⟩:=HQi.out.cell (j:=i*5+1) (by omega)
   have f1:=HQi.out.frozen (i*5+1);obtain⟨z2,q2⟩:=HQi.out.cell (j:=i*5+2) (by omega)
   have f2:=HQi.out.frozen (i*5+2);obtain⟨z3,q3⟩:=HQi.out.cell (j:=i*5+3) (by omega)
   have f3:=HQi.out.frozen (i*5+3);obtain⟨z4,q4⟩:=HQi.out.cell (j:=i*5+4) (by omega)
   have f4:=HQi.out.frozen (i*5+4);clear rk rl kl63 xl63 klc xlc hx hxe hxl ha hai hal hVA hGA
   go_upto_region 7 with(fail)
   clear c1 q0 q1 q2 q3 q4 f0 f1 f2 f3 f4 g0 g1 g2 g3 g4;have HALL:Hid (FillB (((((ws.setCell ⟨hb,i*5,none⟩ (.int .i64 x.kind)).setCell ⟨hb,i*5+1,none⟩ (.int .i64 x.num)).setCell ⟨hb,i*5+2,none⟩ (.string x.nm)).setCell ⟨hb,i*5+3,none⟩ (.slice KA x.keys.length kc)).setCell ⟨hb,i*5+4,none⟩ (.slice XA xl xc)) hb 54 (N*5) (gcells gp++[.int .i64 x.kind,.int .i64 x.num,.string x.nm,.slice KA x.keys.length kc])∧(∀ p∈gp,LsB (((((ws.setCell ⟨hb,i*5,none⟩ (.int .i64 x.kind)).setCell ⟨hb,i*5+1,none⟩ (.int .i64 x.num)).setCell ⟨hb,i*5+2,none⟩ (.string x.nm)).setCell ⟨hb,i*5+3,none⟩ (.slice KA x.keys.length kc)).setCell ⟨hb,i*5+4,none⟩ (.slice XA xl xc)) hb p)∧Below hb w2 (((((ws.setCell ⟨hb,i*5,none⟩ (.int .i64 x.kind)).setCell ⟨hb,i*5+1,none⟩ (.int .i64 x.num)).setCell ⟨hb,i*5+2,none⟩ (.string x.nm)).setCell ⟨hb,i*5+3,none⟩ (.slice KA x.keys.length kc)).setCell ⟨hb,i*5+4,none⟩ (.slice XA xl xc))∧Below zb w (((((ws.setCell ⟨hb,i*5,none⟩ (.int .i64 x.kind)).setCell ⟨hb,i*5+1,none⟩ (.int .i64 x.num)).setCell ⟨hb,i*5+2,none⟩ (.string x.nm)).setCell ⟨hb,i*5+3,none⟩ (.slice KA x.keys.length kc)).setCell ⟨hb,i*5+4,none⟩ (.slice XA xl xc))):=hid (by
    have t0:=HTL.out;have p1:=HQi.out.push (.int .i64 x.kind) (j:=i*5) t0 (by omega)
    have t1:(gcells gp++[Value.int .i64 x.kind]).length=i*5+1:=by rw[List.length_append,t0];rfl
    have p2:=p1.push (.int .i64 x.num) (j:=i*5+1) t1 (by omega)
    have t2:((gcells gp++[Value.int .i64 x.kind])++[Value.int .i64 x.num]).length=i*5+2:=by rw[List.length_append,t1];rfl
    have p3:=p2.push (.string x.nm) (j:=i*5+2) t2 (by omega)
    have t3:(((gcells gp++[Value.int .i64 x.kind])++[Value.int .i64 x.num])++[Value.string x.nm]).length=i*5+3:=by rw[List.length_append,t2];rfl
    have p4:=p3.push (.slice KA x.keys.length kc) (j:=i*5+3) t3 (by omega)
    have t4:((((gcells gp++[Value.int .i64 x.kind])++[Value.int .i64 x.num])++[Value.string x.nm])++[Value.slice KA x.keys.length kc]).length=i*5+4:=by rw[List.length_append,t3];rfl
    have p5:=p4.over (.slice XA xl xc) (j:=i*5+4) (by omega)
    have hk:Kept (fun j=>j=hb) ws (((((ws.setCell ⟨hb,i*5,none⟩ (.int .i64 x.kind)).setCell ⟨hb,i*5+1,none⟩ (.int .i64 x.num)).setCell ⟨hb,i*5+2,none⟩ (.string x.nm)).setCell ⟨hb,i*5+3,none⟩ (.slice KA x.keys.length kc)).setCell ⟨hb,i*5+4,none⟩ (.slice XA xl xc)):=((((((Kept.refl (fun j=>j=hb) ws).setCell (p:=⟨hb,i*5,none⟩) (fun _=>rfl) (.int .i64 x.kind)).setCell (p:=⟨hb,i*5+1,none⟩) (fun _=>rfl) (.int .i64 x.num)).setCell (p:=⟨hb,i*5+2,none⟩) (fun _=>rfl) (.string x.nm)).setCell (p:=⟨hb,i*5+3,none⟩) (fun _=>rfl) (.slice KA x.keys.length kc)).setCell (p:=⟨hb,i*5+4,none⟩) (fun _=>rfl) (.slice XA xl xc))
    have hbl:Below hb w2 (((((ws.setCell ⟨hb,i*5,none⟩ (.int .i64 x.kind)).setCell ⟨hb,i*5+1,none⟩ (.int .i64 x.num)).setCell ⟨hb,i*5+2,none⟩ (.string x.nm)).setCell ⟨hb,i*5+3,none⟩ (.slice KA x.keys.length kc)).setCell ⟨hb,i*5+4,none⟩ (.slice XA xl xc)):=(((((HYi.out.setCell (p:=⟨hb,i*5,none⟩) (Nat.le_refl hb) (.int .i64 x.kind)).setCell (p:=⟨hb,i*5+1,none⟩) (Nat.le_refl hb) (.int .i64 x.num)).setCell (p:=⟨hb,i*5+2,none⟩) (Nat.le_refl hb) (.string x.nm)).setCell (p:=⟨hb,i*5+3,none⟩) (Nat.le_refl hb) (.slice KA x.keys.length kc)).setCell (p:=⟨hb,i*5+4,none⟩) (Nat.le_refl hb) (.slice XA xl xc));refine⟨by simpa using p5,fun p hp=>(HLi.out p hp).kept hk (fun j hj e=>by omega),hbl,?_⟩
    exact HB2.out.trans (hbl.mono (by have h1:=HHB.out;have h2:=HB2.out.size;have h3:=HZB.out;omega)))
   clear HQi HLi HYi HBw;generalize (((((ws.setCell ⟨hb,i*5,none⟩ (.int .i64 x.kind)).setCell ⟨hb,i*5+1,none⟩ (.int .i64 x.num)).setCell ⟨hb,i*5+2,none⟩ (.string x.nm)).setCell ⟨hb,i*5+3,none⟩ (.slice KA x.keys.length kc)).setCell ⟨hb,i*5+4,none⟩ (.slice XA xl xc))=wa at HALL ⊢;have HQa:=hid HALL.out.1;have HLa:=hid HALL.out.2.1;have HYa:=hid HALL.out.2.2.1;have HBa:=hid HALL.out.2.2.2;clear HALL;have g4:=gcell_below (w:=w) (w':=wa) (by rw[HZB.out];exact HBa.out) HY4.out
   obtain⟨z4,q4⟩:=HQa.out.cell (j:=i*5+4) (by omega)
   have f4:=HQa.out.frozen (i*5+4);have hmk:=mkB 35 3 (Value.int .i64 0) 1 8 Tryz.underlying35 (by kernel_rfl) xl (by omega) (by omega) wa
   rw[Nat.mul_one] at hmk;have hbk:=Blk.new wa 3 (madeCells #[Value.int .i64 0] xl);have hbl:=alloc_belowH wa (.cells (madeCells #[Value.int .i64 0] xl) 3);obtain⟨lb,hlb⟩:∃ lb,wa.heap.size=lb:=⟨_,rfl⟩;have HLB:=hid hlb;rw[hlb] at hmk hbk hbl;have hlbh:hb<lb:=by rw[← hlb];exact HQa.out.lt
   have HQ7:=hid (HQa.out.below (B:=lb) hbl hlbh);clear hlb;have q7:=gcell_below (w:=wa) (w':=wa.alloc (.cells (madeCells #[Value.int .i64 0] xl) 3)) (by rw[HLB.out];exact hbl) q4
   have f7:=HQ7.out.frozen (i*5+4);have hklI:(xl:Int)≤9223372036854775807:=by omega
   go_upto_region 8 with(fail)
   clear hmk q4 f4 q7 f7;have HBK:=hid hbk;have HBL:=hid hbl;have HN7:Hid (hb<lb∧lb≠hb):=hid (by omega)
   clear hbk hbl hlbh;generalize wa.alloc (.cells (madeCells #[Value.int .i64 0] xl) 3)=w7 at HBK HBL HQ7 ⊢;have HQ8:Hid (FillB (w7.setCell ⟨hb,i*5+4,none⟩ (Value.slice (some ⟨lb,0,none⟩) xl xl)) hb 54 (N*5) (gcells (gp++[(subGi l x,.slice KA x.keys.length kc,(Value.slice (some ⟨lb,0,none⟩) xl xl))]))):=hid (by
    have t4:(gcells gp++[Value.int .i64 x.kind,.int .i64 x.num,.string x.nm,.slice KA x.keys.length kc]).length=i*5+4:=by rw[List.length_append,HTL.out];rfl
    have:=HQ7.out.push (Value.slice (some ⟨lb,0,none⟩) xl xl) (j:=i*5+4) t4 (by omega)
    unfold gcells at this ⊢;rw[List.flatMap_append]
    simpa [Gp.cells,subGi] using this)
   have HK8:Hid (Kept (fun j=>j=hb) wa (w7.setCell ⟨hb,i*5+4,none⟩ (Value.slice (some ⟨lb,0,none⟩) xl xl))):=hid ((Kept.of_below (by rw[HLB.out];exact HBL.out) (fun j=>j=hb)).setCell (p:=⟨hb,i*5+4,none⟩) (fun _=>rfl) _)
   have HY8:Hid (Below hb w2 (w7.setCell ⟨hb,i*5+4,none⟩ (Value.slice (some ⟨lb,0,none⟩) xl xl))):=hid ((HYa.out.trans (HBL.out.mono (by have:=HN7.out.1;omega))).setCell (p:=⟨hb,i*5+4,none⟩) (Nat.le_refl hb) _)
   have HL8:Hid (Blk (w7.setCell ⟨hb,i*5+4,none⟩ (Value.slice (some ⟨lb,0,none⟩) xl xl)) lb 3 (intG ((subGi l x).l.take 0++List.replicate ((subGi l x).l.length-0) 0))):=hid (by
    have e:madeCells #[Value.int .i64 0] xl=intG ((subGi l x).l.take 0++List.replicate ((subGi l x).l.length-0) 0):=by
     apply Array.ext'
     rw[toList_madeCells_one,intG];unfold subGi;simp[HXL.out]
    rw[← e];exact HBK.out.far (p:=⟨hb,i*5+4,none⟩) (fun e=>HN7.out.2 e) _)
   clear HBK HBL HQ7 HYa HQa;generalize w7.setCell ⟨hb,i*5+4,none⟩ (Value.slice (some ⟨lb,0,none⟩) xl xl)=w8 at HQ8 HK8 HY8 HL8 ⊢;have HB8:Hid (Below zb w w8):=hid (HB2.out.trans (HY8.out.mono (by have h1:=HHB.out;have h2:=HB2.out.size;have h3:=HZB.out;omega)))
   have g8:=gcell_below (w:=w) (w':=w8) (by rw[HZB.out];exact HB8.out) HY4.out
   clear g4 HBa;go_wp2_with fail
   clear g8
   go_loopw [54] (fun u54 wr=>∃ (k:Nat),k≤xl∧u54=.int .i64 (k:Int)∧Hid (FillB wr hb 54 (N*5) (gcells (gp++[(subGi l x,.slice KA x.keys.length kc,(Value.slice (some ⟨lb,0,none⟩) xl xl))])))∧Hid (Kept (fun j=>j=hb) wa wr)∧Hid (Below hb w2 wr)∧Hid (Blk wr lb 3 (intG ((subGi l x).l.take k++List.replicate ((subGi l x).l.length-k) 0)))) (fun u54 _=>xl-(intOf u54).toNat)
   case atStart=>exact⟨0,Nat.zero_le _,rfl,HQ8,HK8,HY8,HL8⟩
   case round =>
    clear HQ8 HK8 HY8 HL8 HB8;obtain⟨k,hk,rfl,HQk,HKk,HYk,HLk⟩:=hrel;obtain⟨wi,rfl⟩:∃ wi,wi=wr:=⟨_,rfl⟩;have HBi:Hid (Below zb w wi):=hid (HB2.out.trans (HYk.out.mono (by have h1:=HHB.out;have h2:=HB2.out.size;have h3:=HZB.out;omega)))
    by_cases hkl:k<xl
    ·have hkI:(k:Int)<(xl:Int):=by omega
     have hk0:(0:Int)≤(k:Int):=by omega
     obtain⟨y,hy⟩:∃ y,x.l[k]? = some y:=⟨_,List.getElem?_eq_getElem (by have:=HXL.out;omega)⟩
     have hyl:=HCLA.out y (List.mem_of_getElem? hy);have hy0:=HKI.out y (List.mem_of_getElem? hy);obtain⟨m,rfl⟩:∃ m:Nat,y=(m:Int):=⟨y.toNat,by omega⟩
     rw[Int.toNat_natCast] at hyl;have hmI:(m:Int)<(gn:Int):=by have:=HLT.out m hyl;omega
     have hm0:(0:Int)≤(m:Int):=by omega
     have hsl:(subGi l x).l[k]? = some ((l.idxOf m:Nat):Int):=by
      show(x.l.map fun c=>((l.idxOf c.toNat:Nat):Int))[k]? = _
      rw[List.getElem?_map,hy];rfl
     have HSET:=hid (take_set hsl);have hum:=HPR.out.on_ (l.idxOf m) m (at_idx hyl);obtain⟨ix,hix⟩:∃ ix,l.idxOf m=ix:=⟨_,rfl⟩;rw[hix] at hum HSET;have hubI:Blk wi ub 3 (intG u):=HUB.out.below (w':=wi) (by rw[HHB.out];exact HYk.out) HUB.out.lt
     have d0:wi.cell? ⟨ub,m,none⟩=some (.int .i64 (ix:Int)):=(hubI.cell m).trans (by rw[intG,List.getElem?_toArray,List.getElem?_map,hum];rfl)
     obtain⟨tb,to_,hTA,c0⟩:=rd_intG (HRL.out.below (w':=wi) (by rw[HZB.out];exact HBi.out)) hy
     have HTA:=hid hTA;rw[HTA.out];have hpp:(gp++[(subGi l x,Value.slice KA x.keys.length kc,(Value.slice (some ⟨lb,0,none⟩) xl xl))])[i]? = some (subGi l x,Value.slice KA x.keys.length kc,(Value.slice (some ⟨lb,0,none⟩) xl xl)):=by
      have h1:=HTL.out;rw[gcells_len] at h1;rw[List.getElem?_append_right (by omega),show i-gp.length=0 by omega];rfl
     have e0:wi.cell? ⟨hb,i*5+4,none⟩=some (Value.slice (some ⟨lb,0,none⟩) xl xl):=HQk.out.at (u:=(Value.slice (some ⟨lb,0,none⟩) xl xl)) (rowc_get Gp.cells 5 (fun _=>rfl) (gp++[(subGi l x,Value.slice KA x.keys.length kc,(Value.slice (some ⟨lb,0,none⟩) xl xl))]) i _ hpp 4 (Value.slice (some ⟨lb,0,none⟩) xl xl) rfl)
     clear hpp;obtain⟨z1,z1e⟩:∃ z,wi.cell? ⟨lb,k,none⟩=some z:=⟨_,(HLk.out.cell k).trans (intG_get (by rw[List.length_append,List.length_replicate,List.length_take];show k<min k (x.l.map _).length+((x.l.map _).length-k);rw[List.length_map,HXL.out];omega))⟩
     have fz:=HLk.out.frozen k;have hlb0:=HN7.out.1;clear hy hyl hy0 hsl hum hix hubI hTA
     go_upto_region 11 with(fail)
     clear c0;have hS:Below wi.heap.size wi wi.drew:=⟨rfl,rfl,rfl,Nat.le_refl _,fun _ _=>rfl⟩
     refine K_start 11 (fun u=>Below wi.heap.size wi u) (by kernel_rfl) ?_
     refine Kp 0 (fun _=>hS) ?_
     refine Kp 1 (fun _=>hS) ?_
     refine Kp 2 (fun _=>hS) ?_
     refine Kp 3 (fun _=>hS) ?_
     refine Kt 4 (hS:=hS) (hy:=fun uu hu=>by have e0_:=cell_below hu e0;go_simp;try with_reducible rfl) (h:=?_)
     refine Kp 5 (fun _=>hS) ?_
     refine Kp 6 (fun _=>hS) ?_
     refine Kp 7 (fun _=>hS) ?_
     refine Kp 8 (fun _=>hS) ?_
     refine Kt 9 (hS:=hS) (hy:=fun uu hu=>by have d0_:=cell_below hu d0;go_simp;try with_reducible rfl) (h:=?_)
     refine Kp 10 (fun _=>hS) ?_
     refine K_one (i:=11) (by kernel_rfl) rfl (fun K hK=>?_)
     go_simp
     refine hK _ _ (fun h=>absurd h (by decide)) ?_
     clear hK K z1e fz d0 e0;have HALL:Hid (FillB ((wi.setCell ⟨lb,k,none⟩ (.int .i64 (ix:Int))).drew) hb 54 (N*5) (gcells (gp++[(subGi l x,.slice KA x.keys.length kc,(Value.slice (some ⟨lb,0,none⟩) xl xl))]))∧Kept (fun j=>j=hb) wa ((wi.setCell ⟨lb,k,none⟩ (.int .i64 (ix:Int))).drew)∧Below hb w2 ((wi.setCell ⟨lb,k,none⟩ (.int .i64 (ix:Int))).drew)∧Blk ((wi.setCell ⟨lb,k,none⟩ (.int .i64 (ix:Int))).drew) lb 3 (intG ((subGi l x).l.take (k+1)++List.replicate ((subGi l x).l.length-(k+1)) 0))):=hid (by
      have hS2:Below (wi.setCell ⟨lb,k,none⟩ (.int .i64 (ix:Int))).heap.size (wi.setCell ⟨lb,k,none⟩ (.int .i64 (ix:Int))) (wi.setCell ⟨lb,k,none⟩ (.int .i64 (ix:Int))).drew:=⟨rfl,rfl,rfl,Nat.le_refl _,fun _ _=>rfl⟩
      have h1:=HQk.out.far HN7.out.2 (j:=k) (.int .i64 (ix:Int));have h2:=HLk.out.set_ k (.int .i64 (ix:Int));rw[intG_set,HSET.out] at h2;refine⟨h1.below hS2 h1.lt,(HKk.out.setCell (p:=⟨lb,k,none⟩) (fun h=>absurd h (by have:=HLB.out;show ¬ lb<wa.heap.size;omega)) _).drew,(HYk.out.setCell (p:=⟨lb,k,none⟩) (Nat.le_of_lt hlb0) _).drew,h2.below hS2 h2.lt⟩)
     clear hS HQk HKk HYk HLk HSET HBi;generalize (wi.setCell ⟨lb,k,none⟩ (.int .i64 (ix:Int))).drew=wk at HALL ⊢;refine K_done (by kernel_rfl) ?_
     go_wp2_with fail
     go_roundw
     case rel=>exact⟨k+1,by omega,by go_num,hid HALL.out.1,hid HALL.out.2.1,hid HALL.out.2.2.1,hid HALL.out.2.2.2⟩
     case measure=>simp[intOf];omega
    ·have hkx:k=xl:=by omega
     subst hkx;have hkI:¬((k:Int)<(k:Int)):=by omega
     have HGPn:Hid ((gp++[(subGi l x,Value.slice KA x.keys.length kc,Value.slice (some ⟨lb,0,none⟩) k k)]).map (·.1)=(subG g l).take (i+1)):=hid (by rw[List.map_append,HGP.out,HSUB.out];rfl)
     have HKn:Hid (∀ p∈gp++[(subGi l x,Value.slice KA x.keys.length kc,Value.slice (some ⟨lb,0,none⟩) k k)],KsR w p):=hid (fun p hp=>by
      rcases List.mem_append.1 hp with hp | hp
      ·exact HKi.out p hp
      ·rw[List.mem_singleton] at hp;subst hp;exact HKS.out)
     have HLn:Hid (∀ p∈gp++[(subGi l x,Value.slice KA x.keys.length kc,Value.slice (some ⟨lb,0,none⟩) k k)],LsB wi hb p):=hid (fun p hp=>by
      rcases List.mem_append.1 hp with hp | hp
      ·exact(HLa.out p hp).kept HKk.out (fun j hj e=>by omega)
      ·rw[List.mem_singleton] at hp;subst hp;have hlen:(subGi l x).l.length=k:=by show(x.l.map _).length=k;rw[List.length_map,HXL.out]
       refine⟨lb,HN7.out.1,by rw[hlen],by rw[hlen];exact hklI,?_⟩
       have:=HLk.out;rw[hlen,Nat.sub_self,List.replicate_zero,List.append_nil,← hlen,List.take_length] at this;exact this)
     clear HLa;go_wp2_with fail
     go_roundw
     case rel=>exact⟨i+1,_,by omega,by go_num,HGPn,HQk,HKn,HLn,HYk⟩
     case measure=>simp[intOf];omega
  ·have hiI:¬((i:Int)<(N:Int)):=by omega
   have hiN:i=N:=by omega
   subst hiN;have HGE:Hid (gp.map (·.1)=subG g l):=hid (by rw[HGP.out,← HN.out,← sub_len (g:=g),List.take_length])
   have hgsw:GsR ws (some ⟨hb,0,none⟩) (subG g l):=by
    rw[← HGE.out];exact gs_of HQi.out HKi.out (by rw[HZB.out];exact HBw.out) HLi.out
   have hcks:=check_sub HOK.out HCL.out HPR.out.nodup HPR.out.lt;have C2:=All_any (subG g l) (some ⟨hb,0,none⟩) i false ws hgsw (HK.out.next (by rw[HZB.out];exact HBw.out)) (by rw[sub_len,HN.out];omega) (texts_of hcks)
   have HCKS:=hid hcks;rw[sub_len,HN.out] at C2;clear hgsw hcks hiI;go_wp2_with fail
   refine C2.mono ?_;rintro r w9 ⟨hb9,hall⟩;rw[sub_len,HN.out] at hall;rcases hall with⟨hno,-⟩ | ⟨-,rb,q,uu,rfl,hsq,hu⟩
   ·exact absurd HCKS.out hno
   ·have HB9:Hid (Below zb w w9):=hid (HBw.out.trans (hb9.mono (by have h1:=HHB.out;have h2:=HB2.out.size;have h3:=HZB.out;have h4:=HYi.out.size;omega)))
    have HMX:=hid hsq.mx;have hy9:Below hb w2 w9:=HYi.out.trans (hb9.mono (by have:=HYi.out.size;have h1:=HHB.out;omega))
    have HZ9:=hid (HZ2.out.below (by rw[HHB.out];exact hy9) HZ2.out.lt)
    have HUB9:=hid (HUB.out.below (by rw[HHB.out];exact hy9) HUB.out.lt)
    have HU:=hid hu;have q0:=HZ9.out.cell 0;have q1:=HZ9.out.cell 1;simp at q0 q1;have f0:=HZ9.out.frozen 0;have f1:=HZ9.out.frozen 1;clear hb9 hsq hu hy9 HYi HQi HKi HLi;go_wp2_with fail
    clear q0 q1 f0 f1;have hq:=((HZ9.out.set_ 0 (.slice (some ⟨ub,0,none⟩) gn gn)).set_ 1 (.slice (some ⟨rb,0,none⟩) i i));have hbf:Below zb w ((w9.setCell ⟨zb,0,none⟩ (.slice (some ⟨ub,0,none⟩) gn gn)).setCell ⟨zb,1,none⟩ (.slice (some ⟨rb,0,none⟩) i i)):=(HB9.out.setCell (p:=⟨zb,0,none⟩) (Nat.le_refl zb) _).setCell (p:=⟨zb,1,none⟩) (Nat.le_refl zb) _;have hne1:rb≠zb:=blk_neT HMX.out.rows HZ9.out (by decide)
    have hne2:ub≠zb:=blk_neT HUB9.out HZ9.out (by decide)
    have hmx:Mx ((w9.setCell ⟨zb,0,none⟩ (.slice (some ⟨ub,0,none⟩) gn gn)).setCell ⟨zb,1,none⟩ (.slice (some ⟨rb,0,none⟩) i i)) i uu rb q:=⟨(HMX.out.rows.far (p:=⟨zb,0,none⟩) hne1 _).far (p:=⟨zb,1,none⟩) hne1 _,fun j hj=>by
     have hn:=blk_neT (HMX.out.row j hj) HZ9.out (by decide)
     exact((HMX.out.row j hj).far (p:=⟨zb,0,none⟩) hn _).far (p:=⟨zb,1,none⟩) hn _⟩
    have hub9:=(HUB9.out.far (p:=⟨zb,0,none⟩) hne2 (.slice (some ⟨ub,0,none⟩) gn gn)).far (p:=⟨zb,1,none⟩) hne2 (.slice (some ⟨rb,0,none⟩) i i);generalize (w9.setCell ⟨zb,0,none⟩ (.slice (some ⟨ub,0,none⟩) gn gn)).setCell ⟨zb,1,none⟩ (.slice (some ⟨rb,0,none⟩) i i)=wf at hq hbf hmx hub9 ⊢;simp at hq;have x0:=hq.cell 0;have x1:=hq.cell 1;simp at x0 x1;have HBF:=hid hbf;have HMF:=hid hmx;have HUF:=hid hub9;clear hq hbf hmx hub9 hne1 hne2;refine bodyPost_ret (v:=.agg #[.slice (some ⟨ub,0,none⟩) gn gn,.slice (some ⟨rb,0,none⟩) i i]) (by simp[results,Tryz.results79,go_sem,x0,x1,Tryz.isAgg79,Tryz.sizeOf79]) rfl ?_
    refine⟨_,_,_,u,rb,i,q,uu,l,rfl,⟨?_,by rw[HPR.out.len,HGN.out],HMF.out⟩,by rw[HZB.out];exact HBF.out,HCL.out,by rw[HGN.out];exact HLT.out,HIN.out,fun a ha=>?_,fun a b pa pb ha hb hpa hpb ia ib=>?_⟩
    ·exact fun _=>⟨ub,0,rfl,fun j v hj=>by
      rw[Nat.zero_add,HUF.out.cell j,intG,List.getElem?_toArray,← flat_int];exact hj⟩
    ·have h1:=at_idx ha;exact⟨l.idxOf a,HPR.out.on_ _ _ h1,by have:=(List.getElem?_eq_some_iff.1 h1).1;rw[HN.out] at this;exact this⟩
    ·have e1:=HPR.out.on_ _ _ (at_idx ha);have e2:=HPR.out.on_ _ _ (at_idx hb);rw[hpa] at e1;rw[hpb] at e2;injection e1 with e1
     injection e2 with e2
     have e1':pa=l.idxOf a:=by omega
     have e2':pb=l.idxOf b:=by omega
     have h1:=HU.out pa pb ia ib;rw[e1',e2',gr_sub HOK.out HCL.out HPR.out.nodup HPR.out.lt ha hb] at h1;rw[← e1',← e2'] at h1;have h2:=grU_iff (g:=g) (a:=a) (b:=b);have h3:=HPR.out.lt a ha;have h4:=HPR.out.lt b hb;cases hg1:grU g a b with
     | true=>exact h1.2 (h2.1 hg1).2.2
     | false =>
      cases hg2:uu pa pb with
      | false=>rfl
      | true =>
       have:=h2.2 ⟨h3,h4,h1.1 hg2⟩;rw[hg1] at this;cases this
end FM
end
section
open Lib (hid)
open Go.RowKit
namespace FM
open CM (nd kids)
open SM
def NewOut (g:List Gi)(ps:List (Int × Int))(w:World)(r:Ending)(w':World):Prop:=
 ∃ (s:Sl) (R:List Nat) (pl:List Int) (q:Nat→Nat) (u:Nat→Nat→Bool),r=.returned (.pointer (some ⟨s.sb,0,none⟩))∧Below w.heap.size w w'∧SrS w' s g R pl q u∧Blk w' s.sb 82 (s.cells (.slice none 0 0))∧MpF w' s.mb []∧w.heap.size≤s.sb∧w.heap.size≤s.mb∧∀ x∈ps,x.1.toNat∈R∧x.2.toNat∈R
theorem map_cell {w:World}{b j:Nat}{es:Array MapEntry}{cl:Nat}(h:w.heap[b]? = some (.map es cl)):w.cell? ⟨b,j,none⟩=none:=by
 simp[World.cell?,h]
theorem nop_of {w:World}{s:Sl}{v:Value}(hv:∃ A n c,v=.slice A n c)(hb:Blk w s.sb 82 (s.cells v)){es:Array MapEntry}{cl:Nat}(hm:w.heap[s.mb]? = some (.map es cl)):NoP w s.P:=by
 obtain⟨A,n,c,rfl⟩:=hv;have hc:∀ j y,w.cell? ⟨s.sb,j,none⟩=some y→(∃ A n c,y=.slice A n c)∨∃ m,y=.map m:=fun j y h=>by
  rw[hb.cell j] at h;unfold Sl.cells at h
  match j,h with
  | 0,h=>exact .inl ⟨_,_,_,(Option.some.inj h).symm⟩
  | 1,h=>exact .inl ⟨_,_,_,(Option.some.inj h).symm⟩
  | 2,h=>exact .inl ⟨_,_,_,(Option.some.inj h).symm⟩
  | 3,h=>exact .inr ⟨_,(Option.some.inj h).symm⟩
  | 4,h=>exact .inl ⟨_,_,_,(Option.some.inj h).symm⟩
  | j+5,h=>simp at h
 have key:∀ b j y,w.cell? ⟨b,j,none⟩=some y→(∀ A n c,y ≠ .slice A n c)→(∀ m,y ≠ .map m)→¬ s.P b:=fun b j y h h1 h2 hp=>by
  rcases hp with rfl | rfl
  ·rcases hc j y h with⟨A,n,c,e⟩ | ⟨m,e⟩
   ·exact h1 _ _ _ e
   ·exact h2 _ e
  ·rw[map_cell hm] at h;cases h
 have keyB:∀ b t cs,Blk w b t cs→t≠82→¬ s.P b:=fun b t cs h ht hp=>by
  rcases hp with rfl | rfl
  ·exact blk_neT h hb ht rfl
  ·unfold Blk at h;rw[hm] at h;cases h
 exact⟨fun b j z h=>key b j _ h (fun _ _ _ e=>by cases e) (fun _ e=>by cases e),fun b j z h=>key b j _ h (fun _ _ _ e=>by cases e) (fun _ e=>by cases e),fun b cs h=>keyB b _ cs h (by decide),fun b cs h=>keyB b _ cs h (by decide)⟩
set_option maxRecDepth 100000 in
set_option maxHeartbeats 16000000 in
theorem newSearch_any (A PA:Option Addr)(c pc:Nat)(g:List Gi)(ps:List (Int × Int))(w:World)(hk:Gnd w)(hok:checkG g=0)(hg:GsR w A g)(hp:PaR w PA ps)(hpl:(ps.length:Int)≤9223372036854775807)(hpi:∀ x∈ps,exI g.length x.1=true∧exI g.length x.2=true) :
  Calls Tryz.prog 56 #[.slice A g.length c,.slice PA ps.length pc] w (NewOut g ps w):=by
 have C1:=newBelow_any A PA c pc g ps w hk hok hg hp hpl hpi;have HG:=hid hg;have HOK:=hid hok;obtain⟨gn,hgn⟩:∃ gn,g.length=gn:=⟨_,rfl⟩;have HGN:=hid hgn;obtain⟨pn,hpn⟩:∃ pn,ps.length=pn:=⟨_,rfl⟩;rw[hgn,hpn] at C1 ⊢;clear hk hok hg hp hpl hpi hgn hpn;go_enter Tryz.func56,Tryz.ntmps56
 go_wp2_with fail
 refine C1.mono ?_;rintro r w1 ⟨PL,pn2,pc2,pl,rb,n,q,u,l,rfl,hbw,hb1,hcl,hlt,hin,hat,hsay⟩;have HBW:=hid hbw;have HB1:=hid hb1;have HCL:=hid hcl;have HLT:=hid hlt;have HIN:=hid hin;have HAT:=hid hat;have HSAY:=hid hsay;clear hbw hb1 hcl hlt hin hat hsay C1;have hmk:(Instr.makeMap 80 none).run Tryz.prog w1=.ok (.map (some w1.heap.size)) (w1.alloc (.map #[] 0)):=rfl;have ham:=alloc_belowH w1 (.map #[] 0);have hmm:(w1.alloc (.map #[] 0)).heap[w1.heap.size]? = some (.map #[] 0):=heap_alloc_new w1 _;have hsz:(w1.alloc (.map #[] 0)).heap.size=w1.heap.size+1:=by simp
 obtain⟨mb,hmb⟩:∃ mb,w1.heap.size=mb:=⟨_,rfl⟩;have HMB:=hid hmb;rw[hmb] at hmk ham hmm hsz;have hsb:=Blk.new (w1.alloc (.map #[] 0)) 82 #[.slice A gn c,.slice PL pn2 pc2,.slice (some ⟨rb,0,none⟩) n n,.map (some mb),.slice none 0 0];have has:=alloc_belowH (w1.alloc (.map #[] 0)) (.cells #[.slice A gn c,.slice PL pn2 pc2,.slice (some ⟨rb,0,none⟩) n n,.map (some mb),.slice none 0 0] 82);rw[hsz] at hsb has;obtain⟨sb,hsbe⟩:∃ sb,mb+1=sb:=⟨_,rfl⟩;have HSB:=hid hsbe;rw[hsbe] at hsb has;have hmm2:((w1.alloc (.map #[] 0)).alloc (.cells #[.slice A gn c,.slice PL pn2 pc2,.slice (some ⟨rb,0,none⟩) n n,.map (some mb),.slice none 0 0] 82)).heap[mb]? = some (.map #[] 0):=(has.block mb (by omega)).trans hmm
 have hb2:Below mb w1 ((w1.alloc (.map #[] 0)).alloc (.cells #[.slice A gn c,.slice PL pn2 pc2,.slice (some ⟨rb,0,none⟩) n n,.map (some mb),.slice none 0 0] 82)):=ham.trans (has.mono (by omega))
 have HNEQ:Hid (sb≠mb∧w.heap.size≤mb∧w.heap.size≤sb):=hid (by have h1:=HB1.out.size;have h2:=HMB.out;omega)
 have HBK:=hid hsb;have HM2:=hid hmm2;have HB2:=hid hb2;clear ham hmm hsz hsb has hmm2 hb2;go_wp2_with fail
 generalize (w1.alloc (.map #[] 0)).alloc (.cells #[.slice A gn c,.slice PL pn2 pc2,.slice (some ⟨rb,0,none⟩) n n,.map (some mb),.slice none 0 0] 82)=w3 at HBK HM2 HB2 ⊢
 go_ret
 have hbe:Below w.heap.size w w3:=HB1.out.trans (HB2.out.mono HNEQ.out.2.1);have hb3:Below w1.heap.size w1 w3:=by rw[HMB.out];exact HB2.out
 refine⟨⟨sb,mb,A,gn,c,PL,pn2,pc2,rb,n⟩,l,pl,q,u,rfl,hbe,⟨HG.out.below hbe,HGN.out,HOK.out,HBW.out.below hb3,nop_of (v:=.slice none 0 0) ⟨_,_,_,rfl⟩ HBK.out HM2.out,HNEQ.out.1,HCL.out,HLT.out,HAT.out,HSAY.out⟩,HBK.out,⟨#[],0,HM2.out,⟨List.nodup_nil,(fun q hq=>by cases hq),rfl,(fun i q hq=>by cases hq)⟩⟩,HNEQ.out.2.2,HNEQ.out.2.1,HIN.out⟩
end FM
end
section
open Lib (hid)
open Go.RowKit
namespace FM
open CM (nd kids)
open SM
def pC (p:Int × Int):List Value:=[.int .i64 p.1,.int .i64 p.2]
def OwnP (w:World)(B:Nat)(v:Value)(ps:List (Int × Int)):Prop:=w.ownsRow B 39 2 v ps.length (ps.flatMap pC)
theorem OwnP.nil (w:World)(B:Nat):OwnP w B (.slice none 0 0) []:=⟨rfl,.inl ⟨rfl,rfl⟩⟩
theorem OwnP.below {w w':World}{B:Nat}{v:Value}{ps:List (Int × Int)}(h:OwnP w B v ps)(hb:Below w.heap.size w w'):OwnP w' B v ps:=own_keptG h (Kept.of_below hb (fun _=>False)) (fun _ _ h=>h)
theorem pairs_at:∀(ps:List (Int × Int)) (i:Nat) (x:Int × Int),ps[i]? = some x→(ps.flatMap pC)[i*2]? = some (.int .i64 x.1)∧(ps.flatMap pC)[i*2+1]? = some (.int .i64 x.2)
 | [],i,x,h=>by cases h
 | p::ps,0,x,h=>by
  have e:p=x:=Option.some.inj h;subst e;exact⟨rfl,rfl⟩
 | p::ps,i+1,x,h=>by
  have h1:=pairs_at ps i x h;have e:(i+1)*2=i*2+1+1:=by omega
  rw[e];exact h1
theorem OwnP.rd {w:World}{B:Nat}{v:Value}{ps:List (Int × Int)}(h:OwnP w B v ps):∃ A c,v=.slice A ps.length c∧ps.length≤c∧(c:Int)≤9223372036854775807∧PaR w A ps:=by
 obtain⟨A,c,e,hc,hc2,hr⟩:=(RowB.of_own h).rd;refine⟨A,c,e,hc,hc2,fun h0=>?_⟩
 have hl:0<(ps.flatMap pC).length:=by
  obtain⟨x,hx⟩:∃ x,ps[0]? = some x:=⟨_,List.getElem?_eq_getElem h0⟩;have:=(List.getElem?_eq_some_iff.1 (pairs_at ps 0 x hx).1).1;omega
 obtain⟨b,o,hA,hx⟩:=hr hl;exact⟨b,o,hA,fun i x hi=>⟨hx _ _ (pairs_at ps i x hi).1,by have:=hx _ _ (pairs_at ps i x hi).2;rwa [← Nat.add_assoc] at this⟩⟩
theorem step_pushP (w:World){ops:Array Oper}{o:Oper}{a:Go.Act}{K:Go.Act→World→Prop}{Q:Exit→Go.Act→World→Prop}{E:Prop}(hgd:o.guard=none)(s x:Operand)
  (hop:o.op=Op.call { callee:=Callee.builtin Builtin.append,args := #[s,x],argTypes := #[34,34] })
  (B:Nat)(v:Value)(ps:List (Int × Int))(p:Int × Int)(eb:Nat)(hs:a.eval s=v)(hown:OwnP w B v ps)(hx:a.eval x=.slice (some ⟨eb,0,none⟩) 1 1)(hc:Blk w eb 39 #[.int .i64 p.1,.int .i64 p.2])(hlen:ps.length≤100000000000)(hbase:B≤w.heap.size)
  (h:∀ gg cap w',OwnP w' B (.slice (some ⟨gg,0,none⟩) (ps.length+1) cap) (ps++[p])→w.grownBy w' v.ownBlock→K (a.put o.dst (.slice (some ⟨gg,0,none⟩) (ps.length+1) cap)) w') :
  if Region.wanted o (yielded ops a.tmps)=true then Oper.wp Tryz.prog o a w K Q else E:=by
 have hinfo:(Tryz.prog.info? 39).map (fun i=>(i.zero,i.size,i.bytes))=some (some (.agg #[.int .i64 0,.int .i64 0]),2,16):=by kernel_rfl
 obtain⟨i0,hi,hz0,hz1,hz2⟩:=info_parts hinfo;refine step_append_lies w hgd s x 34 hop B 39 i0 (.agg #[.int .i64 0,.int .i64 0]) 2 16 Tryz.underlying34 hi hz0 hz1 hz2 rfl (by decide) v ps.length (ps.flatMap pC) hs hown ⟨eb,0,none⟩ 1 1 (pC p) hx rfl ?_ ?_ (by decide) (by unfold maxLen;omega) (by omega) hbase w.heap.size rfl ?_
 ·intro j u hj;rw[addr_lit,Nat.zero_add,hc.cell j];exact(List.getElem?_toArray ..).trans hj
 ·intro u hu;unfold pC at hu;simp only[List.mem_cons,List.not_mem_nil,or_false] at hu;rcases hu with rfl | rfl<;>rfl
 ·intro gg cap w' h4 h5 h6 h7;refine h gg cap w' ?_ h5;unfold OwnP;rw[List.flatMap_append,List.length_append]
  simpa using h4
def bringP (n:Nat)(x:Int × Int):Int × Int:=(bringG x.1 n,bringG x.2 n)
def pairsB (n:Nat)(l:List (Int × Int)):List (Int × Int):=(l.take 8).map (bringP n)
theorem pairsB_len (n:Nat)(l:List (Int × Int)):(pairsB n l).length≤8:=by unfold pairsB;rw[List.length_map,List.length_take];omega
theorem pairsB_in {n:Nat}(hn:0<n)(l:List (Int × Int)):∀ p∈pairsB n l,exI n p.1=true∧exI n p.2=true:=fun p hp=>by
 unfold pairsB at hp;obtain⟨x,_,rfl⟩:=List.mem_map.1 hp;exact⟨exI_iff.2 (bringG_nat x.1 n (by omega)),exI_iff.2 (bringG_nat x.2 n (by omega))⟩
set_option maxRecDepth 100000 in
set_option maxHeartbeats 16000000 in
theorem pairsOf_any (GA LA:Option Addr)(n gc lc:Nat)(l:List (Int × Int))(w:World)(hn0:0<n)(hnl:(n:Int)≤9223372036854775807)(hl:(l.length:Int)≤9223372036854775807)(hr:PaR w LA l) :
  Calls Tryz.prog 31 #[.slice GA n gc,.slice LA l.length lc] w fun r w'=>∃ v,r=.returned v∧OwnP w' w.heap.size v (pairsB n l)∧Below w.heap.size w w':=by
 have HR:=hid hr;have hn0I:(0:Int)<(n:Int):=by omega
 obtain⟨m,hm⟩:∃ m,l.length=m:=⟨_,rfl⟩;have HM:=hid hm;rw[hm] at hl ⊢;obtain⟨B,hB⟩:∃ B,w.heap.size=B:=⟨_,rfl⟩;have HBB:=hid hB;have HB0:Hid (Below B w w):=hid (Below.refl _ _);rw[hB];clear hr hm hB;go_enter Tryz.func31,Tryz.ntmps31
 go_wp2_with fail
 go_loopw [5,6] (fun u5 u6 wr=>∃ (k vc:Nat) (VA:Option Addr),k≤m∧k≤8∧u5=.slice VA k vc∧u6=.int .i64 (k:Int)∧Hid (OwnP wr B (.slice VA k vc) ((l.take k).map (bringP n)))∧Hid (Below B w wr)) (fun _ u6 _=>8-(intOf u6).toNat)
 case atStart=>exact⟨0,0,none,Nat.zero_le _,by decide,rfl,rfl,hid (OwnP.nil _ _),HB0⟩
 case round =>
  obtain⟨k,vc,VA,hk,hk8,rfl,rfl,HOW,HB⟩:=hrel;obtain⟨ws,rfl⟩:∃ ws,ws=wr:=⟨_,rfl⟩;by_cases hlt:k<m
  ·have hkI:(k:Int)<(m:Int):=by omega
   by_cases h8:k<8
   ·have hk3:(k:Int)<8:=by omega
    obtain⟨x,hx⟩:∃ x,l[k]? = some x:=⟨_,List.getElem?_eq_getElem (by have:=HM.out;omega)⟩
    have HX:=hid hx;obtain⟨b,o,hA,c0,c1⟩:=(HR.out.below (by rw[HBB.out];exact HB.out)).at_ hx
    subst hA;obtain⟨p0,hp0⟩:∃ p0,(l.take k).map (bringP n)=p0:=⟨_,rfl⟩;have HP0:=hid hp0;rw[hp0] at HOW;have HKL:Hid (p0.length=k):=hid (by rw[← hp0,List.length_map,List.length_take,HM.out];omega)
    clear hp0;have HBS:Hid (B≤ws.heap.size):=hid (by have h:=HB.out.size;rw[HBB.out] at h;exact h)
    clear hx
    go_upto_region 5 with(fail)
    apply K_startV (J:=fun _ V1 d1 w9=>OwnP w9 B (.slice V1 (k+1) d1) (p0++[(bringG x.1 n,bringG x.2 n)])∧Below B w w9) (k:=19) (S:=fun u=>Below ws.heap.size ws u) (hm:=by kernel_rfl)
    case h =>
     have hS:Below ws.heap.size ws ws.drew:=⟨rfl,rfl,rfl,Nat.le_refl _,fun _ _=>rfl⟩
     refine Kp 0 (fun _=>hS) ?_
     refine Kp 1 (fun _=>hS) ?_
     refine Kp 2 (fun _=>hS) ?_
     refine Kp 3 (fun _=>hS) ?_
     refine Kp 4 (fun _=>hS) ?_
     refine Kn 5 [18,17,8] (hS:=hS) (hy:=fun uu hu=>by have c0_:=cell_below hu c0;go_simp;try with_reducible rfl) (h:=?_)
     refine Kp 6 (fun _=>hS) ?_
     refine Kp 7 (fun _=>hS) ?_
     refine Kp 9 (fun _=>hS) ?_
     refine Kp 10 (fun _=>hS) ?_
     refine Kp 11 (fun _=>hS) ?_
     refine Kp 12 (fun _=>hS) ?_
     refine Kn 13 [18,17,16] (hS:=hS) (hy:=fun uu hu=>by have c1_:=cell_below hu c1;go_simp;try with_reducible rfl) (h:=?_)
     refine Kp 14 (fun _=>hS) ?_
     refine Kp 15 (fun _=>hS) ?_
     generalize hwd:ws.drew=wd at hS ⊢;clear hwd;refine K_one (i:=8) (by kernel_rfl) rfl (fun K hK=>?_)
     go_simp
     go_at_call 33
     refine(bringG_any x.1 n _ hn0I hnl).mono ?_;rintro e wA ⟨rfl,rfl⟩;refine hK _ _ (fun _=>hS) ?_
     clear hK K;refine K_one (i:=16) (by kernel_rfl) rfl (fun K hK=>?_)
     go_simp
     go_at_call 33
     refine(bringG_any x.2 n _ hn0I hnl).mono ?_;rintro e wA ⟨rfl,rfl⟩;refine hK _ _ (fun _=>hS) ?_
     clear hK K;refine Kp 17 (fun _=>hS) ?_
     refine K_one (i:=18) (by kernel_rfl) rfl (fun K hK=>?_)
     go_simp
     have hS2:Below ws.heap.size ws (wd.alloc (.cells #[.int .i64 (bringG x.1 n),.int .i64 (bringG x.2 n)] 39)):=hS.trans ((one_boxS wd (.cells #[.int .i64 (bringG x.1 n),.int .i64 (bringG x.2 n)] 39)).mono hS.size);refine hK _ _ (fun _=>hS2) ?_
     have hbe:Blk (wd.alloc (.cells #[.int .i64 (bringG x.1 n),.int .i64 (bringG x.2 n)] 39)) wd.heap.size 39 #[.int .i64 (bringG x.1 n),.int .i64 (bringG x.2 n)]:=Blk.new wd 39 #[.int .i64 (bringG x.1 n),.int .i64 (bringG x.2 n)];obtain⟨eb,heb⟩:∃ eb,wd.heap.size=eb:=⟨_,rfl⟩;rw[heb] at hbe
     try rw[heb]
     clear hK K hS heb;generalize wd.alloc (.cells #[.int .i64 (bringG x.1 n),.int .i64 (bringG x.2 n)] 39)=wB at hS2 hbe ⊢;have hS:=hS2;clear hS2;refine K_one (i:=19) (by kernel_rfl) rfl (fun K hK=>?_)
     refine step_pushP _ (by rfl) _ _ (by rfl) B (.slice VA k vc) p0 (bringG x.1 n,bringG x.2 n) eb (by rfl) (HOW.out.below hS) (by rfl) hbe (by have:=HKL.out;omega) (by have h1:=hS.size;have h2:=HBS.out;omega) ?_
     intro gg cap w5 ho5 hk5;refine hK _ _ (fun h=>absurd h (by decide)) ?_
     rw[HKL.out] at ho5 ⊢;obtain⟨VV,hVV⟩:∃ VV,(some ⟨gg,0,none⟩:Option Addr)=VV:=⟨_,rfl⟩;rw[hVV] at ho5 ⊢;clear hVV
     go_simp
     have hb5:Below B w w5:=(HB.out.trans (hS.mono HBS.out)).grown hk5 (by have:=hS.size;have:=HBS.out;omega) (fun i e=>(own_ltG HOW.out e).1)
     clear hK K hbe hk5 hS;refine Kp 20 (fun h=>by exact absurd h (by decide)) ?_
     refine K_done (by kernel_rfl) ?_
     exact⟨eb,_,_,rfl,ho5,hb5⟩
    case h2 =>
     rintro eb V1 d1 w5 ⟨ho5,hb5⟩;have HO5:Hid (OwnP w5 B (.slice V1 (k+1) d1) ((l.take (k+1)).map (bringP n))):=hid (by
      rw[List.take_add_one,HX.out,List.map_append,HP0.out];exact ho5)
     have HB5:=hid hb5;clear ho5 hb5;go_wp2_with fail
     go_roundw
     case rel=>exact⟨k+1,_,_,by omega,by omega,rfl,by go_num,HO5,HB5⟩
     case measure=>simp[intOf];omega
   ·have hk3:¬((k:Int)<8):=by omega
    have he:k=8:=by omega
    have HFE:Hid ((l.take k).map (bringP n)=pairsB n l):=hid (by rw[he];rfl)
    clear he;go_wp2_with fail
    go_ret
    exact⟨_,rfl,by rw[← HFE.out];exact HOW.out,HB.out⟩
  ·have hkI:¬((k:Int)<(m:Int)):=by omega
   have HFE:Hid ((l.take k).map (bringP n)=pairsB n l):=hid (by
    have h1:=HM.out;unfold pairsB;rw[List.take_of_length_le (by omega),List.take_of_length_le (by omega)])
   go_wp2_with fail
   go_ret
   exact⟨_,rfl,by rw[← HFE.out];exact HOW.out,HB.out⟩
end FM
end
end Go.Proofs.YtfigdflcoaepaaaGreatDoor
