/- Contracts and plain facts that the theorem rests on: SIns, SAdd, SUse, SKnowP, SKnow. -/
import Derived.Test.YtfigdflcoaepaaaGreatDoorZV9
import Derived.Lib.Overlaps
import Derived.Lib.AppendZeros
import Derived.Lib.AppendZerosOnto
import Derived.Laws.IdiomCopy
import Derived.Shelf.Spec.SlicesInsert
import Derived.Test.YtfigdflcoaepaaaGreatDoorZV2
set_option linter.unusedSimpArgs false
set_option linter.unusedVariables false
namespace Go.Proofs.YtfigdflcoaepaaaGreatDoor
section
open Lib (hid)
open Go.RowKit
namespace SM
open CM (nd kids)
def setArr (cur:Array Value):Nat→List Value→Array Value
 | _,[]=>cur
 | o,c::cs=>setArr (cur.setIfInBounds o c) (o+1) cs
theorem heap_setCells (g:Nat)(t:TypeId):∀(cs:List Value) (o:Nat) (cur:Array Value) (w:World),w.heap[g]? = some (.cells cur t (0,0))→(w.setCells g o cs).heap[g]? = some (.cells (setArr cur o cs) t (0,0))
 | [],_,_,_,h=>h
 | c::cs,o,cur,w,h=>by
  show((w.setCell ⟨g,o,none⟩ c).setCells g (o+1) cs).heap[g]? = _
  exact heap_setCells g t cs (o+1) _ _ (heap_setCell_same w g o cur t c h)
theorem heap_setCells_far (g:Nat):∀(cs:List Value) (o:Nat) (w:World) (k:Nat),k≠g→(w.setCells g o cs).heap[k]? = w.heap[k]?
 | [],_,_,_,_=>rfl
 | c::cs,o,w,k,h=>by
  show((w.setCell ⟨g,o,none⟩ c).setCells g (o+1) cs).heap[k]? = _
  rw[heap_setCells_far g cs (o+1) _ k h];exact Below.heap_setCell w ⟨g,o,none⟩ c k h
theorem setCells_rest (g:Nat):∀(cs:List Value) (o:Nat) (w:World),(w.setCells g o cs).os=w.os∧(w.setCells g o cs).tape=w.tape∧(w.setCells g o cs).output=w.output∧(w.setCells g o cs).heap.size=w.heap.size
 | [],_,_=>⟨rfl,rfl,rfl,rfl⟩
 | c::cs,o,w=>by
  have:=setCells_rest g cs (o+1) (w.setCell ⟨g,o,none⟩ c);refine⟨this.1,this.2.1,this.2.2.1,this.2.2.2.trans ?_⟩;simp[World.setCell]
theorem setCells_grown (g:Nat)(cs:List Value)(o:Nat)(w:World):w.grownBy (w.setCells g o cs) (some g):=by
 obtain⟨h1,h2,h3,h4⟩:=setCells_rest g cs o w;exact⟨h1,h2,h3,Nat.le_of_eq h4.symm,fun k _ hk=>heap_setCells_far g cs o w k fun e=>hk (by rw[e])⟩
theorem setArr_list:∀(cs:List Value) (o:Nat) (cur:Array Value),o+cs.length≤cur.size→(setArr cur o cs).toList=cur.toList.take o++cs++cur.toList.drop (o+cs.length)
 | [],o,cur,_=>by simp[setArr]
 | c::cs,o,cur,h=>by
  simp only[List.length_cons] at h;have ih:=setArr_list cs (o+1) (cur.setIfInBounds o c) (by rw[Array.size_setIfInBounds];omega)
  show(setArr (cur.setIfInBounds o c) (o+1) cs).toList=_
  rw[ih,Array.toList_setIfInBounds];have ho:o<cur.size:=by omega
  have e1:(cur.toList.set o c).take (o+1)=cur.toList.take o++[c]:=by
   rw[List.take_add_one,List.take_set_of_le (Nat.le_refl o),List.getElem?_set];simp[ho]
  have e2:(cur.toList.set o c).drop (o+1+cs.length)=cur.toList.drop (o+(cs.length+1)):=by
   rw[List.drop_set_of_lt (by omega)]
   congr 1
   omega
  rw[e1,e2];simp
theorem setArr_size:∀(cs:List Value) (o:Nat) (cur:Array Value),(setArr cur o cs).size=cur.size
 | [],_,_=>rfl
 | c::cs,o,cur=>(setArr_size cs (o+1) _).trans (Array.size_setIfInBounds ..)
theorem ins_shift (xs:List Value)(c0 c1:Value)(cur:Array Value)(n i:Nat)(hx:xs.length=n*2)(ht:cur.toList.take (n*2)=xs)(hs:(n+1)*2≤cur.size)(hi:i≤n) :
  (setArr (setArr cur ((i+1)*2) (xs.drop (i*2))) (i*2) [c0,c1]).toList.take ((n+1)*2)=xs.take (i*2)++[c0,c1]++xs.drop (i*2):=by
 have hd:(xs.drop (i*2)).length=n*2-i*2:=by rw[List.length_drop,hx]
 have hl:cur.toList.length=cur.size:=Array.length_toList;rw[setArr_list _ _ _ (by rw[setArr_size];simp;omega),setArr_list _ _ _ (by rw[hd];omega)]
 have e1:(cur.toList.take ((i+1)*2)++xs.drop (i*2)++cur.toList.drop ((i+1)*2+(xs.drop (i*2)).length)).take (i*2)=xs.take (i*2):=by
  rw[List.append_assoc,List.take_append_of_le_length (by rw[List.length_take];omega),List.take_take,← ht,List.take_take]
  congr 1
  omega
 have e2:(cur.toList.take ((i+1)*2)++xs.drop (i*2)++cur.toList.drop ((i+1)*2+(xs.drop (i*2)).length)).drop (i*2+[c0,c1].length)=xs.drop (i*2)++cur.toList.drop ((i+1)*2+(xs.drop (i*2)).length):=by
  rw[List.append_assoc,show i*2+[c0,c1].length=(cur.toList.take ((i+1)*2)).length by rw[List.length_take];simp;omega,List.drop_left]
 rw[e1,e2,← List.append_assoc,List.take_append_of_le_length (by simp only[List.length_append,List.length_take,hd,hx,List.length_cons,List.length_nil];omega),List.take_of_length_le (by simp only[List.length_append,List.length_take,hd,hx,List.length_cons,List.length_nil];omega)]
theorem ins_grow (xs:List Value)(c0 c1:Value)(cur:Array Value)(n i:Nat)(hx:xs.length=n*2)(ht:cur.toList.take (i*2)=xs.take (i*2))(hs:(n+1)*2≤cur.size)(hi:i≤n) :
  (setArr (setArr cur (i*2) [c0,c1]) ((i+1)*2) (xs.drop (i*2))).toList.take ((n+1)*2)=xs.take (i*2)++[c0,c1]++xs.drop (i*2):=by
 have hd:(xs.drop (i*2)).length=n*2-i*2:=by rw[List.length_drop,hx]
 have hl:cur.toList.length=cur.size:=Array.length_toList;rw[setArr_list _ _ _ (by rw[setArr_size,hd];omega),setArr_list _ _ _ (by simp;omega)]
 have e1:(cur.toList.take (i*2)++[c0,c1]++cur.toList.drop (i*2+[c0,c1].length)).take ((i+1)*2)=xs.take (i*2)++[c0,c1]:=by
  rw[ht,show(i+1)*2=(xs.take (i*2)++[c0,c1]).length by rw[List.length_append,List.length_take];simp;omega,List.take_left]
 rw[e1,List.take_append_of_le_length (by simp only[List.length_append,List.length_take,hd,hx,List.length_cons,List.length_nil];omega),List.take_of_length_le (by simp only[List.length_append,List.length_take,hd,hx,List.length_cons,List.length_nil];omega)]
theorem run_copy_cellsN {P:Program}(w:World)(dT sT ty elem:TypeId)(size b o dLen dCap:Nat)(a:Addr)(sLen sCap m:Nat)(cs:List Value)
  (hu:P.underlying dT=some (.slice elem))(hs:(P.info? elem).map (·.size)=some size)(hn:Nat.min sLen dLen=m)(hcl:cs.length=m*size)
  (hsrc:∀ j v,cs[j]? = some v→w.cell? (a.add j)=some v)(hc:∀ j,j<cs.length→(w.cell? ⟨b,o+j,none⟩).isSome=true)(hf:∀ j,j<cs.length→w.frozen? ⟨b,o+j,none⟩=false)(h1:∀ v∈cs,v.oneCell'=true) :
  (Builtin.copy_ #[dT,sT] ty #[.slice (some ⟨b,o,none⟩) dLen dCap,.slice (some a) sLen sCap]).run P w=.ok (goInt m) (w.setCells b o cs):=by
 have hl:=run_loadCells_list (P:=P) w a cs hsrc;have hst:=run_storeCells_cells (P:=P) b o cs 0 w (by simpa using hc) (by simpa using hf) h1
 cases hq:P.info? elem with
 | none=>simp[hq] at hs
 | some i =>
  have hi:i.size=size:=by simpa [hq] using hs
  rw[hcl] at hl;simp[Builtin.copy_,run_underlying hu,Builtin.lenOf,Builtin.firstCells,sizeOf,typeInfo,hq,hi,hn,hl,hst]
theorem info_users:(Tryz.prog.info? 166).map (fun i=>(i.zero,i.size,i.bytes))=some (some (.agg #[.string ⟨#[]⟩,.slice none 0 0]),2,40):=by kernel_rfl
def InsOut (B:Nat)(v:Value)(n i:Nat)(xs:List Value)(c0 c1:Value)(w:World)(r:Ending)(w':World):Prop:=
 ∃ v',r=.returned v'∧w'.ownsRow B 166 2 v' (n+1) (xs.take (i*2)++[c0,c1]++xs.drop (i*2))∧w.grownBy w' v.ownBlock∧(v'.ownBlock=v.ownBlock∨∃ k,v'.ownBlock=some k∧w.heap.size≤k∧k<w'.heap.size)
theorem wpList_push_users (w:World){ops:Array Oper}{rest:List Oper}{o:Oper}{a:Act}{Q:Exit→Act→World→Prop}(hgd:o.guard=none)(s x:Operand)
  (hop:o.op=Op.call { callee:=Callee.builtin Builtin.append,args := #[s,x],argTypes := #[158,158] })
  (B:Nat)(v:Value)(n:Nat)(xs:List Value)(c0 c1:Value)(vb:Nat)(c:Nat)(hs:a.eval s=v)(hown:w.ownsRow B 166 2 v n xs)(hx:a.eval x=.slice (some ⟨vb,0,none⟩) 1 c)(hc:Blk w vb 166 #[c0,c1])(h0:c0.oneCell'=true)(h1:c1.oneCell'=true)(hlen:n≤100000)(hbase:B≤w.heap.size)
  (h:∀ v' w',w'.ownsRow B 166 2 v' (n+1) (xs++[c0,c1])→w.grownBy w' v.ownBlock→(v'.ownBlock=v.ownBlock∨v'.ownBlock=some w.heap.size)→wpList Tryz.prog ops Q rest (a.put o.dst v') w'):wpList Tryz.prog ops Q (o::rest) a w:=by
 obtain⟨i0,hi,hz0,hz1,hz2⟩:=info_parts info_users;refine wpList_append_own_at w hgd s x 158 hop B 166 i0 _ 2 40 Tryz.underlying158 hi hz0 hz1 hz2 rfl (by decide) v n xs hs hown ⟨vb,0,none⟩ 1 c [c0,c1] hx rfl ?_ ?_ (by unfold maxLen;omega) (by omega) hbase ?_
 ·intro j u hj;have hj0:j<2:=(List.getElem?_eq_some_iff.1 hj).1;rw[addr_lit];have:=hc.cell (0+j);rw[this]
  match j,hj0 with
  | 0,_=>exact hj
  | 1,_=>exact hj
 ·intro u hu;simp only[List.mem_cons,List.not_mem_nil,or_false] at hu;rcases hu with rfl | rfl
  ·exact h0
  ·exact h1
 ·intro v' w' h1 h2 _ h4;exact h v' w' h1 h2 h4
theorem insOut_end {B:Nat}{v v':Value}{n:Nat}{xs:List Value}{c0 c1:Value}{w w':World}(hx:xs.take (n*2)=xs∧xs.drop (n*2)=[])(k1:w'.ownsRow B 166 2 v' (n+1) (xs++[c0,c1]))(k2:w.grownBy w' v.ownBlock)(k3:v'.ownBlock=v.ownBlock∨v'.ownBlock=some w.heap.size):InsOut B v n n xs c0 c1 w (.returned v') w':=by
 refine⟨v',rfl,?_,k2,?_⟩
 ·rw[hx.1,hx.2,List.append_nil];exact k1
 ·exact k3.imp id fun e=>⟨_,e,Nat.le_refl _,(own_ltG k1 e).2⟩
set_option maxRecDepth 100000 in
set_option maxHeartbeats 4000000 in
theorem insert_end (B : Nat) (v : Value) (n vb : Nat) (xs : List Value) (c0 c1 : Value) (w : World) (ho : w.ownsRow B 166 2 v n xs) (hB : B ≤ w.heap.size) (hn : n ≤ 100000) (hv : Blk w vb 166 #[c0, c1]) (h0 : c0.oneCell' = true) (h1 : c1.oneCell' = true) :
    Calls Tryz.prog 148 #[v, .int .i64 (n : Int), .slice (some ⟨vb, 0, none⟩) 1 1] w (InsOut B v n n xs c0 c1 w) := by
  obtain ⟨A, cap, hvs, hc1, hc2, -, -⟩ := own_form2 ho
  subst hvs
  have hxl := ho.1
  have HX : Hid (xs.take (n * 2) = xs ∧ xs.drop (n * 2) = []) := hid ⟨List.take_of_length_le (by omega), List.drop_of_length_le (by omega)⟩
  have HO := hid ho
  have HV := hid hv
  have H0 := hid h0
  have H1 := hid h1
  clear ho hv hxl h0 h1
  go_enter Tryz.func148, Tryz.ntmps148
  go_wp2_with (at_builtin; refine wpList_push_users _ rfl _ _ rfl B _ n xs c0 c1 vb 1 rfl HO.out rfl HV.out H0.out H1.out hn hB ?_)
  all_goals
    intro v' w' k1 k2 k3
    have K1 := hid k1
    have K2 := hid k2
    have K3 := hid k3
    clear k1 k2 k3
    go_wp2_with fail
    go_returns
    exact insOut_end HX.out K1.out (by first | exact K2.out | (have hcc : cap = n := by omega
                                                               rw [hcc]; exact K2.out)) (by first | exact K3.out | (have hcc : cap = n := by omega
                                                                                                                    rw [hcc]; exact K3.out))
theorem blk_frozen {w:World}{g:Nat}{t:TypeId}{cs:Array Value}(h:Blk w g t cs)(j:Nat):w.frozen? ⟨g,j,none⟩=false:=by
 unfold Blk at h;simp[World.frozen?,h]
theorem blk_shape {w:World}{g:Nat}{t:TypeId}{cs:Array Value}(h:Blk w g t cs):w.shape? g=some (t,cs.size):=by
 unfold Blk at h;simp[World.shape?,h]
theorem sizeOf_users (w:World):(Go.sizeOf 166).run Tryz.prog w=.ok 2 w:=by
 obtain⟨i0,hi,hz0,hz1,hz2⟩:=info_parts info_users;simp[sizeOf,typeInfo,hi,hz1]
theorem info_users2:(Tryz.prog.info? 166).map (·.size)=some 2:=by
 obtain⟨i0,hi,hz0,hz1,hz2⟩:=info_parts info_users;rw[hi];simp[hz1]
theorem overlaps_no (g vb:Nat)(cur cv:Array Value)(off la ca lb cb:Nat)(w:World)(hg:Blk w g 166 cur)(hv:Blk w vb 166 cv)(hne:vb≠g)(hs:cur.size≠0) :
  (callFunc 162 #[.slice (some ⟨vb,0,none⟩) la ca,.slice (some ⟨g,off,none⟩) lb cb]).run Tryz.prog w=.ok (.value (.bool false)) w:=by
 rw[run_callFunc_extern Tryz.func162 (by kernel_rfl) (by kernel_rfl) (by kernel_rfl) (e:=Extern.SlicesOverlaps.overlaps #[158,158] #[4]) (by kernel_rfl),
  Lib.run_overlaps_apart w 158 4 166 Tryz.underlying158 2 sizeOf_users ⟨vb,0,none⟩ ⟨g,off,none⟩ la ca lb cb hne 166 166 cv.size cur.size (blk_shape hv) (blk_shape hg) hs (blk_frozen hv _) (blk_frozen hv _)]
 rfl
theorem blk_some {w:World}{g:Nat}{t:TypeId}{cs:Array Value}(h:Blk w g t cs){j:Nat}(hj:j<cs.size):(w.cell? ⟨g,j,none⟩).isSome=true:=by
 rw[h.cell j,Array.getElem?_eq_getElem hj];rfl
theorem blk_setCells {w:World}{g:Nat}{t:TypeId}{cs:Array Value}(h:Blk w g t cs)(o:Nat)(l:List Value):Blk (w.setCells g o l) g t (setArr cs o l):=heap_setCells g t l o cs w h
theorem blk_setCells_far {w:World}{g k:Nat}{t:TypeId}{cs:Array Value}(h:Blk w k t cs)(o:Nat)(l:List Value)(hk:k≠g):Blk (w.setCells g o l) k t cs:=(heap_setCells_far g l o w k hk).trans h
set_option maxRecDepth 100000 in
set_option maxHeartbeats 8000000 in
theorem insert_shift (B:Nat)(g cap n i vb:Nat)(cur:Array Value)(xs:List Value)(c0 c1:Value)(w:World)(ho:w.ownsRow B 166 2 (.slice (some ⟨g,0,none⟩) n cap) n xs)(hb:Blk w g 166 cur)(hcs:cur.size=cap*2)(hct:cur.toList.take (n*2)=xs)(hBg:B≤g)
  (hroom:n+1≤cap)(hi:i<n)(hcap:cap≤maxLen)(hB:B≤w.heap.size)(hn:n≤100000)(hv:Blk w vb 166 #[c0,c1])(hne:vb≠g)(h0:c0.oneCell'=true)(h1:c1.oneCell'=true)(hx1:∀ u∈xs,u.oneCell'=true) :
  Calls Tryz.prog 148 #[.slice (some ⟨g,0,none⟩) n cap,.int .i64 (i:Int),.slice (some ⟨vb,0,none⟩) 1 1] w (InsOut B (.slice (some ⟨g,0,none⟩) n cap) n i xs c0 c1 w):=by
 have hxl:=ho.1;have hc2:(cap:Int)≤9223372036854775807:=by simp only[maxLen] at hcap;omega
 have hdl:(xs.drop (i*2)).length=(n-i)*2:=by rw[List.length_drop,hxl];omega
 have hov:∀ off lb cb,(callFunc 162 #[.slice (some ⟨vb,0,none⟩) 1 1,.slice (some ⟨g,off,none⟩) lb cb]).run Tryz.prog w=.ok (.value (.bool false)) w:=fun off lb cb=>overlaps_no g vb cur _ off 1 1 lb cb w hb hv hne (by omega)
 have hrd:∀ j v,xs[j]? = some v→w.cell? ⟨g,j,none⟩=some v:=fun j v hj=>by
  have:=ho.cells (g:=g) rfl j v hj
  rwa [addr_lit,Nat.zero_add] at this
 have hbd:Blk w.drew g 166 cur:=hb;have hcp1:∀ ty dc sc,(Builtin.copy_ #[158,158] ty #[.slice (some ⟨g,(i+1)*2,none⟩) (n-i) dc,.slice (some ⟨g,i*2,none⟩) (n+1-i) sc]).run Tryz.prog w.drew=.ok (goInt (n-i:Nat)) (w.drew.setCells g ((i+1)*2) (xs.drop (i*2))):=fun ty dc sc =>
  run_copy_cellsN w.drew _ _ ty 166 2 g ((i+1)*2) (n-i) dc ⟨g,i*2,none⟩ (n+1-i) sc (n-i) (xs.drop (i*2)) Tryz.underlying158 info_users2 (by simp only[Nat.min_def];split<;>omega) hdl
   (fun j v hj=>by rw[addr_lit];exact hrd _ v (by rwa [List.getElem?_drop] at hj))
   (fun j hj=>blk_some hbd (by omega)) (fun j hj=>blk_frozen hbd _) (fun u hu=>hx1 u (List.mem_of_mem_drop hu))
 obtain⟨W1,hW1⟩:∃ W1,W1=w.drew.setCells g ((i+1)*2) (xs.drop (i*2)):=⟨_,rfl⟩;have hb1:Blk W1 g 166 (setArr cur ((i+1)*2) (xs.drop (i*2))):=by rw[hW1];exact blk_setCells hbd _ _
 have hv1:Blk W1 vb 166 #[c0,c1]:=by rw[hW1];exact blk_setCells_far (w:=w.drew) hv _ _ hne
 have hcp2:∀(W:World),W.heap=W1.heap→∀ ty dc,(Builtin.copy_ #[158,158] ty #[.slice (some ⟨g,i*2,none⟩) (n+1-i) dc,.slice (some ⟨vb,0,none⟩) 1 1]).run Tryz.prog W=.ok (goInt 1) (W.setCells g (i*2) [c0,c1]):=fun W hW ty dc=>by
  have hbW:Blk W g 166 (setArr cur ((i+1)*2) (xs.drop (i*2))):=by unfold Blk;rw[hW];exact hb1
  have hvW:Blk W vb 166 #[c0,c1]:=by unfold Blk;rw[hW];exact hv1
  refine run_copy_cellsN W _ _ ty 166 2 g (i*2) (n+1-i) dc ⟨vb,0,none⟩ 1 1 1 [c0,c1] Tryz.underlying158 info_users2 (by simp only[Nat.min_def];split<;>omega) rfl
   (fun j v hj=>?_) (fun j hj=>blk_some hbW (by rw[setArr_size];simp at hj;omega)) (fun j hj=>blk_frozen hbW _) (fun u hu=>?_)
  ·have hj0:j<2:=(List.getElem?_eq_some_iff.1 hj).1;rw[addr_lit];rw[hvW.cell (0+j)]
   match j,hj0 with
   | 0,_=>exact hj
   | 1,_=>exact hj
  ·simp only[List.mem_cons,List.not_mem_nil,or_false] at hu;rcases hu with rfl | rfl
   ·exact h0
   ·exact h1
 have hlist:=ins_shift xs c0 c1 cur n i hxl hct (by omega) (by omega)
 have HL:=hid hlist;have HB1:=hid hb1;have HCS:=hid hcs;have HXL:=hid hxl;have HCAP:=hid hcap;have HW1:=hid hW1;rw[← hW1] at hcp1;have hnci:¬ cap=i:=by omega
 have hnci1:¬ cap=i+1:=by omega
 have hin:¬((i:Int)=(n:Int)):=by omega
 clear hlist hb1 hv1 hcs hW1 hbd hrd hdl hct ho hb hv hx1 hxl h0 h1 hcap;have hw1:IntKind.i64.wrap ((i:Int)+1)=(i:Int)+1:=by rw[IntKind.wrap_i64];omega
 have hp1:(0:Int)≤(i:Int)+1:=by omega
 have hp2:(i:Int)+1≤(n:Int)+1:=by omega
 have htn:((i:Int)+1).toNat=i+1:=by omega
 have hp3:(i:Int)≤(n:Int)+1:=by omega
 have mixed:Tryz.prog.follows Departure.mixedOrders=true:=by kernel_rfl
 go_enter Tryz.func148,Tryz.ntmps148
 go_wp2_with (simp only[hov])
 go_region_law_o (refine step_copy_runI rfl _ _ 158 158 rfl _ _ (by simp[Act.eval,Act.put]) (by simp[Act.eval,Act.put]) (hcp1 _ _ _) ?_)
 go_wp2_with (at_builtin;refine wpList_copy_runI _ rfl _ _ 158 158 rfl _ _ rfl rfl (hcp2 _ rfl _ _) ?_)
 go_returns
 refine⟨_,rfl,⟨by simp only[List.length_append,List.length_take,List.length_drop,HXL.out,List.length_cons,List.length_nil];omega,.inr ⟨g,cap,_,rfl,hBg,blk_setCells HB1.out _ _,hroom,HCAP.out,by rw[setArr_size,setArr_size];exact HCS.out,HL.out⟩⟩,?_,.inl rfl⟩
 have k1:=setCells_grown g (xs.drop (i*2)) ((i+1)*2) w.drew;rw[← HW1.out] at k1;have k2:=setCells_grown g [c0,c1] (i*2) W1;exact World.grownBy.trans (b:=W1) ⟨k1.os,k1.tape,k1.output,k1.size,k1.block⟩ k2
theorem zero_take (xs:List Value)(i n k:Nat)(z:Array Value)(zs:Array Value)(hx:i*2≤xs.length):((xs.take (i*2)).toArray++z++zs).toList.take (i*2)=xs.take (i*2):=by
 rw[Array.toList_append,Array.toList_append,List.append_assoc,List.take_append_of_le_length (by rw[List.length_take];omega),List.take_of_length_le (by rw[List.length_take];omega)]
set_option maxRecDepth 100000 in
set_option maxHeartbeats 8000000 in
theorem insert_grow (B:Nat)(g cap n i vb:Nat)(cur:Array Value)(xs:List Value)(c0 c1:Value)(w:World)(ho:w.ownsRow B 166 2 (.slice (some ⟨g,0,none⟩) n cap) n xs)(hb:Blk w g 166 cur)(hBg:B≤g)(hncap:n≤cap)
  (hroom:cap<n+1)(hi:i<n)(hB:B≤w.heap.size)(hn:n≤100000)(hv:Blk w vb 166 #[c0,c1])(h0:c0.oneCell'=true)(h1:c1.oneCell'=true)(hx1:∀ u∈xs,u.oneCell'=true) :
  Calls Tryz.prog 148 #[.slice (some ⟨g,0,none⟩) n cap,.int .i64 (i:Int),.slice (some ⟨vb,0,none⟩) 1 1] w (InsOut B (.slice (some ⟨g,0,none⟩) n cap) n i xs c0 c1 w):=by
 have hxl:=ho.1;obtain⟨i0,hi0,hz0,hzs,hzb⟩:=info_parts info_users;have hdl:(xs.drop (i*2)).length=(n-i)*2:=by rw[List.length_drop,hxl];omega
 have hrd:∀ j v,xs[j]? = some v→w.cell? ⟨g,j,none⟩=some v:=fun j v hj=>by
  have:=ho.cells (g:=g) rfl j v hj
  rwa [addr_lit,Nat.zero_add] at this
 have hbw:=hb.lt;have hvw:=hv.lt;have hold:(Builtin.firstCells i0.size i (.slice (some ⟨g,0,none⟩) i cap)).run Tryz.prog w.drew=.ok (xs.take (i*2)).toArray w.drew:=by
  rw[hzs];exact run_firstCells_some w.drew 2 i ⟨g,0,none⟩ i cap (xs.take (i*2)) (by rw[List.length_take];omega) (fun j v hj=>by
   rw[addr_lit,Nat.zero_add];rw[List.getElem?_take] at hj;split at hj
   ·exact hrd j v hj
   ·cases hj)
 have hkk:(n:Int)+1-(i:Int)=((n+1-i:Nat):Int):=by omega
 have hik:i+(n+1-i)=n+1:=by omega
 have hrz:∀ ty,(Builtin.append_ #[158,3] ty #[.slice (some ⟨g,0,none⟩) i cap,.int .i64 ((n:Int)+1-(i:Int))]).run Tryz.prog w =
   .ok (.slice (some ⟨w.heap.size,0,none⟩) (n+1) (grownCap w (n+1) cap 166)) (w.drew.alloc (.cells ((xs.take (i*2)).toArray++Builtin.zeroCells (Value.agg #[.string ⟨#[]⟩,.slice none 0 0]).cells (n+1-i)++Builtin.zeroCells (Value.agg #[.string ⟨#[]⟩,.slice none 0 0]).cells (grownCap w (n+1) cap 166-(n+1))) 166)):=fun ty=>by
  have h:=Lib.run_append_grow_zeros w 158 3 ty 166 i0 _ .i64 .i64 Tryz.underlying158 Tryz.underlying3 hi0 hz0 (some ⟨g,0,none⟩) i cap (xs.take (i*2)) hold (n+1-i) (by omega) (by omega) (by omega) (by omega) (by rw[hzb];omega) (by rw[hzb,hik];exact growslice_fits hroom (by omega))
  rw[hik] at h;rw[hkk];exact h
 obtain⟨G,hG⟩:∃ G,G=grownCap w (n+1) cap 166:=⟨_,rfl⟩;have hGn:n+1≤G:=by rw[hG];exact grownCap_ge w _ _ _
 have hG63:G≤maxLen:=by rw[hG];exact grownCap_le_maxLen w (n+1) cap _ (by unfold maxLen;omega)
 obtain⟨ROW,hROW⟩:∃ ROW:Array Value,ROW=(xs.take (i*2)).toArray++Builtin.zeroCells (Value.agg #[.string ⟨#[]⟩,.slice none 0 0]).cells (n+1-i)++Builtin.zeroCells (Value.agg #[.string ⟨#[]⟩,.slice none 0 0]).cells (G-(n+1)):=⟨_,rfl⟩;rw[← hG] at hrz;rw[← hROW] at hrz;have hRt:ROW.toList.take (i*2)=xs.take (i*2):=by rw[hROW];exact zero_take xs i n 0 _ _ (by omega)
 have hRl:ROW.size=G*2:=by
  rw[hROW];simp[Builtin.zeroCells,Value.cells,hxl];omega
 obtain⟨W1,hW1⟩:∃ W1,W1=w.drew.alloc (.cells ROW 166):=⟨_,rfl⟩;rw[← hW1] at hrz;have hbN:Blk W1 w.heap.size 166 ROW:=by rw[hW1];exact Blk.new w.drew _ _
 have hsz0:W1.heap.size=w.heap.size+1:=by rw[hW1];exact Array.size_push _
 have hgrow:w.grownBy W1 (some g):=by rw[hW1];exact⟨rfl,rfl,rfl,Nat.le_of_lt (by show w.heap.size<(w.heap.push _).size;rw[Array.size_push];omega),fun k hk _=>Below.heap_alloc w.drew _ k hk⟩
 have hv1:Blk W1 vb 166 #[c0,c1]:=by rw[hW1];exact Blk.alloc (w:=w.drew) hv _
 have hg1:Blk W1 g 166 cur:=by rw[hW1];exact Blk.alloc (w:=w.drew) hb _
 have hcpA:∀(W:World),W.heap=W1.heap→∀ ty dc,(Builtin.copy_ #[158,158] ty #[.slice (some ⟨w.heap.size,i*2,none⟩) (n+1-i) dc,.slice (some ⟨vb,0,none⟩) 1 1]).run Tryz.prog W=.ok (goInt 1) (W.setCells w.heap.size (i*2) [c0,c1]):=fun W hW ty dc=>by
  have hbW:Blk W w.heap.size 166 ROW:=by unfold Blk;rw[hW];exact hbN
  have hvW:Blk W vb 166 #[c0,c1]:=by unfold Blk;rw[hW];exact hv1
  refine run_copy_cellsN W _ _ ty 166 2 w.heap.size (i*2) (n+1-i) dc ⟨vb,0,none⟩ 1 1 1 [c0,c1] Tryz.underlying158 info_users2 (by simp only[Nat.min_def];split<;>omega) rfl
   (fun j v hj=>?_) (fun j hj=>blk_some hbW (by simp at hj;omega)) (fun j hj=>blk_frozen hbW _) (fun u hu=>?_)
  ·have hj0:j<2:=(List.getElem?_eq_some_iff.1 hj).1;rw[addr_lit];rw[hvW.cell (0+j)]
   match j,hj0 with
   | 0,_=>exact hj
   | 1,_=>exact hj
  ·simp only[List.mem_cons,List.not_mem_nil,or_false] at hu;rcases hu with rfl | rfl
   ·exact h0
   ·exact h1
 have hbN2:=blk_setCells hbN (i*2) [c0,c1];have hg2:=blk_setCells_far hg1 (i*2) [c0,c1] (Nat.ne_of_lt hbw);have hcpB:∀(W:World),W.heap=(W1.setCells w.heap.size (i*2) [c0,c1]).heap→∀ ty dc sc,(Builtin.copy_ #[158,158] ty #[.slice (some ⟨w.heap.size,(i+1)*2,none⟩) (n-i) dc,.slice (some ⟨g,i*2,none⟩) (n-i) sc]).run Tryz.prog W=.ok (goInt (n-i:Nat)) (W.setCells w.heap.size ((i+1)*2) (xs.drop (i*2))):=fun W hW ty dc sc=>by
  have hbW:Blk W w.heap.size 166 (setArr ROW (i*2) [c0,c1]):=by unfold Blk;rw[hW];exact hbN2
  have hgW:Blk W g 166 cur:=by unfold Blk;rw[hW];exact hg2
  refine run_copy_cellsN W _ _ ty 166 2 w.heap.size ((i+1)*2) (n-i) dc ⟨g,i*2,none⟩ (n-i) sc (n-i) (xs.drop (i*2)) Tryz.underlying158 info_users2 (by simp) hdl
   (fun j v hj=>?_) (fun j hj=>blk_some hbW (by rw[setArr_size];omega)) (fun j hj=>blk_frozen hbW _) (fun u hu=>hx1 u (List.mem_of_mem_drop hu))
  have hc:=hrd (i*2+j) v (by rwa [List.getElem?_drop] at hj)
  rw[hb.cell] at hc;rw[addr_lit,hgW.cell];exact hc
 have hlist:=ins_grow xs c0 c1 ROW n i hxl hRt (by omega) (by omega)
 have HL:=hid hlist;have HBN2:=hid hbN2;have HRL:=hid hRl;have HXL:=hid hxl;have HG63:=hid hG63;have HGR:=hid hgrow;have HSZ:=hid hsz0;have hGc:(G:Int)≤9223372036854775807:=by simp only[maxLen] at hG63;omega
 have hGi:¬ G=i:=by omega
 have hGi1:¬ G=i+1:=by omega
 have hnci:¬ cap=i:=by omega
 have hin:¬((i:Int)=(n:Int)):=by omega
 have hw1:IntKind.i64.wrap ((i:Int)+1)=(i:Int)+1:=by rw[IntKind.wrap_i64];omega
 have hp1:(0:Int)≤(i:Int)+1:=by omega
 have hp2:(i:Int)+1≤(n:Int)+1:=by omega
 have htn:((i:Int)+1).toNat=i+1:=by omega
 have hp3:(i:Int)≤(n:Int)+1:=by omega
 have hp5:i≤n:=by omega
 have hp4:(cap:Int)<(n:Int)+1:=by omega
 have hcc:(cap:Int)≤9223372036854775807:=by omega
 have mixed:Tryz.prog.follows Departure.mixedOrders=true:=by kernel_rfl
 clear hlist hbN hbN2 hg1 hg2 hv1 hb hv hold hi0 hz0 hzs hzb hkk hik hG hG63 hRt hRl hROW hrd hdl hx1 hxl h0 h1 hgrow hsz0 ho;subst hW1;have hF1:(((w.alloc (.cells ROW 166)).drew.setCells w.heap.size (i*2) [c0,c1]).drew).heap=((w.drew.alloc (.cells ROW 166)).setCells w.heap.size (i*2) [c0,c1]).heap:=rfl;have hE1:((w.alloc (.cells ROW 166)).drew).heap=(w.drew.alloc (.cells ROW 166)).heap:=rfl;go_enter Tryz.func148,Tryz.ntmps148
 go_wp2_with (first
  | (at_builtin;refine Lib.wpList_append_run _ rfl _ _ _ _ rfl _ _ rfl rfl _ _ (hrz _) ?_)
  | (at_builtin;refine wpList_copy_runI _ rfl _ _ 158 158 rfl _ _ rfl rfl (hcpA _ hE1 _ _) ?_)
  | (at_builtin;refine wpList_copy_runI _ rfl _ _ 158 158 rfl _ _ rfl rfl (hcpB _ rfl _ _ _) ?_))
 go_region_law_o (refine step_copy_runI rfl _ _ 158 158 rfl (.slice (some ⟨w.heap.size,(i+1)*2,none⟩) (n-i) (G-(i+1))) (.slice (some ⟨g,i*2,none⟩) (n-i) (cap-i)) (by simp[Act.eval,Act.put]) (by simp[Act.eval,Act.put]) (hcpB _ hF1 3 (G-(i+1)) (cap-i)) ?_)
 go_wp2_with fail
 go_returns
 obtain⟨q1,q2,q3,q4⟩:=setCells_rest w.heap.size [c0,c1] (i*2) (w.alloc (.cells ROW 166)).drew;obtain⟨r1,r2,r3,r4⟩:=setCells_rest w.heap.size (xs.drop (i*2)) ((i+1)*2) ((w.alloc (.cells ROW 166)).drew.setCells w.heap.size (i*2) [c0,c1]).drew;have hz:(((w.alloc (.cells ROW 166)).drew.setCells w.heap.size (i*2) [c0,c1]).drew.setCells w.heap.size ((i+1)*2) (xs.drop (i*2))).heap.size=w.heap.size+1:=r4.trans (q4.trans HSZ.out);refine⟨_,rfl,⟨by simp only[List.length_append,List.length_take,List.length_drop,HXL.out,List.length_cons,List.length_nil];omega,.inr ⟨w.heap.size,G,_,rfl,hB,blk_setCells (w:=((w.alloc (.cells ROW 166)).drew.setCells w.heap.size (i*2) [c0,c1]).drew) HBN2.out _ _,hGn,HG63.out,by rw[setArr_size,setArr_size];exact HRL.out,HL.out⟩⟩,⟨r1.trans q1,r2.trans q2,r3.trans q3,by rw[hz];exact Nat.le_succ _,fun k hk hne=>?_⟩,.inr ⟨_,rfl,Nat.le_refl _,by rw[hz];exact Nat.lt_succ_self _⟩⟩
 have e1:=heap_setCells_far w.heap.size (xs.drop (i*2)) ((i+1)*2) ((w.alloc (.cells ROW 166)).drew.setCells w.heap.size (i*2) [c0,c1]).drew k (Nat.ne_of_lt hk);have e2:=heap_setCells_far w.heap.size [c0,c1] (i*2) (w.alloc (.cells ROW 166)).drew k (Nat.ne_of_lt hk);exact e1.trans (Eq.trans e2 (HGR.out.block k hk hne))
theorem oneCell_of {nv:ByteArray→Value}{l:List (ByteArray × List Nat)}(hnv:∀ k,(nv k).oneCell'=true):∀ u∈l.flatMap (usC nv),u.oneCell'=true:=by
 intro u hu;rw[List.mem_flatMap] at hu;obtain⟨z,_,hz⟩:=hu;simp only[usC,List.mem_cons,List.not_mem_nil,or_false] at hz;rcases hz with rfl | rfl
 ·rfl
 ·exact hnv _
theorem insert_any (B:Nat)(v:Value)(n i vb:Nat)(xs:List Value)(c0 c1:Value)(w:World)(ho:w.ownsRow B 166 2 v n xs)(hi:i≤n)(hB:B≤w.heap.size)(hn:n≤100000)(hv:Blk w vb 166 #[c0,c1])(hne:v.ownBlock≠some vb)(h0:c0.oneCell'=true)(h1:c1.oneCell'=true)(hx1:∀ u∈xs,u.oneCell'=true) :
  Calls Tryz.prog 148 #[v,.int .i64 (i:Int),.slice (some ⟨vb,0,none⟩) 1 1] w (InsOut B v n i xs c0 c1 w):=by
 by_cases hin:i=n
 ·subst hin;exact insert_end B v i vb xs c0 c1 w ho hB hn hv h0 h1
 ·rcases ho.2 with⟨rfl,h⟩ | ⟨g,cap,cur,rfl,hb,hg,hcn,hm,hcs,hr⟩
  ·exact absurd hi (by omega)
  ·have hne':vb≠g:=fun e=>hne (by rw[e];rfl)
   by_cases hroom:n+1≤cap
   ·exact insert_shift B g cap n i vb cur xs c0 c1 w ho hg hcs hr hb hroom (by omega) hm hB hn hv hne' h0 h1 hx1
   ·exact insert_grow B g cap n i vb cur xs c0 c1 w ho hg hb hcn (by omega) (by omega) hB hn hv h0 h1 hx1
end SM
end
section
open Go.RowKit
namespace SM
def addAt (l:List (ByteArray × List Nat))(key:ByteArray)(u i:Nat)(f:Bool):List (ByteArray × List Nat):=
 if f then l.set i (key,at_ l key++[u]) else l.take i++(key,[u])::l.drop i
theorem less_ne {a b:ByteArray}(h:Op.bytesLess a.toList b.toList=true):a≠b:=fun e=>by
 rw[e,bytesLess_irrefl] at h;cases h
theorem ba_toList_inj {a b:ByteArray}(h:a.toList=b.toList):a=b:=by
 rw[ByteArray.toList_eq,ByteArray.toList_eq] at h;obtain⟨⟨l⟩⟩:=a;obtain⟨⟨m⟩⟩:=b;simp at h;rw[h]
theorem find_none {l:List (ByteArray × List Nat)}{k:ByteArray}(h:∀ z∈l,z.1≠k):(l.find? fun x=>decide (x.1=k))=none:=by
 rw[List.find?_eq_none];intro z hz;simp[h z hz]
theorem at_none {l:List (ByteArray × List Nat)}{k:ByteArray}(h:∀ z∈l,z.1≠k):at_ l k=[]:=by
 unfold at_;rw[find_none h];rfl
theorem at_app {l m:List (ByteArray × List Nat)}{k:ByteArray}(h:∀ z∈l,z.1≠k):at_ (l++m) k=at_ m k:=by
 unfold at_;rw[List.find?_append,find_none h];rfl
theorem at_skip {l m:List (ByteArray × List Nat)}{k:ByteArray}{z:ByteArray × List Nat}(h:z.1≠k):at_ (l++z::m) k=at_ (l++m) k:=by
 unfold at_;rw[List.find?_append,List.find?_append,List.find?_cons_of_neg (by simp[h])]
theorem at_here {m:List (ByteArray × List Nat)}{z:ByteArray × List Nat}:at_ (z::m) z.1=z.2:=by
 unfold at_;rw[List.find?_cons_of_pos (by simp)];rfl
theorem mem_take_lt {α:Type}{l:List α}{i:Nat}{z:α}(h:z∈l.take i):∃ j,j<i∧l[j]? = some z:=by
 obtain⟨j,hj⟩:=List.getElem?_of_mem h;rw[List.getElem?_take] at hj;split at hj
 ·exact⟨j,by assumption,hj⟩
 ·cases hj
theorem mem_drop_ge {α:Type}{l:List α}{i:Nat}{z:α}(h:z∈l.drop i):∃ j,i≤j∧l[j]? = some z:=by
 obtain⟨j,hj⟩:=List.getElem?_of_mem h;rw[List.getElem?_drop] at hj;exact⟨i+j,by omega,hj⟩
section
variable {l : List (ByteArray × List Nat)} {key : ByteArray} {i : Nat} {f : Bool}
theorem Pos.take (h:Pos l key i f):∀ z∈l.take i,Op.bytesLess z.1.toList key.toList=true:=fun z hz=>by
 obtain⟨j,hj,e⟩:=mem_take_lt hz;exact h.lo j z hj e
theorem Pos.take_ne (h:Pos l key i f):∀ z∈l.take i,z.1≠key:=fun z hz=>less_ne (h.take z hz)
theorem Pos.drop (h:Pos l key i false)(hs:Srt l):∀ z∈l.drop i,Op.bytesLess key.toList z.1.toList=true:=fun z hz=>by
 obtain⟨j,hj,e⟩:=mem_drop_ge hz;have hlt:=(List.getElem?_eq_some_iff.1 e).1;obtain⟨z0,hz0⟩:∃ z0,l[i]? = some z0:=⟨_,List.getElem?_eq_getElem (by omega)⟩
 have h0:Op.bytesLess key.toList z0.1.toList=true:=by
  cases hb:Op.bytesLess key.toList z0.1.toList with
  | true=>rfl
  | false =>
   have:=ba_toList_inj (bytesLess_eq _ _ hb (h.hi i z0 (Nat.le_refl _) hz0));have:=h.fnd.2 ⟨z0,hz0,this.symm⟩;cases this
 by_cases hij:i=j
 ·subst hij;rw[hz0] at e;injection e with e;rw[← e];exact h0
 ·exact bytesLess_trans _ _ _ h0 (hs i j z0 z (by omega) hz0 e)
theorem Pos.drop_t (h:Pos l key i true)(hs:Srt l):∃ z,l=l.take i++z::l.drop (i+1)∧z.1=key∧l[i]? = some z∧∀ z∈l.drop (i+1),Op.bytesLess key.toList z.1.toList=true:=by
 obtain⟨z,hz,hk⟩:=h.fnd.1 rfl;refine⟨z,?_,hk,hz,fun z' hz'=>?_⟩
 ·rw[← drop_at hz,List.take_append_drop]
 ·obtain⟨j,hj,e⟩:=mem_drop_ge hz';rw[← hk];exact hs i j z z' (by omega) hz e
theorem set_mid {α:Type}{A D:List α}{z z':α}{i:Nat}(h:A.length=i):(A++z::D).set i z'=A++z'::D:=by
 subst h;rw[List.set_append];simp
theorem at_add (h:Pos l key i f)(hs:Srt l)(u:Nat)(k:ByteArray):at_ (addAt l key u i f) k=if k=key then at_ l key++[u] else at_ l k:=by
 unfold addAt;cases f with
 | false =>
  simp only[Bool.false_eq_true,if_false];have hd:=h.drop hs;by_cases hk:k=key
  ·subst hk;rw[if_pos rfl,at_app h.take_ne];rw[at_none (l:=l) (k:=k)]
   ·exact at_here (z:=(k,[u]))
   ·intro z hz;rw[← List.take_append_drop i l,List.mem_append] at hz;rcases hz with hz | hz
    ·exact h.take_ne z hz
    ·exact(less_ne (hd z hz)).symm
  ·rw[if_neg hk,at_skip (fun e=>hk e.symm),List.take_append_drop]
 | true =>
  simp only[if_true];obtain⟨z,hl,hzk,hz,hd⟩:=h.drop_t hs;have hlen:(l.take i).length=i:=by rw[List.length_take];have:=h.le;omega
  obtain⟨w,hw⟩:∃ w,w=at_ l key++[u]:=⟨_,rfl⟩;rw[← hw];have hset:l.set i (key,w)=l.take i++(key,w)::l.drop (i+1):=by
   conv=>lhs;rw[hl]
   exact set_mid hlen
  rw[hset];by_cases hk:k=key
  ·subst hk;rw[if_pos rfl,at_app h.take_ne];exact at_here (z:=(k,w))
  ·rw[if_neg hk,at_skip (fun e=>hk e.symm)]
   conv=>rhs;rw[hl]
   rw[at_skip (fun e=>hk (by rw[← e];exact hzk))]
theorem srt_iff (l:List (ByteArray × List Nat)):Srt l↔l.Pairwise fun z z'=>Op.bytesLess z.1.toList z'.1.toList=true:=by
 rw[List.pairwise_iff_getElem];constructor
 ·intro h a b ha hb hab;exact h a b _ _ hab (List.getElem?_eq_getElem ha) (List.getElem?_eq_getElem hb)
 ·intro h a b z z' hab hz hz';obtain⟨ha,rfl⟩:=List.getElem?_eq_some_iff.1 hz;obtain⟨hb,rfl⟩:=List.getElem?_eq_some_iff.1 hz';exact h a b ha hb hab
theorem srt_mid {A D:List (ByteArray × List Nat)}{z:ByteArray × List Nat}(hA:Srt (A++D))(h1:∀ z'∈A,Op.bytesLess z'.1.toList z.1.toList=true)(h2:∀ z'∈D,Op.bytesLess z.1.toList z'.1.toList=true):Srt (A++z::D):=by
 rw[srt_iff,List.pairwise_append] at hA ⊢;refine⟨hA.1,List.pairwise_cons.2 ⟨h2,hA.2.1⟩,fun a ha b hb=>?_⟩
 rcases List.mem_cons.1 hb with rfl | hb
 ·exact h1 a ha
 ·exact hA.2.2 a ha b hb
theorem srt_sub {A D:List (ByteArray × List Nat)}{z:ByteArray × List Nat}(h:Srt (A++z::D)):Srt (A++D):=by
 rw[srt_iff] at h ⊢;exact h.sublist (List.Sublist.append (List.Sublist.refl A) (List.sublist_cons_self z D))
theorem srt_add (h:Pos l key i f)(hs:Srt l)(u:Nat):Srt (addAt l key u i f):=by
 unfold addAt;cases f with
 | false =>
  simp only[Bool.false_eq_true,if_false];exact srt_mid (by rw[List.take_append_drop];exact hs) h.take (h.drop hs)
 | true =>
  simp only[if_true];obtain⟨z,hl,hzk,hz,hd⟩:=h.drop_t hs;have hlen:(l.take i).length=i:=by rw[List.length_take];have:=h.le;omega
  obtain⟨w,hw⟩:∃ w,w=at_ l key++[u]:=⟨_,rfl⟩;rw[← hw];have hset:l.set i (key,w)=l.take i++(key,w)::l.drop (i+1):=by
   conv=>lhs;rw[hl]
   exact set_mid hlen
  rw[hset];exact srt_mid (srt_sub (hl▸hs)) h.take hd
theorem flat_len (nv:ByteArray→Value)(l:List (ByteArray × List Nat)):(l.flatMap (usC nv)).length=l.length*2:=by
 induction l with
 | nil=>rfl
 | cons z l ih=>rw[List.flatMap_cons,List.length_append,ih,List.length_cons];simp[usC];omega
theorem flat_take (nv:ByteArray→Value)(l:List (ByteArray × List Nat))(i:Nat)(hi:i≤l.length):(l.flatMap (usC nv)).take (i*2)=(l.take i).flatMap (usC nv)∧(l.flatMap (usC nv)).drop (i*2)=(l.drop i).flatMap (usC nv):=by
 have hl:((l.take i).flatMap (usC nv)).length=i*2:=by rw[flat_len,List.length_take];omega
 have he:l.flatMap (usC nv)=(l.take i).flatMap (usC nv)++(l.drop i).flatMap (usC nv):=by rw[← List.flatMap_append,List.take_append_drop]
 rw[he];exact⟨by rw[← hl,List.take_left],by rw[← hl,List.drop_left]⟩
def nvSet (nv:ByteArray→Value)(key:ByteArray)(v:Value):ByteArray→Value:=fun k=>if k=key then v else nv k
theorem flat_same (nv:ByteArray→Value)(key:ByteArray)(v:Value){l:List (ByteArray × List Nat)}(h:∀ z∈l,z.1≠key):l.flatMap (usC (nvSet nv key v))=l.flatMap (usC nv):=by
 induction l with
 | nil=>rfl
 | cons z l ih =>
  rw[List.flatMap_cons,List.flatMap_cons,ih fun z' hz'=>h z' (List.mem_cons_of_mem _ hz')]
  congr 1
  unfold usC nvSet;rw[if_neg (h z (List.mem_cons_self ..))]
theorem set_mid2 (A D:List Value)(a b v:Value){n:Nat}(h:A.length=n):(A++[a,b]++D).set (n+1) v=A++[a,v]++D:=by
 subst h;rw[List.append_assoc,List.append_assoc,List.set_append_right _ _ (by omega)]
 simp
theorem cells_add_no (h:Pos l key i false)(hs:Srt l)(nv:ByteArray→Value)(u:Nat)(c1 v:Value) :
  ((l.flatMap (usC nv)).take (i*2)++[.string key,c1]++(l.flatMap (usC nv)).drop (i*2)).set (i*2+1) v=(addAt l key u i false).flatMap (usC (nvSet nv key v)):=by
 obtain⟨e1,e2⟩:=flat_take nv l i h.le;have hl:((l.take i).flatMap (usC nv)).length=i*2:=by rw[flat_len,List.length_take];have:=h.le;omega
 rw[e1,e2,set_mid2 _ _ _ _ _ hl];unfold addAt;simp only[Bool.false_eq_true,if_false];rw[List.flatMap_append,List.flatMap_cons,flat_same nv key v h.take_ne,flat_same nv key v (fun z hz=>(less_ne (h.drop hs z hz)).symm)]
 have:usC (nvSet nv key v) (key,[u])=[.string key,v]:=by unfold usC nvSet;simp
 rw[this,List.append_assoc]
theorem cells_add_yes (h:Pos l key i true)(hs:Srt l)(nv:ByteArray→Value)(u:Nat)(v:Value) :
  (l.flatMap (usC nv)).set (i*2+1) v=(addAt l key u i true).flatMap (usC (nvSet nv key v)):=by
 obtain⟨z,hl,hzk,hz,hd⟩:=h.drop_t hs;have hlen:(l.take i).length=i:=by rw[List.length_take];have:=h.le;omega
 have hlen2:((l.take i).flatMap (usC nv)).length=i*2:=by rw[flat_len,hlen]
 unfold addAt;simp only[if_true];obtain⟨w,hw⟩:∃ w,w=at_ l key++[u]:=⟨_,rfl⟩;rw[← hw];have hset:l.set i (key,w)=l.take i++(key,w)::l.drop (i+1):=by
  conv=>lhs;rw[hl]
  exact set_mid hlen
 rw[hset];have hcells:l.flatMap (usC nv)=(l.take i).flatMap (usC nv)++[.string z.1,nv z.1]++(l.drop (i+1)).flatMap (usC nv):=by
  conv=>lhs;rw[hl]
  rw[List.flatMap_append,List.flatMap_cons,List.append_assoc];rfl
 rw[hcells,set_mid2 _ _ _ _ _ hlen2];rw[List.flatMap_append,List.flatMap_cons,flat_same nv key v h.take_ne,flat_same nv key v (fun z hz=>(less_ne (hd z hz)).symm)]
 have:usC (nvSet nv key v) (key,w)=[.string z.1,v]:=by unfold usC nvSet;simp[hzk]
 rw[this,List.append_assoc]
end
end SM
end
section
open Lib (hid)
open Go.RowKit
namespace SM
open CM (nd kids)
theorem own_cellset {w:World}{B:Nat}{t:TypeId}{g n cap:Nat}{xs:List Value}(h:w.ownsRow B t 2 (.slice (some ⟨g,0,none⟩) n cap) n xs){j:Nat}(hj:j<xs.length)(u:Value) :
  (w.setCell ⟨g,j,none⟩ u).ownsRow B t 2 (.slice (some ⟨g,0,none⟩) n cap) n (xs.set j u)∧(∃ v,w.cell? ⟨g,j,none⟩=some v)∧w.frozen? ⟨g,j,none⟩=false:=by
 have hl:=h.1;rcases h.2 with⟨hv,_⟩ | ⟨g',cap',cur,hv,hb,hg,hn,hm,hcs,hr⟩
 ·cases hv
 ·injection hv with e1 e2 e3
  injection e1 with e1
  injection e1 with e1
  subst e1 e3;have hlt:j<cur.size:=by
   rw[← hr,List.length_take] at hj;have:cur.toList.length=cur.size:=Array.length_toList;omega
  refine⟨⟨by rw[List.length_set];exact hl,.inr ⟨g,cap,cur.setIfInBounds j u,rfl,hb,heap_setCell_same w g j cur t u hg,hn,hm,by rw[Array.size_setIfInBounds];exact hcs,?_⟩⟩,?_,frozen_of_row w g j cur t hg⟩
  ·rw[Array.toList_setIfInBounds,List.take_set,hr]
  ·rw[cell_of_row w g j cur t (0,0) hg,Array.getElem?_eq_getElem hlt];exact⟨_,rfl⟩
def Lay.use (y:Lay)(n:Nat)(key:ByteArray)(v nv:Value):Lay:={ y with sv:=fun m=>if m=n then v else y.sv m,nv:=fun m=>if m=n then nvSet (y.nv n) key nv else y.nv m }
def St.use (S:St)(n:Nat)(l:List (ByteArray × List Nat)):St:={ S with us:=fun m=>if m=n then l else S.us m }
theorem RelW.use {x:Cx}{w w':World}{y:Lay}{S:St}(h:RelW x w y S){n:Nat}{key:ByteArray}{l':List (ByteArray × List Nat)}{v' nv':Value}(hat:∀ k,k≠key→at_ l' k=at_ (S.us n) k)
  (hk:Kept (fun k=>k=y.sb∨(y.sv n).ownBlock=some k∨(y.nv n key).ownBlock=some k) w w')
  (hsb:Blk w' y.sb 158 (vals (fun m=>if m=n then v' else y.sv m) x.n))
  (hU:OwnU w' x.B v' (nvSet (y.nv n) key nv') l')(hI:OwnI w' x.B nv' ((at_ l' key).map nI))
  (hv:v'.ownBlock=(y.sv n).ownBlock∨∃ k,v'.ownBlock=some k∧w.heap.size≤k)
  (hnv:nv'.ownBlock=(y.nv n key).ownBlock∨nv'.ownBlock=none∨∃ k,nv'.ownBlock=some k∧w.heap.size≤k)
  (hne:∀ k,v'.ownBlock=some k→nv'.ownBlock=some k→w.heap.size≤k→False) :
  RelW x w' (y.use n key v' nv') (S.use n l')∧Stp w y w' (y.use n key v' nv'):=by
 refine h.upd (fun X=>X=.sb∨X=.us n∨X=.nd n key) ?_ (fun X=>?_) (fun X Y k hk' hX hY=>?_) (fun X hX hc=>?_) (fun X hX=>?_)
 ·exact hk.mono fun k _ hkk=>by
   rcases hkk with e | e | e
   ·exact⟨.sb,.inl rfl,by rw[e];rfl⟩
   ·exact⟨.us n,.inr (.inl rfl),e⟩
   ·exact⟨.nd n key,.inr (.inr rfl),e⟩
 ·cases X<;>try exact .inl rfl
  case us m =>
   by_cases hm:m=n
   ·subst hm;have e:bl (y.use m key v' nv') (.us m)=v'.ownBlock:=by show(if m=m then v' else y.sv m).ownBlock=_;rw[if_pos rfl]
    rcases hv with hv | ⟨k,hv,h1⟩
    ·exact .inl (e.trans hv)
    ·exact .inr (.inr ⟨.inr (.inl rfl),k,e.trans hv,h1,(own_ltG hU hv).2⟩)
   ·exact .inl (by show(if m=n then v' else y.sv m).ownBlock=_;rw[if_neg hm];rfl)
  case nd m k' =>
   by_cases hm:m=n
   ·subst hm;by_cases hkk:k'=key
    ·subst hkk;have e:bl (y.use m k' v' nv') (.nd m k')=nv'.ownBlock:=by show((if m=m then nvSet (y.nv m) k' nv' else y.nv m) k').ownBlock=_;rw[if_pos rfl];unfold nvSet;rw[if_pos rfl]
     rcases hnv with hv | hv | ⟨k,hv,h1⟩
     ·exact .inl (e.trans hv)
     ·exact .inr (.inl (e.trans hv))
     ·exact .inr (.inr ⟨.inr (.inr rfl),k,e.trans hv,h1,(OwnI.lt hI hv).2⟩)
    ·exact .inl (by show((if m=m then nvSet (y.nv m) key nv' else y.nv m) k').ownBlock=_;rw[if_pos rfl];unfold nvSet;rw[if_neg hkk];rfl)
   ·exact .inl (by show((if m=n then nvSet (y.nv n) key nv' else y.nv m) k').ownBlock=_;rw[if_neg hm];rfl)
 ·have key':∀ X,bl (y.use n key v' nv') X=some k→(X=.us n∧v'.ownBlock=some k)∨(X=.nd n key∧nv'.ownBlock=some k):=fun X hX=>by
   have old:bl y X=some k→False:=fun e=>by have:=(h.lt X k e).2;omega
   cases X<;>try exact(old hX).elim
   case us m =>
    by_cases hm:m=n
    ·subst hm;exact .inl ⟨rfl,by rw[show bl (y.use m key v' nv') (.us m)=(if m=m then v' else y.sv m).ownBlock from rfl,if_pos rfl] at hX;exact hX⟩
    ·exact(old (by rw[show bl (y.use n key v' nv') (.us m)=(if m=n then v' else y.sv m).ownBlock from rfl,if_neg hm] at hX;exact hX)).elim
   case nd m k' =>
    rw[show bl (y.use n key v' nv') (.nd m k')=((if m=n then nvSet (y.nv n) key nv' else y.nv m) k').ownBlock from rfl] at hX
    by_cases hm:m=n
    ·subst hm;rw[if_pos rfl] at hX;unfold nvSet at hX;by_cases hkk:k'=key
     ·subst hkk;rw[if_pos rfl] at hX;exact .inr ⟨rfl,hX⟩
     ·rw[if_neg hkk] at hX;exact(old hX).elim
    ·rw[if_neg hm] at hX;exact(old hX).elim
  rcases key' X hX with⟨rfl,e1⟩ | ⟨rfl,e1⟩<;>rcases key' Y hY with⟨rfl,e2⟩ | ⟨rfl,e2⟩
  ·rfl
  ·exact(hne k e1 e2 hk').elim
  ·exact(hne k e2 e1 hk').elim
  ·rfl
 ·cases X<;>try exact hc
  case sb=>exact absurd (.inl rfl) hX
  case us m =>
   have hm:m≠n:=fun e=>hX (.inr (.inl (by rw[e])))
   show OwnU w' x.B (if m=n then v' else y.sv m) (if m=n then nvSet (y.nv n) key nv' else y.nv m) (if m=n then l' else S.us m)
   rw[if_neg hm,if_neg hm,if_neg hm];exact hc
  case nd m k' =>
   show OwnI w' x.B ((if m=n then nvSet (y.nv n) key nv' else y.nv m) k') ((at_ (if m=n then l' else S.us m) k').map nI)
   by_cases hm:m=n
   ·subst hm;rw[if_pos rfl,if_pos rfl];have hkk:k'≠key:=fun e=>hX (.inr (.inr (by rw[e])))
    unfold nvSet;rw[if_neg hkk,hat k' hkk];exact hc
   ·rw[if_neg hm,if_neg hm];exact hc
 ·rcases hX with rfl | rfl | rfl
  ·exact hsb
  ·show OwnU w' x.B (if n=n then v' else y.sv n) (if n=n then nvSet (y.nv n) key nv' else y.nv n) (if n=n then l' else S.us n)
   rw[if_pos rfl,if_pos rfl,if_pos rfl];exact hU
  ·show OwnI w' x.B ((if n=n then nvSet (y.nv n) key nv' else y.nv n) key) ((at_ (if n=n then l' else S.us n) key).map nI)
   rw[if_pos rfl,if_pos rfl];unfold nvSet;rw[if_pos rfl];exact hI
theorem use_fin {x:Cx}{w wz:World}{y:Lay}{S:St}(h:RelW x w y S){n i g m cap:Nat}{key:ByteArray}{l':List (ByteArray × List Nat)}{cells:List Value}{nv':Value}(hn:n<x.n)
  (hat:∀ k,k≠key→at_ l' k=at_ (S.us n) k)
  (hk:Kept (fun k=>(y.sv n).ownBlock=some k∨(y.nv n key).ownBlock=some k) w wz)
  (ho:wz.ownsRow x.B 166 2 (.slice (some ⟨g,0,none⟩) m cap) m cells)(hi:i*2+1<cells.length)
  (hI:OwnI wz x.B nv' ((at_ l' key).map nI))
  (hg:(y.sv n).ownBlock=some g∨w.heap.size≤g)
  (hnv:nv'.ownBlock=(y.nv n key).ownBlock∨nv'.ownBlock=none∨∃ k,nv'.ownBlock=some k∧w.heap.size≤k)
  (hne:nv'.ownBlock≠some g)(hm:m=l'.length)(hc:cells.set (i*2+1) nv'=l'.flatMap (usC (nvSet (y.nv n) key nv'))) :
  ((∃ v,wz.cell? ⟨g,i*2+1,none⟩=some v)∧wz.frozen? ⟨g,i*2+1,none⟩=false) ∧
  (wz.setCell ⟨g,i*2+1,none⟩ nv').cell? ⟨y.rel,9,none⟩=some (.slice (some ⟨y.sb,0,none⟩) x.n x.n) ∧
  (wz.setCell ⟨g,i*2+1,none⟩ nv').cell? ⟨y.sb,n,none⟩=some (y.sv n)∧(wz.setCell ⟨g,i*2+1,none⟩ nv').frozen? ⟨y.sb,n,none⟩=false ∧
  RelW x ((wz.setCell ⟨g,i*2+1,none⟩ nv').setCell ⟨y.sb,n,none⟩ (.slice (some ⟨g,0,none⟩) m cap)) (y.use n key (.slice (some ⟨g,0,none⟩) m cap) nv') (S.use n l') ∧
  Stp w y ((wz.setCell ⟨g,i*2+1,none⟩ nv').setCell ⟨y.sb,n,none⟩ (.slice (some ⟨g,0,none⟩) m cap)) (y.use n key (.slice (some ⟨g,0,none⟩) m cap) nv'):=by
 obtain⟨hU3,hcell,hfr⟩:=own_cellset ho hi nv';have hgne:∀ X,X ≠ .us n→bl y X≠some g:=fun X hX e=>by
  rcases hg with hg | hg
  ·exact hX (h.inj X (.us n) g e hg)
  ·have:=(h.lt X g e).2;omega
 have hP:∀ X,X ≠ .us n→X ≠ .nd n key→∀ k,bl y X=some k→¬((y.sv n).ownBlock=some k∨(y.nv n key).ownBlock=some k):=fun X h1 h2 k e hh=>by
  rcases hh with hh | hh
  ·exact h1 (h.inj X (.us n) k e hh)
  ·exact h2 (h.inj X (.nd n key) k e hh)
 have kg:Kept (fun k=>k=g) wz (wz.setCell ⟨g,i*2+1,none⟩ nv'):=kept_set
 have ks:Kept (fun k=>k=y.sb) (wz.setCell ⟨g,i*2+1,none⟩ nv') ((wz.setCell ⟨g,i*2+1,none⟩ nv').setCell ⟨y.sb,n,none⟩ (.slice (some ⟨g,0,none⟩) m cap)):=kept_set
 have hrel:Blk (wz.setCell ⟨g,i*2+1,none⟩ nv') y.rel 127 (relC x y):=
  kg.blk (hk.blk h.bR (hP .rel (fun e=>by cases e) (fun e=>by cases e) _ rfl)) (fun e=>hgne .rel (fun e=>by cases e) (by rw[← e];rfl))
 have hsb:Blk (wz.setCell ⟨g,i*2+1,none⟩ nv') y.sb 158 (vals y.sv x.n):=
  kg.blk (hk.blk (h.comp .sb) (hP .sb (fun e=>by cases e) (fun e=>by cases e) _ rfl)) (fun e=>hgne .sb (fun e=>by cases e) (by rw[← e];rfl))
 have hnvsb:∀ k,nv'.ownBlock=some k→k≠y.sb:=fun k hk' e=>by
  rcases hnv with hv | hv | ⟨k',hv,h1⟩
  ·have:Ro.nd n key=Ro.sb:=h.inj (.nd n key) .sb k (by show(y.nv n key).ownBlock=some k;rw[← hv];exact hk') (by rw[e];rfl)
   cases this
  ·rw[hv] at hk';cases hk'
  ·rw[hv] at hk';injection hk' with hk'
   have:=(h.lt .sb y.sb rfl).2;omega
 refine⟨⟨hcell,hfr⟩,hrel.cell 9,(hsb.cell n).trans (vals_get hn),hsb.frozen n,h.use hat ?_ ?_ ?_ ?_ ?_ hnv ?_⟩
 ·refine Kept.setCell (p:=⟨y.sb,n,none⟩) (Kept.setCell (p:=⟨g,i*2+1,none⟩) (hk.mono fun k _ hh=>.inr hh) (fun hlt=>?_) _) (fun _=>.inl rfl) _
  rcases hg with hg | hg
  ·exact .inr (.inl hg)
  ·exact absurd hlt (by show ¬ g<_;omega)
 ·rw[← vals_set];exact hsb.set_ n _
 ·have e:OwnU (wz.setCell ⟨g,i*2+1,none⟩ nv') x.B (.slice (some ⟨g,0,none⟩) m cap) (nvSet (y.nv n) key nv') l':=by
   unfold OwnU;rw[← hc,← hm];exact hU3
  exact own_keptG e ks fun k hk' e2=>hgne .sb (fun e=>by cases e) (by rw[show(Value.slice (some ⟨g,0,none⟩) m cap).ownBlock=some g from rfl] at hk';rw[hk',e2];rfl)
 ·exact(hI.kept kg fun k hk' e=>hne (e▸hk')).kept ks fun k hk' e=>hnvsb k hk' e
 ·rcases hg with hg | hg
  ·exact .inl hg.symm
  ·exact .inr ⟨g,rfl,hg⟩
 ·intro k e1 e2 _;exact hne (by rw[e2];exact e1.symm)
def UseOut (x:Cx)(y:Lay)(S:St)(n:Nat)(key:ByteArray)(u:Nat)(w:World)(r:Ending)(w':World):Prop:=
 r=.returned (.tuple #[])∧∃ i f v nv,Pos (S.us n) key i f∧RelW x w' (y.use n key v nv) (S.use n (addAt (S.us n) key u i f))∧Stp w y w' (y.use n key v nv)
set_option maxRecDepth 100000 in
set_option maxHeartbeats 8000000 in
theorem use_any (x:Cx)(y:Lay)(S:St)(n u:Nat)(key:ByteArray)(w:World)(h:RelW x w y S)(hn:n<x.n)(hl:(S.us n).length≤99999)(hs:Srt (S.us n))(ha:(at_ (S.us n) key).length≤100000) :
  Calls Tryz.prog 126 #[.pointer (some ⟨y.rel,0,none⟩),.int .i64 (n:Int),.string key,.int .i64 (u:Int)] w (UseOut x y S n key u w):=by
 have c9:=h.c9;have cs:=h.cs hn;have H:=hid h;have HS:=hid hs;have HA:=hid ha;have HL:=hid hl;have HN:=hid h.len;obtain⟨xn,hxn⟩:∃ k,x.n=k:=⟨_,rfl⟩;have hn':=hn;rw[hxn] at c9 hn';clear h hs ha hl;go_enter Tryz.func126,Tryz.ntmps126
 go_wp2_with fail
 refine(search_any x y S n key w H.out (by have:=HL.out;omega) HS.out).mono ?_
 rintro r w1 ⟨i,f,rfl,hp,hb⟩;have HP:=hid hp;have HB:=hid hb;have h1:=H.out.same hb;have d9:=h1.c9;rw[hxn] at d9;have H1:=hid h1;clear hp hb h1;cases f with
 | true =>
  obtain⟨z,hz,hzk⟩:=HP.out.fnd.1 rfl;obtain⟨A,cap,hsv,hcap,hcap2,hrd,hg⟩:=H1.out.svrd n;have hlt:=(List.getElem?_eq_some_iff.1 hz).1;obtain⟨g,rfl⟩:=hg (by omega)
  obtain⟨-,u1⟩:=us_cell hrd hz;rw[hzk] at u1;have hom:=H1.out.comp (.us n);have hnd:=H1.out.comp (.nd n key);have hc1:=Blk.new w1 3 #[.int .i64 (u:Int)];have hr2:=H1.out.alloc (.cells #[.int .i64 (u:Int)] 3);have HND:=hid (hr2.comp (.nd n key));have HC1:=hid (hc1.cell 0);have HBS:=hid hr2.size;have HOM:=hid (hr2.comp (.us n));have HSV:=hid hsv;have hil:(i:Int)<((S.us n).length:Int):=by omega
  obtain⟨m,hm⟩:∃ m,(S.us n).length=m:=⟨_,rfl⟩;rw[hm] at hsv hil hlt hcap;have HM:=hid hm;have HK1:=hid (Kept.of_below (HB.out.alloc HB.out.size (.cells #[.int .i64 (u:Int)] 3)) (fun k=>(y.nv n key).ownBlock=some k))
  have HW1:=hid HB.out.size;rw[hsv];clear hom hnd hc1 hr2 hrd hg hz hzk hsv hm c9 cs;go_wp2_with (at_builtin;refine wpList_push1 _ rfl _ _ rfl x.B _ ((at_ (S.us n) key).map nI) (u:Int) _ 1 rfl HND.out rfl HC1.out (by rw[List.length_map];have:=HA.out;omega) HBS.out ?_)
  intro v' w2 k1 k2 k3;obtain⟨VA,vc,hv',-⟩:=OwnI.rd k1;generalize (List.map nI (at_ (S.us n) key)++[(u:Int)]).length=vn at hv';subst hv';have hk2:=HK1.out.grownG k2 (fun _ _ e=>e)
  have hom2:OwnU w2 x.B (y.sv n) (y.nv n) (S.us n):=by
   refine own_keptG HOM.out ((Kept.refl (fun k=>(y.nv n key).ownBlock=some k) _).grownG k2 (fun _ _ e=>e)) fun k e1 e2=>?_
   have:=H.out.inj (.us n) (.nd n key) k e1 e2;cases this
  unfold OwnU at hom2;rw[HSV.out,HM.out] at hom2;have hfl:((S.us n).flatMap (usC (y.nv n))).length=m*2:=by rw[flat_len,HM.out]
  have hsz:w.heap.size≤w1.heap.size+1:=Nat.le_succ_of_le HW1.out;have hat:=at_add HP.out HS.out u;have FIN:=use_fin H.out (wz:=w2) (i:=i) (g:=g) (m:=m) (cap:=cap) (key:=key) (l':=addAt (S.us n) key u i true) hn (fun k hk=>by rw[hat,if_neg hk]) (hk2.mono fun k _ e=>.inr e) hom2 (by rw[hfl];omega) (by rw[hat,if_pos rfl,List.map_append];exact k1) (.inl (by rw[HSV.out];rfl)) (k3.imp id fun e=>.inr ⟨_,e,hsz⟩) (fun e=>by
    rcases k3 with k3 | k3
    ·rw[k3] at e;have:=H.out.inj (.us n) (.nd n key) g (by show(y.sv n).ownBlock=_;rw[HSV.out];rfl) e
     cases this
    ·rw[k3] at e;injection e with e
     have:=(H.out.lt (.us n) g (by show(y.sv n).ownBlock=_;rw[HSV.out];rfl)).2
     omega) (by unfold addAt;simp only[if_true];rw[List.length_set];exact HM.out.symm) (cells_add_yes HP.out HS.out _ u _)
  obtain⟨⟨⟨pv,p1⟩,p2⟩,p3,p4,p5,p6,p7⟩:=FIN;rw[hxn] at p3;have P6:=hid p6;have P7:=hid p7;clear p6 p7 k1 k2 k3 hk2 hom2 hfl hsz hat;go_wp2_with fail
  go_returns
  exact⟨rfl,i,true,_,_,HP.out,P6.out,P7.out⟩
 | false =>
  obtain⟨m,hm⟩:∃ m,(S.us n).length=m:=⟨_,rfl⟩;have hr2:=H1.out.alloc (.cells #[.string key,.slice none 0 0] 166);have HOM:Hid ((w1.alloc (.cells #[.string key,.slice none 0 0] 166)).ownsRow x.B 166 2 (y.sv n) m ((S.us n).flatMap (usC (y.nv n)))):=hid (by rw[← hm];exact hr2.comp (.us n))
  have HBS:=hid hr2.size;have HV:=hid (Blk.new w1 166 #[.string key,.slice none 0 0]);have HM:=hid hm;have HIM:Hid (i≤m):=hid (hm▸HP.out.le);have HK1:=hid (Kept.of_below (HB.out.alloc HB.out.size (.cells #[.string key,.slice none 0 0] 166)) (fun k=>(y.sv n).ownBlock=some k))
  have HW1:=hid HB.out.size;have HNE:Hid ((y.sv n).ownBlock≠some w1.heap.size):=hid fun e=>by
   have:=(H1.out.lt (.us n) _ e).2;omega
  have HO1:Hid (∀ u∈(S.us n).flatMap (usC (y.nv n)),u.oneCell'=true):=hid (oneCell_of fun k=>by
   obtain⟨A,c,e,-⟩:=H.out.nvrd n k;rw[e];rfl)
  clear hm hr2 c9 cs;go_wp2_with fail
  refine(insert_any x.B (y.sv n) m i w1.heap.size ((S.us n).flatMap (usC (y.nv n))) (.string key) (.slice none 0 0) _ HOM.out HIM.out HBS.out (by have:=HL.out;have:=HM.out;omega) HV.out HNE.out rfl rfl HO1.out).mono ?_
  rintro r w2 ⟨v',rfl,ho2,hg2,hv2⟩;obtain⟨A,cap,rfl,hcap,hcap2,-,hgg⟩:=own_form2 ho2;obtain⟨g,rfl⟩:=hgg (by omega)
  have hfl:((S.us n).flatMap (usC (y.nv n))).length=m*2:=by rw[flat_len,HM.out]
  have hti:(((S.us n).flatMap (usC (y.nv n))).take (i*2)).length=i*2:=by rw[List.length_take,hfl];have:=HIM.out;omega
  have u1:w2.cell? ⟨g,i*2+1,none⟩=some (.slice none 0 0):=by
   have:=ho2.cells (g:=g) rfl (i*2+1) (.slice none 0 0) (by
    rw[List.append_assoc,List.getElem?_append_right (by omega),hti,show i*2+1-i*2=1 by omega];rfl)
   rwa [addr_lit,Nat.zero_add] at this
  have hil:(i:Int)<(m:Int)+1:=by have:=HIM.out;omega
  have HC1:=hid ((Blk.new w2 3 #[.int .i64 (u:Int)]).cell 0);have HK2:=hid (HK1.out.grownG hg2 (fun _ _ e=>e))
  have HO2:=hid ho2;have HV2:=hid hv2;have HFL:=hid hfl;have HTI:=hid hti;have HBW2:Hid (x.B≤(w2.alloc (.cells #[.int .i64 (u:Int)] 3)).heap.size):=hid (by have:=HK2.out.size;have:=H.out.size;show x.B≤(w2.heap.push _).size;rw[Array.size_push];omega)
  clear hfl hti ho2 hv2 hg2 hgg;go_wp2_with (at_builtin;refine wpList_push1 _ rfl _ _ rfl x.B _ [] (u:Int) _ 1 rfl ⟨rfl,.inl ⟨rfl,rfl⟩⟩ rfl HC1.out (by simp) HBW2.out ?_)
  intro v'' w3 k1 k2 k3;obtain⟨VA,vc,hv',-⟩:=OwnI.rd k1;generalize ([(u:Int)]:List Int).length=vn at hv';subst hv';have hk3:=(HK2.out.alloc (.cells #[.int .i64 (u:Int)] 3)).grownG k2 (fun _ _ e=>by cases e)
  have hom3:=own_keptG HO2.out (((Kept.refl (fun _=>False) w2).alloc (.cells #[.int .i64 (u:Int)] 3)).grownG k2 (fun _ _ e=>by cases e)) (fun _ _ e=>e)
  have hgl:=(own_ltG HO2.out (k:=g) rfl).2;have hs2:w.heap.size≤w2.heap.size+1:=Nat.le_succ_of_le HK2.out.size;have hat:=at_add HP.out HS.out u;have hat0:at_ (S.us n) key=[]:=at_none fun z hz=>by
   rw[← List.take_append_drop i (S.us n),List.mem_append] at hz;rcases hz with hz | hz
   ·exact HP.out.take_ne z hz
   ·exact(less_ne (HP.out.drop HS.out z hz)).symm
  have FIN:=use_fin H.out (wz:=w3) (i:=i) (g:=g) (m:=m+1) (cap:=cap) (key:=key) (l':=addAt (S.us n) key u i false) hn (fun k hk=>by rw[hat,if_neg hk]) (hk3.mono fun k _ e=>.inl e) hom3 (by rw[List.length_append,List.length_append,HTI.out];simp;omega) (by rw[hat,if_pos rfl,hat0];exact k1) (by
    rcases HV2.out with e | ⟨k,e,h1,_⟩
    ·exact .inl e.symm
    ·injection e with e
     refine .inr ?_;have e':g=k:=e;have h2:w1.heap.size+1≤k:=(Array.size_push (xs:=w1.heap) (Obj.cells #[.string key,.slice none 0 0] 166))▸h1;have:=HW1.out;omega) (by
    rcases k3 with k3 | k3
    ·exact .inr (.inl k3)
    ·exact .inr (.inr ⟨_,k3,hs2⟩)) (fun e=>by
    rcases k3 with k3 | k3
    ·rw[k3] at e;cases e
    ·rw[k3] at e;injection e with e
     omega) (by have:=HIM.out;unfold addAt;simp only[Bool.false_eq_true,if_false,List.length_append,List.length_take,List.length_cons,List.length_drop,HM.out];omega) (cells_add_no HP.out HS.out _ u _ _)
  obtain⟨⟨⟨pv,p1⟩,p2⟩,p3,p4,p5,p6,p7⟩:=FIN;rw[hxn] at p3;have P6:=hid p6;have P7:=hid p7;clear p6 p7 k1 k2 k3 hk3 hom3 hgl hs2 hat hat0;go_wp2_with fail
  go_returns
  exact⟨rfl,i,false,_,_,HP.out,P6.out,P7.out⟩
end SM
end
section
open Go.RowKit
namespace SM
open CM (nd kids)
def keyOf (x:Gi)(i:Nat):ByteArray:=if x.kind=7 then x.keys.getD i ⟨#[]⟩ else⟨#[]⟩
structure KI (g:List Gi)(D:Nat→Nat→Prop)(un:Nat→List Nat)(us:Nat→List (ByteArray × List Nat)):Prop where
 lt:∀ u i,D u i→u<g.length
 unD:∀ c,(un c).Nodup
 unM:∀ c u,u∈un c↔∃ i,D u i∧(nd g u).kind=8∧(kids (nd g u))[i]? = some c
 srt:∀ c,Srt (us c)
 usD:∀ c k,(at_ (us c) k).Nodup
 usM:∀ c k u,u∈at_ (us c) k↔∃ i,D u i∧((nd g u).kind=9∨(nd g u).kind=7)∧(kids (nd g u))[i]? = some c∧keyOf (nd g u) i=k
 ne:∀ c,∀ z∈us c,z.2≠[]
section
variable {g : List Gi} {D : Nat → Nat → Prop} {un : Nat → List Nat} {us : Nat → List (ByteArray × List Nat)}
theorem KI.congr (h:KI g D un us){D':Nat→Nat→Prop}(e:∀ u i,(D' u i∧i<(kids (nd g u)).length)↔(D u i∧i<(kids (nd g u)).length))(hlt:∀ u i,D' u i→u<g.length):KI g D' un us:=by
 have key:∀ u i c,(kids (nd g u))[i]? = some c→(D' u i↔D u i):=fun u i c hc=>by
  have hi:=(List.getElem?_eq_some_iff.1 hc).1;exact⟨fun hd=>((e u i).1 ⟨hd,hi⟩).1,fun hd=>((e u i).2 ⟨hd,hi⟩).1⟩
 refine⟨hlt,h.unD,fun c u=>(h.unM c u).trans ⟨?_,?_⟩,h.srt,h.usD,fun c k u=>(h.usM c k u).trans ⟨?_,?_⟩,h.ne⟩
 ·rintro ⟨i,h1,h2,h3⟩;exact⟨i,(key u i c h3).2 h1,h2,h3⟩
 ·rintro ⟨i,h1,h2,h3⟩;exact⟨i,(key u i c h3).1 h1,h2,h3⟩
 ·rintro ⟨i,h1,h2,h3,h4⟩;exact⟨i,(key u i c h3).2 h1,h2,h3,h4⟩
 ·rintro ⟨i,h1,h2,h3,h4⟩;exact⟨i,(key u i c h3).1 h1,h2,h3,h4⟩
theorem nodup_get {l:List Nat}(h:l.Nodup){i j c:Nat}(hi:l[i]? = some c)(hj:l[j]? = some c):i=j:=by
 obtain⟨h1,e1⟩:=List.getElem?_eq_some_iff.1 hi;obtain⟨h2,e2⟩:=List.getElem?_eq_some_iff.1 hj;exact(List.getElem_inj h).1 (e1.trans e2.symm)
theorem KI.uni (hf:Fine g)(h:KI g D un us){u i c:Nat}(hu:u<g.length)(h8:(nd g u).kind=8)(hc:(kids (nd g u))[i]? = some c)(hD:¬ D u i) :
  KI g (fun a j=>D a j∨(a=u∧j=i)) (fun m=>if m=c then un c++[u] else un m) us:=by
 have hnew:u ∉ un c:=fun hm=>by
  obtain⟨j,h1,_,h3⟩:=(h.unM c u).1 hm;exact hD (nodup_get (hf.uni u hu h8).1 h3 hc▸h1)
 refine⟨fun a j hd=>?_,fun m=>?_,fun m a=>?_,h.srt,h.usD,fun m k a=>(h.usM m k a).trans ⟨?_,?_⟩,h.ne⟩
 ·rcases hd with hd | ⟨rfl,_⟩
  ·exact h.lt a j hd
  ·exact hu
 ·by_cases hm:m=c
  ·rw[if_pos hm];rw[List.nodup_append];exact⟨h.unD c,by simp,fun a ha b hb e=>by simp at hb;subst hb;subst e;exact hnew ha⟩
  ·rw[if_neg hm];exact h.unD m
 ·by_cases hm:m=c
  ·subst hm;rw[if_pos rfl,List.mem_append,List.mem_singleton,h.unM m a];constructor
   ·rintro (⟨j,h1,h2,h3⟩ | rfl)
    ·exact⟨j,.inl h1,h2,h3⟩
    ·exact⟨i,.inr ⟨rfl,rfl⟩,h8,hc⟩
   ·rintro ⟨j,h1 | ⟨rfl,rfl⟩,h2,h3⟩
    ·exact .inl ⟨j,h1,h2,h3⟩
    ·exact .inr rfl
  ·rw[if_neg hm,h.unM m a];constructor
   ·rintro ⟨j,h1,h2,h3⟩;exact⟨j,.inl h1,h2,h3⟩
   ·rintro ⟨j,h1 | ⟨rfl,rfl⟩,h2,h3⟩
    ·exact⟨j,h1,h2,h3⟩
    ·rw[hc] at h3;injection h3 with h3;exact absurd h3.symm hm
 ·rintro ⟨j,h1,h2,h3,h4⟩;exact⟨j,.inl h1,h2,h3,h4⟩
 ·rintro ⟨j,h1 | ⟨rfl,rfl⟩,h2,h3,h4⟩
  ·exact⟨j,h1,h2,h3,h4⟩
  ·rw[h8] at h2;rcases h2 with h2 | h2<;>cases h2
theorem Fine.keyOf_inj (hf:Fine g){u i j c d:Nat}(hu:u<g.length)(hk:(nd g u).kind=9∨(nd g u).kind=7)(hi:(kids (nd g u))[i]? = some c)(hj:(kids (nd g u))[j]? = some d)(e:keyOf (nd g u) i=keyOf (nd g u) j):i=j:=by
 have h1:=(List.getElem?_eq_some_iff.1 hi).1;have h2:=(List.getElem?_eq_some_iff.1 hj).1;rcases hk with hk | hk
 ·have:=hf.var u hu hk;omega
 ·unfold keyOf at e;rw[if_pos hk,if_pos hk] at e;have hl:=(hf.recd u hu hk).1;rw[kids_len] at h1 h2;rcases Nat.lt_trichotomy i j with h | h | h
  ·have:=hf.keys u hu hk i j h (by omega)
   exact absurd e (less_ne this)
  ·exact h
  ·have:=hf.keys u hu hk j i h (by omega)
   exact absurd e.symm (less_ne this)
theorem addAt_ne {l:List (ByteArray × List Nat)}{key:ByteArray}{u i:Nat}{f:Bool}(h:∀ z∈l,z.2≠[]):∀ z∈addAt l key u i f,z.2≠[]:=by
 intro z hz;unfold addAt at hz;cases f
 ·simp only[Bool.false_eq_true,if_false,List.mem_append,List.mem_cons] at hz;rcases hz with hz | rfl | hz
  ·exact h z (List.mem_of_mem_take hz)
  ·simp
  ·exact h z (List.mem_of_mem_drop hz)
 ·simp only[if_true] at hz;rcases List.mem_or_eq_of_mem_set hz with hz | rfl
  ·exact h z hz
  ·simp
theorem KI.use (hf:Fine g)(h:KI g D un us){u i c p:Nat}{f:Bool}(hu:u<g.length)(hk:(nd g u).kind=9∨(nd g u).kind=7)(hc:(kids (nd g u))[i]? = some c)(hD:¬ D u i)(hp:Pos (us c) (keyOf (nd g u) i) p f) :
  KI g (fun a j=>D a j∨(a=u∧j=i)) un (fun m=>if m=c then addAt (us c) (keyOf (nd g u) i) u p f else us m):=by
 have hat:=at_add hp (h.srt c) u;have hnew:u ∉ at_ (us c) (keyOf (nd g u) i):=fun hm=>by
  obtain⟨j,h1,_,h3,h4⟩:=(h.usM c _ u).1 hm;exact hD (hf.keyOf_inj hu hk h3 hc h4▸h1)
 refine⟨fun a j hd=>?_,h.unD,fun m a=>(h.unM m a).trans ⟨?_,?_⟩,fun m=>?_,fun m k=>?_,fun m k a=>?_,fun m=>?_⟩
 ·rcases hd with hd | ⟨rfl,_⟩
  ·exact h.lt a j hd
  ·exact hu
 ·rintro ⟨j,h1,h2,h3⟩;exact⟨j,.inl h1,h2,h3⟩
 ·rintro ⟨j,h1 | ⟨rfl,rfl⟩,h2,h3⟩
  ·exact⟨j,h1,h2,h3⟩
  ·rw[h2] at hk;rcases hk with hk | hk<;>cases hk
 ·by_cases hm:m=c
  ·rw[if_pos hm];exact srt_add hp (h.srt c) u
  ·rw[if_neg hm];exact h.srt m
 ·by_cases hm:m=c
  ·rw[if_pos hm,hat];by_cases hkk:k=keyOf (nd g u) i
   ·rw[if_pos hkk,List.nodup_append];exact⟨h.usD c _,by simp,fun a ha b hb e=>by simp at hb;subst hb;subst e;exact hnew ha⟩
   ·rw[if_neg hkk];exact h.usD c k
  ·rw[if_neg hm];exact h.usD m k
 ·by_cases hm:m=c
  ·subst hm;rw[if_pos rfl,hat];by_cases hkk:k=keyOf (nd g u) i
   ·rw[if_pos hkk,List.mem_append,List.mem_singleton,h.usM m _ a];constructor
    ·rintro (⟨j,h1,h2,h3,h4⟩ | rfl)
     ·exact⟨j,.inl h1,h2,h3,h4.trans hkk.symm⟩
     ·exact⟨i,.inr ⟨rfl,rfl⟩,hk,hc,hkk.symm⟩
    ·rintro ⟨j,h1 | ⟨rfl,rfl⟩,h2,h3,h4⟩
     ·exact .inl ⟨j,h1,h2,h3,h4.trans hkk⟩
     ·exact .inr rfl
   ·rw[if_neg hkk,h.usM m k a];constructor
    ·rintro ⟨j,h1,h2,h3,h4⟩;exact⟨j,.inl h1,h2,h3,h4⟩
    ·rintro ⟨j,h1 | ⟨rfl,rfl⟩,h2,h3,h4⟩
     ·exact⟨j,h1,h2,h3,h4⟩
     ·exact absurd h4.symm hkk
  ·rw[if_neg hm,h.usM m k a];constructor
   ·rintro ⟨j,h1,h2,h3,h4⟩;exact⟨j,.inl h1,h2,h3,h4⟩
   ·rintro ⟨j,h1 | ⟨rfl,rfl⟩,h2,h3,h4⟩
    ·exact⟨j,h1,h2,h3,h4⟩
    ·rw[hc] at h3;injection h3 with h3;exact absurd h3.symm hm
 ·by_cases hm:m=c
  ·rw[if_pos hm];exact addAt_ne (h.ne c)
  ·rw[if_neg hm];exact h.ne m
theorem KI.at_len (hf:Fine g)(h:KI g D un us)(c:Nat)(k:ByteArray):(at_ (us c) k).length≤g.length:=by
 have:=nodup_sub_len (h.usD c k) (m:=List.range g.length) fun u hu=>by
  obtain⟨i,h1,_⟩:=(h.usM c k u).1 hu;exact List.mem_range.2 (h.lt u i h1)
 rwa [List.length_range] at this
theorem KI.un_len (hf:Fine g)(h:KI g D un us)(c:Nat):(un c).length≤g.length∧∀ u∈un c,u<g.length:=by
 have key:∀ u∈un c,u<g.length:=fun u hu=>by
  obtain⟨i,h1,_⟩:=(h.unM c u).1 hu;exact h.lt u i h1
 have:=nodup_sub_len (h.unD c) (m:=List.range g.length) fun u hu=>List.mem_range.2 (key u hu)
 rw[List.length_range] at this;exact⟨this,key⟩
theorem Srt.at_ {l:List (ByteArray × List Nat)}(h:Srt l){z:ByteArray × List Nat}(hz:z∈l):at_ l z.1=z.2:=by
 obtain⟨i,hi⟩:=List.getElem?_of_mem hz;have hl:l=l.take i++z::l.drop (i+1):=by rw[← drop_at hi,List.take_append_drop]
 have hlt:=(List.getElem?_eq_some_iff.1 hi).1
 conv=>lhs;rw[hl]
 rw[at_app fun z' hz'=>?_]
 ·exact at_here
 ·obtain⟨j,hj,e⟩:=mem_take_lt hz';exact less_ne (h j i z' z hj e hi)
theorem Srt.nodup {l:List (ByteArray × List Nat)}(h:Srt l):(l.map (·.1)).Nodup:=by
 unfold List.Nodup;rw[List.pairwise_map];exact((srt_iff l).1 h).imp fun hab=>less_ne hab
theorem KI.us_len (hf:Fine g)(h:KI g D un us)(c:Nat):(us c).length≤g.length*16+1:=by
 have key:∀ k∈(us c).map (·.1),k∈(⟨#[]⟩:ByteArray)::g.flatMap fun x=>x.keys.take 16:=by
  intro k hk;obtain⟨z,hz,rfl⟩:=List.mem_map.1 hk;obtain⟨u,hu⟩:=List.exists_mem_of_ne_nil _ (h.ne c z hz);rw[← (h.srt c).at_ hz] at hu;obtain⟨i,h1,h2,h3,h4⟩:=(h.usM c z.1 u).1 hu;rcases h2 with h2 | h2
  ·unfold keyOf at h4;rw[if_neg (by omega)] at h4
   rw[← h4];exact List.mem_cons_self ..
  ·refine List.mem_cons_of_mem _ (List.mem_flatMap.2 ⟨nd g u,?_,?_⟩)
   ·have hu:=h.lt u i h1;unfold CM.nd;rw[List.getD_eq_getElem?_getD,List.getElem?_eq_getElem hu];exact List.getElem_mem hu
   ·have hi:=(List.getElem?_eq_some_iff.1 h3).1;obtain⟨q1,q2⟩:=hf.recd u (h.lt u i h1) h2;rw[kids_len] at hi;unfold keyOf at h4;rw[if_pos h2] at h4;rw[List.take_of_length_le q2,← h4,List.getD_eq_getElem?_getD,List.getElem?_eq_getElem (by omega)]
    exact List.getElem_mem _
 have:=nodup_sub_len (h.srt c).nodup key;have hfl:(g.flatMap fun x=>x.keys.take 16).length≤g.length*16:=by
  clear key this h hf;induction g with
  | nil=>simp
  | cons x g ih=>rw[List.flatMap_cons,List.length_append,List.length_take,List.length_cons];omega
 rw[List.length_map,List.length_cons] at this;omega
end
end SM
end
section
open Lib (hid)
open Go.RowKit
namespace SM
open CM (nd kids)
theorem step_pushI (w:World){ops:Array Oper}{o:Oper}{a:Act}{K:Act→World→Prop}{Q:Exit→Act→World→Prop}{E:Prop}(hgd:o.guard=none)(s z:Operand)
  (hop:o.op=Op.call { callee:=Callee.builtin Builtin.append,args := #[s,z],argTypes := #[35,35] })
  (base:Nat)(v:Value)(l:List Int)(p:Int)(ad:Addr)(c:Nat)(hs:a.eval s=v)(hown:OwnI w base v l)(hx:a.eval z=.slice (some ad) 1 c)
  (hc0:w.cell? ad=some (.int .i64 p))(hlen:l.length≤1000000000000)(hbase:base≤w.heap.size)
  (h:∀ g cap w',OwnI w' base (.slice (some ⟨g,0,none⟩) (l.length+1) cap) (l++[p])→w.grownBy w' v.ownBlock→(v.ownBlock=some g∨g=w.heap.size)→g<w'.heap.size→K (a.put o.dst (.slice (some ⟨g,0,none⟩) (l.length+1) cap)) w') :
  if Region.wanted o (yielded ops a.tmps)=true then Oper.wp Tryz.prog o a w K Q else E:=by
 obtain⟨i0,hi,hz0,hz1,hz2⟩:=info_parts info_intG;have hlast:∀(j:Nat) u,[Value.int .i64 p][j]? = some u→w.cell? (ad.add j)=some u:=by
  intro j u hj
  match j with
  | 0=>simp at hj;subst hj;rw[show ad.add 0=ad from rfl];exact hc0
  | j+1=>simp at hj
 refine step_append_lies w hgd s z 35 hop base 3 i0 _ 1 8 Tryz.underlying35 hi hz0 hz1 hz2 rfl (by decide) v l.length (l.flatMap iC) hs hown ad 1 c [.int .i64 p] hx rfl hlast ?_ (by decide) (by unfold maxLen;omega) (by omega) hbase w.heap.size rfl ?_
 ·intro u hu;simp at hu;rw[hu];rfl
 ·intro g cap w' h1 h2 h3 h4;refine h g cap w' ?_ h2 h3 h4;unfold OwnI;rw[List.flatMap_append,List.length_append];exact h1
theorem RelW.setkn {x:Cx}{w:World}{y:Lay}{S:St}(h:RelW x w y S)(n:Nat):RelW x (w.setCell ⟨y.kb,n,none⟩ (.bool true)) y { S with kn:=fun m=>decide (m=n) || S.kn m }∧Stp w y (w.setCell ⟨y.kb,n,none⟩ (.bool true)) y:=by
 refine h.upd (fun X=>X=.kb) ?_ (fun X=>.inl rfl) (fun X Y k hk hX _=>by have:=(h.lt X k hX).2;omega) (fun X hX hc=>?_) (fun X hX=>?_)
 ·exact(Kept.refl _ w).setCell (p:=⟨y.kb,n,none⟩) (fun _=>⟨.kb,rfl,rfl⟩) _
 ·cases X<;>first | exact hc | exact absurd rfl hX
 ·subst hX;have hb:Blk w y.kb 4 (vals (fun i=>.bool (S.kn i)) x.n):=h.comp .kb
  have:=hb.set_ n (.bool true);rw[vals_set] at this
  show Blk _ y.kb 4 (vals (fun i=>.bool (decide (i=n) || S.kn i)) x.n)
  have e:(fun j=>if j=n then Value.bool true else .bool (S.kn j))=fun i=>.bool (decide (i=n) || S.kn i):=by
   funext j
   by_cases hj:j=n
   ·rw[if_pos hj,decide_eq_true hj];rfl
   ·rw[if_neg hj,decide_eq_false hj];rfl
  rw[e] at this;exact this
theorem RelW.setun {x:Cx}{w w1:World}{y:Lay}{S:St}(h:RelW x w y S){c:Nat}{v':Value}{l':List Nat}(hg:w.grownBy w1 (y.uv c).ownBlock)(ho:OwnI w1 x.B v' (l'.map nI))(hv:v'.ownBlock=(y.uv c).ownBlock∨(∃ k,v'.ownBlock=some k∧w.heap.size≤k∧k<w1.heap.size)) :
  w1.cell? ⟨y.rel,8,none⟩=some (.slice (some ⟨y.ub,0,none⟩) x.n x.n)∧(c<x.n→w1.cell? ⟨y.ub,c,none⟩=some (y.uv c))∧w1.frozen? ⟨y.ub,c,none⟩=false ∧
  RelW x (w1.setCell ⟨y.ub,c,none⟩ v') { y with uv:=fun m=>if m=c then v' else y.uv m } { S with un:=fun m=>if m=c then l' else S.un m }∧Stp w y (w1.setCell ⟨y.ub,c,none⟩ v') { y with uv:=fun m=>if m=c then v' else y.uv m }:=by
 have hub:=(h.lt .ub y.ub rfl).2;have hk:Kept (fun k=>∃ X,(X=Ro.ub∨X=Ro.un c)∧bl y X=some k) w (w1.setCell ⟨y.ub,c,none⟩ v'):=by
  have k1:Kept (fun k=>∃ X,(X=Ro.ub∨X=Ro.un c)∧bl y X=some k) w w1:=(Kept.refl _ w).grownG hg fun i _ e=>⟨.un c,.inr rfl,e⟩
  exact k1.setCell (p:=⟨y.ub,c,none⟩) (fun _=>⟨.ub,.inl rfl,rfl⟩) v'
 have hne:∀ k,v'.ownBlock=some k→k≠y.ub:=fun k hk e=>by
  rcases hv with hv | ⟨k',hv,h1,_⟩
  ·have:Ro.un c=Ro.ub:=h.inj (.un c) .ub k (by show(y.uv c).ownBlock=some k;rw[← hv];exact hk) (by rw[e];rfl)
   cases this
  ·rw[hv] at hk;injection hk with hk;omega
 have hsz:(w1.setCell ⟨y.ub,c,none⟩ v').heap.size=w1.heap.size:=by simp[World.setCell]
 have k2:=(Kept.refl (fun i=>(y.uv c).ownBlock=some i) w).grownG hg (fun i _ e=>e)
 have hb:Blk w1 y.ub 35 (vals y.uv x.n):=k2.blk (h.comp .ub) fun e=>by
  have:=h.inj (.un c) .ub y.ub e rfl;cases this
 have hr:Blk w1 y.rel 127 (relC x y):=k2.blk h.bR fun e=>by
  have:=h.inj (.un c) .rel y.rel e rfl;cases this
 refine⟨hr.cell 8,fun hc=>(hb.cell c).trans (vals_get hc),hb.frozen c,h.upd (fun X=>X=.ub∨X=.un c) hk (fun X=>?_) (fun X Y k hk hX hY=>?_) (fun X hX hc=>?_) (fun X hX=>?_)⟩
 ·cases X<;>try exact .inl rfl
  case un m =>
   by_cases hm:m=c
   ·subst hm;have e:bl { y with uv:=fun j=>if j=m then v' else y.uv j } (.un m)=v'.ownBlock:=by show(if m=m then v' else y.uv m).ownBlock=_;rw[if_pos rfl]
    rcases hv with hv | ⟨k',hv,h1,h2⟩
    ·exact .inl (e.trans hv)
    ·exact .inr (.inr ⟨.inr rfl,k',e.trans hv,h1,by rw[hsz];exact h2⟩)
   ·exact .inl (by show(if m=c then v' else y.uv m).ownBlock=_;rw[if_neg hm];rfl)
 ·have key:∀ X,bl { y with uv:=fun m=>if m=c then v' else y.uv m } X=some k→X=.un c:=fun X hX=>Classical.byContradiction fun hne=>by
   have e:bl { y with uv:=fun m=>if m=c then v' else y.uv m } X=bl y X:=by
    cases X<;>try rfl
    case un m=>show(if m=c then v' else y.uv m).ownBlock=_;rw[if_neg (fun e=>hne (by rw[e]))];rfl
   have:=(h.lt X k (e▸hX)).2;omega
  rw[key X hX,key Y hY]
 ·cases X<;>try exact hc
  case ub=>exact absurd (.inl rfl) hX
  case un m =>
   have hm:m≠c:=fun e=>hX (.inr (by rw[e]))
   show OwnI _ x.B (if m=c then v' else y.uv m) ((if m=c then l' else S.un m).map nI)
   rw[if_neg hm,if_neg hm];exact hc
 ·rcases hX with rfl | rfl
  ·show Blk _ y.ub 35 (vals (fun m=>if m=c then v' else y.uv m) x.n)
   rw[← vals_set];exact hb.set_ c v'
  ·show OwnI _ x.B (if c=c then v' else y.uv c) ((if c=c then l' else S.un c).map nI)
   rw[if_pos rfl,if_pos rfl];exact ho.kept (kept_set (w:=w1) (q0:=y.ub) (idx:=c) (u:=v')) fun k hk e=>hne k hk e
def KD (g:List Gi)(kn:Nat→Bool)(u _i:Nat):Prop:=kn u=true∧u<g.length
def KnowOut (x:Cx)(y:Lay)(S:St)(n:Nat)(w:World)(r:Ending)(w':World):Prop:=
 r=.returned (.tuple #[])∧∃ y' un' us',y'.rel=y.rel∧RelW x w' y' { S with kn:=fun m=>decide (m=n) || S.kn m,un:=un',us:=us' }∧Stp w y w' y'∧KI x.g (KD x.g fun m=>decide (m=n) || S.kn m) un' us'
def KDj (g:List Gi)(kn:Nat→Bool)(n j:Nat)(u i:Nat):Prop:=(kn u=true∧u<g.length)∨(u=n∧i<j)
theorem KI.start {g:List Gi}{kn:Nat→Bool}{un:Nat→List Nat}{us:Nat→List (ByteArray × List Nat)}{n:Nat}(h:KI g (KD g kn) un us)(hn:n<g.length):KI g (KDj g kn n 0) un us:=
 h.congr (fun u i=>⟨fun⟨hd,hi⟩=>⟨hd.elim id fun e=>absurd e.2 (by omega),hi⟩,fun⟨hd,hi⟩=>⟨.inl hd,hi⟩⟩) fun u i hd=>hd.elim (fun e=>e.2) fun e=>e.1▸hn
theorem KI.stop {g:List Gi}{kn:Nat→Bool}{un:Nat→List Nat}{us:Nat→List (ByteArray × List Nat)}{n j:Nat}(h:KI g (KDj g kn n j) un us)(hn:n<g.length)(hj:(kids (nd g n)).length≤j):KI g (KD g fun m=>decide (m=n) || kn m) un us:=
 h.congr (fun u i=>⟨fun⟨hd,hi⟩=>⟨by
   obtain⟨h1,h2⟩:=hd;simp only[Bool.or_eq_true,decide_eq_true_eq] at h1;rcases h1 with rfl | h1
   ·exact .inr ⟨rfl,by omega⟩
   ·exact .inl ⟨h1,h2⟩,hi⟩,fun⟨hd,hi⟩=>⟨by
   rcases hd with⟨h1,h2⟩ | ⟨rfl,_⟩
   ·exact⟨by simp[h1],h2⟩
   ·exact⟨by simp,hn⟩,hi⟩⟩) fun u i hd=>hd.2
theorem KI.next {g:List Gi}{kn:Nat→Bool}{un:Nat→List Nat}{us:Nat→List (ByteArray × List Nat)}{n j:Nat}(h:KI g (fun a i=>KDj g kn n j a i∨(a=n∧i=j)) un us)(hn:n<g.length):KI g (KDj g kn n (j+1)) un us:=
 h.congr (fun u i=>⟨fun⟨hd,hi⟩=>⟨by
   rcases hd with hd | ⟨rfl,h2⟩
   ·exact .inl (.inl hd)
   ·by_cases e:i=j
    ·exact .inr ⟨rfl,e⟩
    ·exact .inl (.inr ⟨rfl,by omega⟩),hi⟩,fun⟨hd,hi⟩=>⟨by
   rcases hd with(hd | ⟨rfl,h2⟩) | ⟨rfl,h2⟩
   ·exact .inl hd
   ·exact .inr ⟨rfl,by omega⟩
   ·exact .inr ⟨rfl,by omega⟩,hi⟩⟩) fun u i hd=>hd.elim (fun e=>e.2) fun e=>e.1▸hn
set_option maxRecDepth 100000 in
set_option maxHeartbeats 16000000 in
theorem know_any (x:Cx)(y:Lay)(S:St)(n:Nat)(w:World)(h:RelW x w y S)(hf:Fine x.g)(hn:n<x.n)(hk:KI x.g (KD x.g S.kn) S.un S.us) :
  Calls Tryz.prog 112 #[.pointer (some ⟨y.rel,0,none⟩),.int .i64 (n:Int)] w (KnowOut x y S n w):=by
 have c7:=h.c7;have ck:=h.ck hn;have hlen:=h.len;obtain⟨xn,hxn⟩:∃ k,x.n=k:=⟨_,rfl⟩;have hn':=hn;rw[hxn] at c7 hn' hlen;have H:=hid h;have HF:=hid hf;have HK:=hid hk;by_cases hkn:S.kn n=true
 ·rw[hkn] at ck;have E:Hid ((fun m=>decide (m=n) || S.kn m)=S.kn):=hid (by
   funext m
   by_cases hm:m=n
   ·rw[hm,hkn];simp
   ·simp[hm])
  clear h hf hk;go_enter Tryz.func112,Tryz.ntmps112
  go_wp2_with fail
  go_returns
  refine⟨rfl,y,S.un,S.us,rfl,?_,Stp.refl _ _,?_⟩
  ·rw[E.out];exact H.out
  ·rw[E.out];exact HK.out
 ·have hkf:S.kn n=false:=by simpa using hkn
  rw[hkf] at ck;have y7:=(show Blk w y.kb 4 (vals (fun i=>.bool (S.kn i)) x.n) from h.comp .kb).frozen n
  obtain⟨hr1,hs1⟩:=h.setkn n;have d0:=hr1.c0;obtain⟨w0,e0,hg0,hb0⟩:=hr1.base;have hb0':Below w0.heap.size w0 (w.setCell ⟨y.kb,n,none⟩ (.bool true)):=by rw[e0];exact hb0
  obtain⟨gb,go_,hA,q⟩:=hg0.at_ (i:=n) (x:=nd x.g n) (by unfold CM.nd;rw[List.getD_eq_getElem?_getD,List.getElem?_eq_getElem hn];rfl)
  rw[hA,hxn] at d0;obtain⟨VA,vc,PA,pc,k0,k1,k2,k3,k4,k5,k6,k7,k8,k9,k10⟩:=q
  replace k0:=cell_below hb0' k0
  replace k1:=cell_below hb0' k1
  replace k2:=cell_below hb0' k2
  replace k3:=cell_below hb0' k3
  replace k4:=cell_below hb0' k4
  have HR1:=hid hr1;have HS1:=hid hs1;have K5:=hid k5;have K6:=hid k6;have HB0:=hid hb0;have E0:=hid e0;clear h hf hk k5 k6 hr1 hs1 hkn hb0 hb0' hg0 e0;go_enter Tryz.func112,Tryz.ntmps112
  go_wp2_with fail
  have h2:=HR1.out.alloc (.cells #[.int .i64 (nd x.g n).kind,.int .i64 (nd x.g n).num,.string (nd x.g n).nm,.slice VA (nd x.g n).keys.length vc,.slice PA (nd x.g n).l.length pc] 54);have hs2:=HS1.out.trans (Stp.of_below y (one_boxS (w.setCell ⟨y.kb,n,none⟩ (.bool true)) (.cells #[.int .i64 (nd x.g n).kind,.int .i64 (nd x.g n).num,.string (nd x.g n).nm,.slice VA (nd x.g n).keys.length vc,.slice PA (nd x.g n).l.length pc] 54)));have hbx:=Blk.new (w.setCell ⟨y.kb,n,none⟩ (.bool true)) 54 #[.int .i64 (nd x.g n).kind,.int .i64 (nd x.g n).num,.string (nd x.g n).nm,.slice VA (nd x.g n).keys.length vc,.slice PA (nd x.g n).l.length pc];have hno:=HR1.out.new;have hb2:=HB0.out.trans ((one_boxS (w.setCell ⟨y.kb,n,none⟩ (.bool true)) (.cells #[.int .i64 (nd x.g n).kind,.int .i64 (nd x.g n).num,.string (nd x.g n).nm,.slice VA (nd x.g n).keys.length vc,.slice PA (nd x.g n).l.length pc] 54)).mono HR1.out.size);have hsz:(w.setCell ⟨y.kb,n,none⟩ (.bool true)).heap.size=w.heap.size:=by simp[World.setCell]
  rw[hsz] at hbx hno;obtain⟨nb,hnbs⟩:∃ nb,w.heap.size=nb:=⟨_,rfl⟩;rw[hnbs] at hbx hno ⊢;generalize hw2:(w.setCell ⟨y.kb,n,none⟩ (.bool true)).alloc (.cells #[.int .i64 (nd x.g n).kind,.int .i64 (nd x.g n).num,.string (nd x.g n).nm,.slice VA (nd x.g n).keys.length vc,.slice PA (nd x.g n).l.length pc] 54)=w2 at h2 hs2 hbx hb2 ⊢;have H2:=hid h2;have HS2:=hid hs2;have HBX:=hid hbx;have HNO:=hid hno;have HB2:=hid hb2;clear h2 hs2 hbx hno hb2 hw2 hnbs hsz d0 k0 k1 k2 k3 k4 c7 ck y7;obtain⟨m,hm⟩:∃ m,(nd x.g n).l.length=m:=⟨_,rfl⟩;have HM:=hid hm;rw[hm] at k8 k10 HBX ⊢;clear hm;have HK1:Hid (KI x.g (KDj x.g S.kn n 0) S.un S.us):=hid (HK.out.start hn)
  go_loopw [30] (fun u30 wr=>∃ (j:Nat) (yj:Lay) (un':Nat→List Nat) (us':Nat→List (ByteArray × List Nat)),j≤m∧u30=.int .i64 (j:Int)∧Hid (yj.rel=y.rel)∧Hid (RelW x wr yj { S with kn:=fun m=>decide (m=n) || S.kn m,un:=un',us:=us' })∧Hid (Stp w2 y wr yj)∧Hid (KI x.g (KDj x.g S.kn n j) un' us')) (fun u30 _=>m-(intOf u30).toNat)
  case atStart=>exact⟨0,y,S.un,S.us,Nat.zero_le _,rfl,hid rfl,H2,hid (Stp.refl _ _),HK1⟩
  case round =>
   obtain⟨j,yj,un',us',hj,rfl,Hy,Hr,Hs,Hk⟩:=hrel;by_cases hlt:j<m
   ·obtain⟨z,hz⟩:∃ z,(nd x.g n).l[j]? = some z:=⟨_,List.getElem?_eq_getElem (by have:=HM.out;omega)⟩
    have hz0:0≤z:=HF.out.kidI n hn z (List.mem_of_getElem? hz);obtain⟨c,rfl⟩:∃ c:Nat,z=(c:Int):=⟨z.toNat,by omega⟩
    have hck:(kids (nd x.g n))[j]? = some c:=by unfold CM.kids;rw[List.getElem?_map,hz];rfl
    have hcn:c<x.n:=HF.out.kid n hn c (List.mem_of_getElem? hck);have hbw:Below x.B w2 wr:=Hs.out.below H2.out;obtain⟨pb,po,rfl,c1⟩:=rd_intG (K6.out.below (by rw[E0.out];exact HB2.out.trans hbw)) hz
    have hbx:=(Hs.out.blk HBX.out HNO.out).1;have b0:=hbx.cell 0;have b3:=hbx.cell 3;simp at b0 b3;have hD:¬ KDj x.g S.kn n j n j:=fun hd=>by
     rcases hd with hd | hd
     ·rw[hkf] at hd;cases hd.1
     ·omega
    have hkd:(nd x.g n).kind=8∨(nd x.g n).kind=9∨(nd x.g n).kind=7:=by
     obtain⟨q1,q2,q3⟩:=HF.out.kind n hn;by_cases h5:(nd x.g n).kind≤5
     ·have:=HF.out.bare n hn h5;rw[this] at hz;simp at hz
     ·omega
    have hji:(j:Int)<(m:Int):=by omega
    have HD:=hid hD;have HCK:=hid hck;have c8:=Hr.out.c8;have cu:=Hr.out.cu hcn;rw[Hy.out,hxn] at c8;have hcn':=hcn;rw[hxn] at hcn';clear hz hz0 hck hbw hbx hD;rcases hkd with h8 | h9 | h7
    ·have t8:((nd x.g n).kind==8)=true:=by simp[h8]
     have H8:=hid h8;clear h8;obtain⟨UA,uc,huv,huc,huc2,-⟩:=Hr.out.uvrd c
     change yj.uv c=.slice UA (un' c).length uc at huv
     rw[huv] at cu;obtain⟨ul,hul⟩:∃ ul,(un' c).length=ul:=⟨_,rfl⟩
     change (un' c).length≤uc at huc
     have HUV:=hid huv;have HUL:=hid hul;rw[hul] at cu huc;have HOWN:Hid (OwnI wr x.B (.slice UA ul uc) ((un' c).map nI)):=hid (by rw[← hul,← huv];exact Hr.out.comp (.un c))
     have hul5:ul≤2000:=by have:=(Hk.out.un_len HF.out c).1;have h1:x.g.length=xn:=hxn;omega
     have HNW:=hid (Blk.new wr 3 #[.int .i64 (n:Int)]);have HBW:=hid Hr.out.size;have c8a:=(Hr.out.alloc (.cells #[.int .i64 (n:Int)] 3)).c8;rw[Hy.out,hxn] at c8a;have cua:=(Hr.out.alloc (.cells #[.int .i64 (n:Int)] 3)).cu hcn;rw[huv,hul] at cua;have hkey:∀ gg cap w4,OwnI w4 x.B (.slice (some ⟨gg,0,none⟩) (ul+1) cap) ((un' c).map nI++[(n:Int)])→((wr.alloc (.cells #[.int .i64 (n:Int)] 3)).drew).grownBy w4 (Value.slice UA ul uc).ownBlock→((Value.slice UA ul uc).ownBlock=some gg∨gg=wr.heap.size+1)→gg<w4.heap.size →
       w4.cell? ⟨y.rel,8,none⟩=some (.slice (some ⟨yj.ub,0,none⟩) xn xn)∧w4.cell? ⟨yj.ub,c,none⟩=some (.slice UA ul uc)∧w4.frozen? ⟨yj.ub,c,none⟩=false ∧
       RelW x (w4.setCell ⟨yj.ub,c,none⟩ (.slice (some ⟨gg,0,none⟩) (ul+1) cap)) { yj with uv:=fun m=>if m=c then .slice (some ⟨gg,0,none⟩) (ul+1) cap else yj.uv m } { S with kn:=fun m=>decide (m=n) || S.kn m,un:=fun m=>if m=c then un' c++[n] else un' m,us:=us' } ∧
       Stp w2 y (w4.setCell ⟨yj.ub,c,none⟩ (.slice (some ⟨gg,0,none⟩) (ul+1) cap)) { yj with uv:=fun m=>if m=c then .slice (some ⟨gg,0,none⟩) (ul+1) cap else yj.uv m }:=by
      intro gg cap w4 ho4 hg4 hat hlt4;have hgr:wr.grownBy w4 (yj.uv c).ownBlock:=by
       rw[HUV.out,HUL.out];have hd:(wr.alloc (.cells #[.int .i64 (n:Int)] 3)).grownBy ((wr.alloc (.cells #[.int .i64 (n:Int)] 3)).drew) (Value.slice UA ul uc).ownBlock:=⟨rfl,rfl,rfl,Nat.le_refl _,fun _ _ _=>rfl⟩
       exact(World.grownBy_alloc wr (.cells #[.int .i64 (n:Int)] 3) _).trans (hd.trans hg4)
      obtain⟨q1,q2,q3,q4,q5⟩:=Hr.out.setun (c:=c) (v':=.slice (some ⟨gg,0,none⟩) (ul+1) cap) (l':=un' c++[n]) hgr (by rw[List.map_append];exact ho4) (by
       rcases hat with e | e
       ·exact .inl (by rw[HUV.out,HUL.out,e];rfl)
       ·exact .inr ⟨gg,rfl,by omega,hlt4⟩)
      rw[Hy.out,hxn] at q1;have q2':=q2 hcn;rw[HUV.out,HUL.out] at q2';exact⟨q1,q2',q3,q4,Hs.out.trans q5⟩
     have HKEY:=hid hkey;have HK3:=hid ((Hk.out.uni HF.out hn H8.out HCK.out HD.out).next hn);clear hkey huv hul
     go_upto_region 8 with(fail)
     go_region_law (first | (refine step_pushI _ (by rfl) _ _ (by rfl) x.B (.slice UA ul uc) ((un' c).map nI) (n:Int) ⟨wr.heap.size,0,none⟩ 1 (by rfl) ((HOWN.out.alloc _).drew) (by rfl) (HNW.out.cell 0) (by rw[List.length_map,HUL.out];omega) (by simp;have:=HBW.out;omega) ?_;intro gg cap w4 ho4 hg4 hat4 hlt4;rw[List.length_map,HUL.out] at ho4 ⊢;obtain⟨q1,q2,q3,hr1,hr2⟩:=HKEY.out gg cap w4 ho4 hg4 (by simpa using hat4) hlt4;have HR1:=hid hr1;have HR2:=hid hr2;clear hr1 hr2 ho4 hg4 hat4 hlt4))
     all_goals
      go_wp2_with fail
      go_roundw
      case rel=>exact⟨j+1,{ yj with uv:=fun m=>if m=c then .slice (some ⟨gg,0,none⟩) (ul+1) cap else yj.uv m },fun m=>if m=c then un' c++[n] else un' m,us',by omega,by go_num,hid Hy.out,HR1,HR2,HK3⟩
      case measure=>simp[intOf];omega
    ·have t8:((nd x.g n).kind==8)=false:=by simp[h9]
     have t9:((nd x.g n).kind==9)=true:=by simp[h9]
     have hkey:keyOf (nd x.g n) j=⟨#[]⟩:=by unfold keyOf;rw[if_neg (by omega)]
     have HKY:=hid hkey;have H9:Hid ((nd x.g n).kind=9∨(nd x.g n).kind=7):=hid (.inl h9);clear hkey h9;go_wp2_with fail
     have U:=use_any x yj { S with kn:=fun m=>decide (m=n) || S.kn m,un:=un',us:=us' } c n ⟨#[]⟩ wr Hr.out hcn (by have:=Hk.out.us_len HF.out c;have h1:x.g.length=xn:=hxn;show(us' c).length≤99999;omega) (Hk.out.srt c) (by have:=Hk.out.at_len HF.out c ⟨#[]⟩;have h1:x.g.length=xn:=hxn;show(at_ (us' c) ⟨#[]⟩).length≤100000;omega)
     rw[Hy.out] at U;refine U.mono ?_;rintro r w3 ⟨rfl,p,f,v,nv,hp,hr3,hs3⟩;have HR3:=hid hr3;have HS3:=hid (Hs.out.trans hs3);have HK3:=hid ((Hk.out.use HF.out hn H9.out HCK.out HD.out (by rw[HKY.out];exact hp)).next hn)
     rw[HKY.out] at HK3;clear U hp hr3 hs3;go_wp2_with fail
     go_roundw
     case rel=>exact⟨j+1,yj.use c ⟨#[]⟩ v nv,un',fun m=>if m=c then addAt (us' c) ⟨#[]⟩ n p f else us' m,by omega,by go_num,hid Hy.out,HR3,HS3,HK3⟩
     case measure=>simp[intOf];omega
    ·have t8:((nd x.g n).kind==8)=false:=by simp[h7]
     have t9:((nd x.g n).kind==9)=false:=by simp[h7]
     have t7:((nd x.g n).kind==7)=true:=by simp[h7]
     have hkl:(nd x.g n).keys.length=m:=(HF.out.recd n hn h7).1.trans HM.out;obtain⟨kb,ko,rfl,hkc⟩:=rd_strG (K5.out.below (by rw[E0.out];exact HB2.out.trans (Hs.out.below H2.out))) (by omega)
     obtain⟨key,hkey⟩:∃ key,(nd x.g n).keys[j]? = some key:=⟨_,List.getElem?_eq_getElem (by omega)⟩
     have kc:=hkc j key hkey;rw[hkl] at b3 k9 k7;have HKY:Hid (keyOf (nd x.g n) j=key):=hid (by unfold keyOf;rw[if_pos h7,List.getD_eq_getElem?_getD,hkey];rfl)
     have H9:Hid ((nd x.g n).kind=9∨(nd x.g n).kind=7):=hid (.inr h7);clear hkc hkey hkl h7;go_wp2_with fail
     have U:=use_any x yj { S with kn:=fun m=>decide (m=n) || S.kn m,un:=un',us:=us' } c n key wr Hr.out hcn (by have:=Hk.out.us_len HF.out c;have h1:x.g.length=xn:=hxn;show(us' c).length≤99999;omega) (Hk.out.srt c) (by have:=Hk.out.at_len HF.out c key;have h1:x.g.length=xn:=hxn;show(at_ (us' c) key).length≤100000;omega)
     rw[Hy.out] at U;refine U.mono ?_;rintro r w3 ⟨rfl,p,f,v,nv,hp,hr3,hs3⟩;have HR3:=hid hr3;have HS3:=hid (Hs.out.trans hs3);have HK3:=hid ((Hk.out.use HF.out hn H9.out HCK.out HD.out (by rw[HKY.out];exact hp)).next hn)
     rw[HKY.out] at HK3;clear U hp hr3 hs3;go_wp2_with fail
     go_roundw
     case rel=>exact⟨j+1,yj.use c key v nv,un',fun m=>if m=c then addAt (us' c) key n p f else us' m,by omega,by go_num,hid Hy.out,HR3,HS3,HK3⟩
     case measure=>simp[intOf];omega
   ·have hje:j=m:=by omega
    subst hje;go_wp2_with fail
    go_returns
    exact⟨rfl,yj,un',us',Hy.out,Hr.out,HS2.out.trans Hs.out,Hk.out.stop hn (by rw[kids_len,HM.out];exact Nat.le_refl _)⟩
end SM
end
end Go.Proofs.YtfigdflcoaepaaaGreatDoor
