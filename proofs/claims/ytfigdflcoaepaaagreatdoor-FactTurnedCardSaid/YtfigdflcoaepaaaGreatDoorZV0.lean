/- Contracts and plain facts that the theorem rests on: LBase. -/
import Derived.Test.YtfigdflcoaepaaaGreatDoorRows
import Derived.Handy
import Derived.WalkKit
import Derived.Laws.OwnMore
import Derived.Laws.CopyOwn
import Derived.Deep.Draws
import Derived.Laws.IdiomStrings
import Derived.Lib.Hide
set_option linter.unusedSimpArgs false
set_option linter.unusedVariables false
namespace Go.Proofs.YtfigdflcoaepaaaGreatDoor
section
open Go.RowKit
def Blk (w:World)(g:Nat)(t:TypeId)(cs:Array Value):Prop:=w.heap[g]? = some (.cells cs t (0,0))
section
variable {w w' : World} {g : Nat} {t : TypeId} {cs : Array Value}
theorem Blk.lt (h:Blk w g t cs):g<w.heap.size:=(Array.getElem?_eq_some_iff.1 h).1
theorem Blk.cell (h:Blk w g t cs)(i:Nat):w.cell? ⟨g,i,none⟩=cs[i]? := cell_of_row w g i cs t (0,0) h
theorem Blk.frozen (h:Blk w g t cs)(i:Nat):w.frozen? ⟨g,i,none⟩=false:=frozen_of_row w g i cs t h
theorem Blk.new (w:World)(t:TypeId)(cs:Array Value):Blk (w.alloc (.cells cs t)) w.heap.size t cs:=heap_alloc_new w _
theorem Blk.alloc (h:Blk w g t cs)(o:Obj):Blk (w.alloc o) g t cs:=(Below.heap_alloc w o g h.lt).trans h
theorem Blk.set_ (h:Blk w g t cs)(i:Nat)(u:Value):Blk (w.setCell ⟨g,i,none⟩ u) g t (cs.setIfInBounds i u):=heap_setCell_same w g i cs t u h
theorem Blk.far (h:Blk w g t cs){p:Addr}(hp:g≠p.block)(u:Value):Blk (w.setCell p u) g t cs:=(Below.heap_setCell w p u g hp).trans h
theorem Blk.below {B:Nat}(h:Blk w g t cs)(hb:Below B w w')(hg:g<B):Blk w' g t cs:=(hb.block g hg).trans h
theorem Blk.drewN (h:Blk w g t cs)(n:Nat):Blk (w.drewN n) g t cs:=h
end
structure Kept (P:Nat→Prop)(a c:World):Prop where
 os:c.os=a.os
 tape:c.tape=a.tape
 output:c.output=a.output
 size:a.heap.size≤c.heap.size
 block:∀ k,k<a.heap.size→¬ P k→c.heap[k]? = a.heap[k]?
section
variable {P P' : Nat → Prop} {a b c : World}
theorem Kept.refl (P:Nat→Prop)(a:World):Kept P a a:=⟨rfl,rfl,rfl,Nat.le_refl _,fun _ _ _=>rfl⟩
theorem Kept.trans (h:Kept P a b)(k:Kept P' b c)(hp:∀ i,i<a.heap.size→P' i→P i):Kept P a c:=
 ⟨k.os.trans h.os,k.tape.trans h.tape,k.output.trans h.output,Nat.le_trans h.size k.size,fun i hi hn =>
  (k.block i (Nat.lt_of_lt_of_le hi h.size) (fun hh=>hn (hp i hi hh))).trans (h.block i hi hn)⟩
theorem Kept.mono (h:Kept P a b)(hp:∀ i,i<a.heap.size→P i→P' i):Kept P' a b:=
 ⟨h.os,h.tape,h.output,h.size,fun i hi hn=>h.block i hi (fun hh=>hn (hp i hi hh))⟩
theorem Kept.of_below (h:Below a.heap.size a b)(P:Nat→Prop):Kept P a b:=
 ⟨h.os,h.tape,h.output,h.size,fun i hi _=>h.block i hi⟩
theorem Kept.below (h:Kept P a b){B:Nat}(hB:B≤a.heap.size)(hp:∀ i,i<B→¬ P i):Below B a b:=
 ⟨h.os,h.tape,h.output,h.size,fun i hi=>h.block i (by omega) (hp i hi)⟩
theorem Kept.drew (h:Kept P a b):Kept P a b.drew:=⟨h.os,h.tape,h.output,h.size,h.block⟩
theorem Kept.drewN (h:Kept P a b)(n:Nat):Kept P a (b.drewN n):=⟨h.os,h.tape,h.output,h.size,h.block⟩
theorem Kept.alloc (h:Kept P a b)(o:Obj):Kept P a (b.alloc o):=
 h.trans (P':=P) ⟨rfl,rfl,rfl,by simp,fun k hk _=>Below.heap_alloc _ _ _ hk⟩ (fun _ _ h=>h)
theorem Kept.setCell (h:Kept P a b){p:Addr}(hp:p.block<a.heap.size→P p.block)(u:Value):Kept P a (b.setCell p u):=
 h.trans (P':=fun k=>k=p.block) ⟨rfl,rfl,rfl,by simp[World.setCell],fun k _ hne=>Below.heap_setCell _ _ _ _ hne⟩ (by rintro i hi rfl;exact hp hi)
theorem Kept.blk (h:Kept P a b){g:Nat}{t:TypeId}{cs:Array Value}(hg:Blk a g t cs)(hp:¬ P g):Blk b g t cs:=(h.block g hg.lt hp).trans hg
theorem Kept.cell (h:Kept P a b){p:Addr}(hb:p.block<a.heap.size)(hp:¬ P p.block):b.cell? p=a.cell? p:=World.cell?_of_block (w:=a) (h.block p.block hb hp)
end
theorem addr_lit (b o k:Nat):(⟨b,o,none⟩:Addr).add k=⟨b,o+k,none⟩:=by
 unfold Addr.add;split<;>simp_all
end
end Go.Proofs.YtfigdflcoaepaaaGreatDoor
