/- Contracts and plain facts that the theorem rests on: FLaw, FHead. -/
import Derived.Test.YtfigdflcoaepaaaGreatDoorZV39
import Derived.Test.YtfigdflcoaepaaaGreatDoorZV40
import Derived.Test.YtfigdflcoaepaaaGreatDoorZV21
import Derived.BigQuiet
import Derived.Test.YtfigdflcoaepaaaGreatDoorZV33
import Derived.Test.YtfigdflcoaepaaaGreatDoorZV36
set_option linter.unusedSimpArgs false
set_option linter.unusedVariables false
namespace Go.Proofs.YtfigdflcoaepaaaGreatDoor
section
open Lib (hid)
open Go.RowKit
namespace FM
open CM (nd kids)
open SM
theorem cut12_texts {g:List Gi}(h:Texts g):Texts (cutG12 g):=fun x hx=>by
 unfold cutG12 at hx;obtain⟨y,hy,rfl⟩:=List.mem_map.1 hx;have h1:=h y (List.mem_of_mem_take hy);refine⟨?_,fun s hs=>?_⟩
 ·show(y.nm.extract 0 (min y.nm.size 20)).size≤maxLen
  rw[ByteArray.size_extract];have:=h1.1;omega
 ·have hs':s∈(y.keys.take 12).map cutT:=hs;obtain⟨t,ht,rfl⟩:=List.mem_map.1 hs';unfold cutT;rw[ByteArray.size_extract];have:=h1.2 t (List.mem_of_mem_take ht);omega
def fineG (g:List Gi):List Gi:=if checkG (cutG12 g)=0 then cutG12 g else []
theorem fineG_ok (g:List Gi):checkG (fineG g)=0:=by
 unfold fineG;split
 ·assumption
 ·rfl
theorem cut12_len (g:List Gi):(cutG12 g).length≤16:=by unfold cutG12;rw[List.length_map,List.length_take];omega
theorem fineG_len (g:List Gi):(fineG g).length≤16:=by
 unfold fineG;split
 ·exact cut12_len g
 ·decide
set_option maxRecDepth 100000 in
set_option maxHeartbeats 16000000 in
theorem fine12_any (A:Option Addr)(c:Nat)(g:List Gi)(w:World)(hk:Gnd w)(hl:(g.length:Int)≤9223372036854775807)(hr:GsR w A g)(ht:Texts g) :
  Calls Tryz.prog 29 #[.slice A g.length c] w fun r w'=>∃ v,r=.returned v∧OwnG w' w.heap.size v (fineG g)∧Below w.heap.size w w':=by
 have C1:=cut12_any A c g w hl hr ht;have HT:=hid (cut12_texts ht);have HK:=hid hk;obtain⟨n,hn⟩:∃ n,g.length=n:=⟨_,rfl⟩;rw[hn] at C1 ⊢;obtain⟨F,hF⟩:∃ F,fineG g=F:=⟨_,rfl⟩;obtain⟨G,hG⟩:∃ G,cutG12 g=G:=⟨_,rfl⟩;obtain⟨e,he⟩:∃ e,checkG G=e:=⟨_,rfl⟩;have HF:=hid (And.intro hF (And.intro hG he));have HGL:Hid (G.length≤16):=hid (by rw[← hG];exact cut12_len g)
 rw[hG] at C1 HT;rw[hF];clear hk hr ht hn hF hG;go_enter Tryz.func29,Tryz.ntmps29
 go_wp2_with fail
 refine C1.mono ?_;rintro r w2 ⟨v,rfl,ho,hb⟩;obtain⟨GA,gc,hv,-,-,hgr⟩:=ho.rd;subst hv;obtain⟨gn,hgn⟩:∃ gn,G.length=gn:=⟨_,rfl⟩;have C2:=check_any GA gc G w2 (HK.out.next hb).kw (by have:=HGL.out;omega) hgr HT.out
 rw[he,hgn] at C2;rw[hgn] at ho ⊢;have HO:=hid ho;have HB:=hid hb;clear C1 ho hb hgr hgn he;go_wp2_with fail
 refine C2.mono ?_;rintro r w3 ⟨rfl,hb3⟩;have HO3:=hid (HO.out.below hb3);have HB3:=hid (HB.out.trans (hb3.mono HB.out.size));clear C2 hb3;by_cases h0:e=0
 ·have HFG:Hid (G=F):=hid (by rw[← HF.out.1];unfold fineG;rw[HF.out.2.1,HF.out.2.2,if_pos h0])
  subst h0;go_wp2_with fail
  go_ret
  exact⟨_,rfl,by rw[← HFG.out];exact HO3.out,HB3.out⟩
 ·have HFG:Hid ([]=F):=hid (by rw[← HF.out.1];unfold fineG;rw[HF.out.2.1,HF.out.2.2,if_neg h0])
  have hne:¬((e:Int)=0):=by omega
  clear h0;go_wp2_with fail
  go_ret
  exact⟨_,rfl,by rw[← HFG.out];exact OwnG.nil _ _,HB3.out⟩
end FM
end
section
open Go.RowKit
namespace FM
open CM (nd kids)
open SM
theorem find_no {g:List Gi}{ps:List (Int × Int)}{w w':World}{r:Ending}(h:findF g ps=(160,[],[]))(hr:FindRes g ps w r w'):∃ v av,r=.returned (.tuple #[v,av,.int .i64 160])∧FasB w' w.heap.size v []∧OwnI w' w.heap.size av []∧Below w.heap.size w w':=by
 unfold FindRes at hr;rw[h] at hr;exact hr
theorem find_yes {g:List Gi}{ps:List (Int × Int)}{w w':World}{r:Ending}{l:List Fc}{at_:List Nat}(h:findF g ps=(0,l,at_))(hr:FindRes g ps w r w'):∃ v av,r=.returned (.tuple #[v,av,.int .i64 0])∧FasB w' w.heap.size v l∧OwnI w' w.heap.size av (at_.map natI)∧Below w.heap.size w w':=by
 unfold FindRes at hr;rw[h] at hr;exact hr
theorem GsR.nd_at {w:World}{A:Option Addr}{g:List Gi}(h:GsR w A g){n:Nat}(hn:n<g.length):∃ b o,A=some ⟨b,o,none⟩∧w.cell? ⟨b,o+n*5,none⟩=some (.int .i64 (nd g n).kind):=by
 have hx:g[n]? = some (nd g n):=by unfold nd;rw[List.getD_eq_getElem?_getD,List.getElem?_eq_getElem hn];rfl
 obtain⟨b,o,hA,KA,kc,LA,lc,c0,-⟩:=h.at_ hx;exact⟨b,o,hA,c0⟩
end FM
end
end Go.Proofs.YtfigdflcoaepaaaGreatDoor
