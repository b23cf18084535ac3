/- Contracts and plain facts that the theorem rests on: PModel, PUse. -/
import Derived.Test.YtmpaemchjehjbaaGreatDoorZR18
import Derived.Lib.ItoaNum
set_option linter.unusedSimpArgs false
set_option linter.unusedVariables false
namespace Go.Proofs.YtmpaemchjehjbaaGreatDoor
section
open Go.RowKit
def putS (most:Int)(bs:List UInt8)(s:ByteArray):List UInt8:=if (bs.length:Int)≤most then bs++s.data.toList else bs
def putsS (most:Int)(bs:List UInt8)(ps:List ByteArray):List UInt8:=ps.foldl (putS most) bs
theorem putsS_app (most:Int)(bs:List UInt8)(p q:List ByteArray):putsS most bs (p++q)=putsS most (putsS most bs p) q:=List.foldl_append ..
theorem putsS_cons (most:Int)(bs:List UInt8)(p:ByteArray)(q:List ByteArray):putsS most bs (p::q)=putsS most (putS most bs p) q:=rfl
theorem putsS_nil (most:Int)(bs:List UInt8):putsS most bs []=bs:=rfl
def Fits (most:Int):List UInt8→List ByteArray→Prop
 | bs,[]=>bs.length≤70368744177664
 | bs,p::ps=>bs.length≤70368744177664∧Fits most (putS most bs p) ps
theorem Fits.head {most:Int}{bs:List UInt8}{ps:List ByteArray}(h:Fits most bs ps):bs.length≤70368744177664:=by
 cases ps with
 | nil=>exact h
 | cons p ps=>exact h.1
theorem Fits.app {most:Int}{p q:List ByteArray}:∀ {bs:List UInt8},Fits most bs (p++q)→Fits most bs p∧Fits most (putsS most bs p) q:=by
 induction p with
 | nil=>intro bs h;exact⟨Fits.head (ps:=q) h,h⟩
 | cons x p ih =>
  intro bs h;obtain⟨h0,h1⟩:=h;obtain⟨h2,h3⟩:=ih h1;exact⟨⟨h0,h2⟩,h3⟩
theorem Fits.left {most:Int}{p q:List ByteArray}{bs:List UInt8}(h:Fits most bs (p++q)):Fits most bs p:=h.app.1
theorem Fits.right {most:Int}{p q:List ByteArray}{bs:List UInt8}(h:Fits most bs (p++q)):Fits most (putsS most bs p) q:=h.app.2
def sepP (sign:ByteArray)(f:Nat→List ByteArray):Nat→List ByteArray
 | 0=>[]
 | n+1=>sepP sign f n++((if 0<n then [sign] else [])++f n)
def kindOf (nds:List Ni)(j:Int):Int:=match nds[j.toNat]? with
 | some x=>x.kind
 | none=>0
def childP (nds:List Ni)(T:List (List ByteArray))(l:List Int)(i:Nat)(enc:List Int):List ByteArray:=match l[i]? with
 | none=>[]
 | some j=>if enc.contains (kindOf nds j) then [⟨#[40]⟩]++(T.getD j.toNat []++[⟨#[41]⟩]) else T.getD j.toNat []
def nameP (x:Ni):List ByteArray:=(if x.md.toList.isEmpty then [] else [x.md,⟨#[58,58]⟩])++[x.nm]
def recP (nds:List Ni)(T:List (List ByteArray))(x:Ni):List ByteArray:=
 [⟨#[123]⟩]++(sepP ⟨#[44,32]⟩ (fun i=>[x.keys.getD i ⟨#[]⟩,⟨#[58,32]⟩]++childP nds T x.l i []) x.keys.length++[⟨#[125]⟩])
def typesN (x:Ni):Nat:=min x.num.toNat x.l.length
def callP (nds:List Ni)(T:List (List ByteArray))(x:Ni):List ByteArray:=
 nameP x++((if 0<typesN x then [⟨#[91]⟩]++(sepP ⟨#[44,32]⟩ (fun i=>childP nds T x.l i []) (typesN x)++[⟨#[93]⟩]) else []) ++
  ([⟨#[40]⟩]++(sepP ⟨#[44,32]⟩ (fun i=>childP nds T x.l (typesN x+i) []) (x.l.length-typesN x)++[⟨#[41]⟩])))
def stepP (nds:List Ni)(T:List (List ByteArray))(x:Ni):List ByteArray:=match x.kind with
 | 1=>[⟨#[100,121,110]⟩]
 | 2=>[⟨#[110,117,108,108]⟩]
 | 3=>[⟨#[98,111,111,108]⟩]
 | 4=>[⟨#[105,110,116]⟩]
 | 5=>[⟨#[39]⟩,x.nm]
 | 6=>nameP x
 | 7=>recP nds T x
 | 8=>sepP ⟨#[32,124,32]⟩ (fun i=>childP nds T x.l i [8]) x.l.length
 | 11=>[⟨(Lib.itoa x.num).toArray⟩]
 | 12=>[⟨#[39]⟩,x.nm]
 | 13=>[⟨#[116,114,117,101]⟩]
 | 14=>[⟨#[102,97,108,115,101]⟩]
 | 15=>[⟨#[110,117,108,108]⟩]
 | 16=>nameP x
 | 17=>recP nds T x
 | 18=>childP nds T x.l 0 [20,21,22,23]++[⟨#[46]⟩,x.nm]
 | 19=>callP nds T x
 | 20=>[⟨#[105,102,32]⟩]++(childP nds T x.l 0 []++([⟨#[32,116,104,101,110,32]⟩]++(childP nds T x.l 1 []++([⟨#[32,101,108,115,101,32]⟩]++childP nds T x.l 2 []))))
 | 21=>childP nds T x.l 0 []++[⟨#[32,105,115,32]⟩,x.nm]
 | 22=>[⟨#[108,101,116,32]⟩,x.nm]++([⟨#[32,61,32]⟩]++(childP nds T x.l 0 []++([⟨#[32,105,110,32]⟩]++childP nds T x.l 1 [])))
 | 23=>childP nds T x.l 0 [20,21,22]++([⟨#[32]⟩,x.nm,⟨#[32]⟩]++childP nds T x.l 1 [20,21,22,23])
 | 24=>([⟨#[40]⟩]++(childP nds T x.l 0 []++([⟨#[32,97,115,32]⟩]++childP nds T x.l 1 [])))++[⟨#[41]⟩]
 | _=>[]
def tableF (nds:List Ni)(T:List (List ByteArray))(l:List Ni):List (List ByteArray):=l.foldl (fun T x=>T++[stepP nds T x]) T
def tableP (nds:List Ni):List (List ByteArray):=tableF nds [] nds
def useS (limit:Nat):List Bool→List Int→Option (List Bool)
 | used,[]=>some used
 | used,j::l=>if j<0∨(limit:Int)≤j∨used.getD j.toNat false=true then none else useS limit (used.set j.toNat true) l
def useN:Nat→List Bool→List Ni→Option (List Bool)
 | _,used,[]=>some used
 | i,used,x::l=>match useS i used x.l with
  | none=>none
  | some used'=>useN (i+1) used' l
def rootsI (m:Mi):List Int:=m.types.map Di.ty++m.fns.flatMap (fun f=>f.vars.map Di.ty++f.params.map Di.ty++[f.ret,f.body])
def ordS (m:Mi):Bool:=decide (m.nodes.length≤4000)&&match useN 0 (List.replicate m.nodes.length false) m.nodes with
 | none=>false
 | some used=>(useS m.nodes.length used (rootsI m)).isSome
def varsP (T:List (List ByteArray))(l:List Di)(sign:ByteArray):List ByteArray:=sepP ⟨#[44,32]⟩ (fun i=>match l[i]? with
 | some v=>[v.nm,sign]++T.getD v.ty.toNat []
 | none=>[]) l.length
def fnP (T:List (List ByteArray))(f:Fi):List ByteArray:=
 [⟨#[102,110,32]⟩,f.nm]++((if 0<f.vars.length then [⟨#[91]⟩]++(varsP T f.vars ⟨#[32,60,58,32]⟩++[⟨#[93]⟩]) else []) ++
  ([⟨#[40]⟩]++(varsP T f.params ⟨#[58,32]⟩++([⟨#[41,58,32]⟩]++(T.getD f.ret.toNat []++([⟨#[32,61,32]⟩]++T.getD f.body.toNat []))))))
def importsP (l:List ByteArray):List ByteArray:=l.flatMap fun s=>[⟨#[105,109,112,111,114,116,32]⟩,s,⟨#[10]⟩]
def typesP (T:List (List ByteArray))(l:List Di):List ByteArray:=l.flatMap fun d=>[⟨#[116,121,112,101,32]⟩,d.nm,⟨#[32,61,32]⟩]++(T.getD d.ty.toNat []++[⟨#[10]⟩])
def fnsP4 (T:List (List ByteArray))(l:List Fi):List ByteArray:=l.flatMap fun f=>fnP T f++[⟨#[10]⟩]
def moduleP (m:Mi):List ByteArray:=
 [⟨#[109,111,100,117,108,101,32]⟩,m.nm,⟨#[10]⟩]++(importsP m.imports++(typesP (tableP m.nodes) m.types++fnsP4 (tableP m.nodes) m.fns))
theorem useS_lt {limit:Nat}:∀ {l:List Int} {used used':List Bool},useS limit used l=some used'→∀ j∈l,0≤j∧j<(limit:Int):=by
 intro l;induction l with
 | nil=>intro _ _ _ j hj;cases hj
 | cons x l ih =>
  intro used used' h j hj;rw[useS] at h;split at h
  ·cases h
  ·rename_i hn;rcases List.mem_cons.1 hj with rfl | hj
   ·omega
   ·exact ih h j hj
theorem useN_lt:∀ {l:List Ni} {i:Nat} {used used':List Bool},useN i used l=some used'→∀(k:Nat) (x:Ni),l[k]? = some x→∀ j∈x.l,0≤j∧j<((i+k:Nat):Int):=by
 intro l;induction l with
 | nil=>intro _ _ _ _ k x hx;simp at hx
 | cons y l ih =>
  intro i used used' h k x hx j hj;rw[useN] at h;split at h
  ·cases h
  ·rename_i u hu;cases k with
   | zero =>
    simp at hx;subst hx;exact useS_lt hu j hj
   | succ k =>
    simp at hx;have:=ih h k x hx j hj;omega
structure OrdI (m:Mi):Prop where
 len:m.nodes.length≤4000
 child:∀(k:Nat) (x:Ni),m.nodes[k]? = some x→∀ j∈x.l,0≤j∧j<(k:Int)
 root:∀ j∈rootsI m,0≤j∧j<(m.nodes.length:Int)
theorem ordS_ord {m:Mi}(h:ordS m=true):OrdI m:=by
 unfold ordS at h;rw[Bool.and_eq_true] at h;obtain⟨h1,h2⟩:=h;split at h2
 ·cases h2
 ·rename_i used hu;obtain⟨u,hs⟩:=Option.isSome_iff_exists.1 h2;refine⟨of_decide_eq_true h1,fun k x hx j hj=>?_,useS_lt hs⟩
  have:=useN_lt hu k x hx j hj;omega
theorem childP_congr {nds:List Ni}{T T':List (List ByteArray)}{l:List Int}(h:∀ j∈l,T.getD j.toNat []=T'.getD j.toNat [])(i:Nat)(enc:List Int):childP nds T l i enc=childP nds T' l i enc:=by
 unfold childP;split
 ·rfl
 ·rename_i j hj;rw[h j (List.mem_of_getElem? hj)]
theorem stepP_congr {nds:List Ni}{T T':List (List ByteArray)}{x:Ni}(h:∀ j∈x.l,T.getD j.toNat []=T'.getD j.toNat []):stepP nds T x=stepP nds T' x:=by
 have hc:=fun i enc=>childP_congr (nds:=nds) h i enc
 unfold stepP recP callP;simp only[hc]
theorem tableF_old (nds:List Ni):∀(l:List Ni) (T:List (List ByteArray)) (i:Nat),i<T.length→(tableF nds T l)[i]? = T[i]? := by
 intro l;induction l with
 | nil=>intro T i _;rfl
 | cons x l ih =>
  intro T i hi;have:=ih (T++[stepP nds T x]) i (by rw[List.length_append];omega)
  rw[tableF] at this;rw[tableF,List.foldl_cons,this,List.getElem?_append_left hi]
theorem tableF_get (nds:List Ni):∀(l:List Ni) (T:List (List ByteArray)) (k:Nat) (x:Ni),l[k]? = some x→(∀ j∈x.l,0≤j∧j<((T.length+k:Nat):Int))→(tableF nds T l).getD (T.length+k) []=stepP nds (tableF nds T l) x:=by
 intro l;induction l with
 | nil=>intro T k x hx;simp at hx
 | cons y l ih =>
  intro T k x hx hj;have e:tableF nds T (y::l)=tableF nds (T++[stepP nds T y]) l:=rfl;cases k with
  | zero =>
   simp at hx;subst hx;have h1:stepP nds (tableF nds T (y::l)) y=stepP nds T y:=stepP_congr fun j hjm=>by
    have:=hj j hjm;rw[e,List.getD_eq_getElem?_getD,tableF_old _ _ _ _ (by rw[List.length_append];omega),List.getElem?_append_left (by omega),← List.getD_eq_getElem?_getD]
   rw[h1,e,List.getD_eq_getElem?_getD,tableF_old _ _ _ _ (by rw[List.length_append];simp),List.getElem?_append_right (by omega)]
   simp
  | succ k =>
   simp at hx;have:=ih (T++[stepP nds T y]) k x hx (fun j hjm=>by have:=hj j hjm;rw[List.length_append,List.length_singleton];omega)
   rw[List.length_append,List.length_singleton] at this;rw[e,show T.length+(k+1)=T.length+1+k from by omega]
   exact this
theorem tableP_get {m:Mi}(h:OrdI m){k:Nat}{x:Ni}(hx:m.nodes[k]? = some x):(tableP m.nodes).getD k []=stepP m.nodes (tableP m.nodes) x:=by
 have:=tableF_get m.nodes m.nodes [] k x hx (fun j hj=>by have:=h.child k x hx j hj;simp;omega)
 simpa [tableP] using this
end
section
open Lib (hid)
open Go.RowKit
theorem useS_app (limit:Nat):∀(l1:List Int) (us:List Bool) (l2:List Int),useS limit us (l1++l2)=(useS limit us l1).bind fun u=>useS limit u l2:=by
 intro l1;induction l1 with
 | nil=>intro us l2;rfl
 | cons j l1 ih =>
  intro us l2;rw[List.cons_append,useS,useS];split
  ·rfl
  ·exact ih _ _
theorem useS_len (limit:Nat):∀(l:List Int) (us u:List Bool),useS limit us l=some u→u.length=us.length:=by
 intro l;induction l with
 | nil=>intro us u h;injection h with h;rw[h]
 | cons j l ih =>
  intro us u h;rw[useS] at h;split at h
  ·cases h
  ·rw[ih _ _ h,List.length_set]
theorem RdV.kept2 {w w':World}{A:Option Addr}{l:List Value}{P:Nat→Prop}(h:RdV w A l)(hk:Kept P w w')(hp:∀ b o,0<l.length→A=some ⟨b,o,none⟩→¬ P b):RdV w' A l:=fun h0=>by
 obtain⟨b,o,hA,hc⟩:=h h0;refine⟨b,o,hA,fun j x hx=>?_⟩
 have h1:=hc j x hx;exact(hk.cell (p:=⟨b,o+j,none⟩) (World.block_lt_of_cell? w _ h1) (hp b o h0 hA)).trans h1
theorem rd_int4 {w:World}{A:Option Addr}{l:List Int}(h:RdV w A (l.flatMap iC)){i:Nat}{j:Int}(hj:l[i]? = some j):∃ b o,A=some ⟨b,o,none⟩∧w.cell? ⟨b,o+i,none⟩=some (.int .i64 j):=by
 obtain⟨b,o,hA,hc⟩:=h (by rw[rowc_len iC 1 (fun _=>rfl),Nat.mul_one];have:=(List.getElem?_eq_some_iff.1 hj).1;omega)
 have c0:=hc (i*1+0) (.int .i64 j) (rowc_get iC 1 (fun _=>rfl) l i j hj 0 _ rfl)
 rw[Nat.mul_one,Nat.add_zero] at c0;exact⟨b,o,hA,c0⟩
def boolV (us:List Bool):Array Value:=(us.map Value.bool).toArray
theorem boolV_get {us:List Bool}{i:Nat}(h:i<us.length):(boolV us)[i]? = some (.bool (us.getD i false)):=by
 rw[boolV,List.getElem?_toArray,List.getElem?_map,List.getD_eq_getElem?_getD,List.getElem?_eq_getElem h];rfl
theorem boolV_set (us:List Bool)(i:Nat)(b:Bool):(boolV us).setIfInBounds i (.bool b)=boolV (us.set i b):=by
 rw[boolV,boolV,List.map_set];exact List.setIfInBounds_toArray ..
def UseOut (limit:Nat)(us:List Bool)(l:List Int)(ub:Nat)(w:World)(e:Ending)(w':World):Prop:=
 Kept (fun i=>i=ub) w w'∧match useS limit us l with
  | none=>e=.returned (.bool false)
  | some u=>e=.returned (.bool true)∧Blk w' ub 4 (boolV u)
set_option maxRecDepth 100000 in
set_option maxHeartbeats 4000000 in
theorem use_any (UA:Option Addr)(uc limit ub:Nat)(us:List Bool)(hUA:0<limit→UA=some ⟨ub,0,none⟩)(hlim:limit≤us.length)(huc:limit≤uc)(hl0:(limit:Int)≤9223372036854775807)(A:Option Addr)(c:Nat)(l:List Int)(hl:(l.length:Int)≤9223372036854775807)(w:World)(hu:Blk w ub 4 (boolV us))
  (hr:RdV w A (l.flatMap iC))(hAb:∀ b o,0<l.length→A=some ⟨b,o,none⟩→b≠ub) :
  Calls Tryz.prog 76 #[.slice UA limit uc,.slice A l.length c] w (UseOut limit us l ub w):=by
 have HU:=hid hu;have HR:=hid hr;have HA:=hid hAb;have HUA:=hid hUA;clear hu hr hAb hUA;go_enter Tryz.func76,Tryz.ntmps76
 go_wp2_with fail
 go_loopw [9] (fun u9 wr=>∃ k:Nat,k≤l.length∧u9=.int .i64 (k:Int)∧∃ u,Hid (useS limit us (l.take k)=some u)∧Hid (Blk wr ub 4 (boolV u))∧Hid (Kept (fun i=>i=ub) w wr)) (fun u9 _=>l.length-(intOf u9).toNat)
 case atStart=>exact⟨0,Nat.zero_le _,rfl,us,hid rfl,hid HU.out,hid (Kept.refl _ _)⟩
 case round =>
  obtain⟨k,hk,rfl,u,HS,HB,HK⟩:=hrel;by_cases hlt:k<l.length
  ·obtain⟨j,hj⟩:∃ j,l[k]? = some j:=⟨_,List.getElem?_eq_getElem hlt⟩;have hrr:RdV wr A (l.flatMap iC):=HR.out.kept2 HK.out (fun b o h0 hA'=>HA.out b o (by rw[rowc_len iC 1 (fun _=>rfl),Nat.mul_one] at h0;exact h0) hA')
   obtain⟨lb,lo,hLA,hc⟩:=rd_int4 hrr hj;have hkI:(k:Int)<(l.length:Int):=by omega
   have hk0:(0:Int)≤(k:Int):=by omega
   have hul:=useS_len _ _ _ _ HS.out;have hsn:useS limit us (l.take (k+1))=useS limit u [j]:=by
    rw[List.take_add_one,hj,Option.toList_some,useS_app,HS.out];rfl
   have hrest:∀ h:useS limit u [j]=none,useS limit us l=none:=fun h=>by
    have e:l=l.take (k+1)++l.drop (k+1):=(List.take_append_drop ..).symm;rw[e,useS_app,hsn,h];rfl
   have HSN:=hid hsn;have HRS:=hid hrest;have HLA:=hid hLA;rw[HLA.out];clear hsn hrest hj hrr hLA;by_cases h1:j<0
   ·have hb1:decide (j<0)=true:=by simpa using h1
    have HN:Hid (useS limit us l=none):=hid (HRS.out (by rw[useS,if_pos (.inl h1)]))
    clear h1;go_wp2_with fail
    go_ret
    exact⟨HK.out,by rw[HN.out];rfl⟩
   ·have hb1:decide (j<0)=false:=by simpa using h1
    by_cases h2:(limit:Int)≤j
    ·have hb2:decide ((limit:Int)≤j)=true:=by simpa using h2
     have HN:Hid (useS limit us l=none):=hid (HRS.out (by rw[useS,if_pos (.inr (.inl h2))]))
     go_wp2_with fail
     go_ret
     exact⟨HK.out,by rw[HN.out];rfl⟩
    ·have hb2:decide ((limit:Int)≤j)=false:=by simpa using h2
     obtain⟨n,rfl⟩:∃ n:Nat,j=(n:Int):=⟨j.toNat,by omega⟩
     have hn0:(0:Int)≤(n:Int):=by omega
     have hnl:(n:Int)<(limit:Int):=by omega
     have hnl2:n<limit:=by omega
     have hua:=HUA.out (by omega)
     subst hua;have hnu:n<u.length:=by omega
     have cU:wr.cell? ⟨ub,n,none⟩=some (.bool (u.getD n false)):=by rw[HB.out.cell n];exact boolV_get hnu
     have fU:=HB.out.frozen n;cases hv:u.getD n false with
     | true =>
      rw[hv] at cU;have HN:Hid (useS limit us l=none):=hid (HRS.out (by rw[useS,if_pos (.inr (.inr (by rw[Int.toNat_natCast];exact hv)))]))
      clear hv;go_wp2_with fail
      go_ret
      exact⟨HK.out,by rw[HN.out];rfl⟩
     | false =>
      rw[hv] at cU;have HN:Hid (useS limit us (l.take (k+1))=some (u.set n true)):=hid (by
       rw[HSN.out,useS,if_neg (by rintro (h | h | h);(· omega);(· omega);rw[Int.toNat_natCast,hv] at h;cases h),Int.toNat_natCast];rfl)
      have hst:=HB.out.set_ n (.bool true);rw[boolV_set] at hst;have HST:=hid hst;have HKS:=hid (HK.out.setCell (p:=⟨ub,n,none⟩) (fun _=>rfl) (.bool true))
      clear hv hst;go_wp2_with fail
      go_roundw
      case rel=>exact⟨k+1,by omega,by go_num,_,HN,HST,HKS⟩
      case measure=>simp[intOf];omega
  ·have hk2:k=l.length:=by omega
   subst hk2;rw[List.take_length] at HS;go_wp2_with fail
   go_ret
   exact⟨HK.out,by rw[HS.out];exact⟨rfl,HB.out⟩⟩
end
end Go.Proofs.YtmpaemchjehjbaaGreatDoor
