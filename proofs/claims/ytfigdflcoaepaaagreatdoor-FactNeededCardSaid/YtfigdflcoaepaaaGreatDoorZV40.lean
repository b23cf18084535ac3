/- Contracts and plain facts that the theorem rests on: FFew, FLCut. -/
import Derived.Test.YtfigdflcoaepaaaGreatDoorZV30
import Derived.Test.YtfigdflcoaepaaaGreatDoorZV33
import Derived.Test.YtfigdflcoaepaaaGreatDoorZV35
import Derived.Test.YtfigdflcoaepaaaGreatDoorZV38
import Derived.Test.YtfigdflcoaepaaaGreatDoorZV2
set_option linter.unusedSimpArgs false
set_option linter.unusedVariables false
namespace Go.Proofs.YtfigdflcoaepaaaGreatDoor
section
open Go.RowKit
namespace FM
open CM (nd kids)
open SM
theorem rdv_takeI {w:World}{A:Option Addr}{l:List Int}(n:Nat)(h:RdV w A (l.flatMap iC)):RdV w A ((l.take n).flatMap iC):=fun h0=>by
 have hl:((l.take n).flatMap iC).length≤(l.flatMap iC).length:=by
  rw[rowc_len iC 1 (fun _=>rfl),rowc_len iC 1 (fun _=>rfl),List.length_take];omega
 obtain⟨b,o,hA,hc⟩:=h (by omega)
 refine⟨b,o,hA,fun j x hj=>hc j x ?_⟩
 have e:l.flatMap iC=(l.take n).flatMap iC++(l.drop n).flatMap iC:=by rw[← List.flatMap_append,List.take_append_drop]
 rw[e,List.getElem?_append_left (List.getElem?_eq_some_iff.1 hj).1];exact hj
end FM
end
section
open Lib (hid)
open Go.RowKit
namespace FM
open CM (nd kids)
open SM
def cutT (s:ByteArray):ByteArray:=s.extract 0 (min s.size 20)
def cutN12 (x:Gi):Gi:=⟨x.kind,x.num,x.nm.extract 0 (min x.nm.size 20),(x.keys.take 12).map cutT,x.l.take 12⟩
def cutG12 (g:List Gi):List Gi:=(g.take 16).map cutN12
theorem ownI_set5 {w:World}{B ad:Nat}{T:TypeId}{cs:Array Value}{v:Value}{l:List Int}(h:OwnI w B v l)(hb:Blk w ad T cs)(hne:3≠T)(x0 x1 x2 x3 x4:Value):OwnI (((((w.setCell ⟨ad,0,none⟩ x0).setCell ⟨ad,1,none⟩ x1).setCell ⟨ad,2,none⟩ x2).setCell ⟨ad,3,none⟩ x3).setCell ⟨ad,4,none⟩ x4) B v l:=
 ownI_set (ownI_set (ownI_set3 h hb hne x0 x1 x2) (((hb.set_ 0 x0).set_ 1 x1).set_ 2 x2) hne 3 x3) ((((hb.set_ 0 x0).set_ 1 x1).set_ 2 x2).set_ 3 x3) hne 4 x4
theorem own_blk_ne {w:World}{B k n ab:Nat}{t T:TypeId}{v:Value}{xs:List Value}{cs:Array Value}(h:w.ownsRow B t k v n xs)(hb:Blk w ab T cs)(hne:t≠T):v.ownBlock≠some ab:=fun e=>by
 rcases h.2 with⟨rfl,_⟩ | ⟨g,cap,cur,rfl,_,hg,_⟩
 ·cases e
 ·have e2:g=ab:=by simpa [Value.ownBlock] using e
  subst e2;have hg':Blk w g t cur:=hg;unfold Blk at hb hg';rw[hb] at hg';injection hg' with hg'
  injection hg' with _ h2
  exact hne h2.symm
theorem ownS_below {w w':World}{B:Nat}{v:Value}{l:List ByteArray}(h:OwnS w B v l)(hb:Below w.heap.size w w'):OwnS w' B v l:=own_keptG h (Kept.of_below hb (fun _=>False)) (fun _ _ h=>h)
theorem step_pushS (w:World){ops:Array Oper}{o:Oper}{a:Go.Act}{K:Go.Act→World→Prop}{Q:Exit→Go.Act→World→Prop}{E:Prop}(hgd:o.guard=none)(s x:Operand)
  (hop:o.op=Op.call { callee:=Callee.builtin Builtin.append,args := #[s,x],argTypes := #[52,52] })
  (B:Nat)(v:Value)(l:List ByteArray)(m:ByteArray)(eb:Nat)(hs:a.eval s=v)(hown:OwnS w B v l)(hx:a.eval x=.slice (some ⟨eb,0,none⟩) 1 1)(hc:w.cell? ⟨eb,0,none⟩=some (.string m))(hlen:l.length≤100000000000)(hbase:B≤w.heap.size)
  (h:∀ gg cap w',OwnS w' B (.slice (some ⟨gg,0,none⟩) (l.length+1) cap) (l++[m])→w.grownBy w' v.ownBlock→K (a.put o.dst (.slice (some ⟨gg,0,none⟩) (l.length+1) cap)) w') :
  if Region.wanted o (yielded ops a.tmps)=true then Oper.wp Tryz.prog o a w K Q else E:=by
 obtain⟨i0,hi,hz0,hz1,hz2⟩:=info_parts info_strG;refine step_append_lies w hgd s x 52 hop B 9 i0 (.string ⟨#[]⟩) 1 16 Tryz.underlying52 hi hz0 hz1 hz2 rfl (by decide) v l.length (l.flatMap sC) hs hown ⟨eb,0,none⟩ 1 1 [.string m] hx rfl ?_ ?_ (by decide) (by unfold maxLen;omega) (by omega) hbase w.heap.size rfl ?_
 ·intro j u hj;have hj0:j=0:=by have:=(List.getElem?_eq_some_iff.1 hj).1;simp at this;omega
  subst hj0;simp at hj;subst hj;exact hc
 ·intro u hu;rw[List.mem_singleton] at hu;subst hu;rfl
 ·intro gg cap w' h4 h5 h6 h7;refine h gg cap w' ?_ h5;unfold OwnS;rw[List.flatMap_append,List.length_append];exact h4
set_option maxRecDepth 100000 in
set_option maxHeartbeats 16000000 in
theorem cut12_any (A:Option Addr)(c:Nat)(g:List Gi)(w:World)(hl:(g.length:Int)≤9223372036854775807)(hr:GsR w A g)(ht:Texts g) :
  Calls Tryz.prog 11 #[.slice A g.length c] w fun r w'=>∃ v,r=.returned v∧OwnG w' w.heap.size v (cutG12 g)∧Below w.heap.size w w':=by
 have HR:=hid hr;have HT:=hid ht;obtain⟨n,hn⟩:∃ n,g.length=n:=⟨_,rfl⟩;have HN:=hid hn;rw[hn] at hl ⊢;obtain⟨B,hB⟩:∃ B,w.heap.size=B:=⟨_,rfl⟩;have HBB:=hid hB;have HB0:Hid (Below B w w):=hid (Below.refl _ _);rw[hB];clear hr ht hn hB;go_enter Tryz.func11,Tryz.ntmps11
 go_wp2_with fail
 go_loopw [3,4] (fun u3 u4 wr=>∃ (k vc:Nat) (VA:Option Addr),k≤n∧k≤16∧u3=.slice VA k vc∧u4=.int .i64 (k:Int)∧Hid (OwnG wr B (.slice VA k vc) ((g.take k).map cutN12))∧Hid (Below B w wr)) (fun _ u4 _=>16-(intOf u4).toNat)
 case atStart=>exact⟨0,0,none,Nat.zero_le _,by decide,rfl,rfl,hid (OwnG.nil _ _),HB0⟩
 case round =>
  obtain⟨k,vc,VA,hk,hk16,rfl,rfl,HOW,HB⟩:=hrel;obtain⟨ws,rfl⟩:∃ ws,ws=wr:=⟨_,rfl⟩;by_cases hlt:k<n
  ·have hkI:(k:Int)<(n:Int):=by omega
   by_cases h16:k<16
   ·have hk3:(k:Int)<16:=by omega
    obtain⟨x,hx⟩:∃ x,g[k]? = some x:=⟨_,List.getElem?_eq_getElem (by have:=HN.out;omega)⟩
    have HX:=hid hx;have HTX:=hid (HT.out x (List.mem_of_getElem? hx));have hsz:=HTX.out.1;obtain⟨b,o,hA,KA,kc,LA,lc,c0,c1,c2,c3,c4,krd,lrd,hk63,hl63,hkc,hlc⟩:=(HR.out.below (by rw[HBB.out];exact HB.out)).at_ hx
    subst hA;obtain⟨kn,hkn⟩:∃ kn,x.keys.length=kn:=⟨_,rfl⟩;obtain⟨ln,hln⟩:∃ ln,x.l.length=ln:=⟨_,rfl⟩;rw[hkn] at c3 hk63 hkc;rw[hln] at c4 hl63 hlc;obtain⟨N2,hN2⟩:∃ N2:Nat,min (ln:Int) 12=(N2:Int):=⟨min ln 12,by omega⟩
    obtain⟨M1,hM1⟩:∃ M1:Nat,min (x.nm.size:Int) 20=(M1:Int):=⟨min x.nm.size 20,by omega⟩
    have hM1a:M1≤x.nm.size:=by omega
    have hM1b:(M1:Int)≤(x.nm.size:Int):=by omega
    have hN2b:N2≤lc:=by omega
    have hN2c:(N2:Int)≤(lc:Int):=by omega
    have HM1:Hid (M1=min x.nm.size 20):=hid (by omega)
    have HTL:Hid ((x.l.take 12).length=N2):=hid (by rw[List.length_take,hln];omega)
    have HLR:=hid (rdv_takeI 12 lrd);have HKR:=hid krd;have HKN:=hid hkn;have HC:Hid (∀ u,Below ws.heap.size ws u→Calls Tryz.prog 34 #[.slice LA N2 lc] u fun r w'=>∃ v,r=.returned v∧OwnI w' u.heap.size v (x.l.take 12)∧Below u.heap.size u w'):=hid (fun u hu=>by
     have h:=r_copyInts LA lc (x.l.take 12) u (by rw[HTL.out];omega) (HLR.out.below hu)
     rwa [HTL.out] at h)
    have HC3:=hid c3;have HBS:Hid (B≤ws.heap.size):=hid (by have h:=HB.out.size;rw[HBB.out] at h;exact h)
    clear hx krd lrd hkn hln
    go_upto_region 5 with(fail)
    apply K_startV (J:=fun ax V1 d1 w9=>Blk w9 ax 54 #[.int .i64 x.kind,.int .i64 x.num,.string (x.nm.extract 0 M1),.slice none 0 0,.slice V1 N2 d1]∧Below ws.heap.size ws w9∧ws.heap.size≤ax∧OwnI w9 ws.heap.size (.slice V1 N2 d1) (x.l.take 12)) (k:=100) (S:=fun u=>Below ws.heap.size ws u) (hm:=by kernel_rfl)
    case h =>
     have hS:Below ws.heap.size ws ws.drew:=⟨rfl,rfl,rfl,Nat.le_refl _,fun _ _=>rfl⟩
     refine Kp 0 (fun _=>hS) ?_
     refine Kp 1 (fun _=>hS) ?_
     refine Kp 2 (fun _=>hS) ?_
     refine Kp 3 (fun _=>hS) ?_
     refine Ka 4 (hS:=hS) (hy:=fun uu hu=>by have c0_:=cell_below hu c0;go_simp;try with_reducible rfl) (h:=?_)
     refine Kp 5 (fun _=>hS) ?_
     refine Kp 6 (fun _=>hS) ?_
     refine Kp 7 (fun _=>hS) ?_
     refine Kp 8 (fun _=>hS) ?_
     refine Ka 9 (hS:=hS) (hy:=fun uu hu=>by have c1_:=cell_below hu c1;go_simp;try with_reducible rfl) (h:=?_)
     refine Kp 10 (fun _=>hS) ?_
     refine Kp 11 (fun _=>hS) ?_
     refine Kp 12 (fun _=>hS) ?_
     refine Kp 13 (fun _=>hS) ?_
     refine Ka 14 (hS:=hS) (hy:=fun uu hu=>by have c2_:=cell_below hu c2;go_simp;try with_reducible rfl) (h:=?_)
     refine Kp 15 (fun _=>hS) ?_
     refine Kp 16 (fun _=>hS) ?_
     refine Kp 17 (fun _=>hS) ?_
     refine Kp 18 (fun _=>hS) ?_
     refine Ka 19 (hS:=hS) (hy:=fun uu hu=>by have c2_:=cell_below hu c2;go_simp;try with_reducible rfl) (h:=?_)
     refine Kp 20 (fun _=>hS) ?_
     refine Kp 21 (fun _=>hS) ?_
     refine Kp 22 (fun _=>hS) ?_
     refine Kp 23 (fun _=>hS) ?_
     refine Kp 24 (fun _=>hS) ?_
     refine Kp 25 (fun _=>hS) ?_
     refine Kp 26 (fun _=>hS) ?_
     refine Ka 27 (hS:=hS) (hy:=fun uu hu=>by have c4_:=cell_below hu c4;go_simp;try with_reducible rfl) (h:=?_)
     refine Kp 28 (fun _=>hS) ?_
     refine Kp 29 (fun _=>hS) ?_
     refine Kp 30 (fun _=>hS) ?_
     refine Kp 31 (fun _=>hS) ?_
     refine Ka 32 (hS:=hS) (hy:=fun uu hu=>by have c4_:=cell_below hu c4;go_simp;try with_reducible rfl) (h:=?_)
     refine Kp 33 (fun _=>hS) ?_
     refine Kp 34 (fun _=>hS) ?_
     refine Kp 35 (fun _=>hS) ?_
     refine K_two (i:=36) (i':=38) (by kernel_rfl) rfl rfl (fun K hK=>?_) (fun K hK=>?_)
     ·go_simp
      go_at_call 34
      refine(HC.out _ hS).mono ?_;rintro e wA ⟨vv,rfl,hov,hb⟩;have hS_wA:Below ws.heap.size ws wA:=hS.trans (hb.mono hS.size);obtain⟨V1,d1,hvv,-,-,-⟩:=hov.rd;subst hvv;rw[HTL.out] at hov ⊢;have hov:=ownI_le hov hS.size;refine hK _ _ (fun _=>hS_wA) ?_
      clear hK K hS;have hS:=hS_wA;clear hS_wA;refine Kp 37 (fun _=>hS) ?_
      refine K_one (i:=38) (by kernel_rfl) rfl (fun K hK=>?_)
      go_simp
      have hS2:=hS.trans ((one_boxS wA (.cells #[Value.int .i64 0,Value.int .i64 0,Value.string ⟨#[]⟩,Value.slice none 0 0,Value.slice none 0 0] 54)).mono hS.size);refine hK _ _ (fun _=>hS2) ?_
      have BX:=Blk.new wA 54 #[Value.int .i64 0,Value.int .i64 0,Value.string ⟨#[]⟩,Value.slice none 0 0,Value.slice none 0 0];obtain⟨ax,hax⟩:∃ ax,wA.heap.size=ax:=⟨_,rfl⟩;have hle:ws.heap.size≤ax:=by have h1:=hS.size;omega
      rw[hax] at BX
      try rw[hax]
      clear hK K hS hax;have hov2:=ownI_belowF hov (one_boxS wA (.cells #[Value.int .i64 0,Value.int .i64 0,Value.string ⟨#[]⟩,Value.slice none 0 0,Value.slice none 0 0] 54));generalize wA.alloc (.cells #[Value.int .i64 0,Value.int .i64 0,Value.string ⟨#[]⟩,Value.slice none 0 0,Value.slice none 0 0] 54)=wB at hov2 hS2 BX ⊢;have hS:=hS2;clear hS2;have hov:=hov2;clear hov2;refine K_one (i:=39) (by kernel_rfl) rfl (fun K hK=>?_)
      have c0:=BX.cell 0;have c1:=BX.cell 1;have c2:=BX.cell 2;have c3:=BX.cell 3;have c4:=BX.cell 4;have f0:=BX.frozen 0;have f1:=BX.frozen 1;have f2:=BX.frozen 2;have f3:=BX.frozen 3;have f4:=BX.frozen 4;simp at c0 c1 c2 c3 c4
      go_simp
      have hS2:=(((((hS.setCell (p:=⟨ax,0,none⟩) hle (.int .i64 x.kind)).setCell (p:=⟨ax,1,none⟩) hle (.int .i64 x.num)).setCell (p:=⟨ax,2,none⟩) hle (.string (x.nm.extract 0 M1))).setCell (p:=⟨ax,3,none⟩) hle (.slice none 0 0)).setCell (p:=⟨ax,4,none⟩) hle (.slice V1 N2 d1));refine hK _ _ (fun _=>hS2) ?_
      have hq:=(((((BX.set_ 0 (.int .i64 x.kind)).set_ 1 (.int .i64 x.num)).set_ 2 (.string (x.nm.extract 0 M1))).set_ 3 (.slice none 0 0)).set_ 4 (.slice V1 N2 d1));simp at hq;have hov2:=ownI_set5 hov BX (by decide) (.int .i64 x.kind) (.int .i64 x.num) (.string (x.nm.extract 0 M1)) (.slice none 0 0) (.slice V1 N2 d1)
      clear hK K hS BX c0 f0 c1 f1 c2 f2 c3 f3 c4 f4;generalize (((((wB.setCell ⟨ax,0,none⟩ (.int .i64 x.kind)).setCell ⟨ax,1,none⟩ (.int .i64 x.num)).setCell ⟨ax,2,none⟩ (.string (x.nm.extract 0 M1))).setCell ⟨ax,3,none⟩ (.slice none 0 0)).setCell ⟨ax,4,none⟩ (.slice V1 N2 d1))=wC at hov2 hS2 hq ⊢;have hS:=hS2;clear hS2;have BX:=hq;clear hq;have hov:=hov2;clear hov2;refine K_done (by kernel_rfl) ?_
      exact⟨ax,_,_,rfl,BX,hS,hle,hov⟩
     ·go_simp
      have hS2:Below ws.heap.size ws (ws.alloc (.cells #[Value.int .i64 0,Value.int .i64 0,Value.string ⟨#[]⟩,Value.slice none 0 0,Value.slice none 0 0] 54)).drew:=(one_boxS ws (.cells #[Value.int .i64 0,Value.int .i64 0,Value.string ⟨#[]⟩,Value.slice none 0 0,Value.slice none 0 0] 54)).drew;refine hK _ _ (fun _=>hS2) ?_
      have BX:Blk (ws.alloc (.cells #[Value.int .i64 0,Value.int .i64 0,Value.string ⟨#[]⟩,Value.slice none 0 0,Value.slice none 0 0] 54)).drew ws.heap.size 54 #[Value.int .i64 0,Value.int .i64 0,Value.string ⟨#[]⟩,Value.slice none 0 0,Value.slice none 0 0]:=Blk.new ws 54 #[Value.int .i64 0,Value.int .i64 0,Value.string ⟨#[]⟩,Value.slice none 0 0,Value.slice none 0 0];have hle:ws.heap.size≤ws.heap.size:=Nat.le_refl _;clear hK K hS;generalize (ws.alloc (.cells #[Value.int .i64 0,Value.int .i64 0,Value.string ⟨#[]⟩,Value.slice none 0 0,Value.slice none 0 0] 54)).drew=wB at hS2 BX ⊢;have hS:=hS2;clear hS2;have hlx:=BX.lt;refine K_one (i:=36) (by kernel_rfl) rfl (fun K hK=>?_)
      go_simp
      go_at_call 34
      refine(HC.out _ hS).mono ?_;rintro e wA ⟨vv,rfl,hov,hb⟩;have hS_wA:Below ws.heap.size ws wA:=hS.trans (hb.mono hS.size);obtain⟨V1,d1,hvv,-,-,-⟩:=hov.rd;subst hvv;rw[HTL.out] at hov ⊢;have hov:=ownI_le hov hS.size;have BX2:=BX.below hb hlx;refine hK _ _ (fun _=>hS_wA) ?_
      clear hK K hS;have hS:=hS_wA;clear hS_wA;have BX:=BX2;clear BX2 hlx hb;refine Kp 37 (fun _=>hS) ?_
      refine K_one (i:=39) (by kernel_rfl) rfl (fun K hK=>?_)
      have c0:=BX.cell 0;have c1:=BX.cell 1;have c2:=BX.cell 2;have c3:=BX.cell 3;have c4:=BX.cell 4;have f0:=BX.frozen 0;have f1:=BX.frozen 1;have f2:=BX.frozen 2;have f3:=BX.frozen 3;have f4:=BX.frozen 4;simp at c0 c1 c2 c3 c4
      go_simp
      have hS2:=(((((hS.setCell (p:=⟨ws.heap.size,0,none⟩) hle (.int .i64 x.kind)).setCell (p:=⟨ws.heap.size,1,none⟩) hle (.int .i64 x.num)).setCell (p:=⟨ws.heap.size,2,none⟩) hle (.string (x.nm.extract 0 M1))).setCell (p:=⟨ws.heap.size,3,none⟩) hle (.slice none 0 0)).setCell (p:=⟨ws.heap.size,4,none⟩) hle (.slice V1 N2 d1));refine hK _ _ (fun _=>hS2) ?_
      have hq:=(((((BX.set_ 0 (.int .i64 x.kind)).set_ 1 (.int .i64 x.num)).set_ 2 (.string (x.nm.extract 0 M1))).set_ 3 (.slice none 0 0)).set_ 4 (.slice V1 N2 d1));simp at hq;have hov2:=ownI_set5 hov BX (by decide) (.int .i64 x.kind) (.int .i64 x.num) (.string (x.nm.extract 0 M1)) (.slice none 0 0) (.slice V1 N2 d1)
      clear hK K hS BX c0 f0 c1 f1 c2 f2 c3 f3 c4 f4;generalize (((((wA.setCell ⟨ws.heap.size,0,none⟩ (.int .i64 x.kind)).setCell ⟨ws.heap.size,1,none⟩ (.int .i64 x.num)).setCell ⟨ws.heap.size,2,none⟩ (.string (x.nm.extract 0 M1))).setCell ⟨ws.heap.size,3,none⟩ (.slice none 0 0)).setCell ⟨ws.heap.size,4,none⟩ (.slice V1 N2 d1))=wC at hov2 hS2 hq ⊢;have hS:=hS2;clear hS2;have BX:=hq;clear hq;have hov:=hov2;clear hov2;refine K_done (by kernel_rfl) ?_
      exact⟨ws.heap.size,_,_,rfl,BX,hS,hle,hov⟩
    case h2 =>
     rintro nb V1 d1 w4 ⟨BX,hS,hle,hov⟩;have HBX:=hid BX;have HS4:=hid hS;have HNB:Hid (ws.heap.size≤nb):=hid hle;have HOV:=hid hov;clear BX hS hle hov c0 c1 c2 c4 hM1 hM1a hM1b hN2 hN2b hN2c hl63 hlc hsz;go_wp2_with fail
     go_loopw [6] (fun u6 wr=>∃ (j kc2:Nat) (KA2:Option Addr),j≤kn∧j≤12∧u6=.int .i64 (j:Int)∧Hid (Blk wr nb 54 #[.int .i64 x.kind,.int .i64 x.num,.string (x.nm.extract 0 M1),.slice KA2 j kc2,.slice V1 N2 d1])∧Hid (OwnS wr ws.heap.size (.slice KA2 j kc2) ((x.keys.take j).map cutT))∧Hid (OwnI wr ws.heap.size (.slice V1 N2 d1) (x.l.take 12))∧Hid (Below ws.heap.size ws wr)) (fun u6 _=>12-(intOf u6).toNat)
     case atStart=>exact⟨0,0,none,Nat.zero_le _,by decide,rfl,HBX,hid ⟨rfl,.inl ⟨rfl,rfl⟩⟩,HOV,HS4⟩
     case round =>
      clear HBX HS4 HOV;obtain⟨j,kc2,KA2,hj,hj12,rfl,HBXi,HKi,HLi,HBi⟩:=hrel;obtain⟨wi,rfl⟩:∃ wi,wi=wr:=⟨_,rfl⟩;have c3i:=gcell_below HBi.out HC3.out;have HJL:Hid (((x.keys.take j).map cutT).length=j):=hid (by rw[List.length_map,List.length_take,HKN.out];omega)
      by_cases hjl:j<kn
      ·have hjI:(j:Int)<(kn:Int):=by omega
       by_cases hj2:j<12
       ·have hj3:(j:Int)<12:=by omega
        obtain⟨s,hs⟩:∃ s,x.keys[j]? = some s:=⟨_,List.getElem?_eq_getElem (by have:=HKN.out;omega)⟩
        have HSJ:=hid hs;have hssz:=HTX.out.2 s (List.mem_of_getElem? hs);obtain⟨kb,ko,hKA,hkcell⟩:=HKR.out (by rw[rowc_len sC 1 (fun _=>rfl),HKN.out];omega)
        have cs:=gcell_below HBi.out (hkcell j (.string s) (by have h:=rowc_get sC 1 (fun _=>rfl) x.keys j s hs 0 (.string s) rfl;simpa using h))
        subst hKA;obtain⟨M,hM⟩:∃ M:Nat,min (s.size:Int) 20=(M:Int):=⟨min s.size 20,by omega⟩
        have hMa:M≤s.size:=by omega
        have hMb:(M:Int)≤(s.size:Int):=by omega
        have HME:Hid (s.extract 0 M=cutT s):=hid (by unfold cutT;rw[show M=min s.size 20 by omega])
        have z3:=HBXi.out.cell 3;simp at z3;clear hs hkcell
        go_upto_region 9 with(fail)
        have hS:Below wi.heap.size wi wi.drew:=⟨rfl,rfl,rfl,Nat.le_refl _,fun _ _=>rfl⟩
        refine K_start 22 (fun u=>Below wi.heap.size wi u) (by kernel_rfl) ?_
        refine Kp 0 (fun h=>by first | exact hS | exact absurd h (by decide)) ?_
        refine Kt 1 (hS:=hS) (hy:=fun uu hu=>by have z3_:=cell_below hu z3;go_simp;try with_reducible rfl) (h:=?_)
        refine Kp 2 (fun h=>by first | exact hS | exact absurd h (by decide)) ?_
        refine Kp 3 (fun h=>by first | exact hS | exact absurd h (by decide)) ?_
        refine Kp 4 (fun h=>by first | exact hS | exact absurd h (by decide)) ?_
        refine Kp 5 (fun h=>by first | exact hS | exact absurd h (by decide)) ?_
        refine Kn 6 [21,20,9,8] (hS:=hS) (hy:=fun uu hu=>by have c3i_:=cell_below hu c3i;go_simp;try with_reducible rfl) (h:=?_)
        refine Kp 7 (fun h=>by first | exact hS | exact absurd h (by decide)) ?_
        refine Kp 8 (fun h=>by first | exact hS | exact absurd h (by decide)) ?_
        refine Kn 9 [21,20] (hS:=hS) (hy:=fun uu hu=>by have cs_:=cell_below hu cs;go_simp;try with_reducible rfl) (h:=?_)
        refine Kp 10 (fun h=>by first | exact hS | exact absurd h (by decide)) ?_
        refine Kp 11 (fun h=>by first | exact hS | exact absurd h (by decide)) ?_
        refine Kp 12 (fun h=>by first | exact hS | exact absurd h (by decide)) ?_
        refine Kp 13 (fun h=>by first | exact hS | exact absurd h (by decide)) ?_
        refine Kn 14 [21,20,19,18,17,16] (hS:=hS) (hy:=fun uu hu=>by have c3i_:=cell_below hu c3i;go_simp;try with_reducible rfl) (h:=?_)
        refine Kp 15 (fun h=>by first | exact hS | exact absurd h (by decide)) ?_
        refine Kp 16 (fun h=>by first | exact hS | exact absurd h (by decide)) ?_
        refine Kn 17 [21,20,19,18] (hS:=hS) (hy:=fun uu hu=>by have cs_:=cell_below hu cs;go_simp;try with_reducible rfl) (h:=?_)
        refine Kp 18 (fun h=>by first | exact hS | exact absurd h (by decide)) ?_
        refine Kp 19 (fun h=>by first | exact hS | exact absurd h (by decide)) ?_
        refine Kp 20 (fun h=>by first | exact hS | exact absurd h (by decide)) ?_
        refine K_one (i:=21) (by kernel_rfl) rfl (fun K hK=>?_)
        go_simp
        have hS2:Below wi.heap.size wi (wi.alloc (.cells #[.string (s.extract 0 M)] 9)).drew:=(one_boxS wi (.cells #[.string (s.extract 0 M)] 9)).drew;refine hK _ _ (fun _=>hS2) ?_
        have hbe:Blk (wi.alloc (.cells #[.string (s.extract 0 M)] 9)).drew wi.heap.size 9 #[.string (s.extract 0 M)]:=Blk.new wi 9 #[.string (s.extract 0 M)];have hxe:Blk (wi.alloc (.cells #[.string (s.extract 0 M)] 9)).drew nb 54 #[.int .i64 x.kind,.int .i64 x.num,.string (x.nm.extract 0 M1),.slice KA2 j kc2,.slice V1 N2 d1]:=HBXi.out.below hS2 HBXi.out.lt;have hke:=ownS_below HKi.out hS2;have hie:=ownI_belowF HLi.out hS2;obtain⟨eb,heb⟩:∃ eb,wi.heap.size=eb:=⟨_,rfl⟩;have HSZ:Hid (ws.heap.size≤wi.heap.size):=hid HBi.out.size;rw[heb] at hbe
        try rw[heb]
        clear hK K hS heb;generalize (wi.alloc (.cells #[.string (s.extract 0 M)] 9)).drew=w5 at hS2 hbe hxe hke hie ⊢;have hS:=hS2;clear hS2;refine K_one (i:=22) (by kernel_rfl) rfl (fun K hK=>?_)
        have hcl:=hbe.cell 0;simp at hcl;refine step_pushS _ (by rfl) _ _ (by rfl) ws.heap.size (.slice KA2 j kc2) ((x.keys.take j).map cutT) (s.extract 0 M) eb (by rfl) hke (by rfl) hcl (by have:=HJL.out;omega) (by have h1:=hS.size;have h2:=HSZ.out;omega) ?_
        intro gg cap w6 ho6 hg6;refine hK _ _ (fun h=>absurd h (by decide)) ?_
        rw[HJL.out] at ho6 ⊢;have hk6:Kept (fun i=>(Value.slice KA2 j kc2).ownBlock=some i) w5 w6:=(Kept.refl _ w5).grownG hg6 fun i _ h=>h
        have hx6:Blk w6 nb 54 #[.int .i64 x.kind,.int .i64 x.num,.string (x.nm.extract 0 M1),.slice KA2 j kc2,.slice V1 N2 d1]:=hk6.blk hxe (fun e=>own_blk_ne hke hxe (by decide) e)
        have hi6:OwnI w6 ws.heap.size (.slice V1 N2 d1) (x.l.take 12):=hie.kept hk6 (fun i hi e=>by
         rcases own_ne hie hke (by decide) with h1 | h1
         ·rw[h1] at hi;cases hi
         ·exact h1 (hi.trans e.symm))
        have hb6:Below ws.heap.size ws w6:=(HBi.out.trans (hS.mono HSZ.out)).trans (hk6.below (by have h1:=hS.size;have h2:=HSZ.out;omega) (fun i hi e=>by have h1:=(own_ltG hke e).1;omega))
        have z3b:=hx6.cell 3;have f3:=hx6.frozen 3;simp at z3b;clear hK K hbe hcl hxe hke hie hS hg6 hk6;refine Kp 23 (fun h=>by first | exact hS | exact absurd h (by decide)) ?_
        refine K_one (i:=24) (by kernel_rfl) rfl (fun K hK=>?_)
        go_simp
        refine hK _ _ (fun h=>absurd h (by decide)) ?_
        clear hK K z3b f3;refine K_done (by kernel_rfl) ?_
        have hks:Kept (fun i=>i=nb) w6 (w6.setCell ⟨nb,3,none⟩ (.slice (some ⟨gg,0,none⟩) (j+1) cap)):=(Kept.refl (fun i=>i=nb) w6).setCell (p:=⟨nb,3,none⟩) (fun _=>rfl) (.slice (some ⟨gg,0,none⟩) (j+1) cap)
        have HK7:Hid (OwnS (w6.setCell ⟨nb,3,none⟩ (.slice (some ⟨gg,0,none⟩) (j+1) cap)) ws.heap.size (.slice (some ⟨gg,0,none⟩) (j+1) cap) ((x.keys.take (j+1)).map cutT)):=hid (by
         rw[List.take_add_one,HSJ.out,List.map_append];have h:=own_keptG ho6 hks (fun i hi e=>own_blk_ne ho6 hx6 (by decide) (e▸hi))
         rw[HME.out] at h;exact h)
        have HL7:Hid (OwnI (w6.setCell ⟨nb,3,none⟩ (.slice (some ⟨gg,0,none⟩) (j+1) cap)) ws.heap.size (.slice V1 N2 d1) (x.l.take 12)):=hid (ownI_set hi6 hx6 (by decide) 3 (.slice (some ⟨gg,0,none⟩) (j+1) cap))
        have hx7:=hx6.set_ 3 (.slice (some ⟨gg,0,none⟩) (j+1) cap);simp at hx7;have HX7:=hid hx7;have HB7:Hid (Below ws.heap.size ws (w6.setCell ⟨nb,3,none⟩ (.slice (some ⟨gg,0,none⟩) (j+1) cap))):=hid (hb6.setCell (p:=⟨nb,3,none⟩) HNB.out (.slice (some ⟨gg,0,none⟩) (j+1) cap));clear hks hx7 ho6 hx6 hi6 hb6 z3 cs c3i hM hMa hMb hssz;generalize (w6.setCell ⟨nb,3,none⟩ (.slice (some ⟨gg,0,none⟩) (j+1) cap))=w7 at HK7 HL7 HX7 HB7 ⊢;go_wp2_with fail
        go_roundw
        case rel=>exact⟨j+1,_,_,by omega,by omega,by go_num,HX7,HK7,HL7,HB7⟩
        case measure=>simp[intOf];omega
       ·have hj3:¬((j:Int)<12):=by omega
        have he:j=12:=by omega
        have HE:=hid he;clear he;have HKE:Hid ((x.keys.take j).map cutT=(cutN12 x).keys):=hid (by
         rw[HE.out];rfl)
        have HNM:Hid (x.nm.extract 0 M1=(cutN12 x).nm):=hid (by rw[HM1.out];rfl)
        have z0:=HBXi.out.cell 0;have z1:=HBXi.out.cell 1;have z2:=HBXi.out.cell 2;have z3:=HBXi.out.cell 3;have z4:=HBXi.out.cell 4;simp at z0 z1 z2 z3 z4;go_wp2_with (at_builtin;refine unhidG ?_)
        refine hid ?_;have hy:=one_boxS wi (.cells #[.int .i64 x.kind,.int .i64 x.num,.string (x.nm.extract 0 M1),.slice KA2 j kc2,.slice V1 N2 d1] 54);have hz:=Blk.new wi 54 #[.int .i64 x.kind,.int .i64 x.num,.string (x.nm.extract 0 M1),.slice KA2 j kc2,.slice V1 N2 d1];have hp:HeldG (wi.alloc (.cells #[.int .i64 x.kind,.int .i64 x.num,.string (x.nm.extract 0 M1),.slice KA2 j kc2,.slice V1 N2 d1] 54)) B (RowOf (.slice VA k vc)) (cutN12 x,.slice KA2 j kc2,.slice V1 N2 d1):=by
         obtain⟨ps,-,h2,-⟩:=HOW.out.rows;have hk8:=ownS_below HKi.out hy;have hl8:=ownI_belowF HLi.out hy;rw[HKE.out] at hk8;exact⟨own_baseG hk8 HBS.out,own_baseG hl8 HBS.out,fun i hi e=>by have h3:=(own_ltG h2 e).2;have h4:=(own_ltG hk8 hi).1;omega,fun i hi e=>by have h3:=(own_ltG h2 e).2;have h4:=(own_ltG hl8 hi).1;omega⟩
        have hcc:Blk (wi.alloc (.cells #[.int .i64 x.kind,.int .i64 x.num,.string (x.nm.extract 0 M1),.slice KA2 j kc2,.slice V1 N2 d1] 54)) wi.heap.size 54 (Gp.cells (cutN12 x,.slice KA2 j kc2,.slice V1 N2 d1)).toArray:=by
         rw[HNM.out] at hz ⊢;exact hz
        refine wpList_pushG (wi.alloc (.cells #[.int .i64 x.kind,.int .i64 x.num,.string (x.nm.extract 0 M1),.slice KA2 j kc2,.slice V1 N2 d1] 54)) rfl _ _ rfl B (.slice VA k vc) ((g.take k).map cutN12) (cutN12 x,.slice KA2 j kc2,.slice V1 N2 d1) wi.heap.size rfl ((HOW.out.below HBi.out).below hy) rfl hcc (by rw[List.length_map,List.length_take];omega) (by have h1:=hy.size;have h2:=HBi.out.size;have h3:=HBS.out;omega) hp ?_
        intro v' w9 ho9 hg9 _;have HT9:Hid ((g.take k).map cutN12++[cutN12 x]=(g.take (k+1)).map cutN12):=hid (by rw[List.take_add_one,HX.out,List.map_append];rfl)
        have ho9b:OwnG w9 B v' ((g.take k).map cutN12++[cutN12 x]):=ho9;rw[HT9.out] at ho9b;have HLN:Hid (((g.take (k+1)).map cutN12).length=k+1):=hid (by rw[List.length_map,List.length_take,HN.out];omega)
        obtain⟨VB,vd,hv9,-⟩:=ho9b.rd;subst hv9;rw[HLN.out] at ho9b ⊢;have HO9:=hid ho9b;have HB9:Hid (Below B w w9):=hid ((HB.out.trans ((HBi.out.trans (hy.mono HBi.out.size)).mono HBS.out)).grown hg9 (by have h1:=hy.size;have h2:=HBi.out.size;have h3:=HBS.out;omega) (fun i hi=>by obtain⟨ps,-,h2,-⟩:=HOW.out.rows;exact(own_ltG h2 hi).1))
        clear z0 z1 z2 z3 z4 hy hz hp hcc ho9 ho9b hg9 c3i;go_wp2_with fail
        go_roundw
        case rel=>exact⟨k+1,_,_,by omega,by omega,rfl,by go_num,HO9,HB9⟩
        case measure=>simp[intOf];omega
      ·have hjI:¬((j:Int)<(kn:Int)):=by omega
       have he:kn≤12:=by omega
       have hje:j=kn:=by omega
       have HE:=hid (And.intro he hje);clear he hje;have HKE:Hid ((x.keys.take j).map cutT=(cutN12 x).keys):=hid (by
        unfold cutN12;dsimp only;rw[List.take_of_length_le (by have:=HKN.out;have:=HE.out;omega),List.take_of_length_le (by have:=HKN.out;have:=HE.out;omega)])
       have HNM:Hid (x.nm.extract 0 M1=(cutN12 x).nm):=hid (by rw[HM1.out];rfl)
       have z0:=HBXi.out.cell 0;have z1:=HBXi.out.cell 1;have z2:=HBXi.out.cell 2;have z3:=HBXi.out.cell 3;have z4:=HBXi.out.cell 4;simp at z0 z1 z2 z3 z4;go_wp2_with (at_builtin;refine unhidG ?_)
       refine hid ?_;have hy:=one_boxS wi (.cells #[.int .i64 x.kind,.int .i64 x.num,.string (x.nm.extract 0 M1),.slice KA2 j kc2,.slice V1 N2 d1] 54);have hz:=Blk.new wi 54 #[.int .i64 x.kind,.int .i64 x.num,.string (x.nm.extract 0 M1),.slice KA2 j kc2,.slice V1 N2 d1];have hp:HeldG (wi.alloc (.cells #[.int .i64 x.kind,.int .i64 x.num,.string (x.nm.extract 0 M1),.slice KA2 j kc2,.slice V1 N2 d1] 54)) B (RowOf (.slice VA k vc)) (cutN12 x,.slice KA2 j kc2,.slice V1 N2 d1):=by
        obtain⟨ps,-,h2,-⟩:=HOW.out.rows;have hk8:=ownS_below HKi.out hy;have hl8:=ownI_belowF HLi.out hy;rw[HKE.out] at hk8;exact⟨own_baseG hk8 HBS.out,own_baseG hl8 HBS.out,fun i hi e=>by have h3:=(own_ltG h2 e).2;have h4:=(own_ltG hk8 hi).1;omega,fun i hi e=>by have h3:=(own_ltG h2 e).2;have h4:=(own_ltG hl8 hi).1;omega⟩
       have hcc:Blk (wi.alloc (.cells #[.int .i64 x.kind,.int .i64 x.num,.string (x.nm.extract 0 M1),.slice KA2 j kc2,.slice V1 N2 d1] 54)) wi.heap.size 54 (Gp.cells (cutN12 x,.slice KA2 j kc2,.slice V1 N2 d1)).toArray:=by
        rw[HNM.out] at hz ⊢;exact hz
       refine wpList_pushG (wi.alloc (.cells #[.int .i64 x.kind,.int .i64 x.num,.string (x.nm.extract 0 M1),.slice KA2 j kc2,.slice V1 N2 d1] 54)) rfl _ _ rfl B (.slice VA k vc) ((g.take k).map cutN12) (cutN12 x,.slice KA2 j kc2,.slice V1 N2 d1) wi.heap.size rfl ((HOW.out.below HBi.out).below hy) rfl hcc (by rw[List.length_map,List.length_take];omega) (by have h1:=hy.size;have h2:=HBi.out.size;have h3:=HBS.out;omega) hp ?_
       intro v' w9 ho9 hg9 _;have HT9:Hid ((g.take k).map cutN12++[cutN12 x]=(g.take (k+1)).map cutN12):=hid (by rw[List.take_add_one,HX.out,List.map_append];rfl)
       have ho9b:OwnG w9 B v' ((g.take k).map cutN12++[cutN12 x]):=ho9;rw[HT9.out] at ho9b;have HLN:Hid (((g.take (k+1)).map cutN12).length=k+1):=hid (by rw[List.length_map,List.length_take,HN.out];omega)
       obtain⟨VB,vd,hv9,-⟩:=ho9b.rd;subst hv9;rw[HLN.out] at ho9b ⊢;have HO9:=hid ho9b;have HB9:Hid (Below B w w9):=hid ((HB.out.trans ((HBi.out.trans (hy.mono HBi.out.size)).mono HBS.out)).grown hg9 (by have h1:=hy.size;have h2:=HBi.out.size;have h3:=HBS.out;omega) (fun i hi=>by obtain⟨ps,-,h2,-⟩:=HOW.out.rows;exact(own_ltG h2 hi).1))
       clear z0 z1 z2 z3 z4 hy hz hp hcc ho9 ho9b hg9 c3i;go_wp2_with fail
       go_roundw
       case rel=>exact⟨k+1,_,_,by omega,by omega,rfl,by go_num,HO9,HB9⟩
       case measure=>simp[intOf];omega
   ·have hk3:¬((k:Int)<16):=by omega
    have he:k=16:=by omega
    have HFE:Hid ((g.take k).map cutN12=cutG12 g):=hid (by rw[he];rfl)
    clear he;go_wp2_with fail
    go_ret
    exact⟨_,rfl,by rw[← HFE.out];exact HOW.out,HB.out⟩
  ·have hkI:¬((k:Int)<(n:Int)):=by omega
   have HFE:Hid ((g.take k).map cutN12=cutG12 g):=hid (by
    have h1:=HN.out;unfold cutG12;rw[List.take_of_length_le (by omega),List.take_of_length_le (by omega)])
   go_wp2_with fail
   go_ret
   exact⟨_,rfl,by rw[← HFE.out];exact HOW.out,HB.out⟩
end FM
end
end Go.Proofs.YtfigdflcoaepaaaGreatDoor
