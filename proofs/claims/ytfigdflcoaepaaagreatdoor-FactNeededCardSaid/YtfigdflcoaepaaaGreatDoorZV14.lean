/- Contracts and plain facts that the theorem rests on: SExam, SMk. -/
import Derived.Test.YtfigdflcoaepaaaGreatDoorZV11
import Derived.Test.YtfigdflcoaepaaaGreatDoorZV12
import Derived.Test.YtfigdflcoaepaaaGreatDoorZV13
import Derived.WalkMore
set_option linter.unusedSimpArgs false
set_option linter.unusedVariables false
namespace Go.Proofs.YtfigdflcoaepaaaGreatDoor
section
open Lib (hid)
open Go.RowKit
namespace SM
open CM (nd kids)
theorem rule0_any (x:Cx)(y:Lay)(S:St)(a b rel:Nat)(w:World)(h:RelW x w y S)(hrel:y.rel=rel)(hp:P1 x S)(ha:a<x.n)(hb:b<x.n) :
  Calls Tryz.prog 127 #[.pointer (some ⟨rel,0,none⟩),.agg #[.int .i64 (a:Int),.int .i64 (b:Int)]] w (RuleOut x y S a b 0 w):=by
 refine(itself_any x y S a b rel w h hrel ha hb).mono ?_;rintro r w' ⟨h1,h2,h3⟩;refine⟨_,rfl,h1,y,_,rfl,h2,h3,hp.asm _,rfl,?_⟩
 show(if a=b∧(nd x.g a).kind≠8 then(fun p=>if p=(a,b) then true else S.q.asm p) else S.q.asm)=(if decide (a=b∧(nd x.g a).kind≠8)=true then setA S.q.asm (a,b) else S.q.asm)
 by_cases e:a=b∧(nd x.g a).kind≠8
 ·rw[if_pos e,decide_eq_true e,if_pos rfl];rfl
 ·rw[if_neg e,decide_eq_false e,if_neg (by simp)]
theorem rule1_any (x:Cx)(y:Lay)(S:St)(a b rel:Nat)(w:World)(h:RelW x w y S)(hrel:y.rel=rel)(hp:P1 x S)(ha:a<x.n)(hb:b<x.n) :
  Calls Tryz.prog 128 #[.pointer (some ⟨rel,0,none⟩),.agg #[.int .i64 (a:Int),.int .i64 (b:Int)]] w (RuleOut x y S a b 1 w):=by
 refine(unlike_any x y S a b rel w h hrel ha hb).mono ?_;rintro r w' ⟨h1,h2⟩;exact⟨_,rfl,h1,y,S,rfl,h.same h2,Stp.of_below y h2,hp,rfl,rfl⟩
def rulesT:Array Value := #[.func (.func 127) #[] #[],.func (.func 128) #[] #[],.func (.func 129) #[] #[],.func (.func 130) #[] #[],.func (.func 131) #[] #[],.func (.func 132) #[] #[],.func (.func 133) #[] #[],.func (.func 134) #[] #[],.func (.func 135) #[] #[]]
theorem rules_any (w:World):Calls Tryz.prog 113 #[] w fun r w'=>r=.returned (.slice (some ⟨w.heap.size,0,none⟩) 9 9)∧w'=w.alloc (.cells rulesT 148):=by
 go_enter Tryz.func113,Tryz.ntmps113
 go_wp2_with fail
 go_returns
 exact⟨rfl,rfl⟩
theorem P1.full {x:Cx}{S:St}(h:P1 x S)(hf:full x.g S.P):∀ c d,c<x.g.length→d<x.g.length→(c,d)∈S.P:=fun c d hc hd=>by
 refine Classical.byContradiction fun hn=>?_
 have hnd:((c,d)::S.P).Nodup:=List.nodup_cons.2 ⟨hn,h.nodup⟩;have hle:=nodup_sub_len hnd (m:=(List.range x.n).flatMap fun a=>(List.range x.n).map fun b=>(a,b)) fun p hp=>by
  have key:p.1<x.n∧p.2<x.n:=by
   rcases List.mem_cons.1 hp with rfl | hp
   ·exact⟨hc,hd⟩
   ·exact h.lt p hp
  exact List.mem_flatMap.2 ⟨p.1,List.mem_range.2 key.1,List.mem_map.2 ⟨p.2,List.mem_range.2 key.2,rfl⟩⟩
 have e:((List.range x.n).flatMap fun a=>(List.range x.n).map fun b=>(a,b)).length=x.n*x.n:=by
  rw[List.length_flatMap];simp only[List.length_map,List.length_range];rw[sum_const,List.length_range]
 rw[e,List.length_cons] at hle;have hf':S.P.length=x.n*x.n:=hf;omega
theorem asm_off {A A0:Pr→Bool}{p q:Pr}{am:Bool}(h:A=A0)(hq:q≠p):(if am=true then setA A p else A) q=A0 q:=by
 subst h;split
 ·unfold setA;rw[if_neg hq]
 ·rfl
def ExOut (x:Cx)(y:Lay)(S:St)(w:World)(r:Ending)(w':World):Prop:=
 r=.returned (.tuple #[])∧∃ y' S',y'.rel=y.rel∧RelW x w' y' S'∧Stp w y w' y'∧P1 x S'∧(∃ t,S'.P=S.P++t)∧Cl x.g x.st S'.P S'.q.asm
set_option maxRecDepth 100000 in
set_option maxHeartbeats 16000000 in
theorem examine_any (x:Cx)(y:Lay)(S:St)(w:World)(h:RelW x w y S)(hf:Fine x.g)(hp:P1 x S)(hA:∀ p,S.q.asm p=false) :
  Calls Tryz.prog 85 #[.pointer (some ⟨y.rel,0,none⟩)] w (ExOut x y S w):=by
 have h1:=h.alloc (.cells rulesT 148);have hs1:=Stp.of_below y (one_boxS w (.cells rulesT 148));have hz:=Blk.new w 148 rulesT;have hno:=h.new;have HE0:Hid (Exam x.g x.st S.P S.q.asm 0):=hid ⟨hp.lt,hp.nodup,fun p e=>(by rw[hA p] at e;cases e),fun k hk=>by omega⟩
 have HF:=hid hf;have HP:=hid hp;have HLEN:=hid h.len;have R:=rules_any w;clear h hf hp hA;go_enter Tryz.func85,Tryz.ntmps85
 go_wp2_with fail
 go_step3
 go_wp2_with fail
 refine R.mono ?_;rintro r w1 ⟨rfl,rfl⟩;clear R;generalize w.alloc (.cells rulesT 148)=w1 at h1 hs1 hz ⊢;obtain⟨rb,hrb⟩:∃ rb,w.heap.size=rb:=⟨_,rfl⟩;rw[hrb] at hz hno ⊢;have H1:=hid h1;have HS1:=hid hs1;have HZ:=hid hz;have HNO:=hid hno;clear h1 hs1 hz hno hrb;go_wp2_with fail
 go_step3
 go_wp2_with fail
 go_loopw [3] (fun u3 wr=>∃ (i:Nat) (yi:Lay) (Si:St),i≤Si.P.length∧u3=.int .i64 (i:Int)∧Hid (yi.rel=y.rel)∧Hid (RelW x wr yi Si)∧Hid (Stp w1 y wr yi)∧Hid (P1 x Si)∧Hid (∃ t,Si.P=S.P++t)∧Hid (Exam x.g x.st Si.P Si.q.asm i)) (fun u3 _=>4000001-(intOf u3).toNat)
 case atStart=>exact⟨0,y,S,Nat.zero_le _,rfl,hid rfl,H1,hid (Stp.refl _ _),HP,hid ⟨[],by simp⟩,HE0⟩
 case round =>
  obtain⟨i,yi,Si,hi,rfl,Hy,Hr,Hs,HPi,Ht,HEx⟩:=hrel;obtain⟨ws,rfl⟩:∃ ws,ws=wr:=⟨_,rfl⟩;obtain⟨PA,pc,hpv⟩:=own_formP (Hr.out.comp .prs);have hml:=HPi.out.len HLEN.out;have hmax:Si.P.length≤4000000:=by omega
  have c2:=Hr.out.c2;rw[Hy.out] at c2
  change yi.pv=.slice PA Si.P.length pc at hpv
  rw[hpv] at c2;obtain⟨m,hm⟩:∃ m,Si.P.length=m:=⟨_,rfl⟩;have HM:=hid hm;rw[hm] at c2 hi hmax;clear hpv hm hml;by_cases hlt:i<m
  ·obtain⟨⟨a,b⟩,hpi⟩:∃ p,Si.P[i]? = some p:=⟨_,List.getElem?_eq_getElem (by rw[HM.out];exact hlt)⟩
   obtain⟨hal,hbl⟩:=HPi.out.lt _ (List.mem_of_getElem? hpi);have HPI:=hid hpi;have HAL:=hid hal;have HBL:=hid hbl;have HA0:Hid (Si.q.asm (a,b)=false):=hid (by
    cases e:Si.q.asm (a,b)
    ·rfl
    ·obtain⟨k,hk,hkp⟩:=HEx.out.asm _ e;have h1:=(List.getElem?_eq_some_iff.1 hkp).2;have h2:=(List.getElem?_eq_some_iff.1 hpi).2;have:=(List.getElem_inj HPi.out.nodup).1 (h1.trans h2.symm);omega)
   have hii:(i:Int)<(m:Int):=by omega
   clear hpi hal hbl;go_wp2_with fail
   clear c2
   go_loopw [18] (fun u18 wr=>∃ (k:Nat) (yk:Lay) (Sk:St),k≤9∧u18=.int .i64 (k:Int)∧Hid (yk.rel=y.rel)∧Hid (RelW x wr yk Sk)∧Hid (Stp ws yi wr yk)∧Hid (P1 x Sk)∧Hid (Tried x.g x.st Si.P Si.q.asm a b k Sk.P Sk.q.asm)) (fun u18 _=>9-(intOf u18).toNat)
   case atStart=>exact⟨0,yi,Si,Nat.zero_le _,rfl,Hy,Hr,hid (Stp.refl _ _),HPi,hid (Tried.zero _ _ _ _ _ _)⟩
   case round =>
    obtain⟨k,yk,Sk,hk,rfl,Hyk,Hrk,Hsk,HPk,HTk⟩:=hrel;have HNX:∀(y':Lay) (S':St) (w':World),Hid (y'.rel=y.rel)→Hid (RelW x w' y' S')→Hid (Stp wr yk w' y')→Hid (P1 x S')→Hid ((∃ t,S'.P=Si.P++t)∧(∀ q,q≠(a,b)→S'.q.asm q=Si.q.asm q)∧DoneP x.g x.st S'.P S'.q.asm a b) →
      ∃ (i_:Nat) (yi_:Lay) (Si_:St),i_≤Si_.P.length∧Value.int .i64 ((i+1:Nat):Int)=.int .i64 (i_:Int)∧Hid (yi_.rel=y.rel)∧Hid (RelW x w' yi_ Si_)∧Hid (Stp w1 y w' yi_)∧Hid (P1 x Si_)∧Hid (∃ t,Si_.P=S.P++t)∧Hid (Exam x.g x.st Si_.P Si_.q.asm i_):=fun y' S' w' h1 h2 h3 h4 h5=>by
     obtain⟨⟨t,ht⟩,hq,hd⟩:=h5.out;refine⟨i+1,y',S',?_,rfl,h1,h2,hid ((Hs.out.trans Hsk.out).trans h3.out),h4,hid ?_,hid (HEx.out.step HPI.out ⟨t,ht⟩ hq h4.out.lt h4.out.nodup hd)⟩
     ·rw[ht,List.length_append,HM.out];omega
     ·obtain⟨t0,h0⟩:=Ht.out;exact⟨t0++t,by rw[ht,h0,List.append_assoc]⟩
    by_cases hk9:k<9
    ·obtain⟨QA,qc,hqv⟩:=own_formP (Hrk.out.comp .prs);have d2:=Hrk.out.c2;rw[Hyk.out] at d2
     change yk.pv=.slice QA Sk.P.length qc at hqv
     rw[hqv] at d2;obtain⟨t,htk⟩:=HTk.out.pre;have hpk:Sk.P[i]? = some (a,b):=by rw[htk,List.getElem?_append_left (by rw[HM.out];exact hlt)];exact HPI.out
     have hown:OwnP wr x.B (.slice QA Sk.P.length qc) Sk.P:=by rw[← hqv];exact Hrk.out.comp .prs
     obtain⟨gq,hQA,p0,p1⟩:=ownP_at hown hpk;subst hQA;have hikl:i<Sk.P.length:=(List.getElem?_eq_some_iff.1 hpk).1;obtain⟨mk,hmk⟩:∃ mk,Sk.P.length=mk:=⟨_,rfl⟩;rw[hmk] at d2 hikl;have hikI:(i:Int)<(mk:Int):=by omega
     have hbt:=(((Hs.out.trans Hsk.out).blk HZ.out HNO.out).1);clear hqv hpk hown htk hmk;have hkI:(k:Int)<9:=by omega
     have hcase:k=0∨k=1∨k=2∨k=3∨k=4∨k=5∨k=6∨k=7∨k=8:=by omega
     rcases hcase with rfl | rfl | rfl | rfl | rfl | rfl | rfl | rfl | rfl
     ·have f0:wr.cell? ⟨rb,0,none⟩=some (.func (.func 127) #[] #[]):=hbt.cell 0;have U:=rule0_any x yk Sk a b _ wr Hrk.out Hyk.out HPk.out HAL.out HBL.out;clear hbt hk hk9 hkI;go_wp2_with fail
      refine U.mono ?_;rintro r w5 ⟨⟨ok,am,ps⟩,hact,rfl,y5,S5,e5,h5,hs5,hp5,hP5,ha5⟩;have E5:=hid (e5.trans Hyk.out);have H5:=hid h5;have HS5:=hid hs5;have HP5:=hid hp5;have HPP5:=hid hP5;have HA5:=hid ha5;have HACT:=hid hact;clear e5 h5 hs5 hp5 hP5 ha5 hact U d2 p0 p1 f0;cases ok
      ·have HT5:Hid (Tried x.g x.st Si.P Si.q.asm a b 1 S5.P S5.q.asm):=hid (by have:=HTk.out.next HACT.out rfl;rw[HPP5.out,HA5.out];exact this)
       go_wp2_with fail
       go_roundw
       case rel=>exact⟨1,y5,S5,by omega,by go_num,E5,H5,hid (Hsk.out.trans HS5.out),HP5,HT5⟩
       case measure=>simp[intOf]
      ·have HD5:Hid ((∃ t,S5.P=Si.P++t)∧(∀ q,q≠(a,b)→S5.q.asm q=Si.q.asm q)∧DoneP x.g x.st S5.P S5.q.asm a b):=hid (by
        have h1:=HTk.out.done HF.out HA0.out HAL.out HBL.out HACT.out rfl (fun e=>HPk.out.full e)
        rw[HPP5.out,HA5.out];exact⟨HTk.out.grow _,fun q hq=>asm_off HTk.out.asm hq,h1⟩)
       have HN5:=HNX y5 S5 w5 E5 H5 HS5 HP5 HD5;go_wp2_with fail
       go_roundw
       case rel =>
        obtain⟨i_,yi_,Si_,r1,r2,r3⟩:=HN5;exact⟨i_,yi_,Si_,r1,by rw[← r2];go_num,r3⟩
       case measure=>simp[intOf];omega
     ·have f0:wr.cell? ⟨rb,1,none⟩=some (.func (.func 128) #[] #[]):=hbt.cell 1;have U:=rule1_any x yk Sk a b _ wr Hrk.out Hyk.out HPk.out HAL.out HBL.out;clear hbt hk hk9 hkI;go_wp2_with fail
      refine U.mono ?_;rintro r w5 ⟨⟨ok,am,ps⟩,hact,rfl,y5,S5,e5,h5,hs5,hp5,hP5,ha5⟩;have E5:=hid (e5.trans Hyk.out);have H5:=hid h5;have HS5:=hid hs5;have HP5:=hid hp5;have HPP5:=hid hP5;have HA5:=hid ha5;have HACT:=hid hact;clear e5 h5 hs5 hp5 hP5 ha5 hact U d2 p0 p1 f0;cases ok
      ·have HT5:Hid (Tried x.g x.st Si.P Si.q.asm a b 2 S5.P S5.q.asm):=hid (by have:=HTk.out.next HACT.out rfl;rw[HPP5.out,HA5.out];exact this)
       go_wp2_with fail
       go_roundw
       case rel=>exact⟨2,y5,S5,by omega,by go_num,E5,H5,hid (Hsk.out.trans HS5.out),HP5,HT5⟩
       case measure=>simp[intOf]
      ·have HD5:Hid ((∃ t,S5.P=Si.P++t)∧(∀ q,q≠(a,b)→S5.q.asm q=Si.q.asm q)∧DoneP x.g x.st S5.P S5.q.asm a b):=hid (by
        have h1:=HTk.out.done HF.out HA0.out HAL.out HBL.out HACT.out rfl (fun e=>HPk.out.full e)
        rw[HPP5.out,HA5.out];exact⟨HTk.out.grow _,fun q hq=>asm_off HTk.out.asm hq,h1⟩)
       have HN5:=HNX y5 S5 w5 E5 H5 HS5 HP5 HD5;go_wp2_with fail
       go_roundw
       case rel =>
        obtain⟨i_,yi_,Si_,r1,r2,r3⟩:=HN5;exact⟨i_,yi_,Si_,r1,by rw[← r2];go_num,r3⟩
       case measure=>simp[intOf];omega
     ·have f0:wr.cell? ⟨rb,2,none⟩=some (.func (.func 129) #[] #[]):=hbt.cell 2;have U:=ofUnion_any x yk Sk a b _ wr Hrk.out Hyk.out HF.out HPk.out HAL.out HBL.out;clear hbt hk hk9 hkI;go_wp2_with fail
      refine U.mono ?_;rintro r w5 ⟨⟨ok,am,ps⟩,hact,rfl,y5,S5,e5,h5,hs5,hp5,hP5,ha5⟩;have E5:=hid (e5.trans Hyk.out);have H5:=hid h5;have HS5:=hid hs5;have HP5:=hid hp5;have HPP5:=hid hP5;have HA5:=hid ha5;have HACT:=hid hact;clear e5 h5 hs5 hp5 hP5 ha5 hact U d2 p0 p1 f0;cases ok
      ·have HT5:Hid (Tried x.g x.st Si.P Si.q.asm a b 3 S5.P S5.q.asm):=hid (by have:=HTk.out.next HACT.out rfl;rw[HPP5.out,HA5.out];exact this)
       go_wp2_with fail
       go_roundw
       case rel=>exact⟨3,y5,S5,by omega,by go_num,E5,H5,hid (Hsk.out.trans HS5.out),HP5,HT5⟩
       case measure=>simp[intOf]
      ·have HD5:Hid ((∃ t,S5.P=Si.P++t)∧(∀ q,q≠(a,b)→S5.q.asm q=Si.q.asm q)∧DoneP x.g x.st S5.P S5.q.asm a b):=hid (by
        have h1:=HTk.out.done HF.out HA0.out HAL.out HBL.out HACT.out rfl (fun e=>HPk.out.full e)
        rw[HPP5.out,HA5.out];exact⟨HTk.out.grow _,fun q hq=>asm_off HTk.out.asm hq,h1⟩)
       have HN5:=HNX y5 S5 w5 E5 H5 HS5 HP5 HD5;go_wp2_with fail
       go_roundw
       case rel =>
        obtain⟨i_,yi_,Si_,r1,r2,r3⟩:=HN5;exact⟨i_,yi_,Si_,r1,by rw[← r2];go_num,r3⟩
       case measure=>simp[intOf];omega
     ·have f0:wr.cell? ⟨rb,3,none⟩=some (.func (.func 130) #[] #[]):=hbt.cell 3;have U:=ofBound_any x yk Sk a b _ wr Hrk.out Hyk.out HF.out HPk.out HAL.out HBL.out;clear hbt hk hk9 hkI;go_wp2_with fail
      refine U.mono ?_;rintro r w5 ⟨⟨ok,am,ps⟩,hact,rfl,y5,S5,e5,h5,hs5,hp5,hP5,ha5⟩;have E5:=hid (e5.trans Hyk.out);have H5:=hid h5;have HS5:=hid hs5;have HP5:=hid hp5;have HPP5:=hid hP5;have HA5:=hid ha5;have HACT:=hid hact;clear e5 h5 hs5 hp5 hP5 ha5 hact U d2 p0 p1 f0;cases ok
      ·have HT5:Hid (Tried x.g x.st Si.P Si.q.asm a b 4 S5.P S5.q.asm):=hid (by have:=HTk.out.next HACT.out rfl;rw[HPP5.out,HA5.out];exact this)
       go_wp2_with fail
       go_roundw
       case rel=>exact⟨4,y5,S5,by omega,by go_num,E5,H5,hid (Hsk.out.trans HS5.out),HP5,HT5⟩
       case measure=>simp[intOf]
      ·have HD5:Hid ((∃ t,S5.P=Si.P++t)∧(∀ q,q≠(a,b)→S5.q.asm q=Si.q.asm q)∧DoneP x.g x.st S5.P S5.q.asm a b):=hid (by
        have h1:=HTk.out.done HF.out HA0.out HAL.out HBL.out HACT.out rfl (fun e=>HPk.out.full e)
        rw[HPP5.out,HA5.out];exact⟨HTk.out.grow _,fun q hq=>asm_off HTk.out.asm hq,h1⟩)
       have HN5:=HNX y5 S5 w5 E5 H5 HS5 HP5 HD5;go_wp2_with fail
       go_roundw
       case rel =>
        obtain⟨i_,yi_,Si_,r1,r2,r3⟩:=HN5;exact⟨i_,yi_,Si_,r1,by rw[← r2];go_num,r3⟩
       case measure=>simp[intOf];omega
     ·have f0:wr.cell? ⟨rb,4,none⟩=some (.func (.func 131) #[] #[]):=hbt.cell 4;have U:=inUnion_any x yk Sk a b _ wr Hrk.out Hyk.out HF.out HPk.out HAL.out HBL.out;clear hbt hk hk9 hkI;go_wp2_with fail
      refine U.mono ?_;rintro r w5 ⟨⟨ok,am,ps⟩,hact,rfl,y5,S5,e5,h5,hs5,hp5,hP5,ha5⟩;have E5:=hid (e5.trans Hyk.out);have H5:=hid h5;have HS5:=hid hs5;have HP5:=hid hp5;have HPP5:=hid hP5;have HA5:=hid ha5;have HACT:=hid hact;clear e5 h5 hs5 hp5 hP5 ha5 hact U d2 p0 p1 f0;cases ok
      ·have HT5:Hid (Tried x.g x.st Si.P Si.q.asm a b 5 S5.P S5.q.asm):=hid (by have:=HTk.out.next HACT.out rfl;rw[HPP5.out,HA5.out];exact this)
       go_wp2_with fail
       go_roundw
       case rel=>exact⟨5,y5,S5,by omega,by go_num,E5,H5,hid (Hsk.out.trans HS5.out),HP5,HT5⟩
       case measure=>simp[intOf]
      ·have HD5:Hid ((∃ t,S5.P=Si.P++t)∧(∀ q,q≠(a,b)→S5.q.asm q=Si.q.asm q)∧DoneP x.g x.st S5.P S5.q.asm a b):=hid (by
        have h1:=HTk.out.done HF.out HA0.out HAL.out HBL.out HACT.out rfl (fun e=>HPk.out.full e)
        rw[HPP5.out,HA5.out];exact⟨HTk.out.grow _,fun q hq=>asm_off HTk.out.asm hq,h1⟩)
       have HN5:=HNX y5 S5 w5 E5 H5 HS5 HP5 HD5;go_wp2_with fail
       go_roundw
       case rel =>
        obtain⟨i_,yi_,Si_,r1,r2,r3⟩:=HN5;exact⟨i_,yi_,Si_,r1,by rw[← r2];go_num,r3⟩
       case measure=>simp[intOf];omega
     ·have f0:wr.cell? ⟨rb,5,none⟩=some (.func (.func 132) #[] #[]):=hbt.cell 5;have U:=dyn_any x yk Sk a b _ wr Hrk.out Hyk.out HPk.out HAL.out HBL.out;clear hbt hk hk9 hkI;go_wp2_with fail
      refine U.mono ?_;rintro r w5 ⟨⟨ok,am,ps⟩,hact,rfl,y5,S5,e5,h5,hs5,hp5,hP5,ha5⟩;have E5:=hid (e5.trans Hyk.out);have H5:=hid h5;have HS5:=hid hs5;have HP5:=hid hp5;have HPP5:=hid hP5;have HA5:=hid ha5;have HACT:=hid hact;clear e5 h5 hs5 hp5 hP5 ha5 hact U d2 p0 p1 f0;cases ok
      ·have HT5:Hid (Tried x.g x.st Si.P Si.q.asm a b 6 S5.P S5.q.asm):=hid (by have:=HTk.out.next HACT.out rfl;rw[HPP5.out,HA5.out];exact this)
       go_wp2_with fail
       go_roundw
       case rel=>exact⟨6,y5,S5,by omega,by go_num,E5,H5,hid (Hsk.out.trans HS5.out),HP5,HT5⟩
       case measure=>simp[intOf]
      ·have HD5:Hid ((∃ t,S5.P=Si.P++t)∧(∀ q,q≠(a,b)→S5.q.asm q=Si.q.asm q)∧DoneP x.g x.st S5.P S5.q.asm a b):=hid (by
        have h1:=HTk.out.done HF.out HA0.out HAL.out HBL.out HACT.out rfl (fun e=>HPk.out.full e)
        rw[HPP5.out,HA5.out];exact⟨HTk.out.grow _,fun q hq=>asm_off HTk.out.asm hq,h1⟩)
       have HN5:=HNX y5 S5 w5 E5 H5 HS5 HP5 HD5;go_wp2_with fail
       go_roundw
       case rel =>
        obtain⟨i_,yi_,Si_,r1,r2,r3⟩:=HN5;exact⟨i_,yi_,Si_,r1,by rw[← r2];go_num,r3⟩
       case measure=>simp[intOf];omega
     ·have f0:wr.cell? ⟨rb,6,none⟩=some (.func (.func 133) #[] #[]):=hbt.cell 6;have U:=plain_any x yk Sk a b _ wr Hrk.out Hyk.out HPk.out HAL.out HBL.out;clear hbt hk hk9 hkI;go_wp2_with fail
      refine U.mono ?_;rintro r w5 ⟨⟨ok,am,ps⟩,hact,rfl,y5,S5,e5,h5,hs5,hp5,hP5,ha5⟩;have E5:=hid (e5.trans Hyk.out);have H5:=hid h5;have HS5:=hid hs5;have HP5:=hid hp5;have HPP5:=hid hP5;have HA5:=hid ha5;have HACT:=hid hact;clear e5 h5 hs5 hp5 hP5 ha5 hact U d2 p0 p1 f0;cases ok
      ·have HT5:Hid (Tried x.g x.st Si.P Si.q.asm a b 7 S5.P S5.q.asm):=hid (by have:=HTk.out.next HACT.out rfl;rw[HPP5.out,HA5.out];exact this)
       go_wp2_with fail
       go_roundw
       case rel=>exact⟨7,y5,S5,by omega,by go_num,E5,H5,hid (Hsk.out.trans HS5.out),HP5,HT5⟩
       case measure=>simp[intOf]
      ·have HD5:Hid ((∃ t,S5.P=Si.P++t)∧(∀ q,q≠(a,b)→S5.q.asm q=Si.q.asm q)∧DoneP x.g x.st S5.P S5.q.asm a b):=hid (by
        have h1:=HTk.out.done HF.out HA0.out HAL.out HBL.out HACT.out rfl (fun e=>HPk.out.full e)
        rw[HPP5.out,HA5.out];exact⟨HTk.out.grow _,fun q hq=>asm_off HTk.out.asm hq,h1⟩)
       have HN5:=HNX y5 S5 w5 E5 H5 HS5 HP5 HD5;go_wp2_with fail
       go_roundw
       case rel =>
        obtain⟨i_,yi_,Si_,r1,r2,r3⟩:=HN5;exact⟨i_,yi_,Si_,r1,by rw[← r2];go_num,r3⟩
       case measure=>simp[intOf];omega
     ·have f0:wr.cell? ⟨rb,7,none⟩=some (.func (.func 134) #[] #[]):=hbt.cell 7;have U:=variable_any x yk Sk a b _ wr Hrk.out Hyk.out HF.out HPk.out HAL.out HBL.out;clear hbt hk hk9 hkI;go_wp2_with fail
      refine U.mono ?_;rintro r w5 ⟨⟨ok,am,ps⟩,hact,rfl,y5,S5,e5,h5,hs5,hp5,hP5,ha5⟩;have E5:=hid (e5.trans Hyk.out);have H5:=hid h5;have HS5:=hid hs5;have HP5:=hid hp5;have HPP5:=hid hP5;have HA5:=hid ha5;have HACT:=hid hact;clear e5 h5 hs5 hp5 hP5 ha5 hact U d2 p0 p1 f0;cases ok
      ·have HT5:Hid (Tried x.g x.st Si.P Si.q.asm a b 8 S5.P S5.q.asm):=hid (by have:=HTk.out.next HACT.out rfl;rw[HPP5.out,HA5.out];exact this)
       go_wp2_with fail
       go_roundw
       case rel=>exact⟨8,y5,S5,by omega,by go_num,E5,H5,hid (Hsk.out.trans HS5.out),HP5,HT5⟩
       case measure=>simp[intOf]
      ·have HD5:Hid ((∃ t,S5.P=Si.P++t)∧(∀ q,q≠(a,b)→S5.q.asm q=Si.q.asm q)∧DoneP x.g x.st S5.P S5.q.asm a b):=hid (by
        have h1:=HTk.out.done HF.out HA0.out HAL.out HBL.out HACT.out rfl (fun e=>HPk.out.full e)
        rw[HPP5.out,HA5.out];exact⟨HTk.out.grow _,fun q hq=>asm_off HTk.out.asm hq,h1⟩)
       have HN5:=HNX y5 S5 w5 E5 H5 HS5 HP5 HD5;go_wp2_with fail
       go_roundw
       case rel =>
        obtain⟨i_,yi_,Si_,r1,r2,r3⟩:=HN5;exact⟨i_,yi_,Si_,r1,by rw[← r2];go_num,r3⟩
       case measure=>simp[intOf];omega
     ·have f0:wr.cell? ⟨rb,8,none⟩=some (.func (.func 135) #[] #[]):=hbt.cell 8;have U:=record_any x yk Sk a b _ wr Hrk.out Hyk.out HF.out HPk.out HAL.out HBL.out;clear hbt hk hk9 hkI;go_wp2_with fail
      refine U.mono ?_;rintro r w5 ⟨⟨ok,am,ps⟩,hact,rfl,y5,S5,e5,h5,hs5,hp5,hP5,ha5⟩;have E5:=hid (e5.trans Hyk.out);have H5:=hid h5;have HS5:=hid hs5;have HP5:=hid hp5;have HPP5:=hid hP5;have HA5:=hid ha5;have HACT:=hid hact;clear e5 h5 hs5 hp5 hP5 ha5 hact U d2 p0 p1 f0;cases ok
      ·have HT5:Hid (Tried x.g x.st Si.P Si.q.asm a b 9 S5.P S5.q.asm):=hid (by have:=HTk.out.next HACT.out rfl;rw[HPP5.out,HA5.out];exact this)
       go_wp2_with fail
       go_roundw
       case rel=>exact⟨9,y5,S5,by omega,by go_num,E5,H5,hid (Hsk.out.trans HS5.out),HP5,HT5⟩
       case measure=>simp[intOf]
      ·have HD5:Hid ((∃ t,S5.P=Si.P++t)∧(∀ q,q≠(a,b)→S5.q.asm q=Si.q.asm q)∧DoneP x.g x.st S5.P S5.q.asm a b):=hid (by
        have h1:=HTk.out.done HF.out HA0.out HAL.out HBL.out HACT.out rfl (fun e=>HPk.out.full e)
        rw[HPP5.out,HA5.out];exact⟨HTk.out.grow _,fun q hq=>asm_off HTk.out.asm hq,h1⟩)
       have HN5:=HNX y5 S5 w5 E5 H5 HS5 HP5 HD5;go_wp2_with fail
       go_roundw
       case rel =>
        obtain⟨i_,yi_,Si_,r1,r2,r3⟩:=HN5;exact⟨i_,yi_,Si_,r1,by rw[← r2];go_num,r3⟩
       case measure=>simp[intOf];omega
    ·have hk99:k=9:=by omega
     subst hk99;have HD5:Hid ((∃ t,Sk.P=Si.P++t)∧(∀ q,q≠(a,b)→Sk.q.asm q=Si.q.asm q)∧DoneP x.g x.st Sk.P Sk.q.asm a b):=hid ⟨HTk.out.pre,fun q _=>by rw[HTk.out.asm],HTk.out.all HF.out HA0.out HAL.out⟩
     have HN5:=HNX yk Sk wr Hyk Hrk (hid (Stp.refl _ _)) HPk HD5;go_wp2_with fail
     go_roundw
     case rel =>
      obtain⟨i_,yi_,Si_,r1,r2,r3⟩:=HN5;exact⟨i_,yi_,Si_,r1,by rw[← r2];go_num,r3⟩
     case measure=>simp[intOf];omega
  ·have him:i=m:=by omega
   have hii:¬((i:Int)<(m:Int)):=by omega
   have HCL:Hid (Cl x.g x.st Si.P Si.q.asm):=hid (by have:=HEx.out;rw[him,← HM.out] at this;exact this.cl)
   clear him;go_wp2_with fail
   go_returns
   exact⟨rfl,yi,Si,Hy.out,Hr.out,HS1.out.trans Hs.out,HPi.out,Ht.out,HCL.out⟩
end SM
end
section
open Go.RowKit
namespace SM
open CM (nd kids)
def nilV:Value:=.slice none 0 0
def lay0 (bs:Nat→Nat)(m:Nat):Lay:={ rel:=bs 20,lb:=bs 10,rb:=bs 12,kb:=bs 14,ub:=bs 16,sb:=bs 18,mp:=bs 8,pv:=.slice (some ⟨bs 7,0,none⟩) 0 m,fv:=nilV,lv:=fun _=>nilV,rv:=fun _=>nilV,uv:=fun _=>nilV,sv:=fun _=>nilV,nv:=fun _ _=>nilV }
def st0:St:={ P:=[],q:=⟨fun _=>0,fun _=>false,[]⟩,kn:=fun _=>false,un:=fun _=>[],us:=fun _=>[] }
def mkV (x:Cx)(LA:Option Addr)(ln lc:Nat)(RA:Option Addr)(rn rc m:Nat)(bs:Nat→Nat):Nat→Value
 | 0=>.slice x.A x.n x.c
 | 1=>.bool x.st
 | 2=>.slice LA ln lc
 | 3=>.int .i64 (ln:Int)
 | 4=>.slice RA rn rc
 | 5=>.int .i64 (rn:Int)
 | 6=>.int .i64 (m:Int)
 | 7=>.slice (some ⟨bs 7,0,none⟩) 0 m
 | 8=>.map (some (bs 8))
 | 9=>.int .i64 (x.n:Int)
 | 10=>.slice (some ⟨bs 10,0,none⟩) x.n x.n
 | 11=>.int .i64 (x.n:Int)
 | 12=>.slice (some ⟨bs 12,0,none⟩) x.n x.n
 | 13=>.int .i64 (x.n:Int)
 | 14=>.slice (some ⟨bs 14,0,none⟩) x.n x.n
 | 15=>.int .i64 (x.n:Int)
 | 16=>.slice (some ⟨bs 16,0,none⟩) x.n x.n
 | 17=>.int .i64 (x.n:Int)
 | 18=>.slice (some ⟨bs 18,0,none⟩) x.n x.n
 | 19=>.agg (relC x (lay0 bs m))
 | 20=>.pointer (some ⟨bs 20,0,none⟩)
 | 21=>.pointer (some ⟨bs 20,0,none⟩)
 | _=>undef
def isM (i:Nat):Bool:=i==7 || i==8 || i==10 || i==12 || i==14 || i==16 || i==18 || i==20
def mkC (x:Cx)(m:Nat)(bs:Nat→Nat)(w:World):Nat→Prop
 | 7=>OwnP w x.B (.slice (some ⟨bs 7,0,none⟩) 0 m) []
 | 8=>Mp w (bs 8) fun _=>false
 | 10=>Blk w (bs 10) 133 (vals (fun _=>nilV) x.n)
 | 12=>Blk w (bs 12) 133 (vals (fun _=>nilV) x.n)
 | 14=>Blk w (bs 14) 4 (vals (fun _=>.bool false) x.n)
 | 16=>Blk w (bs 16) 35 (vals (fun _=>nilV) x.n)
 | 18=>Blk w (bs 18) 158 (vals (fun _=>nilV) x.n)
 | 20=>Blk w (bs 20) 127 (relC x (lay0 bs m))
 | _=>True
theorem mkC_alloc {x:Cx}{m:Nat}{bs:Nat→Nat}{w:World}{i:Nat}(h:mkC x m bs w i)(o:Obj):mkC x m bs (w.alloc o) i:=by
 unfold mkC at h ⊢;split
 ·exact World.ownsRow.alloc h o
 ·exact Mp.kept h ((Kept.refl (fun _=>False) w).alloc o) (fun h=>h)
 ·exact h.alloc o
 ·exact h.alloc o
 ·exact h.alloc o
 ·exact h.alloc o
 ·exact h.alloc o
 ·exact h.alloc o
 ·trivial
def dS (i:Nat):Nat:=if i=21 then 10 else 17+i
theorem dS_inj {i j:Nat}(hi:i<22)(hj:j<22)(h:dS i=dS j):i=j:=by
 unfold dS at h;split at h<;>split at h<;>omega
structure Mk (x:Cx)(LA:Option Addr)(ln lc:Nat)(RA:Option Addr)(rn rc m:Nat)(w0:World)(L:Nat→Bool)(vs:Nat→Value)(bs:Nat→Nat)(w:World):Prop where
 bel:Below x.B w0 w
 v0:vs 0=.slice x.A x.n x.c
 v1:vs 1=.bool x.st
 v2:vs 2=.slice LA ln lc
 v3:vs 3=.slice RA rn rc
 v8:vs 8=.pointer none
 v9:vs 9=.int .i64 (x.n:Int)
 slot:∀ i,i<22→L i=true→vs (dS i)=mkV x LA ln lc RA rn rc m bs i
 made:∀ i,L i=true→isM i=true→x.B≤bs i∧bs i<w.heap.size∧mkC x m bs w i
 ne:∀ i j,L i=true→L j=true→isM i=true→isM j=true→i≠j→bs i≠bs j
 c19:L 19=true→L 7=true∧L 8=true∧L 10=true∧L 12=true∧L 14=true∧L 16=true∧L 18=true
 c20:L 20=true→L 19=true
 c21:L 21=true→L 20=true
section
variable {x : Cx} {LA : Option Addr} {ln lc : Nat} {RA : Option Addr} {rn rc m : Nat} {w0 : World} {L : Nat → Bool} {vs : Nat → Value} {bs : Nat → Nat} {w : World}
theorem Mk.slot_ (h:Mk x LA ln lc RA rn rc m w0 L vs bs w){i:Nat}(hi:i<22)(hm:isM i=false){d:Nat}{v:Value}(hd:d=dS i)(hv:v=mkV x LA ln lc RA rn rc m bs i)
  (h19:i=19→L 7=true∧L 8=true∧L 10=true∧L 12=true∧L 14=true∧L 16=true∧L 18=true)(h21:i=21→L 20=true) :
  Mk x LA ln lc RA rn rc m w0 (fun j=>if j=i then true else L j) (fun j=>if j=d then v else vs j) bs w:=by
 subst hd;have hd10:10≤dS i:=by unfold dS;split<;>omega
 have low:∀ k,k<10→(if k=dS i then v else vs k)=vs k:=fun k hk=>by rw[if_neg (by omega)]
 have offm:∀ k,isM k=true→(if k=i then true else L k)=L k:=fun k hk=>by
  rw[if_neg (fun e=>by subst e;rw[hm] at hk;cases hk)]
 refine⟨h.bel,by rw[low 0 (by omega)];exact h.v0,by rw[low 1 (by omega)];exact h.v1,by rw[low 2 (by omega)];exact h.v2,by rw[low 3 (by omega)];exact h.v3,by rw[low 8 (by omega)];exact h.v8,by rw[low 9 (by omega)];exact h.v9,fun j hj hL=>?_,fun j hL hM=>?_,fun j k hj hk mj mk hne=>?_,?_,?_,?_⟩
 ·by_cases e:j=i
  ·subst e;rw[if_pos rfl];exact hv
  ·rw[if_neg (fun e'=>e (dS_inj hj hi e'))]
   rw[if_neg e] at hL;exact h.slot j hj hL
 ·rw[offm j hM] at hL;exact h.made j hL hM
 ·rw[offm j mj] at hj;rw[offm k mk] at hk;exact h.ne j k hj hk mj mk hne
 ·intro e;rw[offm 7 rfl,offm 8 rfl,offm 10 rfl,offm 12 rfl,offm 14 rfl,offm 16 rfl,offm 18 rfl];by_cases e19:19=i
  ·exact h19 e19.symm
  ·rw[if_neg e19] at e;exact h.c19 e
 ·intro e;rw[offm 20 rfl] at e;by_cases e19:19=i
  ·rw[if_pos e19]
  ·rw[if_neg e19];exact h.c20 e
 ·intro e;rw[offm 20 rfl];by_cases e21:21=i
  ·exact h21 e21.symm
  ·rw[if_neg e21] at e;exact h.c21 e
theorem mkV_off {bs':Nat→Nat}{j:Nat}(h7:j=7∨j=19→bs' 7=bs 7)(h8:j=8∨j=19→bs' 8=bs 8)(h10:j=10∨j=19→bs' 10=bs 10)(h12:j=12∨j=19→bs' 12=bs 12)(h14:j=14∨j=19→bs' 14=bs 14)(h16:j=16∨j=19→bs' 16=bs 16)(h18:j=18∨j=19→bs' 18=bs 18)(h20:j=20∨j=21→bs' 20=bs 20) :
  mkV x LA ln lc RA rn rc m bs' j=mkV x LA ln lc RA rn rc m bs j:=by
 unfold mkV;split
 all_goals first
  | rfl
  | (rw[h7 (by simp)])
  | (rw[h8 (by simp)])
  | (rw[h10 (by simp)])
  | (rw[h12 (by simp)])
  | (rw[h14 (by simp)])
  | (rw[h16 (by simp)])
  | (rw[h18 (by simp)])
  | (rw[h20 (by simp)])
  | (unfold relC lay0;dsimp only;rw[h7 (by simp),h8 (by simp),h10 (by simp),h12 (by simp),h14 (by simp),h16 (by simp),h18 (by simp)])
theorem Mk.make_ (h:Mk x LA ln lc RA rn rc m w0 L vs bs w){i:Nat}(hi:i<22)(hm:isM i=true)(hL:L i=false)(hB:x.B≤w.heap.size){d:Nat}{v:Value}{o:Obj}(hd:d=dS i)(hv:v=mkV x LA ln lc RA rn rc m (fun j=>if j=i then w.heap.size else bs j) i)
  (hc:mkC x m (fun j=>if j=i then w.heap.size else bs j) (w.alloc o) i)(h20:i=20→L 19=true) :
  Mk x LA ln lc RA rn rc m w0 (fun j=>if j=i then true else L j) (fun j=>if j=d then v else vs j) (fun j=>if j=i then w.heap.size else bs j) (w.alloc o):=by
 subst hd;have hd10:10≤dS i:=by unfold dS;split<;>omega
 have low:∀ k,k<10→(if k=dS i then v else vs k)=vs k:=fun k hk=>by rw[if_neg (by omega)]
 have hsz:(w.alloc o).heap.size=w.heap.size+1:=Array.size_push _;have hi19:i≠19:=fun e=>by subst e;cases hm
 have hi21:i≠21:=fun e=>by subst e;cases hm
 have bsoff:∀ k,L k=true→(if k=i then w.heap.size else bs k)=bs k:=fun k hk=>by
  rw[if_neg (fun e=>by subst e;rw[hL] at hk;cases hk)]
 have voff:∀ j,j<22→L j=true→mkV x LA ln lc RA rn rc m (fun j=>if j=i then w.heap.size else bs j) j=mkV x LA ln lc RA rn rc m bs j:=fun j hj22 hj=>by
  have sub:∀ k,(j=k∨j=19)→(j=19→L k=true)→(if k=i then w.heap.size else bs k)=bs k:=fun k hk h19=>by
   rcases hk with e | e
   ·subst e;exact bsoff _ hj
   ·exact bsoff _ (h19 e)
  have c19:j=19→L 7=true∧L 8=true∧L 10=true∧L 12=true∧L 14=true∧L 16=true∧L 18=true:=fun e=>by subst e;exact h.c19 hj
  refine mkV_off (fun e=>sub 7 e fun e=>(c19 e).1) (fun e=>sub 8 e fun e=>(c19 e).2.1) (fun e=>sub 10 e fun e=>(c19 e).2.2.1) (fun e=>sub 12 e fun e=>(c19 e).2.2.2.1) (fun e=>sub 14 e fun e=>(c19 e).2.2.2.2.1) (fun e=>sub 16 e fun e=>(c19 e).2.2.2.2.2.1) (fun e=>sub 18 e fun e=>(c19 e).2.2.2.2.2.2) (fun e=>?_)
  by_cases e20:j=20
  ·subst e20;exact bsoff _ hj
  ·by_cases e21:j=21
   ·subst e21;exact bsoff _ (h.c21 hj)
   ·omega
 have coff:∀ j,L j=true→isM j=true→mkC x m bs (w.alloc o) j→mkC x m (fun j=>if j=i then w.heap.size else bs j) (w.alloc o) j:=fun j hj hM hC=>by
  unfold mkC at hC ⊢;split
  all_goals first
   | (simp only[bsoff _ hj];exact hC)
   | trivial
   | skip
  have hall:=h.c19 (h.c20 hj);have e:relC x (lay0 (fun j=>if j=i then w.heap.size else bs j) m)=relC x (lay0 bs m):=by
   unfold relC lay0
   dsimp only
   rw[bsoff 7 hall.1,bsoff 8 hall.2.1,bsoff 10 hall.2.2.1,bsoff 12 hall.2.2.2.1,bsoff 14 hall.2.2.2.2.1,bsoff 16 hall.2.2.2.2.2.1,bsoff 18 hall.2.2.2.2.2.2]
  rw[e];simp only[bsoff _ hj];exact hC
 refine⟨h.bel.alloc hB _,by rw[low 0 (by omega)];exact h.v0,by rw[low 1 (by omega)];exact h.v1,by rw[low 2 (by omega)];exact h.v2,by rw[low 3 (by omega)];exact h.v3,by rw[low 8 (by omega)];exact h.v8,by rw[low 9 (by omega)];exact h.v9,fun j hj hLj=>?_,fun j hLj hM=>?_,fun j k hj hk mj mk hne=>?_,?_,?_,?_⟩
 ·by_cases e:j=i
  ·subst e;rw[if_pos rfl];exact hv
  ·rw[if_neg (fun e'=>e (dS_inj hj hi e'))]
   rw[if_neg e] at hLj;rw[voff j hj hLj];exact h.slot j hj hLj
 ·by_cases e:j=i
  ·subst e;rw[if_pos rfl];exact⟨hB,by rw[hsz];omega,hc⟩
  ·rw[if_neg e] at hLj;obtain⟨h1,h2,h3⟩:=h.made j hLj hM;rw[if_neg e];exact⟨h1,by rw[hsz];omega,coff j hLj hM (mkC_alloc h3 o)⟩
 ·by_cases e:j=i
  ·rw[if_pos e];have:k≠i:=fun e'=>hne (e.trans e'.symm)
   rw[if_neg this] at hk;rw[if_neg this];have:=(h.made k hk mk).2.1;omega
  ·rw[if_neg e] at hj;rw[if_neg e];by_cases e':k=i
   ·rw[if_pos e'];have:=(h.made j hj mj).2.1;omega
   ·rw[if_neg e'] at hk;rw[if_neg e'];exact h.ne j k hj hk mj mk hne
 ·intro e;rw[if_neg hi19.symm] at e;have:=h.c19 e;have up:∀ k,L k=true→(if k=i then true else L k)=true:=fun k hk=>by split<;>simp_all
  exact⟨up 7 this.1,up 8 this.2.1,up 10 this.2.2.1,up 12 this.2.2.2.1,up 14 this.2.2.2.2.1,up 16 this.2.2.2.2.2.1,up 18 this.2.2.2.2.2.2⟩
 ·intro e;rw[if_neg hi19.symm];by_cases e20:20=i
  ·exact h20 e20.symm
  ·rw[if_neg e20] at e;exact h.c20 e
 ·intro e;rw[if_neg hi21.symm] at e;have:=h.c21 e;split
  ·rfl
  ·exact this
def ixR:Ro→Option Nat
 | .rel=>some 20
 | .lb=>some 10
 | .rb=>some 12
 | .kb=>some 14
 | .ub=>some 16
 | .sb=>some 18
 | .mp=>some 8
 | .prs=>some 7
 | _=>none
theorem bl_lay0 (bs:Nat→Nat)(m:Nat)(X:Ro):bl (lay0 bs m) X=(ixR X).map bs:=by cases X<;>rfl
theorem ixR_inj {X Y:Ro}{i:Nat}(h:ixR X=some i)(k:ixR Y=some i):X=Y:=by
 rw[← k] at h;cases X<;>cases Y<;>first | rfl | (exfalso;simp[ixR] at h k;done) | (exfalso;simp[ixR] at k;done) | (exfalso;simp[ixR] at h;done)
theorem ixR_M {X:Ro}{i:Nat}(h:ixR X=some i):isM i=true∧i<22:=by
 cases X<;>first | (injection h with h;subst h;exact⟨rfl,by decide⟩) | cases h
theorem Mk.rel (h:Mk x LA ln lc RA rn rc m w0 L vs bs w)(hall:∀ i,i<22→L i=true)(h0:w0.heap.size=x.B)(hg:GsR w0 x.A x.g)(hn:x.n≤2000):RelW x w (lay0 bs m) st0:=by
 have M:∀ i,i<22→isM i=true→x.B≤bs i∧bs i<w.heap.size∧mkC x m bs w i:=fun i hi hm=>h.made i (hall i hi) hm
 refine⟨fun X=>?_,fun X Y k hX hY=>?_,fun X k hX=>?_,⟨w0,h0,hg,h.bel⟩,hn⟩
 ·cases X
  case rel=>exact(M 20 (by decide) rfl).2.2
  case lb=>exact(M 10 (by decide) rfl).2.2
  case rb=>exact(M 12 (by decide) rfl).2.2
  case kb=>exact(M 14 (by decide) rfl).2.2
  case ub=>exact(M 16 (by decide) rfl).2.2
  case sb=>exact(M 18 (by decide) rfl).2.2
  case mp=>exact(M 8 (by decide) rfl).2.2
  case prs=>exact(M 7 (by decide) rfl).2.2
  case ref=>exact World.ownsRow_nil w x.B _ _
  case lrow a=>exact .inl ⟨rfl,fun j=>by unfold cntL;split<;>rfl⟩
  case rrow b=>exact .inl ⟨rfl,fun j=>by unfold cntR;split<;>rfl⟩
  case un n=>exact World.ownsRow_nil w x.B _ _
  case us n=>exact World.ownsRow_nil w x.B _ _
  case nd n k=>exact World.ownsRow_nil w x.B _ _
 ·rw[bl_lay0] at hX hY;obtain⟨i,hi,ei⟩:=Option.map_eq_some_iff.1 hX;obtain⟨j,hj,ej⟩:=Option.map_eq_some_iff.1 hY;obtain⟨mi,li⟩:=ixR_M hi;obtain⟨mj,lj⟩:=ixR_M hj;have:i=j:=Classical.byContradiction fun hne=>h.ne i j (hall i li) (hall j lj) mi mj hne (ei.trans ej.symm)
  subst this;exact ixR_inj hi hj
 ·rw[bl_lay0] at hX;obtain⟨i,hi,ei⟩:=Option.map_eq_some_iff.1 hX;obtain⟨mi,li⟩:=ixR_M hi;have:=M i li mi;rw[ei] at this;exact⟨this.1,this.2.1⟩
end
theorem P1.zero (x:Cx):P1 x st0:=by
 refine⟨fun p hp=>(by cases hp),by simp[st0],fun p=>by simp[st0],rfl,fun v=>⟨fun e=>(by cases e),fun⟨p,hp,_⟩=>(by cases hp)⟩,?_⟩
 refine⟨fun u i hd=>(by cases hd.1),fun c=>by simp[st0],fun c u=>⟨fun e=>(by cases e),fun⟨i,hd,_⟩=>(by cases hd.1)⟩,fun c i j z z' _ hz=>by simp[st0] at hz,fun c k=>by simp[st0,at_],fun c k u=>⟨fun e=>by simp[st0,at_] at e,fun⟨i,hd,_⟩=>(by cases hd.1)⟩,fun c z hz=>(by cases hz)⟩
end SM
end
end Go.Proofs.YtfigdflcoaepaaaGreatDoor
