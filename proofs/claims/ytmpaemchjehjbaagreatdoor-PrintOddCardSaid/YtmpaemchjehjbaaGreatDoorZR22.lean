/- Contracts and plain facts that the theorem rests on: PRoots. -/
import Derived.Test.YtmpaemchjehjbaaGreatDoorZR20
import Derived.Test.YtmpaemchjehjbaaGreatDoorZR8
import Derived.Laws.OwnMore
import Derived.Deep.AppendLies
import Derived.BigQuiet
set_option linter.unusedSimpArgs false
set_option linter.unusedVariables false
namespace Go.Proofs.YtmpaemchjehjbaaGreatDoor
section
open Lib (hid)
open Go.RowKit
theorem info_int4:(Tryz.prog.info? 3).map (fun i=>(i.zero,i.size,i.bytes))=some (some (.int .i64 0),1,8):=by kernel_rfl
theorem iC_len (L:List Int):(L.flatMap iC).length=L.length:=by rw[rowc_len iC 1 (fun _=>rfl),Nat.mul_one]
theorem iC_one (L:List Int):∀ u∈L.flatMap iC,u.oneCell'=true:=by
 intro u hu;obtain⟨x,_,hx⟩:=List.mem_flatMap.1 hu;simp[iC] at hx;subst hx
 rfl
theorem pushI {W2 wr:World}{H2:Nat}(hW:W2.heap.size=H2)(hsz:H2≤wr.heap.size)(HB:Below H2 W2 wr){VA:Option Addr}{vn k:Nat}{L:List Int}(HO:wr.ownsRow H2 3 1 (.slice VA k vn) k (L.flatMap iC))(M:List Int)(m:Nat)(hm:M.length=m)(hm0:0<m)(hroom:k+m≤1000000000000)
  {ops:Array Oper}{rest:List Oper}{o:Oper}{a:Act}{Q:Exit→Act→World→Prop}(hgd:o.guard=none)(s x:Operand)(ho:o.op=.call { callee:=.builtin .append,args := #[s,x],argTypes := #[46,46] })
  (hs:a.eval s=.slice VA k vn)(c:Nat)(gx:Nat)(hgx:wr.heap.size=gx)(hx:a.eval x=.slice (some ⟨gx,0,none⟩) m c)(cs:Array Value)(hcs:cs.toList=M.flatMap iC)
  (h:∀ g cap w5,Below H2 W2 w5→H2≤w5.heap.size→w5.ownsRow H2 3 1 (.slice (some ⟨g,0,none⟩) (k+m) cap) (k+m) ((L++M).flatMap iC)→(∀ q t cs,Blk wr q t cs→(Value.slice VA k vn).ownBlock≠some q→Blk w5 q t cs∧g≠q)→wpList Tryz.prog ops Q rest (a.put o.dst (.slice (some ⟨g,0,none⟩) (k+m) cap)) w5) :
  wpList Tryz.prog ops Q (o::rest) a (wr.alloc (.cells cs 3)):=by
 subst hW;subst hgx;obtain⟨i0,hi,hz0,hz1,hz2⟩:=info_parts info_int4;have hl:(M.flatMap iC).length=m*1:=by rw[iC_len,hm,Nat.mul_one]
 refine wpList_append_lies (wr.alloc (.cells cs 3)) hgd s x _ ho W2.heap.size 3 i0 _ 1 8 Tryz.underlying46 hi hz0 hz1 hz2 rfl (by decide) (.slice VA k vn) k (L.flatMap iC) hs (HO.alloc _) ⟨wr.heap.size,0,none⟩ m c (M.flatMap iC) hx hl ?_ (iC_one M) hm0 (by simp only[maxLen];omega) (by omega) (by simp;omega) (wr.heap.size+1) (by simp) ?_
 ·rw[← hcs];exact World.news_of_block (fr:=(0,0)) (heap_alloc_new wr _)
 intro g cap w5 hown hgrow hat hlt;have HK5:Kept (fun i=>(Value.slice VA k vn).ownBlock=some i) wr w5:=((Kept.refl _ wr).alloc _).grown hgrow (fun i _ h=>h)
 have HB5:Below W2.heap.size W2 w5:=((Kept.of_below HB (fun i=>W2.heap.size≤i)).trans HK5 (fun i _ h=>(HO.lt i h).1)).below (Nat.le_refl _) (fun i hi h=>by omega)
 have hs5:=HK5.size;refine h g cap w5 HB5 (by omega) (by rw[List.flatMap_append];exact hown) (fun q t cs hq hne=>⟨HK5.blk hq hne,fun he=>?_⟩)
 subst he;rcases hat with hat | hat
 ·exact hne hat
 ·have:=hq.lt;omega
theorem rd_di4 {w:World}{A:Option Addr}{l:List Di}(h:RdV w A (l.flatMap Di.cells)){i:Nat}{d:Di}(hd:l[i]? = some d):∃ b o,A=some ⟨b,o,none⟩∧w.cell? ⟨b,o+i*2,none⟩=some (.string d.nm)∧w.cell? ⟨b,o+i*2+1,none⟩=some (.int .i64 d.ty):=by
 obtain⟨b,o,hA,hc⟩:=h (by rw[rowc_len Di.cells 2 (fun _=>rfl)];have:=(List.getElem?_eq_some_iff.1 hd).1;omega)
 have c0:=hc (i*2+0) (.string d.nm) (rowc_get Di.cells 2 (fun _=>rfl) l i d hd 0 _ rfl)
 have c1:=hc (i*2+1) (.int .i64 d.ty) (rowc_get Di.cells 2 (fun _=>rfl) l i d hd 1 _ rfl)
 rw[Nat.add_zero] at c0;rw[← Nat.add_assoc] at c1;exact⟨b,o,hA,c0,c1⟩
def fnR4 (f:Fi):List Int:=f.vars.map Di.ty++f.params.map Di.ty++[f.ret,f.body]
theorem fnR4_part (m:Mi)(k:Nat)(f:Fi)(hf:m.fns[k]? = some f):∃ r,rootsI m=m.types.map Di.ty++(m.fns.take k).flatMap fnR4++fnR4 f++r:=by
 have hk:k<m.fns.length:=(List.getElem?_eq_some_iff.1 hf).1;have e:m.fns=m.fns.take k++f::m.fns.drop (k+1):=by
  have h1:m.fns[k]=f:=(List.getElem?_eq_some_iff.1 hf).2;rw[← h1,List.getElem_cons_drop,List.take_append_drop]
 refine⟨(m.fns.drop (k+1)).flatMap fnR4,?_⟩;have e2:rootsI m=m.types.map Di.ty++m.fns.flatMap fnR4:=rfl;rw[e2]
 conv=>lhs;rw[e]
 simp[List.append_assoc]
theorem own_rd {w:World}{base k:Nat}{A:Option Addr}{c:Nat}{L:List Int}(h:w.ownsRow base 3 1 (.slice A k c) k (L.flatMap iC))(hk:k=L.length):RdV w A (L.flatMap iC):=by
 subst hk;intro h0;rw[iC_len] at h0;obtain⟨q,c',e,hb,hq⟩:=h.form h0;cases e
 exact⟨q,0,rfl,fun j x hj=>by have:=h.cells (g:=q) rfl j x hj;rwa [addr_lit] at this⟩
def RootsOut (m:Mi)(w:World)(e:Ending)(w':World):Prop:=∃ A c,e=.returned (.slice A (rootsI m).length c)∧RdV w' A ((rootsI m).flatMap iC)∧Below w.heap.size w w'∧∀ b o,0<(rootsI m).length→A=some ⟨b,o,none⟩→w.heap.size≤b
set_option maxRecDepth 100000 in
set_option maxHeartbeats 8000000 in
theorem roots_any (m:Mi)(A1 A2 A3 A4:Option Addr)(c1 c2 c3 c4:Nat)(w:World)(hm:MdR w m A1 A2 A3 A4)(hr:(rootsI m).length≤1000000000000) :
  Calls Tryz.prog 77 #[.agg #[.string m.nm,.slice A1 m.imports.length c1,.slice A2 m.types.length c2,.slice A3 m.fns.length c3,.slice A4 m.nodes.length c4]] w (RootsOut m w):=by
 have HM:=hid hm;have HRL:=hid hr;have hl2:=hm.l2;have hl3:=hm.l3;clear hm hr;go_enter Tryz.func77,Tryz.ntmps77
 go_wp2_with fail
 have hz:=Blk.new w 27 #[.string m.nm,.slice A1 m.imports.length c1,.slice A2 m.types.length c2,.slice A3 m.fns.length c3,.slice A4 m.nodes.length c4];have hb:=(Below.refl w.heap.size w).alloc (Nat.le_refl _) (.cells #[.string m.nm,.slice A1 m.imports.length c1,.slice A2 m.types.length c2,.slice A3 m.fns.length c3,.slice A4 m.nodes.length c4] 27);have hz9:w.heap.size<(w.alloc (.cells #[.string m.nm,.slice A1 m.imports.length c1,.slice A2 m.types.length c2,.slice A3 m.fns.length c3,.slice A4 m.nodes.length c4] 27)).heap.size:=by simp
 generalize hw1:w.alloc (.cells #[.string m.nm,.slice A1 m.imports.length c1,.slice A2 m.types.length c2,.slice A3 m.fns.length c3,.slice A4 m.nodes.length c4] 27)=W2 at hz hb hz9 ⊢;obtain⟨g,hg⟩:∃ g,w.heap.size=g:=⟨_,rfl⟩;rw[hg] at hz hz9 ⊢;obtain⟨H2,hH2⟩:∃ H2,W2.heap.size=H2:=⟨_,rfl⟩;rw[hH2] at hz9;have HG:=hid hg;have HZ:=hid hz;have HB:=hid hb;have HH2:=hid hH2;have HM2:=hid (HM.out.below hb);clear hz hb hw1 hg hH2
 go_loopw [2,14] (fun v i wr=>∃ k:Nat,k≤m.types.length∧i=.int .i64 (k:Int)∧Hid (Below H2 W2 wr)∧Hid (wr.ownsRow H2 3 1 v k (((m.types.map Di.ty).take k).flatMap iC))∧Hid (∃ A n,v=.slice A k n)) (fun _ i _=>m.types.length-(intOf i).toNat)
 case atStart=>exact⟨0,Nat.zero_le _,rfl,hid (Below.refl _ _),hid (World.ownsRow_nil _ _ _ _),hid ⟨none,0,rfl⟩⟩
 case round =>
  obtain⟨k,hk,rfl,HBk,HO,HV⟩:=hrel;obtain⟨VA,vn,rfl⟩:=HV.out;clear HV;have hsz:H2≤wr.heap.size:=by have h1:=HBk.out.size;have h2:=HH2.out;omega
  have hmk:=HM2.out.below (by rw[HH2.out];exact HBk.out)
  have hbox:Blk wr g 27 #[.string m.nm,.slice A1 m.imports.length c1,.slice A2 m.types.length c2,.slice A3 m.fns.length c3,.slice A4 m.nodes.length c4]:=HZ.out.below HBk.out hz9;have q2:wr.cell? ⟨g,2,none⟩=some (.slice A2 m.types.length c2):=hbox.cell 2;have q3:wr.cell? ⟨g,3,none⟩=some (.slice A3 m.fns.length c3):=hbox.cell 3;clear hbox;have hroom:m.types.length≤1000000000000:=by
   have h1:=HRL.out;have h2:(rootsI m).length=m.types.length+(m.fns.flatMap fnR4).length:=by rw[show rootsI m=m.types.map Di.ty++m.fns.flatMap fnR4 from rfl,List.length_append,List.length_map]
   omega
  by_cases hlt:k<m.types.length
  ·obtain⟨d,hd⟩:∃ d,m.types[k]? = some d:=⟨_,List.getElem?_eq_getElem hlt⟩;obtain⟨tb,to,hA,d0,d1⟩:=rd_di4 hmk.types hd;have hkI:(k:Int)<(m.types.length:Int):=by omega
   have hk0:(0:Int)≤(k:Int):=by omega
   have HX:=hid hd;have HA:=hid hA;clear hd hmk hA q2 q3;rw[HA.out];go_wp2_with (at_builtin;refine unhid ?_)
   refine hid ?_;have hb2:Below H2 W2 (wr.alloc (.cells #[.string d.nm,.int .i64 d.ty] 63)):=HBk.out.alloc (by have:=HH2.out;omega) _
   have ho2:=HO.out.alloc (.cells #[.string d.nm,.int .i64 d.ty] 63);have hs2:H2≤(wr.alloc (.cells #[.string d.nm,.int .i64 d.ty] 63)).heap.size:=by simp;omega
   refine pushI HH2.out hs2 hb2 ho2 [d.ty] 1 rfl (by omega) (by omega) rfl _ _ rfl rfl 1 _ (by simp) rfl _ rfl ?_
   intro gg cap w5 hb5 hs5 ho5 _;have HB5:=hid hb5;have HO5:Hid (w5.ownsRow H2 3 1 (.slice (some ⟨gg,0,none⟩) (k+1) cap) (k+1) (((m.types.map Di.ty).take (k+1)).flatMap iC)):=hid (by
    rw[List.take_add_one,List.getElem?_map,HX.out];exact ho5)
   clear hb5 hs5 ho5 hb2 ho2 hs2;go_wp2_with fail
   go_roundw
   case rel=>exact⟨k+1,by omega,by go_num,HB5,HO5,hid ⟨_,_,rfl⟩⟩
   case measure=>simp[intOf];omega
  ·go_wp2_with fail
   obtain rfl:k=m.types.length:=by omega
   clear hlt hk q2;have HO0:Hid (wr.ownsRow H2 3 1 (.slice VA m.types.length vn) (m.types.map Di.ty).length ((m.types.map Di.ty).flatMap iC)):=hid (by
    have:=HO.out;rw[List.take_of_length_le (by simp)] at this
    rw[List.length_map];exact this)
   clear HO
   go_loopw [2,27] (fun v i wr=>∃ (k:Nat) (L:List Int),k≤m.fns.length∧i=.int .i64 (k:Int)∧Hid (Below H2 W2 wr)∧Hid (wr.ownsRow H2 3 1 v L.length (L.flatMap iC))∧Hid (∃ A n,v=.slice A L.length n)∧Hid (L=m.types.map Di.ty++(m.fns.take k).flatMap fnR4)) (fun _ i _=>m.fns.length-(intOf i).toNat)
   case atStart=>exact⟨0,m.types.map Di.ty,Nat.zero_le _,rfl,HBk,HO0,hid ⟨VA,vn,by rw[List.length_map]⟩,hid (by simp)⟩
   case round =>
    clear HBk HO0 hsz hmk q3;obtain⟨k,L,hk,rfl,HBk,HO,HV,HL⟩:=hrel;obtain⟨VA,vn,rfl⟩:=HV.out;clear HV;obtain⟨wa,hwa⟩:∃ y,y=wr:=⟨_,rfl⟩;rw[← hwa] at HBk HO ⊢;clear hwa;have hsz:H2≤wa.heap.size:=by have h1:=HBk.out.size;have h2:=HH2.out;omega
    have hmk:=HM2.out.below (by rw[HH2.out];exact HBk.out)
    by_cases hlt:k<m.fns.length
    ·obtain⟨f,hfd⟩:∃ f,m.fns[k]? = some f:=⟨_,List.getElem?_eq_getElem hlt⟩;obtain⟨fb,fo,hA3,hfc⟩:=HM2.out.fns (by omega)
     obtain⟨VA0,vc0,PA0,pc0,e0,e1,e2,e3,e4,rv,rp,lv,lp⟩:=hfc k f hfd;have up:∀ {p:Addr} {u:Value},W2.cell? p=some u→wa.cell? p=some u:=fun h=>cell_below (by rw[HH2.out];exact HBk.out) h
     have e0:=up e0;have e1:=up e1;have e2:=up e2;have e3:=up e3;have e4:=up e4;have HRV:=hid rv;have HRP:=hid rp;have hkI:(k:Int)<(m.fns.length:Int):=by omega
     have hk0:(0:Int)≤(k:Int):=by omega
     obtain⟨rr,hrr⟩:=fnR4_part m k f hfd;have HRM:Hid ((L++fnR4 f).length≤1000000000000):=hid (by
      have h1:=HRL.out;rw[hrr,← HL.out,List.length_append] at h1;omega)
     have HFD:=hid hfd;have HA3:=hid hA3;clear hfd hfc rv rp hmk hrr up hA3;rw[HA3.out];go_wp2_with fail
     have x0:=Blk.new wa 60 #[.string f.nm,.slice VA0 f.vars.length vc0,.slice PA0 f.params.length pc0,.int .i64 f.ret,.int .i64 f.body];have hb0:Below H2 W2 (wa.alloc (.cells #[.string f.nm,.slice VA0 f.vars.length vc0,.slice PA0 f.params.length pc0,.int .i64 f.ret,.int .i64 f.body] 60)):=HBk.out.alloc (by have:=HH2.out;omega) _
     have ho0:=HO.out.alloc (.cells #[.string f.nm,.slice VA0 f.vars.length vc0,.slice PA0 f.params.length pc0,.int .i64 f.ret,.int .i64 f.body] 60);generalize hw3:wa.alloc (.cells #[.string f.nm,.slice VA0 f.vars.length vc0,.slice PA0 f.params.length pc0,.int .i64 f.ret,.int .i64 f.body] 60)=w3 at x0 hb0 ho0 ⊢;obtain⟨gb,hgb⟩:∃ gb,wa.heap.size=gb:=⟨_,rfl⟩;rw[hgb] at x0 ⊢;have HX0:=hid x0;have HB0:=hid hb0;have HO0:=hid ho0;clear x0 hb0 ho0 hw3 hgb e0 e1 e2 e3 e4
     go_loopw [2,34] (fun v i wr=>∃ (k2:Nat) (L2:List Int),k2≤f.vars.length∧i=.int .i64 (k2:Int)∧Hid (Below H2 W2 wr)∧Hid (wr.ownsRow H2 3 1 v L2.length (L2.flatMap iC))∧Hid (∃ A n,v=.slice A L2.length n)∧Hid (L2=L++(f.vars.map Di.ty).take k2)∧Hid (Blk wr gb 60 #[.string f.nm,.slice VA0 f.vars.length vc0,.slice PA0 f.params.length pc0,.int .i64 f.ret,.int .i64 f.body])) (fun _ i _=>f.vars.length-(intOf i).toNat)
     case atStart=>exact⟨0,L,Nat.zero_le _,rfl,HB0,HO0,hid ⟨_,_,rfl⟩,hid (by simp),HX0⟩
     case round =>
      obtain⟨k2,L2,hk2,rfl,HB2,HO2,HV2,HL2,HX2⟩:=hrel;obtain⟨VA2,vn2,rfl⟩:=HV2.out;clear HV2;have hsz2:H2≤wr.heap.size:=by have h1:=HB2.out.size;have h2:=HH2.out;omega
      by_cases hlt2:k2<f.vars.length
      ·obtain⟨d,hd⟩:∃ d,f.vars[k2]? = some d:=⟨_,List.getElem?_eq_getElem hlt2⟩;have hrd:RdV wr VA0 (f.vars.flatMap Di.cells):=HRV.out.below (by rw[HH2.out];exact HB2.out)
       obtain⟨tb,to,hA,d0,d1⟩:=rd_di4 hrd hd;have hkI2:(k2:Int)<(f.vars.length:Int):=by omega
       have hk02:(0:Int)≤(k2:Int):=by omega
       have hl2len:L2.length+1≤1000000000000:=by
        have h1:=HRM.out;rw[HL2.out];simp only[List.length_append,List.length_take,List.length_map,fnR4,List.length_cons,List.length_nil] at h1 ⊢;omega
       have HX:=hid hd;have HA:=hid hA;clear hd hrd hA;rw[HA.out];go_wp2_with (at_builtin;refine unhid ?_)
       refine hid ?_;have hb4:Below H2 W2 (wr.alloc (.cells #[.string d.nm,.int .i64 d.ty] 64)):=HB2.out.alloc (by have:=HH2.out;omega) _
       have ho4:=HO2.out.alloc (.cells #[.string d.nm,.int .i64 d.ty] 64);have hx4:=HX2.out.alloc (.cells #[.string d.nm,.int .i64 d.ty] 64);have hs4:H2≤(wr.alloc (.cells #[.string d.nm,.int .i64 d.ty] 64)).heap.size:=by simp;omega
       refine pushI HH2.out hs4 hb4 ho4 [d.ty] 1 rfl (by omega) (by omega) rfl _ _ rfl rfl 1 _ (by simp) rfl _ rfl ?_
       intro gg cap w5 hb5 hs5 ho5 hne5;have HB5:=hid hb5;have HX5:=hid (hne5 gb _ _ hx4 (Lib.ownBlock_ne ho4 hx4 (by decide))).1
       have HL5:Hid (L2++[d.ty]=L++(f.vars.map Di.ty).take (k2+1)):=hid (by
        rw[List.take_add_one,List.getElem?_map,HX.out,HL2.out,List.append_assoc];rfl)
       have HO5:Hid (w5.ownsRow H2 3 1 (.slice (some ⟨gg,0,none⟩) (L2++[d.ty]).length cap) (L2++[d.ty]).length ((L2++[d.ty]).flatMap iC)):=hid (by rw[List.length_append];exact ho5)
       have hlen5:L2.length+1=(L2++[d.ty]).length:=by rw[List.length_append];rfl
       rw[hlen5];generalize L2++[d.ty]=L5 at HL5 HO5 ⊢;clear hb5 hs5 ho5 hb4 ho4 hs4 hx4 hne5 hlen5 hl2len;go_wp2_with fail
       go_roundw
       case rel=>exact⟨k2+1,L5,by omega,by go_num,HB5,HO5,hid ⟨_,_,rfl⟩,HL5,hid (by have:=HX5.out;rw[HA.out] at this;exact this)⟩
       case measure=>simp[intOf];omega
      ·obtain rfl:k2=f.vars.length:=by omega
       have HL3:Hid (L2=L++f.vars.map Di.ty):=hid (by rw[HL2.out,List.take_of_length_le (by simp)])
       clear HL2 hlt2 hk2;obtain⟨wb,hwb⟩:∃ y,y=wr:=⟨_,rfl⟩;rw[← hwb] at HB2 HO2 HX2 hsz2 ⊢;clear hwb;have x1:=HX2.out.cell 1;have x2:=HX2.out.cell 2;have x3:=HX2.out.cell 3;have x4:=HX2.out.cell 4;simp only[List.getElem?_toArray,List.getElem?_cons_zero,List.getElem?_cons_succ] at x1 x2 x3 x4;go_wp2_with fail
       go_loopw [2,47] (fun v i wr=>∃ (k4:Nat) (L4:List Int),k4≤f.params.length∧i=.int .i64 (k4:Int)∧Hid (Below H2 W2 wr)∧Hid (wr.ownsRow H2 3 1 v L4.length (L4.flatMap iC))∧Hid (∃ A n,v=.slice A L4.length n)∧Hid (L4=(L++f.vars.map Di.ty)++(f.params.map Di.ty).take k4)∧Hid (Blk wr gb 60 #[.string f.nm,.slice VA0 f.vars.length vc0,.slice PA0 f.params.length pc0,.int .i64 f.ret,.int .i64 f.body])) (fun _ i _=>f.params.length-(intOf i).toNat)
       case atStart=>exact⟨0,L2,Nat.zero_le _,rfl,HB2,HO2,hid ⟨_,_,rfl⟩,hid (by rw[HL3.out];simp),HX2⟩
       case round =>
        obtain⟨k4,L4,hk4,rfl,HB4,HO4,HV4,HL4,HX4⟩:=hrel;obtain⟨VA4,vn4,rfl⟩:=HV4.out;clear HV4;have hsz4:H2≤wr.heap.size:=by have h1:=HB4.out.size;have h2:=HH2.out;omega
        by_cases hlt4:k4<f.params.length
        ·obtain⟨d,hd⟩:∃ d,f.params[k4]? = some d:=⟨_,List.getElem?_eq_getElem hlt4⟩;have hrd:RdV wr PA0 (f.params.flatMap Di.cells):=HRP.out.below (by rw[HH2.out];exact HB4.out)
         obtain⟨tb,to,hA,d0,d1⟩:=rd_di4 hrd hd;have hkI4:(k4:Int)<(f.params.length:Int):=by omega
         have hk04:(0:Int)≤(k4:Int):=by omega
         have hl4len:L4.length+1≤1000000000000:=by
          have h1:=HRM.out;rw[HL4.out];simp only[List.length_append,List.length_take,List.length_map,fnR4,List.length_cons,List.length_nil] at h1 ⊢;omega
         have HX:=hid hd;have HA:=hid hA;clear hd hrd hA;rw[HA.out];go_wp2_with (at_builtin;refine unhid ?_)
         refine hid ?_;have hb4:Below H2 W2 (wr.alloc (.cells #[.string d.nm,.int .i64 d.ty] 64)):=HB4.out.alloc (by have:=HH2.out;omega) _
         have ho4:=HO4.out.alloc (.cells #[.string d.nm,.int .i64 d.ty] 64);have hx4:=HX4.out.alloc (.cells #[.string d.nm,.int .i64 d.ty] 64);have hs4:H2≤(wr.alloc (.cells #[.string d.nm,.int .i64 d.ty] 64)).heap.size:=by simp;omega
         refine pushI HH2.out hs4 hb4 ho4 [d.ty] 1 rfl (by omega) (by omega) rfl _ _ rfl rfl 1 _ (by simp) rfl _ rfl ?_
         intro gg cap w5 hb5 hs5 ho5 hne5;have HB5:=hid hb5;have HX5:=hid (hne5 gb _ _ hx4 (Lib.ownBlock_ne ho4 hx4 (by decide))).1
         have HL5:Hid (L4++[d.ty]=(L++f.vars.map Di.ty)++(f.params.map Di.ty).take (k4+1)):=hid (by
          rw[List.take_add_one,List.getElem?_map,HX.out,HL4.out,List.append_assoc];rfl)
         have HO5:Hid (w5.ownsRow H2 3 1 (.slice (some ⟨gg,0,none⟩) (L4++[d.ty]).length cap) (L4++[d.ty]).length ((L4++[d.ty]).flatMap iC)):=hid (by rw[List.length_append];exact ho5)
         have hlen5:L4.length+1=(L4++[d.ty]).length:=by rw[List.length_append];rfl
         rw[hlen5];generalize L4++[d.ty]=L5 at HL5 HO5 ⊢;clear hb5 hs5 ho5 hb4 ho4 hs4 hx4 hne5 hlen5 hl4len;go_wp2_with fail
         go_roundw
         case rel=>exact⟨k4+1,L5,by omega,by go_num,HB5,HO5,hid ⟨_,_,rfl⟩,HL5,hid (by have:=HX5.out;rw[HA.out] at this;exact this)⟩
         case measure=>simp[intOf];omega
        ·obtain rfl:k4=f.params.length:=by omega
         have HL6:Hid (L4=(L++f.vars.map Di.ty)++f.params.map Di.ty):=hid (by rw[HL4.out,List.take_of_length_le (by simp)])
         clear HL4 hlt4 hk4;obtain⟨wc,hwc⟩:∃ y,y=wr:=⟨_,rfl⟩;rw[← hwc] at HB4 HO4 HX4 hsz4 ⊢;clear hwc;have x1:=HX4.out.cell 1;have x2:=HX4.out.cell 2;have x3:=HX4.out.cell 3;have x4:=HX4.out.cell 4;simp only[List.getElem?_toArray,List.getElem?_cons_zero,List.getElem?_cons_succ] at x1 x2 x3 x4;go_wp2_with (at_builtin;refine unhid ?_)
         have hl6:L4.length+2≤1000000000000:=by
          have h1:=HRM.out;rw[HL6.out];simp only[List.length_append,List.length_map,fnR4,List.length_cons,List.length_nil] at h1 ⊢;omega
         refine hid ?_;refine pushI HH2.out hsz4 HB4.out HO4.out [f.ret,f.body] 2 rfl (by omega) (by omega) rfl _ _ rfl rfl 2 _ rfl rfl _ rfl ?_
         intro gg cap w5 hb5 hs5 ho5 _;have HB5:=hid hb5;have HL5:Hid (L4++[f.ret,f.body]=m.types.map Di.ty++(m.fns.take (k+1)).flatMap fnR4):=hid (by
          rw[List.take_add_one,HFD.out,Option.toList_some,List.flatMap_append,List.flatMap_cons,List.flatMap_nil,List.append_nil,← List.append_assoc,← HL.out,HL6.out,fnR4];simp[List.append_assoc])
         have HO5:Hid (w5.ownsRow H2 3 1 (.slice (some ⟨gg,0,none⟩) (L4++[f.ret,f.body]).length cap) (L4++[f.ret,f.body]).length ((L4++[f.ret,f.body]).flatMap iC)):=hid (by rw[List.length_append];exact ho5)
         have hlen5:L4.length+2=(L4++[f.ret,f.body]).length:=by rw[List.length_append];rfl
         rw[hlen5];generalize L4++[f.ret,f.body]=L5 at HL5 HO5 ⊢;clear hb5 hs5 ho5 hlen5 hl6;go_wp2_with fail
         go_roundw
         case rel=>exact⟨k+1,L5,by omega,by go_num,HB5,HO5,hid ⟨_,_,rfl⟩,HL5⟩
         case measure=>simp[intOf];omega
    ·have hkk:k=m.fns.length:=by omega
     subst hkk;have HLE:Hid (L=rootsI m):=hid (by rw[HL.out,List.take_length];rfl)
     go_wp2_with fail
     go_ret
     refine⟨VA,vn,by rw[← HLE.out];rfl,?_,?_,?_⟩
     ·rw[← HLE.out];exact own_rd HO.out rfl
     ·exact HB.out.trans ((by rw[← HH2.out] at HBk;exact HBk.out:Below W2.heap.size W2 wa).mono HB.out.size)
     ·intro b o h0 hAe;rw[← HLE.out] at h0;rcases HO.out.2 with⟨_,hz⟩ | ⟨q,cap,cur,hv,hq,_⟩
      ·omega
      ·injection hv with hv
       rw[hAe] at hv;injection hv with hv
       injection hv with hv
       have:=HG.out;omega
end
end Go.Proofs.YtmpaemchjehjbaaGreatDoor
