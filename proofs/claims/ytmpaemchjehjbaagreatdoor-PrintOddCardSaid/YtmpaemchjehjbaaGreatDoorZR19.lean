/- Contracts and plain facts that the theorem rests on: TSameV, PParse4. -/
import Derived.Test.YtmpaemchjehjbaaGreatDoorZR15
import Derived.Test.YtmpaemchjehjbaaGreatDoorZR17
import Derived.Test.YtmpaemchjehjbaaGreatDoorZR18
set_option linter.unusedSimpArgs false
set_option linter.unusedVariables false
namespace Go.Proofs.YtmpaemchjehjbaaGreatDoor
section
open Go.RowKit
def Dc.toI (d:Dc):Di:=⟨d.nm,(d.ty:Int)⟩
def Fd.toI (f:Fd):Fi:=⟨f.nm,f.vars.map Dc.toI,f.params.map Dc.toI,(f.ret:Int),(f.body:Int)⟩
def natI (v:Nat):Int:=(v:Int)
def Nd.toI (x:Nd):Ni:=⟨(x.kind:Int),(x.num:Int),x.md,x.nm,x.keys,x.l.map natI⟩
def Md.toI (m:Md):Mi:=⟨m.nm,m.imports,m.types.map Dc.toI,m.fns.map Fd.toI,m.nodes.map Nd.toI⟩
theorem rd_own {w:World}{base:Nat}{t:TypeId}{k:Nat}{A:Option Addr}{n c:Nat}{vs:List Value}(h:w.ownsRow base t k (.slice A n c) n vs)(hn:0<vs.length→0<n):RdV w A vs:=fun h0=>by
 obtain⟨q,c',e,hb,hq⟩:=h.form (hn h0);cases e
 exact⟨q,0,rfl,fun j x hj=>by have:=h.cells (g:=q) rfl j x hj;rwa [addr_lit] at this⟩
theorem rd_sq {w:World}{M:Nat→Prop}{A:Option Addr}{c:Nat}{l:List ByteArray}(h:SSq w M (.slice A l.length c) l):RdV w A (l.flatMap sC):=fun h0=>by
 rw[rowc_len sC 1 (fun _=>rfl),Nat.mul_one] at h0
 obtain⟨A',c',e,hc⟩:=h;cases e
 obtain⟨b,o,hA,_,_,hx⟩:=hc h0;refine⟨b,o,hA,fun j v hv=>?_⟩
 have hj:j<l.length:=by
  have:=(List.getElem?_eq_some_iff.1 hv).1
  rwa [rowc_len sC 1 (fun _=>rfl),Nat.mul_one] at this
 have h1:=rowc_get sC 1 (fun _=>rfl) l j l[j] (List.getElem?_eq_getElem hj) 0 (.string l[j]) rfl
 rw[Nat.mul_one,Nat.add_zero,hv] at h1;injection h1 with h1
 rw[h1];exact hx j _ (List.getElem?_eq_getElem hj)
theorem rd_iq {w:World}{M:Nat→Prop}{A:Option Addr}{c:Nat}{l:List Nat}(h:ISq w M (.slice A l.length c) l):RdV w A ((l.map natI).flatMap iC):=fun h0=>by
 rw[rowc_len iC 1 (fun _=>rfl),Nat.mul_one,List.length_map] at h0
 obtain⟨A',c',e,hc⟩:=h;cases e
 obtain⟨b,o,hA,_,_,hx⟩:=hc h0;refine⟨b,o,hA,fun j v hv=>?_⟩
 have hj:j<l.length:=by
  have:=(List.getElem?_eq_some_iff.1 hv).1
  rwa [rowc_len iC 1 (fun _=>rfl),Nat.mul_one,List.length_map] at this
 have h1:=rowc_get iC 1 (fun _=>rfl) (l.map natI) j (natI l[j]) (by rw[List.getElem?_map,List.getElem?_eq_getElem hj];rfl) 0 (.int .i64 (natI l[j])) rfl
 rw[Nat.mul_one,Nat.add_zero,hv] at h1;injection h1 with h1
 rw[h1];exact hx j _ (List.getElem?_eq_getElem hj)
theorem strs3_flat (l:List ByteArray):strs3 l=l.flatMap sC:=by
 induction l with
 | nil=>rfl
 | cons x l ih=>rw[List.flatMap_cons,← ih];rfl
theorem dcells_flat (l:List Dc):dcells l=(l.map Dc.toI).flatMap Di.cells:=by
 induction l with
 | nil=>rfl
 | cons x l ih=>rw[List.map_cons,List.flatMap_cons,← ih];rfl
theorem rd_ds {w:World}{B:Nat}{t:TypeId}{A:Option Addr}{c:Nat}{l:List Dc}(h:w.ownsRow B t 2 (.slice A l.length c) l.length (dcells l)):RdV w A ((l.map Dc.toI).flatMap Di.cells):=by
 rw[dcells_flat] at h;refine rd_own h fun h0=>?_
 rw[rowc_len Di.cells 2 (fun _=>rfl),List.length_map] at h0
 omega
theorem fns_rd {w:World}{F:Nat→Prop}{B:Nat}{A:Option Addr}{c:Nat}{fv:List Fv}(h:w.ownsRow B 60 5 (.slice A fv.length c) fv.length (fcells fv))(hh:HeldF w F fv)(hs:∀ p∈fv,SmallF p.1) :
  FnsR w A ((fv.map (·.1)).map Fd.toI):=fun h0=>by
 rw[List.length_map,List.length_map] at h0;obtain⟨q,c',e,hb,hq⟩:=h.form h0;cases e
 refine⟨q,0,rfl,fun i x hx=>?_⟩
 obtain⟨p,hp,rfl⟩:∃ p,fv[i]? = some p∧p.1.toI=x:=by
  rw[List.getElem?_map,List.getElem?_map] at hx;cases hf:fv[i]? with
  | none=>rw[hf] at hx;simp at hx
  | some p=>rw[hf] at hx;simp at hx;exact⟨p,rfl,hx⟩
 have hm:=List.mem_of_getElem? hp;obtain⟨⟨B1,o1⟩,⟨B2,o2⟩,_⟩:=hh p hm;obtain⟨s1,s2⟩:=hs p hm;have hc:∀(t:Nat) (v:Value),(Fv.cells p)[t]? = some v→w.cell? ⟨q,0+i*5+t,none⟩=some v:=by
  intro t v hv;have:=h.cells (g:=q) rfl _ v (rowc_get Fv.cells 5 (fun _=>rfl) fv i p hp t v hv)
  rw[addr_lit,← Nat.add_assoc] at this;exact this
 obtain⟨pf,v1,v2⟩:=p;obtain⟨VA,vc,e1⟩:=own_slice o1;obtain⟨PA,pc,e2⟩:=own_slice o2;simp only[] at e1 e2;subst e1;subst e2;refine⟨VA,vc,PA,pc,hc 0 _ rfl,?_,?_,hc 3 _ rfl,hc 4 _ rfl,rd_ds o1,rd_ds o2,?_,?_⟩
 ·rw[show(Fd.toI pf).vars.length=pf.vars.length from List.length_map ..];exact hc 1 _ rfl
 ·rw[show(Fd.toI pf).params.length=pf.params.length from List.length_map ..];exact hc 2 _ rfl
 ·rw[show(Fd.toI pf).vars.length=pf.vars.length from List.length_map ..];simp only[] at s1;omega
 ·rw[show(Fd.toI pf).params.length=pf.params.length from List.length_map ..];simp only[] at s2;omega
theorem nds_rd {w:World}{g:Nat}{D:Nat→Prop}{A:Option Addr}{c:Nat}{ps:List Np}(h:w.ownsRow (g+1) 53 6 (.slice A ps.length c) ps.length (ncells ps)){M:Nat→Prop}(hh:∀ p∈ps,SSq w M p.2.1 p.1.keys∧ISq w M p.2.2 p.1.l)
  (hk:∀ p∈ps,p.1.keys.length≤17∧p.1.l.length≤4000):NdsR w A ((ps.map (·.1)).map Nd.toI):=fun h0=>by
 rw[List.length_map,List.length_map] at h0;obtain⟨q,c',e,hb,hq⟩:=h.form h0;cases e
 refine⟨q,0,rfl,fun i x hx=>?_⟩
 obtain⟨p,hp,rfl⟩:∃ p,ps[i]? = some p∧p.1.toI=x:=by
  rw[List.getElem?_map,List.getElem?_map] at hx;cases hf:ps[i]? with
  | none=>rw[hf] at hx;simp at hx
  | some p=>rw[hf] at hx;simp at hx;exact⟨p,rfl,hx⟩
 have hm:=List.mem_of_getElem? hp;obtain⟨o1,o2⟩:=hh p hm;obtain⟨s1,s2⟩:=hk p hm;have hc:∀(t:Nat) (v:Value),(Np.cells p)[t]? = some v→w.cell? ⟨q,0+i*6+t,none⟩=some v:=by
  intro t v hv;have:=h.cells (g:=q) rfl _ v (rowc_get Np.cells 6 (fun _=>rfl) ps i p hp t v hv)
  rw[addr_lit,← Nat.add_assoc] at this;exact this
 obtain⟨pf,v1,v2⟩:=p;obtain⟨VA,vc,e1⟩:∃ VA vc,v1=.slice VA pf.keys.length vc:=by obtain⟨A,c,e,_⟩:=o1;exact⟨A,c,e⟩
 obtain⟨PA,pc,e2⟩:∃ PA pc,v2=.slice PA pf.l.length pc:=by obtain⟨A,c,e,_⟩:=o2;exact⟨A,c,e⟩
 subst e1;subst e2;refine⟨VA,vc,PA,pc,hc 0 _ rfl,hc 1 _ rfl,hc 2 _ rfl,hc 3 _ rfl,hc 4 _ rfl,?_,rd_sq o1,rd_iq o2,?_,?_⟩
 ·rw[show(Nd.toI pf).l.length=pf.l.length from List.length_map ..];exact hc 5 _ rfl
 ·show(pf.keys.length:Int)≤_;simp only[] at s1;omega
 ·rw[show(Nd.toI pf).l.length=pf.l.length from List.length_map ..];simp only[] at s2;omega
theorem ModV.rd {B:Nat}{w:World}{m:Md}{b c e f:Value}(h:ModV B w m b c e f)(hs:Small m) :
  ∃ A1 c1 A2 c2 A3 c3 A4 c4,b=.slice A1 m.toI.imports.length c1∧c=.slice A2 m.toI.types.length c2∧e=.slice A3 m.toI.fns.length c3∧f=.slice A4 m.toI.nodes.length c4∧MdR w m.toI A1 A2 A3 A4:=by
 obtain⟨B1,o1⟩:=h.imports;obtain⟨B2,o2⟩:=h.types;obtain⟨fv,hfv,⟨B3,o3⟩,hh⟩:=h.fns;obtain⟨g,E,hn,_⟩:=h.nodes;obtain⟨ps,hps,o4,hnd⟩:=hn.rows;obtain⟨A1,c1,rfl⟩:=own_slice o1;obtain⟨A2,c2,rfl⟩:=own_slice o2;obtain⟨A3,c3,rfl⟩:=own_slice o3;obtain⟨A4,c4,rfl⟩:=own_slice o4;have l3:fv.length=m.fns.length:=by rw[← hfv,List.length_map]
 have l4:ps.length=m.nodes.length:=by rw[← hps,List.length_map]
 have n2:m.toI.types.length=m.types.length:=List.length_map ..;have n3:m.toI.fns.length=m.fns.length:=List.length_map ..;have n4:m.toI.nodes.length=m.nodes.length:=List.length_map ..;refine⟨A1,c1,A2,c2,A3,c3,A4,c4,rfl,by rw[n2],by rw[n3,l3],by rw[n4,l4],⟨?_,rd_ds o2,?_,?_,?_,?_,?_,?_⟩⟩
 ·rw[strs3_flat] at o1;refine rd_own o1 fun h0=>?_
  rw[rowc_len sC 1 (fun _=>rfl),Nat.mul_one] at h0
  exact h0
 ·have:=fns_rd o3 hh (fun p hp=>hs.f p.1 (by rw[← hfv];exact List.mem_map_of_mem hp))
  rw[hfv] at this;exact this
 ·have:=nds_rd (D:=fun _=>True) o4 hnd (fun p hp=>⟨hs.keys p.1 (by rw[← hps];exact List.mem_map_of_mem hp),hs.l p.1 (by rw[← hps];exact List.mem_map_of_mem hp)⟩)
  rw[hps] at this;exact this
 ·show(m.imports.length:Int)≤_;have:=hs.imports;omega
 ·rw[n2];have:=hs.types;omega
 ·rw[n3];have:=hs.fns;omega
 ·rw[n4];have:=hs.nodes;omega
theorem MdR.zero (w:World):MdR w ⟨⟨#[]⟩,[],[],[],[]⟩ none none none none:=
 ⟨fun h=>by simp at h,fun h=>by simp at h,fun h=>by simp at h,fun h=>by simp at h,by simp,by simp,by simp,by simp⟩
end
section
open Lib (hid)
open Go.RowKit
def parseL (s:ByteArray):Except (Nat × Nat) Md:=if s.size≤65536 then parseS s else .error (0,5)
theorem parseL_nz {s:ByteArray}{x:Nat × Nat}(h:parseL s=.error x):x.2≠0:=by
 unfold parseL at h;split at h
 ·rename_i hs;exact parse_nz hs h
 ·injection h with h;subst h;decide
theorem parseL_ok {s:ByteArray}{m:Md}(h:parseL s=.ok m):s.size≤65536∧parseS s=.ok m:=by
 unfold parseL at h;split at h
 ·rename_i hs;exact⟨hs,h⟩
 ·cases h
set_option maxRecDepth 100000 in
set_option maxHeartbeats 4000000 in
theorem Parse_big (s:ByteArray)(w:World)(hs:s.size≤maxLen)(hb:65536<s.size) :
  Calls Tryz.prog 25 #[.string s] w fun r w'=>r=.returned (.tuple #[zeroM,.int .i64 0,.int .i64 5])∧Below w.heap.size w w':=by
 have HS:=hid hs;have HL:=hid hb;clear hs hb;go_enter Tryz.func25,Tryz.ntmps25
 go_wp2_with fail
 have hk1:=(Below.refl w.heap.size w).alloc (Nat.le_refl _) (.cells #[.string ⟨#[]⟩,.slice none 0 0,.slice none 0 0,.slice none 0 0,.slice none 0 0] 27);have hb0:=Blk.new w 27 #[.string ⟨#[]⟩,.slice none 0 0,.slice none 0 0,.slice none 0 0,.slice none 0 0];generalize hw1:w.alloc (.cells #[.string ⟨#[]⟩,.slice none 0 0,.slice none 0 0,.slice none 0 0,.slice none 0 0] 27)=w1 at hk1 hb0 ⊢;generalize hN:w.heap.size=N at hb0 hk1 ⊢;have HK1:=hid (Kept.of_below (P:=fun i=>N≤i) (a:=w) (b:=w1) (by rw[hN];exact hk1))
 have HB2:=hid hb0;have HN:=hid hN;have hNle:N≤N:=Nat.le_refl N;have y0:=hb0.frozen 0;have c0:=hb0.cell 0;have y1:=hb0.frozen 1;have c1:=hb0.cell 1;have y2:=hb0.frozen 2;have c2:=hb0.cell 2;have y3:=hb0.frozen 3;have c3:=hb0.cell 3;have y4:=hb0.frozen 4;have c4:=hb0.cell 4;simp at c0 c1 c2 c3 c4;clear hw1 hN hk1 hb0;refine(words_big s w1 HS.out HL.out).mono ?_;rintro r w2 ⟨rfl,rfl⟩;go_wp2_with fail
 have hb9:=(((((HB2.out.set_ 0 (.string ⟨#[]⟩)).set_ 1 (.slice none 0 0)).set_ 2 (.slice none 0 0)).set_ 3 (.slice none 0 0)).set_ 4 (.slice none 0 0));simp at hb9;have hk9:=(((((HK1.out.setCell (p:=⟨N,0,none⟩) (fun _=>hNle) (.string ⟨#[]⟩)).setCell (p:=⟨N,1,none⟩) (fun _=>hNle) (.slice none 0 0)).setCell (p:=⟨N,2,none⟩) (fun _=>hNle) (.slice none 0 0)).setCell (p:=⟨N,3,none⟩) (fun _=>hNle) (.slice none 0 0)).setCell (p:=⟨N,4,none⟩) (fun _=>hNle) (.slice none 0 0))
 have q0:=hb9.cell 0;have q1:=hb9.cell 1;have q2:=hb9.cell 2;have q3:=hb9.cell 3;have q4:=hb9.cell 4;simp at q0 q1 q2 q3 q4;refine bodyPost_ret (v:=.tuple #[zeroM,.int .i64 0,.int .i64 5]) (by simp[zeroM,results,Tryz.results25,go_sem,q0,q1,q2,q3,q4]) rfl ?_
 exact⟨rfl,hk9.below (Nat.le_refl _) (fun i hi h=>by have:=HN.out;omega)⟩
theorem Parse_L (s:ByteArray)(w:World)(hkw:Keys w)(hs:s.size≤maxLen):Calls Tryz.prog 25 #[.string s] w fun r w'=>PrsOut w (parseL s) r w':=by
 unfold parseL;split
 ·rename_i hb;exact Parse_any s w hkw hb
 ·rename_i hb;refine(Parse_big s w hs (by omega)).mono ?_
  rintro r w' ⟨h1,h2⟩;exact⟨h1,h2⟩
def zeroMi4:Mi:=⟨⟨#[]⟩,[],[],[],[]⟩
def ResI4:Except (Nat × Nat) Md→Mi→Nat→Prop
 | .ok m,mi,er=>mi=m.toI∧er=0
 | .error x,mi,er=>mi=zeroMi4∧er=x.2
def ResAt:Except (Nat × Nat) Md→Nat→Prop
 | .ok _,a=>a=0
 | .error x,a=>a=x.1
theorem parse_R4 (s:ByteArray)(w:World)(hk:Keys w)(hs:s.size≤maxLen) :
  Calls Tryz.prog 25 #[.string s] w fun e w'=>(∃ (mi:Mi) (er at_:Nat) (A1 A2 A3 A4:Option Addr) (n1 n2 n3 n4:Nat),e=.returned (.tuple #[.agg #[.string mi.nm,.slice A1 mi.imports.length n1,.slice A2 mi.types.length n2,.slice A3 mi.fns.length n3,.slice A4 mi.nodes.length n4],.int .i64 (at_:Int),.int .i64 (er:Int)]) ∧
   Hid (MdR w' mi A1 A2 A3 A4)∧Hid (ResI4 (parseL s) mi er)∧Hid (ResAt (parseL s) at_))∧Below w.heap.size w w':=by
 refine(Parse_L s w hk hs).mono fun e w' ho=>?_
 rcases hp:parseL s with⟨at_,er⟩ | m
 ·rw[hp] at ho;obtain⟨he,hb⟩:=ho;exact⟨⟨zeroMi4,er,at_,none,none,none,none,0,0,0,0,he,hid (MdR.zero w'),hid ⟨rfl,rfl⟩,hid rfl⟩,hb⟩
 ·obtain⟨hz,hp2⟩:=parseL_ok hp;rw[hp] at ho;obtain⟨⟨b,c,x,f,he,hv⟩,hb⟩:=ho;obtain⟨A1,n1,A2,n2,A3,n3,A4,n4,rfl,rfl,rfl,rfl,hr⟩:=hv.rd (parse_small hz hp2);exact⟨⟨m.toI,0,0,A1,A2,A3,A4,n1,n2,n3,n4,he,hid hr,hid ⟨rfl,rfl⟩,hid rfl⟩,hb⟩
end
end Go.Proofs.YtmpaemchjehjbaaGreatDoor
