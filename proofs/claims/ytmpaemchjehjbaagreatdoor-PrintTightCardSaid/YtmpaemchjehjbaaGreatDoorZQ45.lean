/- Contracts and plain facts that the theorem rests on: PLawTight. -/
import Derived.Test.YtmpaemchjehjbaaGreatDoorZQ37
import Derived.Test.YtmpaemchjehjbaaGreatDoorZQ44
import Derived.Test.YtmpaemchjehjbaaGreatDoorZQ13
import Derived.Maps.AppendAt
import Derived.Deep.AppendLies
set_option linter.unusedSimpArgs false
set_option linter.unusedVariables false
namespace Go.Proofs.YtmpaemchjehjbaaGreatDoor
section
open Lib (hid)
open Go.RowKit
theorem step_append4 {P:Program}{ops:Array Oper}{o:Oper}{a:Act}{K:Act→World→Prop}{Q:Exit→Act→World→Prop}{E:Prop}(w:World)(hgd:o.guard=none)(s x:Operand)(t:TypeId)
  (ho:o.op=.call { callee:=.builtin .append,args := #[s,x],argTypes := #[t,t] })
  (base:Nat)(e:TypeId)(i:TypeInfo)(z:Value)(size bytes:Nat)(ht:P.underlying t=some (.slice e))(hi:P.info? e=some i)(hz:i.zero=some z)
  (hsize:i.size=size)(hby:i.bytes=bytes)(hzs:z.cells.size=size)(hsz:0<size)
  (v:Value)(n:Nat)(xs:List Value)(hs:a.eval s=v)(hown:w.ownsRow base e size v n xs)
  (ad:Addr)(m c:Nat)(news:List Value)(hx:a.eval x=.slice (some ad) m c)(hl:news.length=m*size)(hnews:∀ j u,news[j]? = some u→w.cell? (ad.add j)=some u)(h1:∀ u∈news,u.oneCell'=true)
  (h63:n+m≤maxLen)(hbytes:(n+m)*bytes≤140737488355328)(hbase:base≤w.heap.size)
  (h:∀ v' w',w'.ownsRow base e size v' (n+m) (xs++news)→w.grownBy w' v.ownBlock→K (a.put o.dst v') w') :
  if Region.wanted o (yielded ops a.tmps)=true then Oper.wp P o a w K Q else E:=by
 have hw:Region.wanted o (yielded ops a.tmps)=true:=by simp[Region.wanted,hgd]
 rw[if_pos hw];obtain⟨v',w',hr,h2,h3,h4,h5⟩:=run_append_own_at (P:=P) w base t o.type e i z size bytes ht hi hz hsize hby hzs hsz v n xs hown ad m c news hl hnews h1 h63 hbytes hbase;unfold Oper.wp execOp;simp only[ho,resolve,invoke,builtin,Sem.run_bind,Sem.run_pure,Result.andThen_ok,List.map_toArray,List.map_cons,List.map_nil,hs,hx,hr];exact h v' w' h2 h3
theorem wcells_ones (l:List Wd):∀ u∈wcells l,u.oneCell'=true:=by
 intro u hu;obtain⟨x,_,hx⟩:=List.mem_flatMap.1 hu;simp[Wd.cells] at hx;rcases hx with rfl | rfl | rfl | rfl<;>rfl
theorem wcells_app (a b:List Wd):wcells (a++b)=wcells a++wcells b:=List.flatMap_append
theorem wcells_drop (l:List Wd)(k:Nat):(wcells l).drop (k*4)=wcells (l.drop k):=by
 have e:wcells l=wcells (l.take k)++wcells (l.drop k):=by rw[← wcells_app,List.take_append_drop]
 by_cases hk:k≤l.length
 ·have h4:(wcells (l.take k)).length=k*4:=by rw[wcells_len,List.length_take,Nat.min_eq_left hk]
  rw[e,List.drop_left' h4]
 ·rw[List.drop_eq_nil_of_le (by rw[wcells_len];omega),List.drop_eq_nil_of_le (by omega)]
  rfl
theorem part_cells {w:World}{B o:Nat}{l:List Wd}(h:∀ j u,(wcells l)[j]? = some u→w.cell? ⟨B,o+j,none⟩=some u)(p q:Nat)(n:Option Nat)(ad:Addr)(had:ad=⟨B,o+p*4,none⟩):∀ j u,(wcells ((l.drop p).take q))[j]? = some u→w.cell? (ad.add j)=some u:=by
 intro j u hj;subst had;rw[addr_lit];have h1:(wcells (l.drop p))[j]? = some u:=by
  have e:wcells (l.drop p)=wcells ((l.drop p).take q)++wcells ((l.drop p).drop q):=by rw[← wcells_app,List.take_append_drop]
  rw[e,List.getElem?_append_left (List.getElem?_eq_some_iff.1 hj).1];exact hj
 rw[← wcells_drop,List.getElem?_drop] at h1;rw[Nat.add_assoc];exact h _ _ h1
def opens (l:List Wd)(k:Nat):List Nat:=(List.range k).filter fun i=>match l[i]? with
 | some x=>isO x
 | none=>false
theorem opens_succ (l:List Wd)(k:Nat):opens l (k+1)=opens l k++(if (match l[k]? with | some x=>isO x | none=>false)=true then [k] else []):=by
 unfold opens;rw[List.range_succ,List.filter_append,List.filter_cons,List.filter_nil]
theorem opens_len (l:List Wd)(k:Nat):(opens l k).length≤k:=by
 unfold opens;exact Nat.le_trans (List.length_filter_le _ _) (by simp)
theorem opens_mem {l:List Wd}{k i:Nat}(h:i∈opens l k):∃ x,l[i]? = some x∧isO x=true:=by
 unfold opens at h;rw[List.mem_filter] at h;obtain⟨_,h2⟩:=h;cases hx:l[i]? with
 | none=>rw[hx] at h2;cases h2
 | some x=>rw[hx] at h2;exact⟨x,rfl,h2⟩
def lessL (l:List Wd)(a b:Nat):List Wd:=l.take a++((l.drop (a+1)).take (b-(a+1))++l.drop (b+1))
theorem lessL_end (xs:List Wd)(e:Wd){a b:Nat}(h1:a<b)(h2:b<xs.length):lessL (xs++[e]) a b=lessL xs a b++[e]:=by
 unfold lessL;rw[List.take_append_of_le_length (by omega),List.drop_append_of_le_length (by omega),List.drop_append_of_le_length (by omega),List.take_append_of_le_length (by rw[List.length_drop];omega)]
 simp
theorem lessL_len (xs:List Wd){a b:Nat}(h1:a<b)(h2:b<xs.length):(lessL xs a b).length+2=xs.length:=by
 unfold lessL;simp only[List.length_append,List.length_take,List.length_drop];omega
theorem lessL_mem {xs:List Wd}{a b:Nat}{x:Wd}(h:x∈lessL xs a b):x∈xs:=by
 unfold lessL at h;rcases List.mem_append.1 h with h | h
 ·exact List.mem_of_mem_take h
 ·rcases List.mem_append.1 h with h | h
  ·exact List.mem_of_mem_drop (List.mem_of_mem_take h)
  ·exact List.mem_of_mem_drop h
theorem tl_less (xs:List Wd){a b:Nat}(h1:a<b)(h2:b<xs.length):tl (lessL xs a b)≤tl xs:=by
 unfold lessL;rw[tl_append,tl_append];have e1:=tl_append (xs.take a) (xs.drop a);rw[List.take_append_drop] at e1;have e2:=tl_append ((xs.drop a).take 1) ((xs.drop a).drop 1);rw[List.take_append_drop,List.drop_drop] at e2;have e3:=tl_append ((xs.drop (a+1)).take (b-(a+1))) ((xs.drop (a+1)).drop (b-(a+1)));rw[List.take_append_drop,List.drop_drop,show a+1+(b-(a+1))=b by omega] at e3
 have e4:=tl_append ((xs.drop b).take 1) ((xs.drop b).drop 1);rw[List.take_append_drop,List.drop_drop] at e4;omega
structure TightF (T:ByteArray)(m:Md)(t:ByteArray)(ws:List Wd):Prop where
 fine:Fine4 65536 m.toI
 pr:printS m.toI=some t
 tl:t.size≤65536
 words:wordsS t=.ok ws
 len:ws.length≤20000
 small:∀ x∈ws,x.text.size≤70000
 mt:∀(a:Nat) (x:Wd),ws[a]? = some x→isO x=true→∃ b,mtF (ws.drop (a+1)) (a+1) 1=some b∧a<b∧b+1<ws.length∧(⟨(joinL ((lessL ws a b).map wi)).toArray⟩:ByteArray).size≤65536∧∀ k,parseS ⟨(joinL ((lessL ws a b).map wi)).toArray⟩=.ok k→k.toI≠m.toI
theorem tightF {T:ByteArray}{m:Md}(hs:T.size≤1000)(hp:parseS T=.ok m):∃ t ws,TightF T m t ws:=by
 obtain⟨t,ps,h⟩:=trip (by omega) hp
 have hsz:=h.size;have hw:=h.words;obtain⟨_,hl,_,ht⟩:=wordsF_ok _ _ _ _ hw;refine⟨t,_,h.fine (by omega) hp,h.printS (by omega),by omega,hw,by omega,fun x hx=>by have:=ht x hx;omega,fun a x hx ho=>?_⟩
 have hlen:=laidP_len ps 0;have ha:a<(laidP 0 ps).length:=by
  apply Classical.byContradiction
  intro hn;rw[List.getElem?_append_right (by omega)] at hx
  rcases hq:a-(laidP 0 ps).length with _ | q
  ·rw[hq] at hx;injection hx with hx
   subst hx;cases ho
  ·rw[hq] at hx;cases hx
 rw[List.getElem?_append_left ha] at hx;obtain⟨b,h1,h2,h3,_⟩:=bal_match (laid_bal h.had.bal 0) hx ho [⟨7,⟨#[]⟩,0,t.size⟩];refine⟨b,?_,h2,by rw[List.length_append,List.length_singleton];omega,?_⟩
 ·rw[List.drop_append_of_le_length (by omega)]
  exact h1
 ·rw[lessL_end _ _ h2 h3,join_end];have hg:∀ x∈lessL (laidP 0 ps) a b,Good x:=fun x hx=>h.good x (lessL_mem hx)
  have e:(⟨(joinL ((lessL (laidP 0 ps) a b).map wi)).toArray⟩:ByteArray)=ba (joinL ((lessL (laidP 0 ps) a b).map wi)):=rfl;have hz:(ba (joinL ((lessL (laidP 0 ps) a b).map wi))).size≤65536:=by
   rw[ba_size,join_flat _ hg];have a1:=jp_len2 (lessL (laidP 0 ps) a b);have a2:=tl_less (laidP 0 ps) h2 h3;have a3:=words_sum _ _ _ _ (Nat.zero_le _) hw;rw[tl_append] at a3;omega
  rw[e];exact⟨hz,fun k hk=>tight h hg (by rw[lessL_len _ h2 h3,hlen]) hz hk⟩
theorem push_int {W2 wr:World}{H2:Nat}(hW:W2.heap.size=H2)(hsz:H2≤wr.heap.size)(HB:Below H2 W2 wr){VA:Option Addr}{vn k:Nat}{L:List Nat}(HO:wr.ownsRow H2 3 1 (.slice VA k vn) k (ints3 L))(x:Nat)(hroom:k≤99999)
  {ops:Array Oper}{rest:List Oper}{o:Oper}{a:Act}{Q:Exit→Act→World→Prop}(hgd:o.guard=none)(s y:Operand)(ho:o.op=.call { callee:=.builtin .append,args := #[s,y],argTypes := #[46,46] })
  (hs:a.eval s=.slice VA k vn)(c:Nat)(hx:a.eval y=.slice (some ⟨wr.heap.size,0,none⟩) 1 c)(u:Value)(hu:u=.int .i64 (x:Int))
  (h:∀ g cap w5,Below H2 W2 w5→H2≤w5.heap.size→w5.ownsRow H2 3 1 (.slice (some ⟨g,0,none⟩) (k+1) cap) (k+1) (ints3 (L++[x]))→wpList Tryz.prog ops Q rest (a.put o.dst (.slice (some ⟨g,0,none⟩) (k+1) cap)) w5) :
  wpList Tryz.prog ops Q (o::rest) a (wr.alloc (.cells #[u] 3)):=by
 subst hW;subst hu;obtain⟨i0,hi,hz0,hz1,hz2⟩:=info_parts info_int3;refine wpList_append_lies (wr.alloc (.cells #[.int .i64 (x:Int)] 3)) hgd s y _ ho W2.heap.size 3 i0 _ 1 8 Tryz.underlying46 hi hz0 hz1 hz2 rfl (by decide) (.slice VA k vn) k (ints3 L) hs (HO.alloc _) ⟨wr.heap.size,0,none⟩ 1 c [.int .i64 (x:Int)] hx rfl (World.news_of_block (cs := #[.int .i64 (x:Int)]) (fr:=(0,0)) (heap_alloc_new wr _)) (by simp[Value.oneCell']) (by decide) (by simp only[maxLen];omega) (by omega) (by simp;omega) (wr.heap.size+1) (by simp) ?_
 intro g cap w5 hown hgrow hat hlt;have HK5:Kept (fun i=>(Value.slice VA k vn).ownBlock=some i) wr w5:=((Kept.refl _ wr).alloc _).grown hgrow (fun i _ h=>h)
 have HB5:Below W2.heap.size W2 w5:=((Kept.of_below HB (fun i=>W2.heap.size≤i)).trans HK5 (fun i _ h=>(HO.lt i h).1)).below (Nat.le_refl _) (fun i hi h=>by omega)
 have hs5:=HK5.size;refine h g cap w5 HB5 (by omega) ?_
 rw[← ints3_snoc];exact hown
theorem opens_yes {l:List Wd}{k:Nat}{x:Wd}(hx:l[k]? = some x)(ho:isO x=true):opens l (k+1)=opens l k++[k]:=by rw[opens_succ,hx];simp[ho]
theorem opens_no {l:List Wd}{k:Nat}{x:Wd}(hx:l[k]? = some x)(ho:isO x=false):opens l (k+1)=opens l k:=by rw[opens_succ,hx];simp[ho]
theorem grow_bel4 {H n:Nat}{W w w':World}{e:TypeId}{v:Value}{xs:List Value}(hH:H=W.heap.size)(hb:Below H W w)(hown:w.ownsRow H e 4 v n xs)(hg:w.grownBy w' v.ownBlock):Below H W w':=by
 subst hH;have hs:=hb.size;have HK5:Kept (fun i=>v.ownBlock=some i) w w':=(Kept.refl _ w).grown hg (fun i _ h=>h)
 exact((Kept.of_below hb (fun i=>W.heap.size≤i)).trans HK5 (fun i _ h=>(hown.lt i h).1)).below (Nat.le_refl _) (fun i hi h=>by omega)
theorem part_below {w w':World}{B o:Nat}{l:List Wd}(h:∀ j u,(wcells l)[j]? = some u→w.cell? ⟨B,o+j,none⟩=some u)(hB:B<w.heap.size)(hb:Below w.heap.size w w'):∀ j u,(wcells l)[j]? = some u→w'.cell? ⟨B,o+j,none⟩=some u:=fun j u hj=>by
 rw[hb.cell (p:=⟨B,o+j,none⟩) hB];exact h j u hj
set_option maxRecDepth 100000 in
set_option maxHeartbeats 8000000 in
theorem tight_any (s:ByteArray)(which:Int)(w:World)(ht:Tabs w)(hs:(s.size:Int)≤9223372036854775807) :
  Calls Tryz.prog 7 #[.string s,.int .i64 which] w fun e w'=>e=.returned (.bool true)∧Below w.heap.size w w':=by
 have HT:=hid ht;clear ht;go_enter Tryz.func7,Tryz.ntmps7
 go_wp2_with fail
 obtain⟨T,hTT⟩:∃ T,s.extract 0 (min (s.size:Int) 1000).toNat=T:=⟨_,rfl⟩;have hTs:T.size≤1000:=by
  rw[← hTT,ByteArray.size_extract];omega
 rw[hTT];clear hTT;rcases hp:parseS T with x | m
 ·have hne:=parse_nz (by omega) hp
  obtain⟨at_,er⟩:=x;simp only at hne;have heI:((er:Int) != 0)=true:=by simp;omega
  have heI2:((er:Int)==0)=false:=by simp;omega
  refine(Parse_eq4 w HT.out.ky (by omega) hp).mono ?_
  rintro r w1 ⟨rfl,hb1⟩;unfold zeroM;have HB1:=hid hb1;clear hb1 hp hne hTs;go_wp2_with fail
  have hb2:=HB1.out.alloc HB1.out.size (.cells #[.string ⟨#[]⟩,.slice none 0 0,.slice none 0 0,.slice none 0 0,.slice none 0 0] 27);generalize hw2:w1.alloc (.cells #[.string ⟨#[]⟩,.slice none 0 0,.slice none 0 0,.slice none 0 0,.slice none 0 0] 27)=w2 at hb2 ⊢;have HB2:=hid hb2;clear hw2 hb2;have HT2:=HT.out.below HB2.out;refine(works4_any w2 HT2.ky HT2.kw HT2.pw).mono ?_;rintro r w3 ⟨rfl,hb3⟩;have HB3:=hid (HB2.out.trans (hb3.mono HB2.out.size));clear hb3 HT2;go_wp2_with fail
  go_ret
  exact⟨rfl,HB3.out⟩
 ·obtain⟨t,ws,hF⟩:=tightF hTs hp;have hsm:=parse_small (by omega) hp
  refine(Parse_eq4 w HT.out.ky (by omega) hp).mono ?_
  rintro r w2 ⟨⟨b,c,e,f,rfl,hv⟩,hb2⟩;obtain⟨A1,c1,A2,c2,A3,c3,A4,c4,rfl,rfl,rfl,rfl,hrd⟩:=hv.rd hsm;have HB2:=hid hb2;have HT2:=hid (HT.out.below hb2);have HRD:=hid hrd;have HF:=hid hF;obtain⟨mi,hmi⟩:∃ mi,m.toI=mi:=⟨_,rfl⟩;have hnm:m.nm=mi.nm:=by rw[← hmi];rfl
  have HPR:Hid (printS mi=some t):=hid (by rw[← hmi];exact hF.pr)
  have HFI:Hid (Fine4 65536 mi):=hid (by rw[← hmi];exact hF.fine)
  rw[hmi] at HRD ⊢;have HMI:=hid hmi;rw[hnm];clear hv hrd hb2 hp hsm hTs hmi hnm hF
  go_upto_region 2 with(fail)
  have b3:=(Below.refl w2.heap.size w2).alloc (Nat.le_refl _) (.cells #[.string mi.nm,.slice A1 mi.imports.length c1,.slice A2 mi.types.length c2,.slice A3 mi.fns.length c3,.slice A4 mi.nodes.length c4] 27);have z3:=Blk.new w2 27 #[.string mi.nm,.slice A1 mi.imports.length c1,.slice A2 mi.types.length c2,.slice A3 mi.fns.length c3,.slice A4 mi.nodes.length c4];generalize hw3:w2.alloc (.cells #[.string mi.nm,.slice A1 mi.imports.length c1,.slice A2 mi.types.length c2,.slice A3 mi.fns.length c3,.slice A4 mi.nodes.length c4] 27)=w3 at b3 z3 ⊢;obtain⟨mb,hmb⟩:∃ g,w2.heap.size=g:=⟨_,rfl⟩;have HB3:=hid (HB2.out.trans (b3.mono HB2.out.size));have HT3:=hid (HT2.out.below b3);have HBA3:Hid (Base4 mi A1 A2 A3 A4 w3):=hid ⟨HRD.out.below b3,HT3.out.ky,HT3.out.kw,HT3.out.pw⟩;rw[hmb] at z3 ⊢;have Z3:=hid z3;have s0:w3.cell? ⟨mb,0,none⟩=some (.string mi.nm):=z3.cell 0;have s1:w3.cell? ⟨mb,1,none⟩=some (.slice A1 mi.imports.length c1):=z3.cell 1;have s2:w3.cell? ⟨mb,2,none⟩=some (.slice A2 mi.types.length c2):=z3.cell 2;have s3:w3.cell? ⟨mb,3,none⟩=some (.slice A3 mi.fns.length c3):=z3.cell 3;have s4:w3.cell? ⟨mb,4,none⟩=some (.slice A4 mi.nodes.length c4):=z3.cell 4;clear b3 z3 hw3 hmb HRD HT2 HB2;go_wp2_with fail
  refine(Module_any mi A1 A2 A3 A4 c1 c2 c3 c4 w3 HBA3.out HFI.out).mono ?_;rintro e w4 ⟨he,hb4⟩;rw[HPR.out] at he;subst he;have HB4:=hid (HB3.out.trans (hb4.mono HB3.out.size));have HBA4:=hid (HBA3.out.below hb4);have Z4:=hid (Z3.out.below hb4 Z3.out.lt);have HT4:=hid (HT3.out.below hb4);clear s0 s1 s2 s3 s4 hb4;go_wp2_with fail
  refine(words_any t w4 HT4.out.ky HF.out.tl).mono ?_;rintro r w5 ⟨ho,hb5⟩;obtain⟨WA,wc,rfl,hlc,hcm,hseq⟩:=ho.of_ok HF.out.words;have HB5:=hid (HB4.out.trans (hb5.mono HB4.out.size));have HBA5:=hid (HBA4.out.below hb5);have Z5:=hid (Z4.out.below hb5 Z4.out.lt);have HT5:=hid (HT4.out.below hb5);have HSQ:=hid hseq;have hwl:ws.length≤20000:=HF.out.len;have hwcI:(wc:Int)≤9223372036854775807:=by simp only[maxLen] at hcm;omega
  obtain⟨H,hH⟩:∃ H,w5.heap.size=H:=⟨_,rfl⟩;have HH:=hid hH;clear ho hb5 hseq hcm hH;go_wp2_with fail
  go_loopw [13,14] (fun u13 u14 wr=>∃ (k:Nat) (VA:Option Addr) (vn:Nat),k≤ws.length∧u14=.int .i64 (k:Int)∧u13=.slice VA (opens ws k).length vn∧Hid (wr.ownsRow H 3 1 (.slice VA (opens ws k).length vn) (opens ws k).length (ints3 (opens ws k)))∧Hid (Below H w5 wr)∧H≤wr.heap.size) (fun _ u14 _=>ws.length-(intOf u14).toNat)
  case atStart=>exact⟨0,none,0,Nat.zero_le _,rfl,rfl,hid (World.ownsRow_nil _ _ _ _),hid (by rw[← HH.out];exact Below.refl _ _),by rw[HH.out];exact Nat.le_refl _⟩
  case round =>
   obtain⟨k,VA,vn,hk,rfl,rfl,HO,HB,hsz⟩:=hrel;by_cases hlt:k<ws.length
   ·have hx:ws[k]? = some ws[k]:=List.getElem?_eq_getElem hlt;obtain⟨x,hxe⟩:∃ x,ws[k]=x:=⟨_,rfl⟩;rw[hxe] at hx;obtain⟨B,o,rfl,hB,c0,c1',_,_⟩:=(HSQ.out.below (by rw[HH.out];exact HB.out) (Nat.le_refl _)).at_ hx
    have HX:=hid hx;have hol:=opens_len ws k;clear hx hxe hB;by_cases hO:x.kind=6∧x.text=⟨#[40]⟩
    ·obtain⟨hk6,ht4⟩:=hO;rw[hk6] at c0;have h1:=lit_is (l:=[40]) ht4;have hoy:=opens_yes HX.out (isO_eq hk6 ht4);have HOY:=hid hoy;clear hk6 ht4 hoy;go_wp2_with (at_builtin;refine unhid ?_)
     refine hid ?_;refine push_int HH.out hsz HB.out HO.out k (by omega) rfl _ _ rfl rfl 1 rfl _ rfl ?_
     intro g cap w6 hb6 hs6 hown6;have e1:(opens ws k).length+1=(opens ws (k+1)).length:=by rw[HOY.out,List.length_append];rfl
     rw[← HOY.out,e1] at hown6;rw[e1];have HO6:=hid hown6;have HB6:=hid hb6;clear hown6 hb6 e1;go_wp2_with fail
     go_roundw
     case rel=>exact⟨k+1,some ⟨g,0,none⟩,cap,by omega,by go_num,rfl,HO6,HB6,hs6⟩
     case measure=>simp[intOf];omega
    ·have hno:isO x=false:=isO_not (by
      by_cases h6:x.kind=6
      ·exact .inr fun h=>hO ⟨h6,h⟩
      ·exact .inl h6)
     have HON:=hid (opens_no HX.out hno);by_cases h6:x.kind=6
     ·rw[h6] at c0;have h1:=lit_no (l:=[40]) (show ¬ x.text=⟨[40].toArray⟩ from fun h=>hO ⟨h6,h⟩)
      clear hO hno h6;go_wp2_with fail
      go_roundw
      case rel=>exact⟨k+1,VA,vn,by omega,by go_num,by rw[HON.out],by rw[HON.out];exact HO,HB,hsz⟩
      case measure=>simp[intOf];omega
     ·have h6':=six_no h6;clear hO hno h6;go_wp2_with fail
      go_roundw
      case rel=>exact⟨k+1,VA,vn,by omega,by go_num,by rw[HON.out],by rw[HON.out];exact HO,HB,hsz⟩
      case measure=>simp[intOf];omega
   ·obtain rfl:k=ws.length:=by omega
    obtain⟨L,hL⟩:∃ L,opens ws ws.length=L:=⟨_,rfl⟩;have hLl:L.length≤ws.length:=by rw[← hL];exact opens_len ws ws.length
    rw[hL] at HO ⊢;have HL:=hid hL;have HBW:=hid (HB5.out.trans ((show Below w5.heap.size w5 wr by rw[HH.out];exact HB.out).mono HB5.out.size))
    have HTW:=hid (HT5.out.below (show Below w5.heap.size w5 wr by rw[HH.out];exact HB.out))
    have HBAW:=hid (HBA5.out.below (show Below w5.heap.size w5 wr by rw[HH.out];exact HB.out))
    have ZW:=hid (Z5.out.below (show Below w5.heap.size w5 wr by rw[HH.out];exact HB.out) Z5.out.lt)
    have HSW:=hid (HSQ.out.below (show Below w5.heap.size w5 wr by rw[HH.out];exact HB.out) (show w5.heap.size≤wr.heap.size by rw[HH.out];exact hsz))
    clear hL hk hlt;by_cases h0:L.length=0
    ·rw[h0];clear h0 hLl;go_wp2_with fail
     refine(works4_any wr HTW.out.ky HTW.out.kw HTW.out.pw).mono ?_;rintro r w6 ⟨rfl,hb6⟩;have HB6:=hid (HBW.out.trans (hb6.mono HBW.out.size));clear hb6;go_wp2_with fail
     go_ret
     exact⟨rfl,HB6.out⟩
    ·have hI:((L.length:Int)==0)=false:=by rw[beq_eq_false_iff_ne];omega
     obtain⟨g,o,rfl,hc⟩:=rd_own HO.out (fun _=>by omega) (by rw[ints3,List.length_map];omega)
     have HC:=hid hc;have hlI:(0:Int)<(L.length:Int):=by omega
     clear hc;go_wp2_with fail
     refine(bring4_any which (L.length:Int) wr hlI (by omega)).mono ?_
     rintro r w6 ⟨rfl,rfl⟩;obtain⟨i,hi,hil⟩:∃ i:Nat,bring4 which (L.length:Int)=(i:Int)∧i<L.length:=by
      obtain⟨h1,h2⟩:=bring4_nat which (L.length:Int) hlI;exact⟨(bring4 which (L.length:Int)).toNat,by omega,by omega⟩
     rw[hi];clear hi;have hx:L[i]? = some L[i]:=List.getElem?_eq_getElem hil;obtain⟨a,ha⟩:∃ a,L[i]=a:=⟨_,rfl⟩;rw[ha] at hx;have c0:=HC.out i (.int .i64 (a:Int)) (by rw[ints3,List.getElem?_map,hx];rfl)
     obtain⟨x,hxa,hxo⟩:=opens_mem (l:=ws) (k:=ws.length) (i:=a) (by rw[HL.out];exact List.mem_of_getElem? hx)
     obtain⟨b,m1,m2,m3,m4,m5⟩:=HF.out.mt a x hxa hxo;have hal:a<ws.length:=(List.getElem?_eq_some_iff.1 hxa).1;have HXA:=hid (And.intro hxa hxo);have HM1:=hid m1;have HM5:=hid (And.intro m4 m5);clear hx ha hxa hxo m1 m4 m5;go_wp2_with fail
     refine(match_any WA wc ws a b x wr (by omega) HSW.out HXA.out.1 HXA.out.2 HM1.out).mono ?_
     rintro r w6 ⟨rfl,rfl⟩;have hb0:¬((b:Int)<0):=by omega
     obtain⟨B,o',rfl,hB,hcs⟩:=HSW.out (by omega)
     have HCS:=hid hcs;clear c0 hcs HXA HM1;have ha0:(0:Int)≤(a:Int):=by omega
     have haw:(a:Int)≤(wc:Int):=by omega
     have w1':IntKind.i64.wrap ((a:Int)+1)=(a:Int)+1:=IntWalk.i64_in _ (by omega)
     have w2':IntKind.i64.wrap ((b:Int)+1)=(b:Int)+1:=IntWalk.i64_in _ (by omega)
     have ha1:(0:Int)≤(a:Int)+1:=by omega
     have hab:(a:Int)+1≤(b:Int):=by omega
     have hbw:(b:Int)≤(wc:Int):=by omega
     have hb1:(0:Int)≤(b:Int)+1:=by omega
     have hbl:(b:Int)+1≤(ws.length:Int):=by omega
     have hblw:(ws.length:Int)≤(wc:Int):=by omega
     have hwl0:(0:Int)≤(ws.length:Int):=by omega
     go_upto_region 21 with(fail)
     obtain⟨i0,hii,hz0,hz1,hz2⟩:=info_parts info_word;have hBl:B<w6.drew.heap.size:=hB;refine K_start 16 (fun _=>True) (by kernel_rfl) ?_
     refine K_pure (i:=0) (v:=?_) (by simp only[List.getElem?_toArray,List.getElem?_cons_succ,List.getElem?_cons_zero];exact rfl) (by kernel_rfl) (by kernel_rfl) (by kernel_rfl) (by decide) (by exact fun _ _ _ h=>h) (fun _=>trivial) (by rfl) ?_ ?_
     rotate_left
     ·intro u
      go_simp
      try with_reducible rfl
     simp only[Act.put,List.setIfInBounds_toArray,List.set_cons_zero,List.set_cons_succ];refine K_pure (i:=1) (v:=?_) (by simp only[List.getElem?_toArray,List.getElem?_cons_succ,List.getElem?_cons_zero];exact rfl) (by kernel_rfl) (by kernel_rfl) (by kernel_rfl) (by decide) (by exact fun _ _ _ h=>h) (fun _=>trivial) (by rfl) ?_ ?_
     rotate_left
     ·intro u
      go_simp
      try with_reducible rfl
     simp only[Act.put,List.setIfInBounds_toArray,List.set_cons_zero,List.set_cons_succ];refine K_pure (i:=2) (v:=?_) (by simp only[List.getElem?_toArray,List.getElem?_cons_succ,List.getElem?_cons_zero];exact rfl) (by kernel_rfl) (by kernel_rfl) (by kernel_rfl) (by decide) (by exact fun _ _ _ h=>h) (fun _=>trivial) (by rfl) ?_ ?_
     rotate_left
     ·intro u
      go_simp
      try with_reducible rfl
     simp only[Act.put,List.setIfInBounds_toArray,List.set_cons_zero,List.set_cons_succ];refine K_pure (i:=3) (v:=.slice (some ⟨B,o',none⟩) a wc) (by simp only[List.getElem?_toArray,List.getElem?_cons_succ,List.getElem?_cons_zero];exact rfl) (by kernel_rfl) (by kernel_rfl) (by kernel_rfl) (by decide) (by exact fun _ _ _ h=>h) (fun _=>trivial) (by rfl) ?_ ?_
     ·intro u
      go_simp
     simp only[Act.put,List.setIfInBounds_toArray,List.set_cons_zero,List.set_cons_succ];refine K_pure (i:=5) (v:=?_) (by simp only[List.getElem?_toArray,List.getElem?_cons_succ,List.getElem?_cons_zero];exact rfl) (by kernel_rfl) (by kernel_rfl) (by kernel_rfl) (by decide) (by exact fun _ _ _ h=>h) (fun _=>trivial) (by rfl) ?_ ?_
     rotate_left
     ·intro u
      go_simp
      try with_reducible rfl
     simp only[Act.put,List.setIfInBounds_toArray,List.set_cons_zero,List.set_cons_succ];refine K_pure (i:=6) (v:=?_) (by simp only[List.getElem?_toArray,List.getElem?_cons_succ,List.getElem?_cons_zero];exact rfl) (by kernel_rfl) (by kernel_rfl) (by kernel_rfl) (by decide) (by exact fun _ _ _ h=>h) (fun _=>trivial) (by rfl) ?_ ?_
     rotate_left
     ·intro u
      go_simp
      try with_reducible rfl
     simp only[Act.put,List.setIfInBounds_toArray,List.set_cons_zero,List.set_cons_succ];refine K_pure (i:=7) (v:=.int .i64 ((a:Int)+1)) (by simp only[List.getElem?_toArray,List.getElem?_cons_succ,List.getElem?_cons_zero];exact rfl) (by kernel_rfl) (by kernel_rfl) (by kernel_rfl) (by decide) (by exact fun _ _ _ h=>h) (fun _=>trivial) (by rfl) ?_ ?_
     ·intro u
      go_simp
     simp only[Act.put,List.setIfInBounds_toArray,List.set_cons_zero,List.set_cons_succ];refine K_pure (i:=8) (v:=?_) (by simp only[List.getElem?_toArray,List.getElem?_cons_succ,List.getElem?_cons_zero];exact rfl) (by kernel_rfl) (by kernel_rfl) (by kernel_rfl) (by decide) (by exact fun _ _ _ h=>h) (fun _=>trivial) (by rfl) ?_ ?_
     rotate_left
     ·intro u
      go_simp
      try with_reducible rfl
     simp only[Act.put,List.setIfInBounds_toArray,List.set_cons_zero,List.set_cons_succ];refine K_pure (i:=9) (v:=.slice (some ⟨B,o'+(a+1)*4,none⟩) (b-(a+1)) (wc-(a+1))) (by simp only[List.getElem?_toArray,List.getElem?_cons_succ,List.getElem?_cons_zero];exact rfl) (by kernel_rfl) (by kernel_rfl) (by kernel_rfl) (by decide) (by exact fun _ _ _ h=>h) (fun _=>trivial) (by rfl) ?_ ?_
     ·intro u
      go_simp
      omega
     simp only[Act.put,List.setIfInBounds_toArray,List.set_cons_zero,List.set_cons_succ];refine K_pure (i:=11) (v:=?_) (by simp only[List.getElem?_toArray,List.getElem?_cons_succ,List.getElem?_cons_zero];exact rfl) (by kernel_rfl) (by kernel_rfl) (by kernel_rfl) (by decide) (by exact fun _ _ _ h=>h) (fun _=>trivial) (by rfl) ?_ ?_
     rotate_left
     ·intro u
      go_simp
      try with_reducible rfl
     simp only[Act.put,List.setIfInBounds_toArray,List.set_cons_zero,List.set_cons_succ];refine K_pure (i:=12) (v:=?_) (by simp only[List.getElem?_toArray,List.getElem?_cons_succ,List.getElem?_cons_zero];exact rfl) (by kernel_rfl) (by kernel_rfl) (by kernel_rfl) (by decide) (by exact fun _ _ _ h=>h) (fun _=>trivial) (by rfl) ?_ ?_
     rotate_left
     ·intro u
      go_simp
      try with_reducible rfl
     simp only[Act.put,List.setIfInBounds_toArray,List.set_cons_zero,List.set_cons_succ];refine K_pure (i:=13) (v:=.int .i64 ((b:Int)+1)) (by simp only[List.getElem?_toArray,List.getElem?_cons_succ,List.getElem?_cons_zero];exact rfl) (by kernel_rfl) (by kernel_rfl) (by kernel_rfl) (by decide) (by exact fun _ _ _ h=>h) (fun _=>trivial) (by rfl) ?_ ?_
     ·intro u
      go_simp
     simp only[Act.put,List.setIfInBounds_toArray,List.set_cons_zero,List.set_cons_succ];refine K_pure (i:=14) (v:=.slice (some ⟨B,o'+(b+1)*4,none⟩) (ws.length-(b+1)) (wc-(b+1))) (by simp only[List.getElem?_toArray,List.getElem?_cons_succ,List.getElem?_cons_zero];exact rfl) (by kernel_rfl) (by kernel_rfl) (by kernel_rfl) (by decide) (by exact fun _ _ _ h=>h) (fun _=>trivial) (by rfl) ?_ ?_
     ·intro u
      go_simp
      omega
     simp only[Act.put,List.setIfInBounds_toArray,List.set_cons_zero,List.set_cons_succ];refine K_one (i:=4) (by kernel_rfl) (by simp only[List.getElem?_toArray,List.getElem?_cons_succ,List.getElem?_cons_zero];exact rfl) (fun K hK=>?_)
     refine step_append4 w6.drew rfl _ _ 42 rfl w6.drew.heap.size 48 i0 _ 4 40 Tryz.underlying42 hii hz0 hz1 hz2 rfl (by decide) (.slice none 0 0) 0 [] rfl (World.ownsRow_nil _ _ _ _) ⟨B,o',none⟩ a wc (wcells ((ws.drop 0).take a)) rfl ?_ (part_cells HCS.out 0 a none _ (by simp)) (wcells_ones _) (by simp only[maxLen];omega) (by omega) (Nat.le_refl _) ?_
     ·rw[wcells_len,List.length_take,List.drop_zero,Nat.min_eq_left (by omega)]
     intro v7 w7 hown7 hg7;rw[Nat.zero_add,List.nil_append,List.drop_zero] at hown7;have hb7:Below w6.drew.heap.size w6.drew w7:=grow_bel4 (v:=.slice none 0 0) (n:=0) (xs:=[]) (e:=48) rfl (Below.refl _ _) (World.ownsRow_nil _ _ _ _) hg7;have hc7:=part_below (w:=w6.drew) HCS.out hBl hb7;refine hK _ _ (fun _=>trivial) ?_
     clear hK K hg7;simp only[Act.put,List.setIfInBounds_toArray,List.set_cons_zero,List.set_cons_succ];refine K_one (i:=10) (by kernel_rfl) (by simp only[List.getElem?_toArray,List.getElem?_cons_succ,List.getElem?_cons_zero];exact rfl) (fun K hK=>?_)
     refine step_append4 w7 rfl _ _ 42 rfl w6.drew.heap.size 48 i0 _ 4 40 Tryz.underlying42 hii hz0 hz1 hz2 rfl (by decide) v7 a _ rfl hown7 ⟨B,o'+(a+1)*4,none⟩ (b-(a+1)) (wc-(a+1)) (wcells ((ws.drop (a+1)).take (b-(a+1)))) rfl ?_ (part_cells hc7 (a+1) (b-(a+1)) none _ rfl) (wcells_ones _) (by simp only[maxLen];omega) (by omega) hb7.size ?_
     ·rw[wcells_len,List.length_take,List.length_drop,Nat.min_eq_left (by omega)]
     intro v8 w8 hown8 hg8;rw[← wcells_app] at hown8;have hb8:Below w6.drew.heap.size w6.drew w8:=grow_bel4 rfl hb7 hown7 hg8;have hc8:=part_below (w:=w6.drew) HCS.out hBl hb8;refine hK _ _ (fun _=>trivial) ?_
     clear hK K hg8 hown7 hc7;simp only[Act.put,List.setIfInBounds_toArray,List.set_cons_zero,List.set_cons_succ];refine K_one (i:=15) (by kernel_rfl) (by simp only[List.getElem?_toArray,List.getElem?_cons_succ,List.getElem?_cons_zero];exact rfl) (fun K hK=>?_)
     refine step_append4 w8 rfl _ _ 42 rfl w6.drew.heap.size 48 i0 _ 4 40 Tryz.underlying42 hii hz0 hz1 hz2 rfl (by decide) v8 (a+(b-(a+1))) _ rfl hown8 ⟨B,o'+(b+1)*4,none⟩ (ws.length-(b+1)) (wc-(b+1)) (wcells ((ws.drop (b+1)).take (ws.length-(b+1)))) rfl ?_ (part_cells hc8 (b+1) (ws.length-(b+1)) none _ rfl) (wcells_ones _) (by simp only[maxLen];omega) (by omega) hb8.size ?_
     ·rw[wcells_len,List.length_take,List.length_drop,Nat.min_eq_left (by omega)]
     intro v9 w9 hown9 hg9;have hb9:Below w6.drew.heap.size w6.drew w9:=grow_bel4 rfl hb8 hown8 hg9;rw[← wcells_app,List.append_assoc,List.take_of_length_le (l:=ws.drop (b+1)) (by rw[List.length_drop];exact Nat.le_refl _)] at hown9
     have hR:ws.take a++((ws.drop (a+1)).take (b-(a+1))++ws.drop (b+1))=lessL ws a b:=rfl;have hRl:(lessL ws a b).length+2=ws.length:=lessL_len ws m2 (by omega)
     rw[hR,show a+(b-(a+1))+(ws.length-(b+1))=(lessL ws a b).length by omega] at hown9
     obtain⟨RA,rc,rfl,hrc,hrm,hrs⟩:=own_shape hown9;refine hK _ _ (fun _=>trivial) ?_
     clear hK K hg9 hown8 hc8 hown9;simp only[Act.put,List.setIfInBounds_toArray,List.set_cons_zero,List.set_cons_succ];refine K_one (i:=16) (by kernel_rfl) (by simp only[List.getElem?_toArray,List.getElem?_cons_succ,List.getElem?_cons_zero];exact rfl) (fun K hK=>?_)
     go_simp
     refine hK _ _ (fun h=>absurd h (by decide)) ?_
     clear hK K;refine K_done (by kernel_rfl) ?_
     have HB9:Hid (Below w6.heap.size w6 w9):=hid ⟨hb9.os,hb9.tape,hb9.output,hb9.size,hb9.block⟩;have HT9:=hid (HTW.out.below HB9.out);have Z9:=hid (ZW.out.below HB9.out ZW.out.lt);have HBA9:=hid (HBAW.out.below HB9.out);have HBB9:=hid (HBW.out.trans (HB9.out.mono HBW.out.size));have HRS:=hid hrs;have HRL:=hid hRl;have HRC:=hid (And.intro hrc hrm);clear hb7 hb8 hb9 hrs hrc hrm hR hRl HC HCS hBl;go_wp2_with fail
     have hlm:((lessL ws a b).map wi).length=(lessL ws a b).length:=List.length_map ..;have hj:=join_any RA rc ((lessL ws a b).map wi) w9 (ISeq.of_w HRS.out) (by rw[hlm];have:=HRL.out;omega) (by
      intro y hy;obtain⟨z,hz,rfl⟩:=List.mem_map.1 hy;exact HF.out.small z (lessL_mem hz))
     rw[hlm] at hj;refine hj.mono ?_;rintro r w10 ⟨rfl,hb10⟩;have HBB10:=hid (HBB9.out.trans (hb10.mono HBB9.out.size));have HT10:=hid (HT9.out.below hb10);have Z10:=hid (Z9.out.below hb10 Z9.out.lt);have HBA10:=hid (HBA9.out.below hb10);have m45:=HM5.out;generalize hJ:(⟨(joinL ((lessL ws a b).map wi)).toArray⟩:ByteArray)=J at m45 ⊢;have HJ:=hid m45;clear hb10 hj hlm hJ m45 HM5;go_wp2_with fail
     refine(parse_R4 J w10 HT10.out.ky (by have:=HJ.out.1;simp only[maxLen];omega)).mono ?_
     rintro r w11 ⟨⟨mk,er,at_,B1,B2,B3,B4,n1,n2,n3,n4,rfl,HMK,HRS',HAT⟩,hb11⟩;have HBB11:=hid (HBB10.out.trans (hb11.mono HBB10.out.size));have HT11:=hid (HT10.out.below hb11);have Z11:=hid (Z10.out.below hb11 Z10.out.lt);have HBA11:=hid (HBA10.out.below hb11);have hpl:parseL J=parseS J:=by unfold parseL;rw[if_pos HJ.out.1]
     rw[hpl] at HRS';clear hb11 HAT hpl
     go_upto_region 23 with(fail)
     have b12:=(Below.refl w11.heap.size w11).alloc (Nat.le_refl _) (.cells #[.string mk.nm,.slice B1 mk.imports.length n1,.slice B2 mk.types.length n2,.slice B3 mk.fns.length n3,.slice B4 mk.nodes.length n4] 27);have z12:=Blk.new w11 27 #[.string mk.nm,.slice B1 mk.imports.length n1,.slice B2 mk.types.length n2,.slice B3 mk.fns.length n3,.slice B4 mk.nodes.length n4];generalize hw12:w11.alloc (.cells #[.string mk.nm,.slice B1 mk.imports.length n1,.slice B2 mk.types.length n2,.slice B3 mk.fns.length n3,.slice B4 mk.nodes.length n4] 27)=w12 at b12 z12 ⊢;obtain⟨kb,hkb⟩:∃ g,w11.heap.size=g:=⟨_,rfl⟩;rw[hkb] at z12 ⊢;have HBB12:=hid (HBB11.out.trans (b12.mono HBB11.out.size));have HT12:=hid (HT11.out.below b12);have HBA12:=hid (HBA11.out.below b12);have HMK12:=hid (HMK.out.below b12);have Z12:=hid (Z11.out.below b12 Z11.out.lt);have K12:=hid z12;clear hw12 b12 hkb z12 HMK;rcases hp2:parseS J with e2 | k2
     ·rw[hp2] at HRS';obtain⟨_,her⟩:=HRS'.out;have hne:=parse_nz HJ.out.1 hp2;have hne2:er≠0:=by rw[her];exact hne
      have heI:((er:Int) != 0)=true:=by simp;omega
      have heI2:((er:Int)==0)=false:=by rw[beq_eq_false_iff_ne];omega
      clear hp2 her hne hne2 HRS';go_wp2_with fail
      refine(works4_any w12 HT12.out.ky HT12.out.kw HT12.out.pw).mono ?_;rintro r w13 ⟨rfl,hb13⟩;have HB13:=hid (HBB12.out.trans (hb13.mono HBB12.out.size));clear hb13;go_wp2_with fail
      go_ret
      exact⟨rfl,HB13.out⟩
     ·rw[hp2] at HRS';obtain⟨hmk,rfl⟩:=HRS'.out;have hne:¬ mi=mk:=by rw[hmk,← HMI.out];exact fun h=>HJ.out.2 k2 hp2 h.symm
      have HNE:=hid hne;have s0:w12.cell? ⟨mb,0,none⟩=some (.string mi.nm):=Z12.out.cell 0;have s1:w12.cell? ⟨mb,1,none⟩=some (.slice A1 mi.imports.length c1):=Z12.out.cell 1;have s2:w12.cell? ⟨mb,2,none⟩=some (.slice A2 mi.types.length c2):=Z12.out.cell 2;have s3:w12.cell? ⟨mb,3,none⟩=some (.slice A3 mi.fns.length c3):=Z12.out.cell 3;have s4:w12.cell? ⟨mb,4,none⟩=some (.slice A4 mi.nodes.length c4):=Z12.out.cell 4;have k0:w12.cell? ⟨kb,0,none⟩=some (.string mk.nm):=K12.out.cell 0;have k1:w12.cell? ⟨kb,1,none⟩=some (.slice B1 mk.imports.length n1):=K12.out.cell 1;have k2':w12.cell? ⟨kb,2,none⟩=some (.slice B2 mk.types.length n2):=K12.out.cell 2;have k3:w12.cell? ⟨kb,3,none⟩=some (.slice B3 mk.fns.length n3):=K12.out.cell 3;have k4:w12.cell? ⟨kb,4,none⟩=some (.slice B4 mk.nodes.length n4):=K12.out.cell 4;clear hp2 hmk hne HRS';go_wp2_with fail
      refine(Same_any mi mk A1 A2 A3 A4 B1 B2 B3 B4 c1 c2 c3 c4 n1 n2 n3 n4 w12 HBA12.out.rd HMK12.out).mono ?_;rintro r w13 ⟨rfl,hb13⟩;rw[decide_eq_false HNE.out];have HB13:=hid (HBB12.out.trans (hb13.mono HBB12.out.size));have HT13:=hid (HT12.out.below hb13);clear hb13 s0 s1 s2 s3 s4 k0 k1 k2' k3 k4;go_wp2_with fail
      refine(works4_any w13 HT13.out.ky HT13.out.kw HT13.out.pw).mono ?_;rintro r w14 ⟨rfl,hb14⟩;have HB14:=hid (HB13.out.trans (hb14.mono HB13.out.size));clear hb14;go_wp2_with fail
      go_ret
      exact⟨rfl,HB14.out⟩
end
end Go.Proofs.YtmpaemchjehjbaaGreatDoor
