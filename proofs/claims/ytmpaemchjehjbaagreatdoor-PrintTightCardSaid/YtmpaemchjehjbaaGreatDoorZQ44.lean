/- Contracts and plain facts that the theorem rests on: PTight, PMatch. -/
import Derived.Test.YtmpaemchjehjbaaGreatDoorZQ33
import Derived.Test.YtmpaemchjehjbaaGreatDoorZQ43
set_option linter.unusedSimpArgs false
set_option linter.unusedVariables false
namespace Go.Proofs.YtmpaemchjehjbaaGreatDoor
section
open Go.RowKit
theorem nest_map:∀(l:List Wd) (d:Nat),nest d (l.map fun x=>tk x.kind x.text)=nest d l
 | [],_=>rfl
 | x::l,d=>by
  have h:=nest_map l;rw[List.map_cons,nest,nest];have e1:isO (tk x.kind x.text)=isO x:=rfl;have e2:isCl (tk x.kind x.text)=isCl x:=rfl;rw[e1,e2];split
  ·exact h _
  ·split
   ·cases d with
    | zero=>rfl
    | succ d=>exact h d
   ·exact h d
theorem laid_map (ps:List Pc):∀ k,(laidP k ps).map (fun x=>tk x.kind x.text)=(toks ps).map fun x=>tk x.kind x.text:=by
 induction ps with
 | nil=>intro k;rfl
 | cons p ps ih =>
  intro k;cases p with
  | g=>exact ih _
  | n=>exact ih _
  | t x=>show tk x.kind x.text::(laidP _ ps).map _=tk x.kind x.text::(toks ps).map _;rw[ih]
theorem laid_bal {ps:List Pc}(h:BalP ps)(k:Nat):Bal (laidP k ps):=fun d=>by
 rw[← nest_map,laid_map,nest_map];exact h d
theorem Trip.words {s:ByteArray}{m:Md}{t:ByteArray}{ps:List Pc}(h:Trip s m t ps):wordsS t=.ok (laidP 0 ps++[⟨7,⟨#[]⟩,0,t.size⟩]):=wordsS_flatP t [] ps rfl h.had.ok h.text
theorem Trip.good {s:ByteArray}{m:Md}{t:ByteArray}{ps:List Pc}(h:Trip s m t ps):∀ x∈laidP 0 ps,Good x:=by
 obtain⟨xs,e,hg⟩:=words_good _ _ _ _ (Nat.zero_le _) h.words;have e2:=(List.append_inj' e rfl).1;rw[e2];exact hg
theorem MdG.count {m k:Md}{ps qs:List Pc}(h:MdG m ps)(g:MdG k qs)(hm:OrdI m.toI)(he:k.toI=m.toI):(toks qs).length=(toks ps).length:=by
 have h1:=h.prn hm;have h2:=g.prn (by rw[he];exact hm)
 rw[he,h1] at h2;have w1:=wordsS_flatP ⟨(flatP ps []).toArray⟩ [] ps rfl h.ok rfl;have w2:=wordsS_flatP ⟨(flatP ps []).toArray⟩ [] qs rfl g.ok h2;rw[w1] at w2;injection w2 with w2
 have:=congrArg List.length w2;rw[List.length_append,List.length_append,laidP_len,laidP_len,List.length_singleton] at this;omega
theorem tight {s:ByteArray}{m:Md}{t:ByteArray}{ps:List Pc}(h:Trip s m t ps){xs:List Wd}(hg:∀ x∈xs,Good x)(hl:xs.length+2=(toks ps).length)(hz:(ba (joinL (xs.map wi))).size≤65536){k:Md}(hp:parseS (ba (joinL (xs.map wi)))=.ok k):k.toI≠m.toI:=by
 intro he;have hw:=words_join xs hg;unfold parseS at hp;rw[hw] at hp;obtain⟨qs,h1,h2⟩:=parse_few hz hw hp;rw[cutO_len,jp_len] at h2;have:=h.had.count h1 (ordS_ord h.ord) he;omega
end
section
open Lib (hid)
open Go.RowKit
theorem drop_at {l:List Wd}{i:Nat}{x:Wd}(h:l[i]? = some x):l.drop i=x::l.drop (i+1):=by
 obtain⟨hi,rfl⟩:=List.getElem?_eq_some_iff.1 h;exact(List.getElem_cons_drop hi).symm
theorem six_no {k:Nat}(h:¬ k=6):((k:Int)==6)=false:=by simp;omega
theorem isO_eq {x:Wd}(hk:x.kind=6)(ht:x.text=⟨#[40]⟩):isO x=true:=by unfold isO;simp[hk,ht]
theorem isO_not {x:Wd}(h:¬ x.kind=6∨¬ x.text=⟨#[40]⟩):isO x=false:=by unfold isO;rcases h with h | h<;>simp[h]
theorem isCl_eq {x:Wd}(hk:x.kind=6)(ht:x.text=⟨#[41]⟩):isCl x=true:=by unfold isCl;simp[hk,ht]
theorem isCl_not {x:Wd}(h:¬ x.kind=6∨¬ x.text=⟨#[41]⟩):isCl x=false:=by unfold isCl;rcases h with h | h<;>simp[h]
theorem mt_o {l:List Wd}{i d b:Nat}{x:Wd}(hx:l[i]? = some x)(ho:isO x=true)(h:mtF (l.drop i) i d=some b):mtF (l.drop (i+1)) (i+1) (d+1)=some b:=by
 rw[drop_at hx,mtF,ho,if_pos rfl] at h;exact h
theorem mt_n {l:List Wd}{i d b:Nat}{x:Wd}(hx:l[i]? = some x)(ho:isO x=false)(hc:isCl x=false)(h:mtF (l.drop i) i d=some b):mtF (l.drop (i+1)) (i+1) d=some b:=by
 rw[drop_at hx,mtF,ho,if_neg (by simp),hc,if_neg (by simp)] at h
 exact h
theorem mt_c1 {l:List Wd}{i b:Nat}{x:Wd}(hx:l[i]? = some x)(ho:isO x=false)(hc:isCl x=true)(h:mtF (l.drop i) i 1=some b):b=i:=by
 rw[drop_at hx,mtF,ho,if_neg (by simp),hc,if_pos rfl,if_pos rfl] at h
 injection h with h
 exact h.symm
theorem mt_c {l:List Wd}{i d b:Nat}{x:Wd}(hx:l[i]? = some x)(ho:isO x=false)(hc:isCl x=true)(hd:¬ d=1)(h:mtF (l.drop i) i d=some b):mtF (l.drop (i+1)) (i+1) (d-1)=some b:=by
 rw[drop_at hx,mtF,ho,if_neg (by simp),hc,if_pos rfl,if_neg hd] at h
 exact h
theorem mt_end {l:List Wd}{i d b:Nat}(hi:l.length≤i)(h:mtF (l.drop i) i d=some b):False:=by
 rw[List.drop_eq_nil_of_le hi] at h;cases h
set_option maxRecDepth 100000 in
set_option maxHeartbeats 4000000 in
theorem match_any (A:Option Addr)(c:Nat)(l:List Wd)(p b:Nat)(y:Wd)(w:World)(hl:l.length≤70000)(hs:WSeq w w.heap.size A l)(hy:l[p]? = some y)(ho:isO y=true)(hb:mtF (l.drop (p+1)) (p+1) 1=some b) :
  Calls Tryz.prog 30 #[.slice A l.length c,.int .i64 (p:Int)] w fun e w'=>e=.returned (.int .i64 (b:Int))∧w'=w:=by
 have HS:=hid hs;have h0:mtF (l.drop p) p 0=some b:=by
  rw[drop_at hy,mtF,ho,if_pos rfl];exact hb
 have H0:=hid h0;have HO:=hid (And.intro hy ho);clear hs hb h0 hy ho;go_enter Tryz.func30,Tryz.ntmps30
 go_wp2_with fail
 go_loop [5,6] (fun u5 u6=>∃ i d:Nat,u5=.int .i64 (d:Int)∧u6=.int .i64 (i:Int)∧d≤i∧Hid (mtF (l.drop i) i d=some b)∧Hid (0<d∨∃ x,l[i]? = some x∧isO x=true)) (fun _ u6=>match u6 with | .int _ m=>l.length-m.toNat | _=>0)
 case atStart=>exact⟨p,0,rfl,rfl,Nat.zero_le _,H0,hid (.inr ⟨y,HO.out.1,HO.out.2⟩)⟩
 case round =>
  obtain⟨i,d,rfl,rfl,hdi,HM,HD⟩:=hrel;by_cases hlt:i<l.length
  ·have hx:l[i]? = some l[i]:=List.getElem?_eq_getElem hlt;obtain⟨x,hxe⟩:∃ x,l[i]=x:=⟨_,rfl⟩;rw[hxe] at hx;obtain⟨B,o,rfl,hB,c0,c1,_,_⟩:=HS.out.at_ hx;have HX:=hid hx;clear hx hxe hB;by_cases hk:x.kind=6
   ·rw[hk] at c0;by_cases ht:x.text=⟨#[40]⟩
    ·have h1:=lit_is (l:=[40]) ht;have h2:=lit_no (l:=[41]) (show ¬ x.text=⟨[41].toArray⟩ by rw[ht];decide)
     have HM2:=hid (mt_o HX.out (isO_eq hk ht) HM.out);clear ht hk;go_wp2_with fail
     go_round
     case rel=>exact⟨i+1,d+1,by go_num,by go_num,by omega,HM2,hid (.inl (by omega))⟩
     case measure=>simp;omega
    ·have ho:=isO_not (x:=x) (.inr ht);have hd0:0<d:=by
      rcases HD.out with h | ⟨z,h1,h2⟩
      ·exact h
      ·rw[HX.out] at h1;injection h1 with h1;subst h1;rw[ho] at h2;cases h2
     have h1:=lit_no (l:=[40]) ht;by_cases ht2:x.text=⟨#[41]⟩
     ·have hc:=isCl_eq hk ht2;have h2:=lit_is (l:=[41]) ht2;by_cases hd1:d=1
      ·subst hd1;have hbi:=mt_c1 HX.out ho hc HM.out;subst hbi;clear ht ht2 hk ho hc hd0;go_wp2_with fail
       go_ret
       exact⟨rfl,rfl⟩
      ·have HM2:=hid (mt_c HX.out ho hc hd1 HM.out);have hz:((d:Int)-1==0)=false:=by simp;omega
       clear ht ht2 hk ho hc;go_wp2_with fail
       go_round
       case rel=>exact⟨i+1,d-1,by go_num,by go_num,by omega,HM2,hid (.inl (by omega))⟩
       case measure=>simp;omega
     ·have hc:=isCl_not (x:=x) (.inr ht2);have h2:=lit_no (l:=[41]) ht2;have HM2:=hid (mt_n HX.out ho hc HM.out);clear ht ht2 hk ho hc;go_wp2_with fail
      go_round
      case rel=>exact⟨i+1,d,rfl,by go_num,by omega,HM2,hid (.inl hd0)⟩
      case measure=>simp;omega
   ·have ho:=isO_not (x:=x) (.inl hk);have hc:=isCl_not (x:=x) (.inl hk);have hd0:0<d:=by
     rcases HD.out with h | ⟨z,h1,h2⟩
     ·exact h
     ·rw[HX.out] at h1;injection h1 with h1;subst h1;rw[ho] at h2;cases h2
    have h6:=six_no hk;have HM2:=hid (mt_n HX.out ho hc HM.out);clear hk ho hc;go_wp2_with fail
    go_round
    case rel=>exact⟨i+1,d,rfl,by go_num,by omega,HM2,hid (.inl hd0)⟩
    case measure=>simp;omega
  ·exact(mt_end (by omega) HM.out).elim
end
end Go.Proofs.YtmpaemchjehjbaaGreatDoor
