/- Contracts and plain facts that the theorem rests on: PPad. -/
import Derived.Test.YtmpaemchjehjbaaGreatDoorZQ24
set_option linter.unusedSimpArgs false
set_option linter.unusedVariables false
namespace Go.Proofs.YtmpaemchjehjbaaGreatDoor
section
open Go.RowKit
def padded4 (l:List Wd):ByteArray:=ba ([32,32,35,32,120,10]++joinL (l.map wi)++[10])
def pp4:List Wd→List (List UInt8 × Wd)
 | []=>[]
 | x::xs=>([32,32,35,32,120,10],x)::xs.map fun y=>([32],y)
theorem gapOk_note4:GapOk [32,32,35,32,120,10]:=fun r=>by
 have h:gap false (32::32::35::32::120::10::r)=1+(1+(1+(1+(1+(1+gap false r))))):=rfl
 show gap false (32::32::35::32::120::10::r)=6+gap false r
 omega
theorem padded4_words {s:ByteArray}{l:List Wd}(h:wordsS s=.ok l):∃ l',wordsS (padded4 l)=.ok l'∧EqW l l':=by
 obtain⟨xs,rfl,hg⟩:=words_good _ _ _ _ (Nat.zero_le _) h;have hj:(padded4 (xs++[⟨7,⟨#[]⟩,0,s.size⟩])).data.toList=[32,32,35,32,120,10]++flat (jp xs) []++[10]:=by
  unfold padded4;rw[join_end,join_flat xs hg,ba_data]
 have hrest:restOk ([10]:List UInt8):=by intro c t e;injection e with e _;exact .inr (.inl e.symm)
 cases xs with
 | nil =>
  have hw:=wordsS_flat (padded4 ([]++[⟨7,⟨#[]⟩,0,s.size⟩])) [32,32,35,32,120,10,10] [] (by decide) trivial (by rw[hj];rfl)
  refine⟨_,hw,⟨rfl,fun k=>?_⟩⟩
  cases k with
  | zero=>exact⟨rfl,rfl,rfl⟩
  | succ k=>exact⟨rfl,rfl,rfl⟩
 | cons x xs =>
  have hm:=psOk_more [10] hrest xs (fun y hy=>hg y (List.mem_cons_of_mem _ hy))
  have hw:=wordsS_flat (padded4 (x::xs++[⟨7,⟨#[]⟩,0,s.size⟩])) [10] (pp4 (x::xs)) (by decide) ⟨gapOk_note4,hg x List.mem_cons_self,hm.2,hm.1⟩ (by
   rw[hj,flat_fin (pp4 (x::xs))]
   rfl)
  refine⟨_,hw,?_⟩;have hlen:(pp4 (x::xs)).length=(x::xs).length:=by simp[pp4]
  have hcl:=laidAt_len (pp4 (x::xs)) 0;refine⟨by rw[List.length_append,List.length_append,hcl,hlen];rfl,fun k=>?_⟩
  rw[tok,tok,List.getD_eq_getElem?_getD,List.getD_eq_getElem?_getD];by_cases hk:k<(x::xs).length
  ·obtain⟨p,hp⟩:∃ p,(pp4 (x::xs))[k]? = some p:=⟨_,List.getElem?_eq_getElem (by rw[hlen];exact hk)⟩
   obtain⟨y,hy,h1,h2,h3⟩:=laidAt_at (pp4 (x::xs)) 0 k p hp;have hx:(x::xs)[k]? = some p.2:=by
    cases k with
    | zero=>simp[pp4] at hp;subst hp;rfl
    | succ k =>
     simp[pp4] at hp;obtain⟨z,hz,rfl⟩:=hp
     simpa using hz
   rw[List.getElem?_append_left hk,List.getElem?_append_left (List.getElem?_eq_some_iff.1 hy).1,hx,hy];exact⟨h1.symm,h2.symm,h3.symm⟩
  ·rw[List.getElem?_append_right (by omega),List.getElem?_append_right (by rw[hcl,hlen];omega),hcl,hlen]
   rcases hq:k-(x::xs).length with _ | q
   ·exact⟨rfl,rfl,rfl⟩
   ·exact⟨rfl,rfl,rfl⟩
theorem padded4_size {s:ByteArray}{l:List Wd}(h:wordsS s=.ok l):(padded4 l).size≤2*s.size+8∧l.length≤s.size+1∧∀ x∈l,x.text.size≤s.size:=by
 obtain⟨_,h2,_,h4⟩:=wordsF_ok _ _ _ _ h;refine⟨?_,h2,h4⟩;have hs:=words_sum _ _ _ _ (Nat.zero_le _) h;obtain⟨xs,rfl,hg⟩:=words_good _ _ _ _ (Nat.zero_le _) h;rw[tl_append] at hs;have h1:=jp_len2 xs;unfold padded4;rw[ba_size,join_end,join_flat xs hg,List.length_append,List.length_append]
 show 6+_+1≤_
 omega
theorem padded4_parse {s:ByteArray}{l:List Wd}(h:wordsS s=.ok l):ER (parseS s) (parseS (padded4 l)):=by
 obtain⟨l',h',hE⟩:=padded4_words h;rw[parseS,parseS,h,h'];exact module_sim hE
end
end Go.Proofs.YtmpaemchjehjbaaGreatDoor
