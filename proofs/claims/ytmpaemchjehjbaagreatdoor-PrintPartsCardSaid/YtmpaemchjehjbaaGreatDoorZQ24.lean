/- Contracts and plain facts that the theorem rests on: PBlank. -/
import Derived.Test.YtmpaemchjehjbaaGreatDoorZQ23
import Derived.Test.YtmpaemchjehjbaaGreatDoorZQ18
import Derived.Test.YtmpaemchjehjbaaGreatDoorZQ20
set_option linter.unusedSimpArgs false
set_option linter.unusedVariables false
namespace Go.Proofs.YtmpaemchjehjbaaGreatDoor
section
open Go.RowKit
theorem takeWhile_all (p:UInt8→Bool):∀(l:List UInt8),∀ c∈l.takeWhile p,p c=true
 | [],c,h=>by simp at h
 | x::l,c,h=>by
  rw[List.takeWhile_cons] at h;split at h
  ·rename_i hx;rcases List.mem_cons.1 h with rfl | h
   ·exact hx
   ·exact takeWhile_all p l c h
  ·simp at h
theorem take_takeWhile (p:UInt8→Bool):∀ l:List UInt8,l.take (l.takeWhile p).length=l.takeWhile p
 | []=>rfl
 | x::l=>by
  rw[List.takeWhile_cons];split
  ·rw[List.length_cons,List.take_succ_cons,take_takeWhile p l]
  ·rfl
theorem run_ext (s:ByteArray)(k:Nat):runL (s.extract k (stop runC s k)).data.toList:=by
 have h:(s.extract k (stop runC s k)).data.toList=(s.data.toList.drop k).takeWhile fun c=>runC c.toNat:=by
  rw[extract_list];have:stop runC s k-k=((s.data.toList.drop k).takeWhile fun c=>runC c.toNat).length:=by unfold stop;omega
  rw[this];exact take_takeWhile _ _
 rw[h];intro c hc;exact takeWhile_all (fun c=>runC c.toNat) _ c hc
theorem sg1_first {c:Nat}(h:sg1 c=true):runC c=false∧isC 39 c=false∧blankC c=false∧c≠35:=by
 simp only[sg1,Bool.or_eq_true,beq_iff_eq] at h;rcases h with(((((((((((h | h) | h) | h) | h) | h) | h) | h) | h) | h) | h) | h) | h<;>subst h<;>decide
theorem sg2_first {a b:UInt8}(h:sg2 [a,b]=true):sg1 a.toNat=true:=sg2_all h a (by simp)
theorem tok_good {s:ByteArray}{k kd n en:Nat}{t:ByteArray}(h:tokS s k=some (kd,t,n,en))(h7:kd≠7)(a:Nat):Good ⟨kd,t,n,a⟩:=by
 unfold tokS at h;split at h
 ·rename_i hk;split at h
  ·unfold tagS at h;split at h
   ·rename_i hn;simp at h;obtain⟨rfl,rfl,rfl,_⟩:=h;exact .inl ⟨rfl,hn,run_ext s (k+1),rfl⟩
   ·cases h
  ·rename_i h39;split at h
   ·rename_i hr;unfold runS at h;rw[Option.map_eq_some_iff] at h;obtain⟨⟨kd',n'⟩,hk1,h1⟩:=h;simp at h1;obtain⟨rfl,rfl,rfl,_⟩:=h1;have h4:kd'≠4:=by
     unfold kindS at hk1;split at hk1
     ·simp at hk1;omega
     ·split at hk1
      ·simp at hk1;omega
      ·split at hk1
       ·simp at hk1;omega
       ·simp at hk1;omega
    refine .inr (.inl ⟨h4,hk1,run_ext s k,?_⟩)
    show 0<(s.extract k (stop runC s k)).size
    have h1:=stop_yes runC s hk hr;have h2:=stop_ge runC s (k+1);have h3:=stop_le runC s (Nat.le_of_lt hk);rw[ByteArray.size_extract];omega
   ·rename_i hr;unfold signS at h;split at h
    ·cases h
    ·rename_i h0;simp at h;obtain⟨rfl,rfl,rfl,_⟩:=h;have hu:(s.extract k s.size).data.toList=s.data.toList.drop k:=by rw[extract_list,List.take_of_length_le (by rw[List.length_drop,size_list];exact Nat.le_refl _)]
     have hd:=drop_cons s hk;have hch:chr (s.extract k s.size) 0=s[k].toNat:=chr_of (t:=s.data.toList.drop (k+1)) (by rw[List.drop_zero,hu,hd])
     refine .inr (.inr ⟨rfl,rfl,?_⟩);intro r hrr;unfold signN at h0 ⊢;rw[hch,hu] at h0;rw[hch,hu];by_cases h2:sg2 ((s.data.toList.drop k).take 2)=true
     ·rw[if_pos h2];have hl:=sg2_len h2;have htl:(s.extract k (k+2)).data.toList=(s.data.toList.drop k).take 2:=by rw[extract_list];congr 1;omega
      have hsz:(s.extract k (k+2)).size=2:=by rw[← size_list,htl,hl]
      obtain⟨a1,b1,hab⟩:∃ a1 b1,(s.data.toList.drop k).take 2=[a1,b1]:=by
       match (s.data.toList.drop k).take 2,hl with
       | [a1,b1],_=>exact⟨a1,b1,rfl⟩
      have ht2:((⟨((s.extract k (k+2)).data.toList++r).toArray⟩:ByteArray).data.toList).take 2=[a1,b1]:=by
       show((s.extract k (k+2)).data.toList++r).take 2=_
       rw[htl,hab];rfl
      refine⟨?_,by rw[hsz];decide,?_⟩
      ·rw[ht2,← hab,if_pos h2,hsz]
      ·intro c t e;rw[htl,hab] at e;injection e with e _
       subst e;exact sg1_first (sg2_first (hab▸h2))
     ·rw[if_neg h2] at h0 ⊢;by_cases h1:sg1 s[k].toNat=true
      ·rw[if_pos h1];have htl:(s.extract k (k+1)).data.toList=[s[k]]:=by
        rw[extract_list,hd,show k+1-k=1 by omega];rfl
       have hsz:(s.extract k (k+1)).size=1:=by rw[← size_list,htl];rfl
       refine⟨?_,by rw[hsz];decide,?_⟩
       ·have hn2:¬ sg2 (((⟨((s.extract k (k+1)).data.toList++r).toArray⟩:ByteArray).data.toList).take 2)=true:=by
         show ¬ sg2 (((s.extract k (k+1)).data.toList++r).take 2)=true
         rw[htl];cases r with
         | nil=>intro e;have:=sg2_len e;simp at this
         | cons c r =>
          intro e;have h9:=sg2_all e c (by simp)
          rcases hrr c r rfl with rfl | rfl | rfl<;>exact absurd h9 (by decide)
        rw[if_neg hn2];have hc2:chr (⟨((s.extract k (k+1)).data.toList++r).toArray⟩:ByteArray) 0=s[k].toNat:=chr_of (t:=r) (by
         rw[List.drop_zero]
         show(s.extract k (k+1)).data.toList++r=_
         rw[htl];rfl)
        rw[hc2,if_pos h1,hsz]
       ·intro c t e;rw[htl] at e;injection e with e _
        subst e;exact sg1_first h1
      ·rw[if_neg h1] at h0;exact absurd rfl h0
 ·simp at h;obtain⟨rfl,_⟩:=h;exact absurd rfl h7
theorem words_good:∀(f:Nat) (s:ByteArray) (k:Nat) (l:List Wd),k≤s.size→wordsF f s k=.ok l→∃ xs,l=xs++[⟨7,⟨#[]⟩,0,s.size⟩]∧∀ x∈xs,Good x
 | 0,_,_,_,_,h=>by cases h
 | f+1,s,k,l,hk,h=>by
  have hJ:=gapE_le s hk;rw[wordsF] at h;rcases ht:tokS s (gapE s k) with _ | ⟨kd,t,n,en⟩
  ·rw[ht] at h;cases h
  ·rw[ht] at h;obtain⟨_,h2,_,h4⟩:=tokS_spel ht hJ;by_cases h7:kd=7
   ·simp only[h7,if_true] at h;injection h with h
    subst h;have hnn:¬ gapE s k<s.size:=by have:=(h2 h7).2;omega
    unfold tokS at ht;rw[if_neg hnn] at ht;simp at ht;obtain⟨_,rfl,rfl,_⟩:=ht;exact⟨[],by rw[(h2 h7).2];rfl,fun x hx=>by simp at hx⟩
   ·simp only[h7,if_false] at h;rcases hr:wordsF f s en with b | r
    ·rw[hr] at h;cases h
    ·rw[hr,consR] at h;injection h with h
     subst h;obtain⟨xs,rfl,hg⟩:=words_good f s en r h4 hr;refine⟨⟨kd,t,n,gapE s k⟩::xs,rfl,fun x hx=>?_⟩
     rcases List.mem_cons.1 hx with rfl | hx
     ·exact tok_good ht h7 _
     ·exact hg x hx
def tl (xs:List Wd):Nat:=(xs.map fun x=>(txt x).length+1).sum
theorem tl_cons (x:Wd)(xs:List Wd):tl (x::xs)=(txt x).length+1+tl xs:=by simp[tl]
theorem words_sum:∀(f:Nat) (s:ByteArray) (k:Nat) (l:List Wd),k≤s.size→wordsF f s k=.ok l→tl l≤2*(s.size-k)+1
 | 0,_,_,_,_,h=>by cases h
 | f+1,s,k,l,hk,h=>by
  have hJ:=gapE_le s hk;have hJ2:=gapE_ge s k;rw[wordsF] at h;rcases ht:tokS s (gapE s k) with _ | ⟨kd,t,n,en⟩
  ·rw[ht] at h;cases h
  ·rw[ht] at h;obtain⟨h1,h2,h3,h4⟩:=tokS_spel ht hJ;have hx:(txt ⟨kd,t,n,gapE s k⟩).length=en-gapE s k:=by
    rw[txt_len,h1,ByteArray.size_extract];omega
   by_cases h7:kd=7
   ·simp only[h7,if_true] at h;injection h with h
    subst h;have h9:=h2 h7;rw[h7] at hx;rw[tl_cons,hx]
    show _+0≤_
    omega
   ·simp only[h7,if_false] at h;have h9:=h3 h7;rcases hr:wordsF f s en with b | r
    ·rw[hr] at h;cases h
    ·rw[hr,consR] at h;injection h with h
     subst h;have:=words_sum f s en r h4 hr;rw[tl_cons,hx];omega
theorem flat_blank_len (xs:List Wd):(flat (xs.map fun y=>([32],y)) []).length=tl xs:=by
 induction xs with
 | nil=>rfl
 | cons x xs ih=>rw[List.map_cons,flat_cons,List.length_append,List.length_append,ih,tl_cons];show 1+((txt x).length+tl xs)=(txt x).length+1+tl xs;omega
theorem jp_len2 (xs:List Wd):(flat (jp xs) []).length≤tl xs:=by
 cases xs with
 | nil=>exact Nat.le_refl _
 | cons x xs =>
  show(flat (([],x)::xs.map fun y=>([32],y)) []).length≤_
  rw[flat_cons,List.length_append,List.length_append,flat_blank_len,tl_cons]
  show 0+((txt x).length+tl xs)≤(txt x).length+1+tl xs
  omega
theorem tl_append (xs ys:List Wd):tl (xs++ys)=tl xs+tl ys:=by simp[tl]
def pp:List Wd→List (List UInt8 × Wd)
 | []=>[]
 | x::xs=>([35,32,40,10],x)::xs.map fun y=>([32],y)
theorem join_end (xs:List Wd)(n:Nat):joinL ((xs++[(⟨7,⟨#[]⟩,0,n⟩:Wd)]).map wi)=joinL (xs.map wi):=by
 rw[joinL_T,joinL_T,List.map_append,List.map_append,joinT,List.foldl_append]
 rfl
theorem psOk_more (fin:List UInt8)(hf:restOk fin)(xs:List Wd)(hg:∀ x∈xs,Good x):PsOk fin (xs.map fun y=>([32],y))∧restOk (flat (xs.map fun y=>([32],y)) fin):=by
 induction xs with
 | nil=>exact⟨trivial,hf⟩
 | cons x xs ih =>
  obtain⟨h1,h2⟩:=ih fun y hy=>hg y (List.mem_cons_of_mem _ hy)
  refine⟨⟨gapOk_blank,hg x List.mem_cons_self,h2,h1⟩,?_⟩;intro c t e;rw[List.map_cons,flat_cons] at e;injection e with e1 _
  exact .inl e1.symm
theorem flat_fin (ps:List (List UInt8 × Wd))(fin:List UInt8):flat ps fin=flat ps []++fin:=by
 induction ps with
 | nil=>rfl
 | cons p ps ih=>rw[flat_cons,flat_cons,ih,List.append_assoc,List.append_assoc]
end
end Go.Proofs.YtmpaemchjehjbaaGreatDoor
