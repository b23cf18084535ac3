/- Contracts and plain facts that the theorem rests on: SFine, FPlain, FFndP, FMap, SRulP. -/
import Derived.Test.YtfigdflcoaepaaaGreatDoorZV19
import Derived.Test.YtfigdflcoaepaaaGreatDoorZV9
import Derived.Test.YtfigdflcoaepaaaGreatDoorZV5
import Derived.Test.YtfigdflcoaepaaaGreatDoorZV1
import Derived.Test.YtfigdflcoaepaaaGreatDoorZV6
set_option linter.unusedSimpArgs false
set_option linter.unusedVariables false
namespace Go.Proofs.YtfigdflcoaepaaaGreatDoor
section
open Go.RowKit
namespace SM
open CM (nd kids)
theorem takeS_some (g:List Gi):∀(l:List Int) (us u:List Bool),us.length=g.length→takeS g us l=some u →
  (∀ x∈l,exI g.length x=true∧(g.getD x.toNat ⟨0,0,⟨#[]⟩,[],[]⟩).kind≠8∧us.getD x.toNat false=false)∧(l.map Int.toNat).Nodup
 | [],_,_,_,_=>⟨by simp,by simp⟩
 | x::l,us,u,hl,h=>by
  unfold takeS at h;split at h
  ·rename_i hc;obtain⟨i1,i2⟩:=takeS_some g l _ u (by rw[List.length_set];exact hl) h
   have hx:=exI_iff.1 hc.1;have key:∀ y∈l,y.toNat≠x.toNat∧us.getD y.toNat false=false:=fun y hy=>by
    have h3:=(i1 y hy).2.2;rw[List.getD_eq_getElem?_getD,List.getElem?_set] at h3;by_cases e:x.toNat=y.toNat
    ·rw[if_pos e,if_pos (by omega)] at h3
     cases h3
    ·rw[if_neg e] at h3;exact⟨fun e'=>e e'.symm,by rw[List.getD_eq_getElem?_getD];exact h3⟩
   refine⟨fun y hy=>?_,?_⟩
   ·rcases List.mem_cons.1 hy with rfl | hy
    ·exact hc
    ·exact⟨(i1 y hy).1,(i1 y hy).2.1,(key y hy).2⟩
   ·rw[List.map_cons,List.nodup_cons];refine⟨fun hm=>?_,i2⟩
    obtain⟨y,hy,e⟩:=List.mem_map.1 hm;exact(key y hy).1 e
  ·cases h
theorem nameB_sz {s:ByteArray}(h:nameB s=true):s.size≤16∧s.size≠0:=by
 unfold nameB at h;rw[Bool.and_eq_true] at h;have h1:=h.1;unfold nkB wholeB at h1;rw[Bool.and_eq_true,Bool.and_eq_true,decide_eq_true_eq] at h1;refine⟨h1.1.1,fun e=>?_⟩
 have e0:s=⟨#[]⟩:=by
  obtain⟨⟨l⟩⟩:=s;have:l.length=0:=e;rw[List.length_eq_zero_iff.1 this]
 subst e0;have:smallC (chr ⟨#[]⟩ 0)=false:=by kernel_rfl
 rw[this] at h1;exact absurd h1.1.2 (by decide)
theorem rest_eq {x:Gi}(h:restG x=⟨x.kind,0,⟨#[]⟩,[],[]⟩):(x.kind≠5→x.nm=⟨#[]⟩)∧(x.kind≠7→x.keys=[])∧(x.kind≠7→x.kind≠8→x.kind≠9→x.l=[])∧(x.kind≠9→x.num=0):=by
 unfold restG at h;obtain⟨kind,num,nm,keys,l⟩:=x;simp only at h ⊢;by_cases h5:kind=5
 ·subst h5;rw[if_pos rfl] at h;simp at h;exact⟨fun e=>absurd rfl e,fun _=>h.2.1,fun _ _ _=>h.2.2,fun _=>h.1⟩
 ·rw[if_neg h5] at h;by_cases h7:kind=7
  ·subst h7;rw[if_pos rfl] at h;simp at h;exact⟨fun _=>h.2,fun e=>absurd rfl e,fun e=>absurd rfl e,fun _=>h.1⟩
  ·rw[if_neg h7] at h;by_cases h8:kind=8
   ·subst h8;rw[if_pos rfl] at h;simp at h;exact⟨fun _=>h.2.1,fun _=>h.2.2,fun _ e=>absurd rfl e,fun _=>h.1⟩
   ·rw[if_neg h8] at h;by_cases h9:kind=9
    ·subst h9;rw[if_pos rfl] at h;simp at h;exact⟨fun _=>h.1,fun _=>h.2,fun _ _ e=>absurd rfl e,fun e=>absurd rfl e⟩
    ·rw[if_neg h9] at h;simp at h;exact⟨fun _=>h.2.1,fun _=>h.2.2.1,fun _ _ _=>h.2.2.2,fun _=>h.1⟩
theorem keyAt_at {l:List ByteArray}(h:keysOk l=true){i:Nat}(hi:i<l.length):nameB (l.getD i ⟨#[]⟩)=true∧(0<i→Op.bytesLess (l.getD (i-1) ⟨#[]⟩).toList (l.getD i ⟨#[]⟩).toList=true):=by
 unfold keysOk at h;rw[Bool.and_eq_true,List.all_eq_true] at h;have:=h.2 i (List.mem_range.2 hi);unfold keyAt at this;rw[Bool.and_eq_true,Bool.or_eq_true] at this;refine⟨this.1,fun h0=>?_⟩
 rcases this.2 with e | e
 ·rw[beq_iff_eq] at e;omega
 ·exact e
theorem keys_less {l:List ByteArray}(h:keysOk l=true):∀(d i:Nat),i+d+1<l.length→Op.bytesLess (l.getD i ⟨#[]⟩).toList (l.getD (i+d+1) ⟨#[]⟩).toList=true
 | 0,i,hi=>(keyAt_at h hi).2 (by omega)
 | d+1,i,hi=>bytesLess_trans _ _ _ (keys_less h d i (by omega)) ((keyAt_at h (i:=i+(d+1)+1) hi).2 (by omega))
theorem fine_of {g:List Gi}(h:checkG g=0):Fine g:=by
 unfold checkG at h;by_cases hl:2000<g.length
 ·rw[if_pos hl] at h;cases h
 ·rw[if_neg hl] at h;by_cases hv:g.all (validG g)=true
  ·clear h;have hnd:∀ n,n<g.length→validG g (nd g n)=true:=fun n hn=>by
    refine List.all_eq_true.1 hv _ ?_;unfold CM.nd;rw[List.getD_eq_getElem?_getD,List.getElem?_eq_getElem hn];exact List.getElem_mem hn
   have hok:∀ n,n<g.length→okG g (nd g n)=true:=fun n hn=>by
    have:=hnd n hn;unfold validG at this;rw[Bool.and_eq_true] at this;exact this.1
   have hre:∀ n,n<g.length→restG (nd g n)=⟨(nd g n).kind,0,⟨#[]⟩,[],[]⟩:=fun n hn=>by
    have:=hnd n hn;unfold validG at this;rw[Bool.and_eq_true,decide_eq_true_eq] at this;exact this.2
   have k7:∀ n,n<g.length→(nd g n).kind=7→keysOk (nd g n).keys=true∧(nd g n).l.length=(nd g n).keys.length∧(nd g n).l.all (exI g.length)=true:=fun n hn e=>by
    have:=hok n hn;unfold okG at this;rw[if_neg (by omega),if_neg (by omega),if_pos e,Bool.and_eq_true,Bool.and_eq_true,decide_eq_true_eq] at this
    exact⟨this.1.1,this.1.2,this.2⟩
   have k8:∀ n,n<g.length→(nd g n).kind=8→((∀ x∈(nd g n).l,exI g.length x=true∧(g.getD x.toNat ⟨0,0,⟨#[]⟩,[],[]⟩).kind≠8)∧((nd g n).l.map Int.toNat).Nodup)∧2≤(nd g n).l.length:=fun n hn e=>by
    have:=hok n hn;unfold okG at this;rw[if_neg (by omega),if_neg (by omega),if_neg (by omega),if_pos e] at this
    unfold membOk at this;rw[Bool.and_eq_true,decide_eq_true_eq,Option.isSome_iff_exists] at this;obtain⟨⟨u,hu⟩,h2⟩:=this;obtain⟨i1,i2⟩:=takeS_some g _ _ u (by rw[List.length_replicate]) hu
    exact⟨⟨fun x hx=>⟨(i1 x hx).1,(i1 x hx).2.1⟩,i2⟩,h2⟩
   have k9:∀ n,n<g.length→(nd g n).kind=9→(nd g n).l.length=1∧(nd g n).l.all (exI g.length)=true:=fun n hn e=>by
    have:=hok n hn;unfold okG at this;rw[if_neg (by omega),if_neg (by omega),if_neg (by omega),if_neg (by omega),if_pos e,Bool.and_eq_true,Bool.and_eq_true,decide_eq_true_eq,decide_eq_true_eq] at this
    exact⟨this.1.2,this.2⟩
   have hkinds:∀ n,n<g.length→1≤(nd g n).kind∧(nd g n).kind≤9∧(nd g n).kind≠6:=fun n hn=>by
    have:=hok n hn;unfold okG at this;split at this
    ·omega
    ·split at this
     ·omega
     ·split at this
      ·omega
      ·split at this
       ·omega
       ·split at this
        ·omega
        ·cases this
   have hbare:∀ n,n<g.length→(nd g n).kind≤5→(nd g n).l=[]:=fun n hn h5=>(rest_eq (hre n hn)).2.2.1 (by omega) (by omega) (by omega)
   have hin:∀ n,n<g.length→∀ x∈(nd g n).l,exI g.length x=true:=fun n hn x hx=>by
    by_cases h7:(nd g n).kind=7
    ·exact List.all_eq_true.1 (k7 n hn h7).2.2 x hx
    ·by_cases h8:(nd g n).kind=8
     ·exact((k8 n hn h8).1.1 x hx).1
     ·by_cases h9:(nd g n).kind=9
      ·exact List.all_eq_true.1 (k9 n hn h9).2 x hx
      ·rw[(rest_eq (hre n hn)).2.2.1 h7 h8 h9] at hx;cases hx
   have hkeys:∀ n,n<g.length→(nd g n).kind=7→∀ k∈(nd g n).keys,k.size≤16∧k.size≠0:=fun n hn h7 k hk=>by
    obtain⟨i,hi⟩:=List.getElem?_of_mem hk;have:=(keyAt_at (k7 n hn h7).1 (List.getElem?_eq_some_iff.1 hi).1).1;rw[List.getD_eq_getElem?_getD,hi] at this;exact nameB_sz this
   refine⟨by omega,hkinds,fun n hn h8=>⟨(k8 n hn h8).1.2,by rw[kids_len];exact(k8 n hn h8).2,fun c hc=>?_⟩,fun n hn h9=>by rw[kids_len];exact(k9 n hn h9).1,
    fun n hn h7=>⟨(k7 n hn h7).2.1.symm,?_⟩,fun n hn h7 i j hij hj=>?_,fun n hn h7 k hk=>(hkeys n hn h7 k hk).2,fun n hn h7=>(rest_eq (hre n hn)).2.1 h7,fun n hn k hk=>?_,fun n hn c hc=>?_,fun n hn y hy=>(exI_iff.1 (hin n hn y hy)).1,hbare,fun n hn h5=>(rest_eq (hre n hn)).1 h5,fun n hn h9=>(rest_eq (hre n hn)).2.2.2 h9⟩
   ·obtain⟨x,hx,rfl⟩:=List.mem_map.1 hc;exact((k8 n hn h8).1.1 x hx).2
   ·have:=(k7 n hn h7).1;unfold keysOk at this;rw[Bool.and_eq_true,decide_eq_true_eq] at this;exact this.1
   ·obtain⟨d,rfl⟩:∃ d,j=i+d+1:=⟨j-i-1,by omega⟩
    exact keys_less (k7 n hn h7).1 d i hj
   ·by_cases h7:(nd g n).kind=7
    ·exact(hkeys n hn h7 k hk).1
    ·rw[(rest_eq (hre n hn)).2.1 h7] at hk;cases hk
   ·obtain⟨x,hx,rfl⟩:=List.mem_map.1 hc;have:=exI_iff.1 (hin n hn x hx);omega
  ·rw[if_neg hv] at h;cases h
end SM
end
section
open Go.RowKit
namespace FM
open CM (nd kids)
open SM
structure Fc where
 a:Int
 b:Int
 why:List Int
deriving DecidableEq
structure Fm where
 first:Nat
 count:Nat
 other:Int
 fits:Bool
deriving DecidableEq
def zFm:Fm:=⟨0,0,0,false⟩
def mbI (g:List Gi)(n:Int):List Int:=if (nd g n.toNat).kind=8 then(nd g n.toNat).l else [n]
def fmM (a t:Gi)(other:Int):Fm:=
 if a.kind=7∧t.kind=7 then⟨1,t.keys.length,other,true⟩
 else if a.kind=9∧t.kind=9 then⟨1,1,other,decide (a.num=t.num)⟩
 else⟨1,0,other,decide (a.kind=1) ||(decide (t.kind=1) ||(decide (a.kind=t.kind)&&decide (a.nm=t.nm)))⟩
def fmU (g:List Gi)(f:Fc):Fm:=⟨0,(nd g f.a.toNat).l.length,-1,true⟩
def fmB:Fm:=⟨1,1,-1,true⟩
def isB (g:List Gi)(f:Fc):Bool:=decide ((nd g f.a.toNat).kind=9)&&(decide (0<f.why.length)&&decide (f.why.getD 0 0 = -1))
def okM (g:List Gi)(f:Fc):Bool:=decide (0<f.why.length)&&(decide (0≤f.why.getD 0 0)&&decide (f.why.getD 0 0<(mbI g f.b).length))
def tM (g:List Gi)(f:Fc):Int:=(mbI g f.b).getD (f.why.getD 0 0).toNat 0
def ofM (g:List Gi)(f:Fc):Fm:=if okM g f=true then fmM (nd g f.a.toNat) (nd g (tM g f).toNat) (tM g f) else zFm
def formP (g:List Gi)(f:Fc):Fm:=if (nd g f.a.toNat).kind=8 then fmU g f else if isB g f=true then fmB else ofM g f
def okP (g:List Gi)(f:Fc):Bool:=decide ((nd g f.a.toNat).kind=8) ||(isB g f || okM g f)
def keyIx (l:List ByteArray)(k:ByteArray):Nat:=l.findIdx (fun x=>decide (x=k))
def partP (g : List Gi) (f : Fc) (x : Fm) (i : Nat) : Int × Int :=
  if x.other = -1 then ((nd g f.a.toNat).l.getD i 0, f.b)
  else if (nd g x.other.toNat).kind = 7 then
    (let at_ := keyIx (nd g f.a.toNat).keys ((nd g x.other.toNat).keys.getD i ⟨#[]⟩)
     if at_ < (nd g f.a.toNat).keys.length then ((nd g f.a.toNat).l.getD at_ 0, (nd g x.other.toNat).l.getD i 0) else (-1, -1))
  else ((nd g f.a.toNat).l.getD i 0, (nd g x.other.toNat).l.getD i 0)
def numOk (many:Nat)(k:Int):Bool:=decide (0≤k)&&decide (k<(many:Int))
def wfF (g:List Gi)(many:Nat)(f:Fc):Bool:=
 (exI g.length f.a&&exI g.length f.b)&&(okP g f&&(decide (f.why.length=(formP g f).first+(formP g f).count)&&(f.why.drop (formP g f).first).all (numOk many)))
def checkF (g:List Gi)(l:List Fc):Nat:=if checkG g≠0 then checkG g else if 8000<l.length then 5 else if l.all (wfF g l.length)=true then 0 else 2
def nF (l:List Fc)(k:Int):Fc:=l.getD k.toNat ⟨0,0,[]⟩
def onF (g:List Gi)(f:Fc):List Int:=f.why.drop (formP g f).first
def holdsF (g:List Gi)(l:List Fc)(f:Fc):Bool:=
 (formP g f).fits&&(List.range (onF g f).length).all fun i=>decide (partP g f (formP g f) i=((nF l ((onF g f).getD i 0)).a,(nF l ((onF g f).getD i 0)).b))
def firstF (g:List Gi)(l:List Fc):Int:=match l.findIdx? (fun f => !holdsF g l f) with | some k=>k | none => -1
def castF (g:List Gi)(f:Fc):Bool:=decide ((nd g f.a.toNat).kind=1) && !((mbI g f.b).any fun n=>decide ((nd g n.toNat).kind=1))
inductive ReachF (g:List Gi)(l:List Fc)(k:Nat):Nat→Prop
 | refl:ReachF g l k k
 | step {i:Nat} {j:Int}:ReachF g l k i→j∈onF g (l.getD i ⟨0,0,[]⟩)→ReachF g l k j.toNat
def CastsF (g:List Gi)(l:List Fc)(k:Nat):Prop:=∃ i,ReachF g l k i∧castF g (l.getD i ⟨0,0,[]⟩)=true
section
variable {g : List Gi} {l : List Fc} {f : Fc}
theorem first_le (g:List Gi)(f:Fc):(formP g f).first≤1:=by
 unfold formP;split
 ·exact Nat.zero_le _
 ·split
  ·exact Nat.le_refl _
  ·unfold ofM;split
   ·unfold fmM;split
    ·exact Nat.le_refl _
    ·split<;>exact Nat.le_refl _
   ·exact Nat.zero_le _
theorem wf_iff {many:Nat}:wfF g many f=true↔exI g.length f.a=true∧exI g.length f.b=true∧okP g f=true∧f.why.length=(formP g f).first+(formP g f).count∧∀ k∈onF g f,0≤k∧k<(many:Int):=by
 unfold wfF onF;simp only[Bool.and_eq_true,decide_eq_true_eq,List.all_eq_true,numOk];constructor
 ·rintro ⟨⟨h1,h2⟩,h3,h4,h5⟩;exact⟨h1,h2,h3,h4,h5⟩
 ·rintro ⟨h1,h2,h3,h4,h5⟩;exact⟨⟨h1,h2⟩,h3,h4,h5⟩
theorem holds_iff:holdsF g l f=true↔(formP g f).fits=true∧∀ i,i<(onF g f).length→partP g f (formP g f) i=((nF l ((onF g f).getD i 0)).a,(nF l ((onF g f).getD i 0)).b):=by
 unfold holdsF;simp only[Bool.and_eq_true,List.all_eq_true,List.mem_range,decide_eq_true_eq]
theorem mbI_nat (hf:Fine g){n:Nat}(hn:n<g.length){i:Nat}(hi:i<(mbI g n).length):((mbI g (n:Int)).getD i 0).toNat∈mem g n∧0≤(mbI g (n:Int)).getD i 0∧((mbI g (n:Int)).getD i 0).toNat<g.length:=by
 have key:((mbI g (n:Int)).getD i 0).toNat∈mem g n∧0≤(mbI g (n:Int)).getD i 0:=by
  unfold mbI mem at *;rw[Int.toNat_natCast] at *;by_cases h8:(nd g n).kind=8
  ·rw[if_pos h8] at hi ⊢;rw[if_pos h8];rw[List.getD_eq_getElem?_getD,List.getElem?_eq_getElem hi];have hm:=List.getElem_mem hi;exact⟨List.mem_map.2 ⟨_,hm,rfl⟩,hf.kidI n hn _ hm⟩
  ·rw[if_neg h8] at hi ⊢;rw[if_neg h8];have:i=0:=by simpa using hi
   subst this;simp
 exact⟨key.1,key.2,hf.mem_lt hn key.1⟩
end
end FM
end
section
open Go.RowKit
namespace FM
open CM (nd kids)
open SM
noncomputable def grU (g:List Gi)(a b:Nat):Bool := @decide (a<g.length∧b<g.length∧Gr g false a b) (Classical.propDecidable _)
theorem grU_iff {g:List Gi}{a b:Nat}:grU g a b=true↔a<g.length∧b<g.length∧Gr g false a b:=by unfold grU;exact @decide_eq_true_iff _ (Classical.propDecidable _)
def upP (u:Nat→Nat→Bool)(p:Int × Int):Bool:=decide (0≤p.1)&&u p.1.toNat p.2.toNat
def coversN (g:List Gi)(u:Nat→Nat→Bool)(f:Fc):Bool:=((List.range (formP g f).count).all fun i=>upP u (partP g f (formP g f) i))&&(formP g f).fits
def pickN (g:List Gi)(u:Nat→Nat→Bool)(a b:Int):Nat→Nat→Int
 | _,0 => -1
 | k,n+1=>if coversN g u ⟨a,b,[(k:Int)]⟩=true then(k:Int) else pickN g u a b (k+1) n
def reasonN (g:List Gi)(u:Nat→Nat→Bool)(a b:Int):List Int:=if (nd g a.toNat).kind=8 then [] else [pickN g u a b 0 (mbI g b).length]
def atN (l:List Fc)(p:Int × Int):Option Nat:=l.findIdx? fun f=>decide (f.a=p.1)&&decide (f.b=p.2)
def pushW (l:List Fc)(k:Nat)(j:Int):List Fc:=l.modify k fun f=>⟨f.a,f.b,f.why++[j]⟩
def partsN (g:List Gi)(find:List Fc→Int × Int→Nat × List Fc)(f:Fc)(k:Nat):Nat→Nat→List Fc→List Fc
 | _,0,l=>l
 | i,n+1,l=>if 8000<l.length then l else partsN g find f k (i+1) n (pushW (find l (partP g f (formP g f) i)).2 k ((find l (partP g f (formP g f) i)).1:Int))
def newF (g:List Gi)(u:Nat→Nat→Bool)(p:Int × Int):Fc:=⟨p.1,p.2,reasonN g u p.1 p.2⟩
def findN (g:List Gi)(u:Nat→Nat→Bool):Nat→List Fc→Int × Int→Nat × List Fc
 | 0,l,_=>(0,l)
 | n+1,l,p=>match atN l p with
  | some k=>(k,l)
  | none=>(l.length,partsN g (findN g u n) (newF g u p) l.length 0 (formP g (newF g u p)).count (l++[newF g u p]))
def findsN (g:List Gi)(u:Nat→Nat→Bool):List (Int × Int)→List Fc→Option (List Nat × List Fc)
 | [],l=>some ([],l)
 | p::ps,l=>if 8000<(findN g u 8002 l p).2.length then none else match findsN g u ps (findN g u 8002 l p).2 with
  | some (a,l')=>some ((findN g u 8002 l p).1::a,l')
  | none=>none
end FM
end
section
open Go.RowKit
open Go.ChangeMaps (setBlock)
namespace FM
open CM (nd kids)
open SM
set_option maxRecDepth 1000000 in
theorem rowP:(85:TypeId)<Tryz.prog.types.size:=of_decide_eq_true (by kernel_rfl)
theorem wideP:(match Tryz.prog.underlying 85 with | some (.array _ _) | some (.struct _)=>true | _=>false)=true:=by rw[Tryz.underlying85]
set_option maxRecDepth 1000000 in
theorem lawP:Go.WideMaps.KeyLaw Tryz.prog 85:=deep_law_laid laidB (m:=2) (by omega) rowP (by kernel_rfl) wideP
def SmP (p:Int × Int):Prop:=(0≤p.1∧p.1<4000)∧0≤p.2∧p.2<4000
def kF (p:Int × Int):Value:=.agg #[.int .i64 p.1,.int .i64 p.2]
theorem kF_inj {p q:Int × Int}(h:kF p=kF q):p=q:=by
 unfold kF at h;simp at h;exact Prod.ext h.1 h.2
set_option maxRecDepth 1000000 in
theorem keyP {p:Int × Int}(h:SmP p):keyOf Tryz.prog 85 (kF p)=some (.string (keyBytes [.int .i64 p.1,.int .i64 p.2])):=by
 obtain⟨⟨a0,a1⟩,c0,c1⟩:=h;obtain⟨a,c⟩:=p;simp only at a0 a1 c0 c1;have wa:(Lit.int .i64 a).wf=true:=by simp[Lit.wf,IntKind.min,IntKind.max,IntKind.signed,IntKind.bits];omega
 have wc:(Lit.int .i64 c).wf=true:=by simp[Lit.wf,IntKind.min,IntKind.max,IntKind.signed,IntKind.bits];omega
 have hk:Tryz.prog.keyType 85=true:=by kernel_rfl
 have h2:Tryz.prog.cellsOf 85=2:=by kernel_rfl
 have h1:Tryz.prog.cellsOf 3=1:=by kernel_rfl
 obtain⟨m,hm⟩:=typesB;have hf:(Value.agg #[.int .i64 a,.int .i64 c]).formed Tryz.prog 85=true:=by simp[Value.formed,Tryz.underlying85,h2]
 unfold kF keyOf;rw[Tryz.underlying85];simp only[];rw[if_pos (by rw[hk,hf];rfl),hm]
 have hi:∀(d:Nat) (z:Int),(Lit.int .i64 z).wf=true→Tryz.prog.keyLits (d+1) 3 [.int .i64 z]=some [.int .i64 z]:=fun d z hz=>by
  unfold Program.keyLits;rw[Tryz.underlying3];simp[hz]
 unfold Program.keyLits;rw[Tryz.underlying85];simp[Value.cells,h2,h1,hi _ _ wa,hi _ _ wc]
def atQ (l:List (Int × Int))(p:Int × Int):Option Nat:=l.findIdx? fun q=>decide (q.1=p.1)&&decide (q.2=p.2)
def endsF (f:Fc):Int × Int:=(f.a,f.b)
theorem atN_q (l:List Fc)(p:Int × Int):atN l p=atQ (l.map endsF) p:=by
 unfold atN atQ;rw[List.findIdx?_map]
 rfl
theorem atQ_none {l:List (Int × Int)}{p:Int × Int}:atQ l p=none↔p ∉ l:=by
 unfold atQ;rw[List.findIdx?_eq_none_iff];constructor
 ·intro h hm;have:=h p hm;simp at this
 ·intro h q hq;cases hb:(decide (q.1=p.1)&&decide (q.2=p.2)) with
  | false=>rfl
  | true =>
   rw[Bool.and_eq_true,decide_eq_true_eq,decide_eq_true_eq] at hb;exact absurd (Prod.ext hb.1 hb.2▸hq) h
theorem atQ_some {l:List (Int × Int)}(hd:l.Nodup){p:Int × Int}{k:Nat}(h:l[k]? = some p):atQ l p=some k:=by
 unfold atQ;refine List.findIdx?_eq_some_iff_getElem.2 ⟨(List.getElem?_eq_some_iff.1 h).1,?_,fun j hj=>?_⟩
 ·rw[(List.getElem?_eq_some_iff.1 h).2];simp
 ·have hk:=(List.getElem?_eq_some_iff.1 h).1;have hne:=List.pairwise_iff_getElem.1 hd j k (by omega) hk hj
  rw[(List.getElem?_eq_some_iff.1 h).2] at hne;generalize l[j]=q at hne;intro hb;rw[Bool.and_eq_true,decide_eq_true_eq,decide_eq_true_eq] at hb;exact hne (Prod.ext hb.1 hb.2)
structure EntF (es:Array MapEntry)(qs:List (Int × Int)):Prop where
 nodup:qs.Nodup
 small:∀ q∈qs,SmP q
 len:es.toList.length=qs.length
 at_:∀(i:Nat) q,qs[i]? = some q→∃ e,es.toList[i]? = some e∧e.key=kF q∧e.val=.int .i64 (i:Int)
theorem EntF.get {es:Array MapEntry}{qs:List (Int × Int)}(h:EntF es qs){i:Nat}{e:MapEntry}(he:es.toList[i]? = some e):∃ q,qs[i]? = some q∧e.key=kF q∧e.val=.int .i64 (i:Int):=by
 have hi:=(List.getElem?_eq_some_iff.1 he).1;have hq:=List.getElem?_eq_getElem (l:=qs) (i:=i) (by rw[← h.len];exact hi)
 obtain⟨e',h1,h2,h3⟩:=h.at_ i _ hq;rw[he] at h1;injection h1 with h1
 subst h1;exact⟨_,hq,h2,h3⟩
theorem EntF.key {es:Array MapEntry}{qs:List (Int × Int)}(h:EntF es qs):∀ e∈es.toList,∃ l,keyOf Tryz.prog 85 e.key=some l:=fun e he=>by
 obtain⟨i,hi⟩:=List.getElem?_of_mem he;obtain⟨q,hq,hk,-⟩:=h.get hi;exact⟨_,by rw[hk];exact keyP (h.small q (List.mem_of_getElem? hq))⟩
theorem EntF.find {es:Array MapEntry}{qs:List (Int × Int)}(h:EntF es qs)(w:World){p:Int × Int}(hp:SmP p) :
  ((Instr.findKey 85 (kF p) es.toList).run Tryz.prog w=.ok none w∧p ∉ qs)∨∃ j:Nat,(Instr.findKey 85 (kF p) es.toList).run Tryz.prog w=.ok (some (j,.int .i64 (j:Int))) w∧qs[j]? = some p:=by
 rcases lawP.find w (keyP hp) es.toList h.key with⟨h1,h2⟩ | ⟨j,e,h1,h2,h3⟩
 ·refine .inl ⟨h1,fun hm=>?_⟩
  obtain⟨i,hi⟩:=List.getElem?_of_mem hm;obtain⟨e,he,hk,-⟩:=h.at_ i p hi;exact h2 e (List.mem_of_getElem? he) hk
 ·obtain⟨q,hq,hk,hv⟩:=h.get h2;have e':=kF_inj (hk.symm.trans h3);subst e';exact .inr ⟨j,by rw[← hv];exact h1,hq⟩
theorem zeroP (w:World):(zeroValue 3).run Tryz.prog w=.ok (.int .i64 0) w:=by kernel_rfl
theorem lookP_none {w:World}{b:Nat}{es:Array MapEntry}{clock:Nat}{qs:List (Int × Int)}(hb:w.heap[b]? = some (.map es clock))(h:EntF es qs){p:Int × Int}(hp:SmP p)(hn:p ∉ qs) :
  (Instr.lookup 80 (.map (some b)) (kF p) true).run Tryz.prog w=.ok (.tuple #[.int .i64 0,.bool false]) w:=by
 have hck:=lawP.check w es.isEmpty (keyP hp)
 change (Instr.checkKey es.isEmpty 10000 85 (kF p)).run Tryz.prog w=_ at hck
 rcases h.find w hp with⟨h1,_⟩ | ⟨j,_,h2⟩
 ·simp[Instr.lookup,run_underlying Tryz.underlying80,MapKept.run_getObj_map hb,hck,h1,zeroP,Result.andThen]
 ·exact absurd (List.mem_of_getElem? h2) hn
theorem lookP_some {w:World}{b:Nat}{es:Array MapEntry}{clock:Nat}{qs:List (Int × Int)}(hb:w.heap[b]? = some (.map es clock))(h:EntF es qs){p:Int × Int}(hp:SmP p){k:Nat}(hk:qs[k]? = some p) :
  (Instr.lookup 80 (.map (some b)) (kF p) true).run Tryz.prog w=.ok (.tuple #[.int .i64 (k:Int),.bool true]) w:=by
 have hck:=lawP.check w es.isEmpty (keyP hp)
 change (Instr.checkKey es.isEmpty 10000 85 (kF p)).run Tryz.prog w=_ at hck
 rcases h.find w hp with⟨_,hn⟩ | ⟨j,h1,h2⟩
 ·exact absurd (List.mem_of_getElem? hk) hn
 ·have e:j=k:=Option.some.inj ((atQ_some h.nodup h2).symm.trans (atQ_some h.nodup hk));subst e;simp[Instr.lookup,run_underlying Tryz.underlying80,MapKept.run_getObj_map hb,hck,h1,Result.andThen]
theorem EntF.push {es:Array MapEntry}{qs:List (Int × Int)}(h:EntF es qs){p:Int × Int}(hp:SmP p)(hn:p ∉ qs)(clock:Nat):EntF (es.push ⟨kF p,.int .i64 (qs.length:Int),clock⟩) (qs++[p]):=by
 refine⟨?_,fun q hq=>?_,by simp[← h.len],fun i q hq=>?_⟩
 ·rw[List.nodup_append];exact⟨h.nodup,by simp,fun a ha b hb=>by rw[List.mem_singleton] at hb;subst hb;rintro rfl;exact hn ha⟩
 ·rcases List.mem_append.1 hq with hq | hq
  ·exact h.small q hq
  ·rw[List.mem_singleton] at hq;rw[hq];exact hp
 ·rw[Array.toList_push];by_cases hi:i<qs.length
  ·rw[List.getElem?_append_left hi] at hq;obtain⟨e,he,hx⟩:=h.at_ i q hq;exact⟨e,by rw[List.getElem?_append_left (by rw[h.len];exact hi)];exact he,hx⟩
  ·have h1:=(List.getElem?_eq_some_iff.1 hq).1;rw[List.length_append,List.length_singleton] at h1;have e:i=qs.length:=by omega
   subst e;rw[List.getElem?_append_right (Nat.le_refl _),Nat.sub_self] at hq;injection hq with hq
   subst hq;exact⟨⟨kF p,.int .i64 (qs.length:Int),clock⟩,by rw[List.getElem?_append_right (by rw[h.len];exact Nat.le_refl _),h.len,Nat.sub_self];rfl,rfl,rfl⟩
theorem putP {w:World}{b:Nat}{es:Array MapEntry}{clock:Nat}{qs:List (Int × Int)}(hb:w.heap[b]? = some (.map es clock))(h:EntF es qs){p:Int × Int}(hp:SmP p)(hn:p ∉ qs) :
  (Instr.mapUpdate 80 (.map (some b)) (kF p) (.int .i64 (qs.length:Int))).run Tryz.prog w=.ok () (setBlock w b (.map (es.push ⟨kF p,.int .i64 (qs.length:Int),clock⟩) (clock+1))):=by
 have hck:=lawP.check w false (keyP hp)
 change (Instr.checkKey false 10000 85 (kF p)).run Tryz.prog w=_ at hck
 rcases h.find w hp with⟨h1,_⟩ | ⟨j,_,h2⟩
 ·simp[Instr.mapUpdate,run_underlying Tryz.underlying80,MapKept.run_getObj_map hb,hck,h1,MapKept.run_setObj_map _ hb,Result.andThen,setBlock]
 ·exact absurd (List.mem_of_getElem? h2) hn
def MpF (w:World)(b:Nat)(qs:List (Int × Int)):Prop:=∃ es clock,w.heap[b]? = some (.map es clock)∧EntF es qs
theorem MpF.kept {w w':World}{P:Nat→Prop}{b:Nat}{qs:List (Int × Int)}(h:MpF w b qs)(hk:Kept P w w')(hp:¬ P b):MpF w' b qs:=by
 obtain⟨es,clock,h1,h2⟩:=h;exact⟨es,clock,(hk.block b (Array.getElem?_eq_some_iff.1 h1).1 hp).trans h1,h2⟩
end FM
end
section
open Go.RowKit
theorem keyB_szR {s:ByteArray}(h:keyB s=true):s.size≤16:=by
 unfold keyB at h;have h1:s.data.toList∈keyL:=by simpa using h
 have h2:∀ l∈keyL,l.length≤16:=by decide
 have h3:=h2 _ h1;rw[Array.length_toList] at h3;exact h3
namespace SM
open CM (nd kids)
section
variable {g : List Gi} {st : Bool}
end
theorem texts_of {g:List Gi}(h:checkG g=0):Texts g:=fun x hx=>by
 obtain⟨i,hi⟩:=List.getElem?_of_mem hx;have hil:=(List.getElem?_eq_some_iff.1 hi).1;have e:nd g i=x:=by unfold CM.nd;rw[List.getD_eq_getElem?_getD,hi];rfl
 have hf:=fine_of h;have hv:validG g x=true:=by
  unfold checkG at h;by_cases hl:2000<g.length
  ·rw[if_pos hl] at h;cases h
  ·rw[if_neg hl] at h;by_cases hv:g.all (validG g)=true
   ·exact List.all_eq_true.1 hv x hx
   ·rw[if_neg hv] at h;cases h
 refine⟨?_,fun s hs=>?_⟩
 ·by_cases h5:x.kind=5
  ·unfold validG okG at hv;rw[Bool.and_eq_true,if_neg (by omega),if_pos h5,Bool.or_eq_true] at hv
   unfold maxLen;rcases hv.1 with h1 | h1
   ·have:=(nameB_sz h1).1;omega
   ·have:=keyB_szR h1;omega
  ·have:=hf.name i hil (by rw[e];exact h5)
   rw[e] at this;rw[this];exact Nat.zero_le _
 ·have:=hf.ksz i hil s (by rw[e];exact hs)
  unfold maxLen;omega
end SM
end
end Go.Proofs.YtfigdflcoaepaaaGreatDoor
