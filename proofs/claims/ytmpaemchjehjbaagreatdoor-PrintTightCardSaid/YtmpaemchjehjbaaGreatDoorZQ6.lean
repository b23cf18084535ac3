/- Contracts and plain facts that the theorem rests on: LWords, TPlace, TCover, PFlat, TSeq. -/
import Derived.Test.YtmpaemchjehjbaaGreatDoorZQ5
import Derived.RegionTactic
set_option linter.unusedSimpArgs false
set_option linter.unusedVariables false
namespace Go.Proofs.YtmpaemchjehjbaaGreatDoor
section
open Lib (hid)
open Go.RowKit
def WordsIs (B:Nat)(s:ByteArray)(e:Ending)(w':World):Prop:=match wordsS s with
 | .error a=>e=.returned (.tuple #[.slice none 0 0,.int .i64 (a:Int),.int .i64 20])
 | .ok l=>∃ v,e=.returned (.tuple #[v,.int .i64 0,.int .i64 0])∧w'.ownsRow B 48 4 v l.length (wcells l)
theorem WordsIs.err {B a:Nat}{s:ByteArray}{w':World}(h:Hid (wordsS s=.error a)):WordsIs B s (.returned (.tuple #[.slice none 0 0,.int .i64 (a:Int),.int .i64 20])) w':=by
 unfold WordsIs;rw[h.out]
theorem WordsIs.ok {B:Nat}{s:ByteArray}{l:List Wd}{v:Value}{w':World}(h:Hid (wordsS s=.ok l))(ho:w'.ownsRow B 48 4 v l.length (wcells l)):WordsIs B s (.returned (.tuple #[v,.int .i64 0,.int .i64 0])) w':=by
 unfold WordsIs;rw[h.out];exact⟨v,rfl,ho⟩
theorem unhid {P:Prop}(h:Hid P):P:=h.out
theorem words_big (s:ByteArray)(w:World)(hs:s.size≤maxLen)(hb:65536<s.size) :
  Calls Tryz.prog 27 #[.string s] w fun e w'=>e=.returned (.tuple #[.slice none 0 0,.int .i64 0,.int .i64 5])∧w=w':=by
 have h1:decide ((65536:Int)<(s.size:Int))=true:=by simp;omega
 have h2:decide (65536<s.size)=true:=by simpa using hb
 clear hs;go_enter Tryz.func27,Tryz.ntmps27
 go_wp2_with fail
 go_ret3
 exact⟨rfl,rfl⟩
set_option maxRecDepth 100000 in
set_option maxHeartbeats 4000000 in
theorem words_any (s:ByteArray)(w:World)(hkw:Keys w)(hb:s.size≤65536) :
  Calls Tryz.prog 27 #[.string s] w fun e w'=>WordsIs w.heap.size s e w'∧Below w.heap.size w w':=by
 have h1:decide ((65536:Int)<(s.size:Int))=false:=by simp;omega
 have h2:decide (65536<s.size)=false:=by simpa using hb
 obtain⟨i0,hi,hz0,hz1,hz2⟩:=info_parts info_word;have hB0:=hkw.1;have HKW:=hid hkw;have HI:=hid hi;have HZ0:=hid hz0;have HZ1:=hid hz1;have HZ2:=hid hz2;clear hkw hi hz0 hz1 hz2;go_enter Tryz.func27,Tryz.ntmps27
 go_wp2_with fail
 obtain⟨B,hB⟩:∃ B,B=w.heap.size:=⟨_,rfl⟩;have hcur:=Cur.new w s (by unfold maxLen;omega)
 have hbel:Below w.heap.size w (w.alloc (.cells #[.string s,.int .i64 0] 103)):=(Below.refl _ _).alloc (Nat.le_refl _) _;have hsz0:w.heap.size+1≤(w.alloc (.cells #[.string s,.int .i64 0] 103)).heap.size:=by simp
 rw[← hB] at hcur hbel hsz0 hB0 ⊢;have HC0:=hid hcur;have HB0:=hid hbel;have HBB:=hid hB;have HSZ0:=hid hsz0;clear hcur hbel hB hsz0
 go_loopg [2] (s.size+1) (fun f v wr=>∃ (j:Nat) (acc:List Wd),j≤s.size∧s.size+1≤j+f∧acc.length≤j∧Hid (wordsS s=behind acc (wordsF f s j))∧Cur wr B s j∧wr.ownsRow (B+1) 48 4 v acc.length (wcells acc)∧Below B w wr∧Hid (B+1≤wr.heap.size))
 case atStart=>exact⟨0,[],by omega,by omega,by simp,(behind_nil _).symm,HC0.out,World.ownsRow_nil _ _ _ _,HB0.out,HSZ0.out⟩
 case round =>
  obtain⟨j,acc,hj,hf,hacc,HW,hc,hown,hbl,HSZ⟩:=hrel;obtain⟨f,rfl⟩:∃ f,gk=f+1:=⟨gk-1,by omega⟩
  have HC:=hid hc;have HO:=hid hown;have HL:=hid hbl;clear hc hown hbl;have hJ1:=gapE_ge s j;have hJ2:=gapE_le s hj;obtain⟨J,hJ⟩:∃ J,gapE s j=J:=⟨_,rfl⟩;have hgap:=fun w (hc:Cur w B s j)=>skipGap_any B s j w hc
  rw[hJ] at hJ1 hJ2;simp only[hJ] at hgap;have HGAP:=hid hgap;have HJ:=hid hJ;clear hgap hJ;go_wp2_with fail
  refine(HGAP.out _ HC.out).mono ?_;rintro e w2 ⟨rfl,h2c,hk2⟩;have hown2:=own_kept HO.out hk2 (fun k hk e=>by omega)
  have hbl2:=HL.out.trans (hk2.below (by have:=HSZ.out;omega) (fun i hi e=>by omega))
  have hsz2:=Nat.le_trans HSZ.out hk2.size;have hky2:=HKW.out.below hbl2 hB0;have H2:=hid h2c;have O2:=hid hown2;have L2:=hid hbl2;have Y2:=hid hky2;clear h2c hk2 hown2 hbl2 hky2;go_wp2_with fail
  rcases htok:tokS s J with _ | ⟨kd,t,n,en⟩
  ·have hr:wordsF (f+1) s j=.error J:=by rw[wordsF,HJ.out,htok]
   have HR:Hid (wordsS s=.error J):=by show _=_;rw[HW.out,hr];rfl
   have ht:=token_any B s J w2 H2.out Y2.out hB0 (by omega)
   rw[htok] at ht;have HT:=hid ht;clear hr htok ht;refine HT.out.mono ?_;rintro e w3 hti;have hk3:=hti.kept;have hbl3:=L2.out.trans (hk3.below (by omega) (fun i hi e=>by omega))
   have hsz3:=hk3.size;have L3:=hid hbl3;obtain rfl:=hti.2;clear hti hk3 hbl3;unfold wrd;go_wp2_with fail
   go_quiet (fail)
   go_wp2_with fail
   go_ret3
   rw[← HBB.out];refine⟨WordsIs.err HR,?_⟩;have h5:=L3.out.alloc (by omega) (.cells #[.int .i64 0,.string ⟨#[]⟩,.int .i64 0,.int .i64 (J:Int)] 48)
   exact⟨h5.os,h5.tape,h5.output,h5.size,h5.block⟩
  ·have hnx:=tokS_next htok hJ2;have ht:=token_any B s J w2 H2.out Y2.out hB0 (by omega)
   rw[htok] at ht;have HT:=hid ht;have hwf:wordsF (f+1) s j=if kd=7 then .ok [⟨kd,t,n,J⟩] else consR ⟨kd,t,n,J⟩ (wordsF f s en):=by rw[wordsF,HJ.out,htok]
   have HWF:=hid hwf;clear htok ht hwf;refine HT.out.mono ?_;rintro e w3 hti;have hk3:=hti.kept;have hbl3:=L2.out.trans (hk3.below (by omega) (fun i hi e=>by omega))
   have hown3:=own_kept O2.out hk3 (fun k hk e=>by omega)
   have hsz3:=hk3.size;have L3:=hid hbl3;have O3:=hid hown3;obtain⟨rfl,hc3⟩:=hti.2;have H3:=hid hc3;clear hti hk3 hbl3 hown3 hc3;have hne:Hid (some w3.heap.size≠u2.ownBlock):=fun e=>by have:=O3.out.lt _ e.symm;omega
   have hsa:Hid ((w3.alloc (.cells #[.int .i64 (kd:Int),.string t,.int .i64 (n:Int),.int .i64 (J:Int)] 48)).heap.size=w3.heap.size+1):=by show _=_;simp
   have hblk:Hid ((w3.alloc (.cells #[.int .i64 (kd:Int),.string t,.int .i64 (n:Int),.int .i64 (J:Int)] 48)).cell? ⟨w3.heap.size,0,none⟩=some (.int .i64 (kd:Int))):=by
    have:=Blk.cell (Blk.new w3 48 #[.int .i64 (kd:Int),.string t,.int .i64 (n:Int),.int .i64 (J:Int)]) 0;exact this
   unfold wrd;by_cases h7:kd=7
   ·have h7b:((kd:Int)==7)=true:=by simp;omega
    have HR:Hid (wordsS s=.ok (acc++[⟨kd,t,n,J⟩])):=by show _=_;rw[HW.out,HWF.out,if_pos h7];rfl
    clear h7;go_wp2_with (at_builtin;refine unhid ?_)
    refine hid ?_;refine wpList_append_wrd (w3.alloc (.cells #[.int .i64 (kd:Int),.string t,.int .i64 (n:Int),.int .i64 (J:Int)] 48)) rfl (.tmp 25) (.tmp 27) 42 rfl (B+1) 48 i0 _ 40 Tryz.underlying42 HI.out HZ0.out HZ1.out HZ2.out rfl u2 acc.length acc rfl (O3.out.alloc _) ⟨kd,t,n,J⟩ (by rw[hsa.out];rfl) (by simp only[maxLen];omega) (by omega) (by simp;omega) ?_
    intro v4 w4 hown4 hg4 hb4;have hcell:=hg4.cell hblk.out hne.out;have O4:=hid hown4;have G4:=hid hg4;have B4:=hid hb4;clear hown4 hg4 hb4;go_wp2_with fail
    go_ret3
    have hbl4:=(L3.out.alloc (by omega) (.cells #[.int .i64 (kd:Int),.string t,.int .i64 (n:Int),.int .i64 (J:Int)] 48)).trans (B4.out.mono (by omega))
    rw[← HBB.out];refine⟨WordsIs.ok HR ?_,hbl4⟩;rw[List.length_append];have h5:=O4.out;exact⟨h5.1,h5.2.imp id fun⟨g,cap,cur,e1,e2,e3⟩=>⟨g,cap,cur,e1,by omega,e3⟩⟩
   ·have h7b:((kd:Int)==7)=false:=by simp;omega
    have HW2:Hid (wordsS s=behind (acc++[⟨kd,t,n,J⟩]) (wordsF f s en)):=by show _=_;rw[behind_snoc,HW.out,HWF.out,if_neg h7]
    have hen:J<en:=by omega
    clear h7;go_wp2_with (at_builtin;refine unhid ?_)
    refine hid ?_;refine wpList_append_wrd (w3.alloc (.cells #[.int .i64 (kd:Int),.string t,.int .i64 (n:Int),.int .i64 (J:Int)] 48)) rfl (.tmp 25) (.tmp 27) 42 rfl (B+1) 48 i0 _ 40 Tryz.underlying42 HI.out HZ0.out HZ1.out HZ2.out rfl u2 acc.length acc rfl (O3.out.alloc _) ⟨kd,t,n,J⟩ (by rw[hsa.out];rfl) (by simp only[maxLen];omega) (by omega) (by simp;omega) ?_
    intro v4 w4 hown4 hg4 hb4;have hcell:=hg4.cell hblk.out hne.out;have O4:=hid hown4;have G4:=hid hg4;have B4:=hid hb4;clear hown4 hg4 hb4;go_wp2_with fail
    have hbl4:=(L3.out.alloc (by omega) (.cells #[.int .i64 (kd:Int),.string t,.int .i64 (n:Int),.int .i64 (J:Int)] 48)).trans (B4.out.mono (by omega))
    go_roundg f
    case rel=>exact⟨en,acc++[⟨kd,t,n,J⟩],by omega,by omega,by rw[List.length_append];simp;omega,HW2,(H3.out.alloc _).below B4.out (by omega),by rw[List.length_append];exact O4.out,hbl4,by show _≤_;have h6:=B4.out.size;rw[hsa.out] at h6;omega⟩
    case measure=>omega
end
section
open Go.RowKit
def bl:Bool→List UInt8→Bool
 | _,[]=>true
 | r,c::l=>if c.toNat=10 then bl false l else if c.toNat=35 then bl true l else if r then bl true l else if c.toNat=32 then bl false l else false
theorem extract_list (s:ByteArray)(a b:Nat):(s.extract a b).data.toList=(s.data.toList.drop a).take (b-a):=by
 rw[ByteArray.data_extract,Array.toList_extract,List.extract_eq_take_drop]
def spel (x:Wd):ByteArray:=if x.kind=4 then⟨#[39]⟩++x.text else x.text
theorem ext_data {a b:ByteArray}(h:a.data.toList=b.data.toList):a=b:=ByteArray.ext (Array.toList_inj.1 h)
theorem tokS_spel {s:ByteArray}{k kd n en:Nat}{t:ByteArray}(h:tokS s k=some (kd,t,n,en))(hk:k≤s.size) :
  spel ⟨kd,t,n,k⟩=s.extract k en∧(kd=7→en=s.size∧k=s.size)∧(kd≠7→k<en)∧en≤s.size:=by
 have hnx:=tokS_next h hk;have hlt7:kd≠7→k<en:=by omega
 refine⟨?_,?_,hlt7,hnx.2.1⟩
 ·unfold tokS at h;split at h
  ·rename_i hlt;split at h
   ·rename_i hq;unfold tagS at h;split at h
    ·simp at h;obtain⟨rfl,rfl,rfl,rfl⟩:=h;unfold spel;rw[if_pos rfl];refine ext_data ?_;have hge:=stop_ge runC s (k+1);have hc:s[k]=39:=by
      rw[chr_in hlt] at hq;simp[isC,inR] at hq;exact UInt8.toNat_inj.1 (by show s[k].toNat=39;omega)
     rw[ByteArray.data_append,Array.toList_append,extract_list,extract_list,drop_cons s hlt,hc,
      show stop runC s (k+1)-k=(stop runC s (k+1)-(k+1))+1 from by omega,List.take_succ_cons]
     rfl
    ·cases h
   ·split at h
    ·unfold runS at h;rw[Option.map_eq_some_iff] at h;obtain⟨⟨kd',n'⟩,hk1,h1⟩:=h;simp at h1;obtain⟨rfl,rfl,rfl,rfl⟩:=h1;have h4:kd'≠4:=by
      unfold kindS at hk1;split at hk1
      ·simp at hk1;omega
      ·split at hk1
       ·simp at hk1;omega
       ·split at hk1
        ·simp at hk1;omega
        ·simp at hk1;omega
     unfold spel;rw[if_neg h4]
    ·unfold signS at h;split at h
     ·cases h
     ·simp at h;obtain⟨rfl,rfl,rfl,rfl⟩:=h
      rfl
  ·simp at h;obtain⟨rfl,rfl,rfl,rfl⟩:=h;refine ext_data ?_;rw[extract_list];simp[spel]
 ·intro h7;unfold tokS at h;split at h
  ·exfalso
   split at h
   ·unfold tagS at h;split at h
    ·simp at h;omega
    ·cases h
   ·split at h
    ·unfold runS at h;rw[Option.map_eq_some_iff] at h;obtain⟨⟨kd',n'⟩,hk1,h1⟩:=h;simp at h1;obtain⟨rfl,rfl,rfl,rfl⟩:=h1;unfold kindS at hk1;split at hk1
     ·simp at hk1;omega
     ·split at hk1
      ·simp at hk1;omega
      ·split at hk1
       ·simp at hk1;omega
       ·simp at hk1;omega
    ·unfold signS at h;split at h
     ·cases h
     ·simp at h;omega
  ·simp at h;obtain⟨rfl,rfl,rfl,rfl⟩:=h;omega
end
section
open Go.RowKit
theorem takeWhile_append (p:UInt8→Bool)(a b:List UInt8)(ha:∀ c∈a,p c=true)(hb:∀ c r,b=c::r→p c=false):(a++b).takeWhile p=a:=by
 induction a with
 | nil =>
  cases b with
  | nil=>rfl
  | cons c r=>rw[List.nil_append,List.takeWhile_cons,hb c r rfl];rfl
 | cons c a ih =>
  rw[List.cons_append,List.takeWhile_cons,ha c List.mem_cons_self,if_pos rfl,ih fun x hx=>ha x (List.mem_cons_of_mem _ hx)]
def restOk (r:List UInt8):Prop:=∀ c t,r=c::t→c=32∨c=10∨c=35
theorem restOk_run {r:List UInt8}(h:restOk r):∀ c t,r=c::t→runC c.toNat=false:=by
 intro c t e;rcases h c t e with rfl | rfl | rfl<;>decide
def runL (l:List UInt8):Prop:=∀ c∈l,runC c.toNat=true
def Good (x:Wd):Prop:=
 (x.kind=4∧nkB x.text=true∧runL x.text.data.toList∧x.num=0) ∨
 (x.kind≠4∧kindS x.text=some (x.kind,x.num)∧runL x.text.data.toList∧0<x.text.size) ∨
 (x.kind=6∧x.num=0∧∀ r,restOk r→signN ⟨(x.text.data.toList++r).toArray⟩=x.text.size∧0<x.text.size∧∀ c t,x.text.data.toList=c::t→runC c.toNat=false∧isC 39 c.toNat=false∧blankC c.toNat=false∧c.toNat≠35)
theorem stop_of (p:Nat→Bool)(s:ByteArray)(k:Nat)(a b:List UInt8)(h:s.data.toList.drop k=a++b)(ha:∀ c∈a,p c.toNat=true)(hb:∀ c r,b=c::r→p c.toNat=false):stop p s k=k+a.length:=by
 unfold stop;rw[h,takeWhile_append (fun c=>p c.toNat) a b ha hb]
theorem ext_of (s:ByteArray)(k:Nat)(a b:List UInt8)(h:s.data.toList.drop k=a++b):s.extract k (k+a.length)=⟨a.toArray⟩:=by
 refine ext_data ?_;rw[extract_list,h,show k+a.length-k=a.length from by omega,List.take_left]
theorem drop_lt {s:ByteArray}{k:Nat}{c:UInt8}{t:List UInt8}(h:s.data.toList.drop k=c::t):k<s.size:=by
 have h1:=congrArg List.length h;rw[List.length_drop,List.length_cons] at h1;have h2:s.data.toList.length=s.size:=by simp
 omega
theorem chr_of {s:ByteArray}{k:Nat}{c:UInt8}{t:List UInt8}(h:s.data.toList.drop k=c::t):chr s k=c.toNat:=by
 have hk:=drop_lt h;rw[chr_in hk];have:=drop_cons s hk;rw[h] at this;injection this with h1 _
 rw[h1]
theorem drop_of {s:ByteArray}{k:Nat}{a b:List UInt8}(h:s.data.toList.drop k=a++b):s.data.toList.drop (k+a.length)=b:=by
 rw[← List.drop_drop,h,List.drop_left]
theorem mk_data (x:ByteArray):(⟨x.data.toList.toArray⟩:ByteArray)=x:=rfl
theorem size_list (x:ByteArray):x.data.toList.length=x.size:=by simp
def txt (x:Wd):List UInt8:=(spel x).data.toList
theorem txt_len (x:Wd):(txt x).length=(spel x).size:=size_list _
theorem Good.text_pos {x:Wd}(h:Good x):0<(txt x).length:=by
 unfold txt spel;rcases h with⟨h4,_⟩ | ⟨h4,_,_,h5⟩ | ⟨h6,_,h5⟩
 ·rw[if_pos h4,ByteArray.data_append,Array.toList_append,List.length_append]
  show 0<1+_
  omega
 ·rw[if_neg h4,size_list];exact h5
 ·rw[if_neg (by omega),size_list];exact(h5 [] (by intro c t e;cases e)).2.1
theorem Good.kind7 {x:Wd}(h:Good x):x.kind≠7:=by
 rcases h with⟨h4,_⟩ | ⟨h4,h1,_,h5⟩ | ⟨h6,_,h5⟩
 ·omega
 ·unfold kindS at h1;split at h1
  ·simp at h1;omega
  ·split at h1
   ·simp at h1;omega
   ·split at h1
    ·simp at h1;omega
    ·simp at h1;omega
 ·omega
theorem Good.tok {x:Wd}(h:Good x)(s:ByteArray)(k:Nat)(r:List UInt8)(hd:s.data.toList.drop k=txt x++r)(hr:restOk r) :
  tokS s k=some (x.kind,x.text,x.num,k+(txt x).length):=by
 have hrr:=restOk_run hr;rcases h with⟨h4,hn,hrun,h0⟩ | ⟨h4,hkd,hrun,hpos⟩ | ⟨h6,h0,hs⟩
 ·have ht:txt x=39::x.text.data.toList:=by unfold txt spel;rw[if_pos h4,ByteArray.data_append,Array.toList_append];rfl
  rw[ht] at hd ⊢;rw[List.cons_append] at hd;have hk:=drop_lt hd;have hc:=chr_of hd;have hd1:s.data.toList.drop (k+1)=x.text.data.toList++r:=by rw[← List.drop_drop,hd];rfl
  have hst:=stop_of runC s (k+1) _ _ hd1 hrun hrr;have hex:=ext_of s (k+1) _ _ hd1;unfold tokS;rw[if_pos hk,hc,if_pos (by decide)]
  unfold tagS;rw[hst,hex,mk_data,if_pos hn,h4,h0,List.length_cons];simp;omega
 ·have ht:txt x=x.text.data.toList:=by unfold txt spel;rw[if_neg h4]
  rw[ht] at hd ⊢;have hst:=stop_of runC s k _ _ hd hrun hrr;have hex:=ext_of s k _ _ hd;obtain⟨c,t,hct⟩:∃ c t,x.text.data.toList=c::t:=by
   cases hx:x.text.data.toList with
   | nil=>rw[← size_list,hx] at hpos;simp at hpos
   | cons c t=>exact⟨c,t,rfl⟩
  have hc1:=hrun c (by rw[hct];exact List.mem_cons_self)
  have hd2:=hd;rw[hct,List.cons_append] at hd2;have hk:=drop_lt hd2;have hc:=chr_of hd2;have h39:isC 39 c.toNat=false:=by
   cases hq:isC 39 c.toNat with
   | false=>rfl
   | true =>
    have:c.toNat=39:=by simp[isC,inR] at hq;omega
    rw[this] at hc1;exact absurd hc1 (by decide)
  unfold tokS;rw[if_pos hk,hc,h39,if_neg (by simp),if_pos hc1]
  unfold runS;rw[hst,hex,mk_data,hkd]
  rfl
 ·have ht:txt x=x.text.data.toList:=by unfold txt spel;rw[if_neg (by omega)]
  rw[ht] at hd ⊢;obtain⟨hsn,hpos,hf⟩:=hs r hr;obtain⟨c,t,hct⟩:∃ c t,x.text.data.toList=c::t:=by
   cases hx:x.text.data.toList with
   | nil=>rw[← size_list,hx] at hpos;simp at hpos
   | cons c t=>exact⟨c,t,rfl⟩
  obtain⟨f1,f2,_,_⟩:=hf c t hct;have hd2:=hd;rw[hct,List.cons_append] at hd2;have hk:=drop_lt hd2;have hc:=chr_of hd2;have hex:=ext_of s k _ _ hd;have hall:s.extract k s.size=⟨(x.text.data.toList++r).toArray⟩:=by
   refine ext_data ?_;rw[extract_list,hd,List.take_of_length_le];rw[← hd,List.length_drop,size_list];exact Nat.le_refl _
  unfold tokS;rw[if_pos hk,hc,f2,if_neg (by simp),f1,if_neg (by simp)]
  unfold signS;rw[hall,hsn,if_neg (by omega),← size_list,hex,mk_data,h6,h0]
def GapOk (g:List UInt8):Prop:=∀ r,gap false (g++r)=g.length+gap false r
theorem Good.gap0 {x:Wd}(h:Good x)(r:List UInt8):gap false (txt x++r)=0:=by
 have hz:∀ c t,blankC c.toNat=false→c.toNat≠35→gap false (c::t)=0:=by
  intro c t h1 h2;rw[gap,if_neg (by rw[h1];simp),if_neg h2]
 have hrun0:∀ c:UInt8,runC c.toNat=true→blankC c.toNat=false∧c.toNat≠35:=by
  intro c hc;constructor
  ·cases hb:blankC c.toNat with
   | false=>rfl
   | true =>
    have h32:c.toNat=32∨c.toNat=10:=by
     simp only[blankC,isC,inR,Bool.or_eq_true,Bool.and_eq_true,decide_eq_true_eq] at hb;omega
    rcases h32 with e | e<;>rw[e] at hc<;>exact absurd hc (by decide)
  ·intro e;rw[e] at hc;exact absurd hc (by decide)
 rcases h with⟨h4,_⟩ | ⟨h4,_,hrun,hpos⟩ | ⟨h6,_,hs⟩
 ·have ht:txt x=39::x.text.data.toList:=by unfold txt spel;rw[if_pos h4,ByteArray.data_append,Array.toList_append];rfl
  rw[ht,List.cons_append];exact hz 39 _ (by decide) (by decide)
 ·have ht:txt x=x.text.data.toList:=by unfold txt spel;rw[if_neg h4]
  rw[ht];cases hx:x.text.data.toList with
  | nil=>rw[← size_list,hx] at hpos;simp at hpos
  | cons c t =>
   obtain⟨h1,h2⟩:=hrun0 c (hrun c (by rw[hx];exact List.mem_cons_self))
   rw[List.cons_append];exact hz c _ h1 h2
 ·have ht:txt x=x.text.data.toList:=by unfold txt spel;rw[if_neg (by omega)]
  obtain⟨_,hpos,hf⟩:=hs [] (by intro c t e;cases e)
  rw[ht];cases hx:x.text.data.toList with
  | nil=>rw[← size_list,hx] at hpos;simp at hpos
  | cons c t =>
   obtain⟨_,_,h1,h2⟩:=hf c t hx;rw[List.cons_append];exact hz c _ h1 h2
def flat (ps:List (List UInt8 × Wd))(fin:List UInt8):List UInt8:=ps.foldr (fun p r=>p.1++(txt p.2++r)) fin
theorem flat_cons (p:List UInt8 × Wd)(ps:List (List UInt8 × Wd))(fin:List UInt8):flat (p::ps) fin=p.1++(txt p.2++flat ps fin):=rfl
def laidAt:Nat→List (List UInt8 × Wd)→List Wd
 | _,[]=>[]
 | k,p::ps=>⟨p.2.kind,p.2.text,p.2.num,k+p.1.length⟩::laidAt (k+p.1.length+(txt p.2).length) ps
def PsOk (fin:List UInt8):List (List UInt8 × Wd)→Prop
 | []=>True
 | p::ps=>GapOk p.1∧Good p.2∧restOk (flat ps fin)∧PsOk fin ps
theorem gapE_of {s:ByteArray}{k:Nat}{g r:List UInt8}(hd:s.data.toList.drop k=g++r)(hg:GapOk g)(h0:gap false r=0):gapE s k=k+g.length:=by
 unfold gapE;rw[hd,hg,h0];rfl
theorem wordsF_flat (s:ByteArray)(fin:List UInt8)(hfin:gap false fin=fin.length)(ps:List (List UInt8 × Wd)) :
  ∀(f k:Nat),k≤s.size→ps.length<f→PsOk fin ps→s.data.toList.drop k=flat ps fin→wordsF f s k=.ok (laidAt k ps++[⟨7,⟨#[]⟩,0,s.size⟩]):=by
 induction ps with
 | nil =>
  intro f k hks hf _ hd;obtain⟨f,rfl⟩:∃ f',f=f'+1:=⟨f-1,by simp at hf;omega⟩
  have hd':s.data.toList.drop k=fin:=hd;have hl:=congrArg List.length hd';rw[List.length_drop,size_list] at hl;have hgE:gapE s k=s.size:=by unfold gapE;rw[hd',hfin];omega
  have ht:tokS s s.size=some (7,⟨#[]⟩,0,s.size):=by unfold tokS;rw[if_neg (Nat.lt_irrefl _)]
  rw[wordsF,hgE,ht]
  rfl
 | cons p ps ih =>
  intro f k hks hf hok hd;obtain⟨f,rfl⟩:∃ f',f=f'+1:=⟨f-1,by simp at hf;omega⟩
  obtain⟨hg,hx,hr,hps⟩:=hok;rw[flat_cons] at hd;have h7:=hx.kind7;have hgE:=gapE_of hd hg (hx.gap0 _);have hd1:=drop_of hd;have htk:=hx.tok s (k+p.1.length) _ hd1 hr;have hd2:=drop_of hd1;have hle:k+p.1.length+(txt p.2).length≤s.size:=by
   have hl:=congrArg List.length hd;rw[List.length_drop,size_list,List.length_append,List.length_append] at hl;omega
  have h:=ih f (k+p.1.length+(txt p.2).length) hle (by rw[List.length_cons] at hf;omega) hps hd2
  rw[wordsF,hgE,htk];simp only[h7,if_false];rw[h]
  rfl
theorem flat_len (ps:List (List UInt8 × Wd))(fin:List UInt8)(hok:PsOk fin ps):ps.length≤(flat ps fin).length:=by
 induction ps with
 | nil=>exact Nat.zero_le _
 | cons p ps ih =>
  obtain⟨_,hx,_,hps⟩:=hok;have h1:=ih hps;have h2:=hx.text_pos;rw[flat_cons,List.length_append,List.length_append,List.length_cons];omega
theorem wordsS_flat (s:ByteArray)(fin:List UInt8)(ps:List (List UInt8 × Wd))(hfin:gap false fin=fin.length)(hok:PsOk fin ps)(hd:s.data.toList=flat ps fin) :
  wordsS s=.ok (laidAt 0 ps++[⟨7,⟨#[]⟩,0,s.size⟩]):=by
 refine wordsF_flat s fin hfin ps _ 0 (Nat.zero_le _) ?_ hok (by rw[List.drop_zero,hd])
 have h1:=flat_len ps fin hok;rw[← hd,size_list] at h1;omega
theorem sg2_all {l:List UInt8}(h:sg2 l=true):∀ c∈l,sg1 c.toNat=true:=by
 unfold sg2 at h;simp only[Bool.or_eq_true,beq_iff_eq] at h;rcases h with(rfl | rfl) | rfl<;>(intro c hc;simp at hc;rcases hc with rfl | rfl<;>decide)
end
section
open Go.RowKit
def Fit (x:Wd)(c:UInt8):Prop:=
 (x.kind=4∧nkB x.text=true∧runL x.text.data.toList∧x.num=0∧runC c.toNat=false) ∨
 (x.kind≠4∧kindS x.text=some (x.kind,x.num)∧runL x.text.data.toList∧0<x.text.size∧runC c.toNat=false) ∨
 (x.kind=6∧x.num=0∧(∀ r,signN ⟨(x.text.data.toList++c::r).toArray⟩=x.text.size)∧0<x.text.size∧∀ d t,x.text.data.toList=d::t→runC d.toNat=false∧isC 39 d.toNat=false∧blankC d.toNat=false∧d.toNat≠35)
theorem kindS_7 {t:ByteArray}{k n:Nat}(h:kindS t=some (k,n)):k≠7:=by
 unfold kindS at h;split at h
 ·simp at h;omega
 ·split at h
  ·simp at h;omega
  ·split at h
   ·simp at h;omega
   ·simp at h;omega
theorem Fit.kind7 {x:Wd}{c:UInt8}(h:Fit x c):x.kind≠7:=by
 rcases h with⟨h4,_⟩ | ⟨h4,h1,_⟩ | ⟨h6,_⟩
 ·omega
 ·exact kindS_7 h1
 ·omega
theorem Fit.pos {x:Wd}{c:UInt8}(h:Fit x c):0<(txt x).length:=by
 unfold txt spel;rcases h with⟨h4,_⟩ | ⟨h4,_,_,h5,_⟩ | ⟨h6,_,_,h5,_⟩
 ·rw[if_pos h4,ByteArray.data_append,Array.toList_append,List.length_append]
  show 0<1+_
  omega
 ·rw[if_neg h4,size_list];exact h5
 ·rw[if_neg (by omega),size_list];exact h5
theorem Fit.tok {x:Wd}{c:UInt8}(h:Fit x c)(s:ByteArray)(k:Nat)(r:List UInt8)(hd:s.data.toList.drop k=txt x++c::r) :
  tokS s k=some (x.kind,x.text,x.num,k+(txt x).length):=by
 rcases h with⟨h4,hn,hrun,h0,hc0⟩ | ⟨h4,hkd,hrun,hpos,hc0⟩ | ⟨h6,h0,hs,hpos,hf⟩
 ·have hrr:∀ d t,c::r=d::t→runC d.toNat=false:=by intro d t e;injection e with e _;rw[← e];exact hc0
  have ht:txt x=39::x.text.data.toList:=by unfold txt spel;rw[if_pos h4,ByteArray.data_append,Array.toList_append];rfl
  rw[ht] at hd ⊢;rw[List.cons_append] at hd;have hk:=drop_lt hd;have hc:=chr_of hd;have hd1:s.data.toList.drop (k+1)=x.text.data.toList++c::r:=by rw[← List.drop_drop,hd];rfl
  have hst:=stop_of runC s (k+1) _ _ hd1 hrun hrr;have hex:=ext_of s (k+1) _ _ hd1;unfold tokS;rw[if_pos hk,hc,if_pos (by decide)]
  unfold tagS;rw[hst,hex,mk_data,if_pos hn,h4,h0,List.length_cons];simp;omega
 ·have hrr:∀ d t,c::r=d::t→runC d.toNat=false:=by intro d t e;injection e with e _;rw[← e];exact hc0
  have ht:txt x=x.text.data.toList:=by unfold txt spel;rw[if_neg h4]
  rw[ht] at hd ⊢;have hst:=stop_of runC s k _ _ hd hrun hrr;have hex:=ext_of s k _ _ hd;obtain⟨d,t,hct⟩:∃ d t,x.text.data.toList=d::t:=by
   cases hx:x.text.data.toList with
   | nil=>rw[← size_list,hx] at hpos;simp at hpos
   | cons d t=>exact⟨d,t,rfl⟩
  have hc1:=hrun d (by rw[hct];exact List.mem_cons_self)
  have hd2:=hd;rw[hct,List.cons_append] at hd2;have hk:=drop_lt hd2;have hc:=chr_of hd2;have h39:isC 39 d.toNat=false:=by
   cases hq:isC 39 d.toNat with
   | false=>rfl
   | true =>
    have:d.toNat=39:=by simp[isC,inR] at hq;omega
    rw[this] at hc1;exact absurd hc1 (by decide)
  unfold tokS;rw[if_pos hk,hc,h39,if_neg (by simp),if_pos hc1]
  unfold runS;rw[hst,hex,mk_data,hkd]
  rfl
 ·have ht:txt x=x.text.data.toList:=by unfold txt spel;rw[if_neg (by omega)]
  rw[ht] at hd ⊢;have hsn:=hs r;obtain⟨d,t,hct⟩:∃ d t,x.text.data.toList=d::t:=by
   cases hx:x.text.data.toList with
   | nil=>rw[← size_list,hx] at hpos;simp at hpos
   | cons d t=>exact⟨d,t,rfl⟩
  obtain⟨f1,f2,_,_⟩:=hf d t hct;have hd2:=hd;rw[hct,List.cons_append] at hd2;have hk:=drop_lt hd2;have hc:=chr_of hd2;have hex:=ext_of s k _ _ hd;have hall:s.extract k s.size=⟨(x.text.data.toList++c::r).toArray⟩:=by
   refine ext_data ?_;rw[extract_list,hd,List.take_of_length_le];rw[← hd,List.length_drop,size_list];exact Nat.le_refl _
  unfold tokS;rw[if_pos hk,hc,f2,if_neg (by simp),f1,if_neg (by simp)]
  unfold signS;rw[hall,hsn,if_neg (by omega),← size_list,hex,mk_data,h6,h0]
theorem gap_zero (d:UInt8)(t:List UInt8)(h1:blankC d.toNat=false)(h2:d.toNat≠35):gap false (d::t)=0:=by
 rw[gap,if_neg (by rw[h1];simp),if_neg h2]
theorem run_gap {c:UInt8}(hc:runC c.toNat=true):blankC c.toNat=false∧c.toNat≠35:=by
 constructor
 ·cases hb:blankC c.toNat with
  | false=>rfl
  | true =>
   have h32:c.toNat=32∨c.toNat=10:=by
    simp only[blankC,isC,inR,Bool.or_eq_true,Bool.and_eq_true,decide_eq_true_eq] at hb;omega
   rcases h32 with e | e<;>rw[e] at hc<;>exact absurd hc (by decide)
 ·intro e;rw[e] at hc;exact absurd hc (by decide)
theorem Fit.gap0 {x:Wd}{c:UInt8}(h:Fit x c)(r:List UInt8):gap false (txt x++r)=0:=by
 rcases h with⟨h4,_⟩ | ⟨h4,_,hrun,hpos,_⟩ | ⟨h6,_,_,hpos,hf⟩
 ·have ht:txt x=39::x.text.data.toList:=by unfold txt spel;rw[if_pos h4,ByteArray.data_append,Array.toList_append];rfl
  rw[ht,List.cons_append];exact gap_zero 39 _ (by decide) (by decide)
 ·have ht:txt x=x.text.data.toList:=by unfold txt spel;rw[if_neg h4]
  rw[ht];cases hx:x.text.data.toList with
  | nil=>rw[← size_list,hx] at hpos;simp at hpos
  | cons c t =>
   obtain⟨h1,h2⟩:=run_gap (hrun c (by rw[hx];exact List.mem_cons_self))
   rw[List.cons_append];exact gap_zero c _ h1 h2
 ·have ht:txt x=x.text.data.toList:=by unfold txt spel;rw[if_neg (by omega)]
  rw[ht];cases hx:x.text.data.toList with
  | nil=>rw[← size_list,hx] at hpos;simp at hpos
  | cons c t =>
   obtain⟨_,_,h1,h2⟩:=hf c t hx;rw[List.cons_append];exact gap_zero c _ h1 h2
inductive Pc where
 | g | n | t (x:Wd)
def Pc.bytes:Pc→List UInt8
 | .g=>[32]
 | .n=>[10]
 | .t x=>txt x
def flatP (ps:List Pc)(fin:List UInt8):List UInt8:=ps.foldr (fun p r=>p.bytes++r) fin
theorem flatP_nil (fin:List UInt8):flatP [] fin=fin:=rfl
theorem flatP_g (ps:List Pc)(fin:List UInt8):flatP (.g::ps) fin=32::flatP ps fin:=rfl
theorem flatP_n (ps:List Pc)(fin:List UInt8):flatP (.n::ps) fin=10::flatP ps fin:=rfl
theorem flatP_t (x:Wd)(ps:List Pc)(fin:List UInt8):flatP (.t x::ps) fin=txt x++flatP ps fin:=rfl
theorem flatP_append (a b:List Pc)(fin:List UInt8):flatP (a++b) fin=flatP a (flatP b fin):=by
 induction a with
 | nil=>rfl
 | cons p a ih=>show p.bytes++flatP (a++b) fin=p.bytes++flatP a (flatP b fin);rw[ih]
def laidP:Nat→List Pc→List Wd
 | _,[]=>[]
 | k,.g::ps=>laidP (k+1) ps
 | k,.n::ps=>laidP (k+1) ps
 | k,.t x::ps=>⟨x.kind,x.text,x.num,k⟩::laidP (k+(txt x).length) ps
def FitR (x:Wd)(l:List UInt8):Prop:=∃ c r,l=c::r∧Fit x c
def OkPc (fin:List UInt8):List Pc→Prop
 | []=>True
 | .g::ps=>OkPc fin ps
 | .n::ps=>OkPc fin ps
 | .t x::ps=>FitR x (flatP ps fin)∧OkPc fin ps
theorem OkPc.append {fin:List UInt8}{a b:List Pc}(ha:OkPc (flatP b fin) a)(hb:OkPc fin b):OkPc fin (a++b):=by
 induction a with
 | nil=>exact hb
 | cons p a ih =>
  cases p with
  | g=>exact ih ha
  | n=>exact ih ha
  | t x =>
   refine⟨?_,ih ha.2⟩
   show FitR x (flatP (a++b) fin)
   rw[flatP_append];exact ha.1
theorem gapE_32 {s:ByteArray}{k:Nat}{r:List UInt8}(hd:s.data.toList.drop k=32::r):gapE s k=gapE s (k+1):=by
 have hd1:s.data.toList.drop (k+1)=r:=by rw[← List.drop_drop,hd];rfl
 unfold gapE;rw[hd,hd1,gap,if_pos (by decide)]
 omega
theorem gapE_10 {s:ByteArray}{k:Nat}{r:List UInt8}(hd:s.data.toList.drop k=10::r):gapE s k=gapE s (k+1):=by
 have hd1:s.data.toList.drop (k+1)=r:=by rw[← List.drop_drop,hd];rfl
 unfold gapE;rw[hd,hd1,gap,if_pos (by decide)]
 omega
theorem wordsF_flatP (s:ByteArray)(fin:List UInt8)(hfin:gap false fin=fin.length)(ps:List Pc) :
  ∀(f k:Nat),k≤s.size→ps.length<f→OkPc fin ps→s.data.toList.drop k=flatP ps fin→wordsF f s k=.ok (laidP k ps++[⟨7,⟨#[]⟩,0,s.size⟩]):=by
 induction ps with
 | nil =>
  intro f k hks hf _ hd;obtain⟨f,rfl⟩:∃ f',f=f'+1:=⟨f-1,by simp at hf;omega⟩
  have hd':s.data.toList.drop k=fin:=hd;have hl:=congrArg List.length hd';rw[List.length_drop,size_list] at hl;have hgE:gapE s k=s.size:=by unfold gapE;rw[hd',hfin];omega
  have ht:tokS s s.size=some (7,⟨#[]⟩,0,s.size):=by unfold tokS;rw[if_neg (Nat.lt_irrefl _)]
  rw[wordsF,hgE,ht]
  rfl
 | cons p ps ih =>
  intro f k hks hf hok hd;obtain⟨f,rfl⟩:∃ f',f=f'+1:=⟨f-1,by simp at hf;omega⟩
  cases p with
  | g =>
   rw[flatP_g] at hd;have hlt:=drop_lt hd;have hd1:s.data.toList.drop (k+1)=flatP ps fin:=by rw[← List.drop_drop,hd];rfl
   have h:=ih (f+1) (k+1) hlt (by rw[List.length_cons] at hf;omega) hok hd1
   rw[wordsF,gapE_32 hd];rw[wordsF] at h;exact h
  | n =>
   rw[flatP_n] at hd;have hlt:=drop_lt hd;have hd1:s.data.toList.drop (k+1)=flatP ps fin:=by rw[← List.drop_drop,hd];rfl
   have h:=ih (f+1) (k+1) hlt (by rw[List.length_cons] at hf;omega) hok hd1
   rw[wordsF,gapE_10 hd];rw[wordsF] at h;exact h
  | t x =>
   obtain⟨⟨c,r,hcr,hx⟩,hps⟩:=hok;rw[flatP_t] at hd;have h7:=hx.kind7;have hgE:gapE s k=k:=by unfold gapE;rw[hd,hx.gap0];rfl
   have hd2:=drop_of hd;have hle:k+(txt x).length≤s.size:=by
    have hl:=congrArg List.length hd;rw[List.length_drop,size_list,List.length_append] at hl;omega
   have h:=ih f (k+(txt x).length) hle (by rw[List.length_cons] at hf;omega) hps hd2
   rw[hcr] at hd;have htk:=hx.tok s k _ hd;rw[wordsF,hgE,htk];simp only[h7,if_false];rw[h]
   rfl
theorem flatP_len (ps:List Pc)(fin:List UInt8)(hok:OkPc fin ps):ps.length≤(flatP ps fin).length:=by
 induction ps with
 | nil=>exact Nat.zero_le _
 | cons p ps ih =>
  cases p with
  | g =>
   have h1:=ih hok;rw[flatP_g,List.length_cons,List.length_cons];omega
  | n =>
   have h1:=ih hok;rw[flatP_n,List.length_cons,List.length_cons];omega
  | t x =>
   obtain⟨⟨c,r,hcr,hx⟩,hps⟩:=hok;have h1:=ih hps;have h2:=hx.pos;rw[flatP_t,List.length_append,List.length_cons];omega
theorem wordsS_flatP (s:ByteArray)(fin:List UInt8)(ps:List Pc)(hfin:gap false fin=fin.length)(hok:OkPc fin ps)(hd:s.data.toList=flatP ps fin) :
  wordsS s=.ok (laidP 0 ps++[⟨7,⟨#[]⟩,0,s.size⟩]):=by
 refine wordsF_flatP s fin hfin ps _ 0 (Nat.zero_le _) ?_ hok (by rw[List.drop_zero,hd])
 have h1:=flatP_len ps fin hok;rw[← hd,size_list] at h1;omega
def toks:List Pc→List Wd
 | []=>[]
 | .g::ps=>toks ps
 | .n::ps=>toks ps
 | .t x::ps=>x::toks ps
theorem toks_append (a b:List Pc):toks (a++b)=toks a++toks b:=by
 induction a with
 | nil=>rfl
 | cons p a ih=>cases p with
  | g=>exact ih
  | n=>exact ih
  | t x=>show x::toks (a++b)=x::(toks a++toks b);rw[ih]
def Alike (x y:Wd):Prop:=x.kind=y.kind∧x.text=y.text∧x.num=y.num
theorem laidP_len (ps:List Pc):∀ k,(laidP k ps).length=(toks ps).length:=by
 induction ps with
 | nil=>intro k;rfl
 | cons p ps ih=>cases p with
  | g=>intro k;exact ih _
  | n=>intro k;exact ih _
  | t x=>intro k;show(laidP _ ps).length+1=(toks ps).length+1;rw[ih]
theorem laidP_alike (ps:List Pc):∀(k i:Nat) (x:Wd),(toks ps)[i]? = some x→∃ y,(laidP k ps)[i]? = some y∧Alike y x:=by
 induction ps with
 | nil=>intro k i x h;cases h
 | cons p ps ih=>cases p with
  | g=>intro k i x h;exact ih _ i x h
  | n=>intro k i x h;exact ih _ i x h
  | t x0 =>
   intro k i x h;cases i with
   | zero =>
    have h:some x0=some x:=h;injection h with h
    subst h;exact⟨_,rfl,rfl,rfl,rfl⟩
   | succ i=>exact ih _ i x h
theorem signN_behind (l:List UInt8)(c:UInt8)(h:sg2 l=true∧l.length=2∨(∃ a,l=[a]∧sg1 a.toNat=true∧sg2 [a,c]=false)):∀ r,signN ⟨(l++c::r).toArray⟩=l.length:=by
 intro r;rcases h with⟨h1,h2⟩ | ⟨a,rfl,h1,h2⟩
 ·obtain⟨a,b,rfl⟩:∃ a b,l=[a,b]:=by
   match l,h2 with
   | [a,b],_=>exact⟨a,b,rfl⟩
  unfold signN
  show(if sg2 [a,b]=true then 2 else _)=2
  rw[if_pos h1]
 ·unfold signN
  show(if sg2 [a,c]=true then 2 else _)=1
  rw[if_neg (by rw[h2];simp)]
  have:chr (⟨([a]++c::r).toArray⟩:ByteArray) 0=a.toNat:=chr_of (t:=c::r) (by rw[List.drop_zero];rfl)
  rw[this,if_pos h1]
theorem fit_sign1 (a:UInt8){c:UInt8}(h1:sg1 a.toNat=true)(h2:sg2 [a,c]=false)(h3:(runC a.toNat || isC 39 a.toNat || blankC a.toNat || a.toNat==35)=false):Fit ⟨6,⟨#[a]⟩,0,0⟩ c:=by
 refine .inr (.inr ⟨rfl,rfl,signN_behind [a] c (.inr ⟨a,rfl,h1,h2⟩),by show 0<1;omega,fun d t e=>?_⟩)
 have e:[a]=d::t:=e;injection e with e _
 subst e;simp only[Bool.or_eq_false_iff,beq_eq_false_iff_ne] at h3;exact⟨h3.1.1.1,h3.1.1.2,h3.1.2,h3.2⟩
theorem fit_sign2 (a b:UInt8)(c:UInt8)(h1:sg2 [a,b]=true)(h3:(runC a.toNat || isC 39 a.toNat || blankC a.toNat || a.toNat==35)=false):Fit ⟨6,⟨#[a,b]⟩,0,0⟩ c:=by
 refine .inr (.inr ⟨rfl,rfl,signN_behind [a,b] c (.inl ⟨h1,rfl⟩),by show 0<2;omega,fun d t e=>?_⟩)
 have e:[a,b]=d::t:=e;injection e with e _
 subst e;simp only[Bool.or_eq_false_iff,beq_eq_false_iff_ne] at h3;exact⟨h3.1.1.1,h3.1.1.2,h3.1.2,h3.2⟩
theorem fit_run (x:Wd){c:UInt8}(h4:x.kind≠4)(h:kindS x.text=some (x.kind,x.num))(hr:x.text.data.toList.all (fun c=>runC c.toNat)=true)(hp:0<x.text.size)(hc:runC c.toNat=false):Fit x c:=
 .inr (.inl ⟨h4,h,fun d hd=>(List.all_eq_true.1 hr) d hd,hp,hc⟩)
end
section
open Go.RowKit
def WSeq (w:World)(B:Nat)(A:Option Addr)(l:List Wd):Prop:=
 0<l.length→∃ b o,A=some ⟨b,o,none⟩∧b<B∧∀ j u,(wcells l)[j]? = some u→w.cell? ⟨b,o+j,none⟩=some u
theorem WSeq.at_ {w:World}{B:Nat}{A:Option Addr}{l:List Wd}(h:WSeq w B A l){i:Nat}{x:Wd}(hx:l[i]? = some x) :
  ∃ b o,A=some ⟨b,o,none⟩∧b<B∧w.cell? ⟨b,o+i*4,none⟩=some (.int .i64 (x.kind:Int))∧w.cell? ⟨b,o+i*4+1,none⟩=some (.string x.text) ∧
   w.cell? ⟨b,o+i*4+2,none⟩=some (.int .i64 (x.num:Int))∧w.cell? ⟨b,o+i*4+3,none⟩=some (.int .i64 (x.at_:Int)):=by
 obtain⟨b,o,hA,hb,hc⟩:=h (by have:=(List.getElem?_eq_some_iff.1 hx).1;omega)
 refine⟨b,o,hA,hb,hc (i*4) _ (wcells_at l i 0 x _ hx rfl),?_,?_,?_⟩
 ·rw[Nat.add_assoc];exact hc (i*4+1) _ (wcells_at l i 1 x _ hx rfl)
 ·rw[Nat.add_assoc];exact hc (i*4+2) _ (wcells_at l i 2 x _ hx rfl)
 ·rw[Nat.add_assoc];exact hc (i*4+3) _ (wcells_at l i 3 x _ hx rfl)
theorem WSeq.below {w w':World}{B B':Nat}{A:Option Addr}{l:List Wd}(h:WSeq w B A l)(hb:Below B w w')(hB:B≤B'):WSeq w' B' A l:=fun h0=>by
 obtain⟨b,o,hA,hbB,hc⟩:=h h0;exact⟨b,o,hA,by omega,fun j u hu=>(hb.cell (p:=⟨b,o+j,none⟩) hbB).trans (hc j u hu)⟩
theorem own_shape {w:World}{base:Nat}{v:Value}{l:List Wd}(h:w.ownsRow base 48 4 v l.length (wcells l)):∃ A c,v=.slice A l.length c∧l.length≤c∧c≤maxLen∧WSeq w w.heap.size A l:=by
 rcases h.2 with⟨rfl,h0⟩ | ⟨g,cap,cur,rfl,hb,hg,hn,hm,hr⟩
 ·exact⟨none,0,by rw[h0],by omega,by simp[maxLen],fun hl=>by omega⟩
 ·refine⟨_,cap,rfl,hn,hm,fun _=>⟨g,0,rfl,(Array.getElem?_eq_some_iff.1 hg).1,fun j u hu=>?_⟩⟩
  have:=h.cells (g:=g) rfl j u hu
  rwa [addr_lit] at this
theorem WordsIs.of_err {B a:Nat}{s:ByteArray}{e:Ending}{w':World}(h:WordsIs B s e w')(hr:wordsS s=.error a):e=.returned (.tuple #[.slice none 0 0,.int .i64 (a:Int),.int .i64 20]):=by
 unfold WordsIs at h;rw[hr] at h;exact h
theorem WordsIs.of_ok {B:Nat}{s:ByteArray}{l:List Wd}{e:Ending}{w':World}(h:WordsIs B s e w')(hr:wordsS s=.ok l) :
  ∃ A c,e=.returned (.tuple #[.slice A l.length c,.int .i64 0,.int .i64 0])∧l.length≤c∧c≤maxLen∧WSeq w' w'.heap.size A l:=by
 unfold WordsIs at h;rw[hr] at h;obtain⟨v,rfl,ho⟩:=h;obtain⟨A,c,rfl,h1,h2,h3⟩:=own_shape ho;exact⟨A,c,rfl,h1,h2,h3⟩
end
end Go.Proofs.YtmpaemchjehjbaaGreatDoor
