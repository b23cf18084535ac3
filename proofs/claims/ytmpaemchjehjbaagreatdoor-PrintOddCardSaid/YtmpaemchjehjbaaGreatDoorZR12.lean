/- Contracts and plain facts that the theorem rests on: TPart, TType, TShape, TTestable, TTest, TLetIf. -/
import Derived.Test.YtmpaemchjehjbaaGreatDoorZR11
set_option linter.unusedSimpArgs false
set_option linter.unusedVariables false
namespace Go.Proofs.YtmpaemchjehjbaaGreatDoor
section
open Lib (hid)
open Go.RowKit
set_option maxRecDepth 100000 in
set_option maxHeartbeats 4000000 in
theorem part_any (g:Nat)(ws:List Wd)(hE:EndW ws)(d:Nat)(a b c e:Value)(R:Nat→List Nd→Res)(hR:Rule 189 g ws d a b c e R (OkP ws))(hG:GoodR ws R)
  (w:World)(f:Value)(k:Nat)(nds:List Nd)(D:Nat→Prop)(h:Stm w g ws k d a b c e f)(hn:Nds w g f nds D)(hok:OkP ws k nds) :
  Calls Tryz.prog 214 #[.pointer (some ⟨g,0,none⟩)] w fun r w'=>Out w g ws d a b c e f D (partR ws R k nds) r w':=by
 have HM0:=hid (Mde.refl h hn);have HOK:=hid hok;have HR:=hid hR;have HG:=hid hG;have HE:=hid hE;have hlt:=hok.lt;have hrm:=hok.room;have hmf:∀(fn:Fn) (first cap:Array Value) (w:World),(Instr.makeFunc fn first cap).run Tryz.prog w=.ok (.func fn first cap) w:=fun _ _ _ _=>rfl
 clear h hn hok hR hG hE;go_enter Tryz.func214,Tryz.ntmps214
 go_wp2_with fail
 refine(HM0.out.has_from hlt 4).mono ?_;rintro r w1 ⟨rfl,hm⟩;have HMw1:=hid hm;clear hm;by_cases hs:decide ((tok ws k).kind=4)=true
 ·rw[hs];have HSw1:=hid hs;clear hs;have f1:=field_word1 (tok ws k);go_wp2_with fail
  refine(HMw1.out.word_from hlt 4).mono ?_;intro r w2 hr;by_cases hs:decide ((tok ws k).kind=4)=true
  ·rw[hs] at hr;obtain⟨rfl,hm⟩:=hr;have HMw2:=hid hm;have HSw2:=hid hs;clear hs hm;go_wp2_with fail
   refine(HMw2.out.add0_from hlt hrm 5 0 ⟨#[]⟩ (tok ws k).text).mono ?_;intro r w3 ho;have HU:Hid (partR ws R k nds=addR ws (k+1) nds ⟨5,0,⟨#[]⟩,(tok ws k).text,[],[]⟩):=by
    show _=_
    rw[partR,if_pos (by simpa using HSw1.out)]
   rcases hres:addR ws (k+1) nds ⟨5,0,⟨#[]⟩,(tok ws k).text,[],[]⟩ with⟨at_,er⟩ | ⟨v,k',nds'⟩
   ·rw[hres] at ho;obtain⟨rfl,hk9⟩:=ho;exact And.intro rfl (Out.err (by rw[HU.out,hres]) hk9)
   ·rw[hres] at ho;obtain⟨rfl,hm9⟩:=ho;have HM9:=hid hm9;have HRES9:=hid hres;clear hres hm9;go_wp2_with fail
    go_ret
    exact Out.done (by rw[HU.out,HRES9.out]) HM9.out
  ·have hs2:decide ((tok ws k).kind=4)=false:=by simpa using hs
   rw[hs2] at hr;obtain⟨rfl,hk9⟩:=hr;refine And.intro rfl (Out.err ?_ hk9);exact absurd HSw1.out hs
 ·have hs2:decide ((tok ws k).kind=4)=false:=by simpa using hs
  rw[hs2];have HSw1:=hid hs2;clear hs hs2;go_wp2_with fail
  refine(HMw1.out.has_from hlt 2).mono ?_;rintro r w2 ⟨rfl,hm⟩;have HMw2:=hid hm;clear hm;by_cases hs:decide ((tok ws k).kind=2)=true
  ·rw[hs];have HSw2:=hid hs;clear hs;go_wp2_with fail
   refine(HMw2.out.typeName_from hlt).mono ?_;intro r w3 hr;by_cases hs:decide ((tok ws k).kind=2)=true
   ·rw[hs] at hr;obtain⟨rfl,hm⟩:=hr;have HMw3:=hid hm;have HSw3:=hid hs;clear hs hm;go_wp2_with fail
    refine(HMw3.out.add0_from hlt hrm 6 0 ⟨#[]⟩ (tok ws k).text).mono ?_;intro r w4 ho;have HU:Hid (partR ws R k nds=addR ws (k+1) nds ⟨6,0,⟨#[]⟩,(tok ws k).text,[],[]⟩):=by
     show _=_
     rw[partR,if_neg (by simpa using HSw1.out),if_pos (by simpa using HSw2.out)]
    rcases hres:addR ws (k+1) nds ⟨6,0,⟨#[]⟩,(tok ws k).text,[],[]⟩ with⟨at_,er⟩ | ⟨v,k',nds'⟩
    ·rw[hres] at ho;obtain⟨rfl,hk9⟩:=ho;exact And.intro rfl (Out.err (by rw[HU.out,hres]) hk9)
    ·rw[hres] at ho;obtain⟨rfl,hm9⟩:=ho;have HM9:=hid hm9;have HRES9:=hid hres;clear hres hm9;go_wp2_with fail
     go_ret
     exact Out.done (by rw[HU.out,HRES9.out]) HM9.out
   ·have hs2:decide ((tok ws k).kind=2)=false:=by simpa using hs
    rw[hs2] at hr;obtain⟨rfl,hk9⟩:=hr;refine And.intro rfl (Out.err ?_ hk9);exact absurd HSw2.out hs
  ·have hs2:decide ((tok ws k).kind=2)=false:=by simpa using hs
   rw[hs2];have HSw2:=hid hs2;clear hs hs2;go_wp2_with fail
   refine(HMw2.out.has_from hlt 1).mono ?_;rintro r w3 ⟨rfl,hm⟩;have HMw3:=hid hm;clear hm;by_cases hs:decide ((tok ws k).kind=1)=true
   ·rw[hs];have HSw3:=hid hs;clear hs;go_wp2_with fail
    refine(HMw3.out.name_from hlt).mono ?_;intro r w4 hr;by_cases hs:decide ((tok ws k).kind=1)=true
    ·rw[hs] at hr;obtain⟨rfl,hm⟩:=hr;have HMw4:=hid hm;have HSw4:=hid hs;clear hs hm;have hlt1:k+1<ws.length:=kind_next HE.out hlt (kd:=1) (by simpa using HSw3.out) (by decide)
     go_wp2_with fail
     refine(HMw4.out.need_from hlt1 ⟨#[58,58]⟩).mono ?_;intro r w5 hr;by_cases hs:seesW (tok ws (k+1)) ⟨#[58,58]⟩=true
     ·rw[hs] at hr;obtain⟨rfl,hm⟩:=hr;have HMw5:=hid hm;have HSw5:=hid hs;clear hs hm;have hlt2:k+2<ws.length:=sees_next HE.out hlt1 HSw5.out;go_wp2_with fail
      refine(HMw5.out.typeName_from hlt2).mono ?_;intro r w6 hr;by_cases hs:decide ((tok ws (k+2)).kind=2)=true
      ·rw[hs] at hr;obtain⟨rfl,hm⟩:=hr;have HMw6:=hid hm;have HSw6:=hid hs;clear hs hm;go_wp2_with fail
       refine(HMw6.out.add0_from hlt2 hrm 6 0 (tok ws k).text (tok ws (k+2)).text).mono ?_;intro r w7 ho;have HU:Hid (partR ws R k nds=addR ws (k+3) nds ⟨6,0,(tok ws k).text,(tok ws (k+2)).text,[],[]⟩):=by
        show _=_
        rw[partR,if_neg (by simpa using HSw1.out),if_neg (by simpa using HSw2.out),if_pos (by simpa using HSw3.out),if_pos HSw5.out,if_pos (by simpa using HSw6.out)]
       rcases hres:addR ws (k+3) nds ⟨6,0,(tok ws k).text,(tok ws (k+2)).text,[],[]⟩ with⟨at_,er⟩ | ⟨v,k',nds'⟩
       ·rw[hres] at ho;obtain⟨rfl,hk9⟩:=ho;exact And.intro rfl (Out.err (by rw[HU.out,hres]) hk9)
       ·rw[hres] at ho;obtain⟨rfl,hm9⟩:=ho;have HM9:=hid hm9;have HRES9:=hid hres;clear hres hm9;go_wp2_with fail
        go_ret
        exact Out.done (by rw[HU.out,HRES9.out]) HM9.out
      ·have hs2:decide ((tok ws (k+2)).kind=2)=false:=by simpa using hs
       rw[hs2] at hr;obtain⟨rfl,hk9⟩:=hr;refine And.intro rfl (Out.err ?_ hk9);rw[partR,if_neg (by simpa using HSw1.out),if_neg (by simpa using HSw2.out),if_pos (by simpa using HSw3.out),if_pos HSw5.out,if_neg (by simpa using hs2)]
     ·have hs2:seesW (tok ws (k+1)) ⟨#[58,58]⟩=false:=by simpa using hs
      rw[hs2] at hr;obtain⟨rfl,hk9⟩:=hr;refine And.intro rfl (Out.err ?_ hk9);rw[partR,if_neg (by simpa using HSw1.out),if_neg (by simpa using HSw2.out),if_pos (by simpa using HSw3.out),if_neg (by simpa using hs2)]
    ·have hs2:decide ((tok ws k).kind=1)=false:=by simpa using hs
     rw[hs2] at hr;obtain⟨rfl,hk9⟩:=hr;refine And.intro rfl (Out.err ?_ hk9);exact absurd HSw3.out hs
   ·have hs2:decide ((tok ws k).kind=1)=false:=by simpa using hs
    rw[hs2];have HSw3:=hid hs2;clear hs hs2;go_wp2_with fail
    refine(HMw3.out.sees_from hlt ⟨#[123]⟩).mono ?_;rintro r w4 ⟨rfl,hm⟩;have HMw4:=hid hm;clear hm;by_cases hs:seesW (tok ws k) ⟨#[123]⟩=true
    ·rw[hs];have HSw4:=hid hs;clear hs;go_wp2_with fail
     obtain⟨⟨f4,h4,hn4,ht4⟩,hk4⟩:=HMw4.out;have H4:=hid h4;have HN4:=hid hn4;have HT4:=hid ht4;have HK4:=hid hk4;clear h4 hn4 ht4 hk4;refine((record_any _ 7 g ws HE.out d a b c e R HR.out HG.out w4 f4 k nds _ H4.out HN4.out HOK.out).mono fun _ _ ho=>Out.behind HK4.out HT4.out ho).mono ?_
     intro r w5 ho;have HU:Hid (partR ws R k nds=recordR ws 7 R k nds):=by
      show _=_
      rw[partR,if_neg (by simpa using HSw1.out),if_neg (by simpa using HSw2.out),if_neg (by simpa using HSw3.out),if_pos HSw4.out]
     rcases hres:recordR ws 7 R k nds with⟨at_,er⟩ | ⟨v,k',nds'⟩
     ·rw[hres] at ho;obtain⟨rfl,hk9⟩:=ho;exact And.intro rfl (Out.err (by rw[HU.out,hres]) hk9)
     ·rw[hres] at ho;obtain⟨rfl,hm9⟩:=ho;have HM9:=hid hm9;have HRES9:=hid hres;clear hres hm9;go_wp2_with fail
      go_ret
      exact Out.done (by rw[HU.out,HRES9.out]) HM9.out
    ·have hs2:seesW (tok ws k) ⟨#[123]⟩=false:=by simpa using hs
     rw[hs2];have HSw4:=hid hs2;clear hs hs2;go_wp2_with fail
     refine(HMw4.out.sees_from hlt ⟨#[40]⟩).mono ?_;rintro r w5 ⟨rfl,hm⟩;have HMw5:=hid hm;clear hm;by_cases hs:seesW (tok ws k) ⟨#[40]⟩=true
     ·rw[hs];have HSw5:=hid hs;clear hs;go_wp2_with fail
      refine(HMw5.out.behind_from HR.out hlt ⟨#[40]⟩ (fun hs=>⟨sees_next HE.out hlt hs,hrm,HOK.out.ok⟩)).mono ?_
      intro r w6 ho;rcases hres:behindR ws ⟨#[40]⟩ R k nds with⟨at_,er⟩ | ⟨vw6,kw6,nw6⟩
      ·rw[hres] at ho;obtain⟨rfl,hk9⟩:=ho;refine And.intro rfl (Out.err ?_ hk9);rw[partR,if_neg (by simpa using HSw1.out),if_neg (by simpa using HSw2.out),if_neg (by simpa using HSw3.out),if_neg (by rw[HSw4.out];simp),if_pos HSw5.out,hres]
      ·rw[hres] at ho;obtain⟨rfl,hm⟩:=ho;have HMw6:=hid hm;have HRw6:=hid hres;have hok6:=(behindR_ok HE.out HG.out ⟨#[40]⟩ _ _ _ _ _ HOK.out hres).2.1;clear hres hm;go_wp2_with fail
       refine(HMw6.out.need_from hok6.lt ⟨#[41]⟩).mono ?_;intro r w7 hr;by_cases hs:seesW (tok ws kw6) ⟨#[41]⟩=true
       ·rw[hs] at hr;obtain⟨rfl,hm⟩:=hr;have HMw7:=hid hm;have HSw7:=hid hs;clear hs hm;go_wp2_with fail
        go_ret
        refine Out.done ?_ HMw7.out;rw[partR,if_neg (by simpa using HSw1.out),if_neg (by simpa using HSw2.out),if_neg (by simpa using HSw3.out),if_neg (by rw[HSw4.out];simp),if_pos HSw5.out,HRw6.out]
        simp only[HSw7.out,if_true]
       ·have hs2:seesW (tok ws kw6) ⟨#[41]⟩=false:=by simpa using hs
        rw[hs2] at hr;obtain⟨rfl,hk9⟩:=hr;refine And.intro rfl (Out.err ?_ hk9);rw[partR,if_neg (by simpa using HSw1.out),if_neg (by simpa using HSw2.out),if_neg (by simpa using HSw3.out),if_neg (by rw[HSw4.out];simp),if_pos HSw5.out,HRw6.out]
        simp only[hs2]
        rfl
     ·have hs2:seesW (tok ws k) ⟨#[40]⟩=false:=by simpa using hs
      rw[hs2];have HSw5:=hid hs2;clear hs hs2;go_wp2_with fail
      refine(HMw5.out.keyword_from hlt hrm type_kinds).mono ?_;intro r w6 ho;have HU:Hid (partR ws R k nds=keywordR ws typK k nds):=by
       show _=_
       rw[partR,if_neg (by simpa using HSw1.out),if_neg (by simpa using HSw2.out),if_neg (by simpa using HSw3.out),if_neg (by rw[HSw4.out];simp),if_neg (by rw[HSw5.out];simp)]
      rcases hres:keywordR ws typK k nds with⟨at_,er⟩ | ⟨v,k',nds'⟩
      ·rw[hres] at ho;obtain⟨rfl,hk9⟩:=ho;exact And.intro rfl (Out.err (by rw[HU.out,hres]) hk9)
      ·rw[hres] at ho;obtain⟨rfl,hm9⟩:=ho;have HM9:=hid hm9;have HRES9:=hid hres;clear hres hm9;go_wp2_with fail
       go_ret
       exact Out.done (by rw[HU.out,HRES9.out]) HM9.out
end
section
open Lib (hid)
open Go.RowKit
theorem keywordR_good {ws:List Wd}(hE:EndW ws){K:ByteArray→Nat}(hK:∀ t,K t≠18):GoodR ws (keywordR ws K):=by
 intro k nds v k' nds' h0 h;rw[keywordR] at h;split at h
 ·cases h
 ·split at h
  ·rename_i h5;obtain⟨rfl,h2,h3,h4⟩:=addR_good (kind_next hE h0.lt h5 (by decide)) h0.room h0.ok (fun h=>absurd h (hK _)) h
   exact⟨by omega,h2,h3,h4⟩
  ·cases h
theorem typK_ne (t:ByteArray):typK t≠18:=by unfold typK;(repeat' split)<;>decide
theorem conK_ne (t:ByteArray):conK t≠18:=by unfold conK;(repeat' split)<;>decide
theorem add_good {ws:List Wd}{k k0:Nat}{nds nds0:List Nd}{x:Nd}{v k':Nat}{nds':List Nd}(hk:k<ws.length)(hkk:k0<k)(h0:OkP ws k0 nds)(hx:x.kind≠18)(hnn:nds0.length≤nds.length)
  (h:addR ws k nds x=.ok (v,k',nds')):k0<k'∧OkP ws k' nds'∧v<nds'.length∧nds0.length<nds'.length:=by
 obtain⟨rfl,h2,h3,h4⟩:=addR_good hk h0.room h0.ok (fun h=>absurd h hx) h
 exact⟨hkk,h2,h3,by omega⟩
theorem recordR_good {ws:List Wd}(hE:EndW ws){kind:Nat}(hkd:kind≠18){R:Nat→List Nd→Res}(hG:GoodR ws R):GoodR ws (recordR ws kind R):=by
 intro k nds v k' nds' h0 h;rw[recordR] at h;split at h
 ·rename_i hs;have h1:=sees_next hE h0.lt hs;split at h
  ·rename_i hs1;exact add_good (sees_next hE h1 hs1) (by omega) h0 hkd (Nat.le_refl _) h
  ·split at h
   ·cases h
   ·rename_i l k1 nds1 ns hr;obtain⟨q1,q2,q3,_,_⟩:=namedR_good hE (by decide) hG ⟨h1,h0.room,h0.ok⟩ hr
    split at h
    ·rename_i hs2;have h2:=sees_next hE q1.lt hs2;obtain⟨p1,p2,p3,p4⟩:=add_good h2 (k0:=k1) (by omega) q1 hkd (Nat.le_of_lt q3) h
     exact⟨by omega,p2,p3,p4⟩
    ·cases h
 ·cases h
theorem partR_good {ws:List Wd}(hE:EndW ws){R:Nat→List Nd→Res}(hG:GoodR ws R):GoodR ws (partR ws R):=by
 intro k nds v k' nds' h0 h;rw[partR] at h;split at h
 ·rename_i h4;exact add_good (kind_next hE h0.lt h4 (by decide)) (by omega) h0 (show 5≠18 by decide) (Nat.le_refl _) h
 split at h
 ·rename_i h2;exact add_good (kind_next hE h0.lt h2 (by decide)) (by omega) h0 (show 6≠18 by decide) (Nat.le_refl _) h
 split at h
 ·rename_i h1;have l1:=kind_next hE h0.lt h1 (by decide)
  split at h
  ·rename_i hs;have l2:=sees_next hE l1 hs;split at h
   ·rename_i h3;exact add_good (kind_next hE l2 h3 (by decide)) (by omega) h0 (show 6≠18 by decide) (Nat.le_refl _) h
   ·cases h
  ·cases h
 split at h
 ·exact recordR_good hE (by decide) hG _ _ _ _ _ h0 h
 split at h
 ·rename_i hs;split at h
  ·cases h
  ·rename_i v1 k1 nds1 hr;obtain⟨q1,q2,q3,q4⟩:=behindR_ok hE hG _ _ _ _ _ _ h0 hr;split at h
   ·rename_i hs1;simp at h;obtain⟨rfl,rfl,rfl⟩:=h;exact⟨by omega,⟨sees_next hE q2.lt hs1,q2.room,q2.ok⟩,q3,q4⟩
   ·cases h
 ·exact keywordR_good hE typK_ne _ _ _ _ _ h0 h
theorem typeR_good {ws:List Wd}(hE:EndW ws):∀ m,GoodR ws (typeR ws m)
 | 0=>fun k nds v k' nds' _ h=>by rw[typeR] at h;cases h
 | m+1=>fun k nds v k' nds' h0 h=>by rw[typeR] at h;exact unionR_good hE (partR_good hE (typeR_good hE m)) _ _ _ _ _ h0 h
set_option maxRecDepth 100000 in
theorem aType_any (g:Nat)(ws:List Wd)(d:Nat)(a b c e:Value)(R:Nat→List Nd→Res)(hd:d≤60)(hR:d<60→Rule 207 g ws (d+1) a b c e R (OkP ws))
  (w:World)(f:Value)(k:Nat)(nds:List Nd)(D:Nat→Prop)(h:Stm w g ws k d a b c e f)(hn:Nds w g f nds D)(hok:OkP ws k nds) :
  Calls Tryz.prog 189 #[.pointer (some ⟨g,0,none⟩)] w fun r w'=>Out w g ws d a b c e f D (deeperR ws d R k nds) r w':=by
 have H:=hid h;have HN:=hid hn;have HOK:=hid hok;have HR:=hid hR;have hmf:∀(fn:Fn) (first cap:Array Value) (w:World),(Instr.makeFunc fn first cap).run Tryz.prog w=.ok (.func fn first cap) w:=fun _ _ _ _=>rfl
 clear h hn hok hR;go_enter Tryz.func189,Tryz.ntmps189
 go_wp2_with fail
 refine(deeper_any _ g ws d a b c e R (OkP ws) hd HR.out w f k nds D H.out HN.out HOK.out.lt HOK.out).mono ?_;intro r w1 ho;rcases hres:deeperR ws d R k nds with⟨at_,er⟩ | ⟨v,k',nds'⟩
 ·rw[hres] at ho;obtain⟨rfl,hk9⟩:=ho;exact And.intro rfl (Out.err hres hk9)
 ·rw[hres] at ho;obtain⟨rfl,hm9⟩:=ho;have HM9:=hid hm9;have HR9:=hid hres;clear hres hm9;go_wp2_with fail
  go_ret
  exact Out.done HR9.out HM9.out
theorem aType_rule {ws:List Wd}(hE:EndW ws)(g:Nat)(a b c e:Value):∀(m d:Nat),d+m=60→Rule 189 g ws d a b c e (typeR ws m) (OkP ws)
 | 0,d,hd=>by
  obtain rfl:d=60:=by omega
  refine⟨fun _ _=>by simp[go_sem],fun w f k nds D h hn hok=>?_⟩
  have:=aType_any g ws 60 a b c e (fun _ _=>.error (0,0)) (Nat.le_refl _) (fun h=>absurd h (by omega)) w f k nds D h hn hok
  rw[deeperR,if_pos rfl] at this;exact this
 | m+1,d,hd=>by
  have ih:=aType_rule hE g a b c e m (d+1) (by omega)
  refine⟨fun _ _=>by simp[go_sem],fun w f k nds D h hn hok=>?_⟩
  have hpart:Rule 214 g ws (d+1) a b c e (partR ws (typeR ws m)) (OkP ws):=⟨fun _ _=>by simp[go_sem],fun w f k nds D h hn hok=>part_any g ws hE (d+1) a b c e _ ih (typeR_good hE m) w f k nds D h hn hok⟩
  have hunion:Rule 207 g ws (d+1) a b c e (unionR ws (partR ws (typeR ws m))) (OkP ws):=⟨fun _ _=>by simp[go_sem],fun w f k nds D h hn hok=>union_any g ws (d+1) a b c e _ _ hpart (okR_of hE (partR_good hE (typeR_good hE m))) w f k nds D h hn hok⟩
  have:=aType_any g ws d a b c e _ (by omega) (fun _=>hunion) w f k nds D h hn hok
  rw[deeperR,if_neg (by omega)] at this
  exact this
end
section
open Lib (hid)
open Go.RowKit
def TextW (ws:List Wd):Prop:=∀ k,(tok ws k).text.size≤70000
def ShapeM (w:World)(g:Nat)(ws:List Wd)(k d:Nat)(a b c e f:Value)(nds:List Nd)(D:Nat→Prop)(o:Option ByteArray)(at_:Nat)(r:Ending)(w':World):Prop:=
 match o with
 | some t=>r=.returned (.string t)∧Mde w w' g ws (k+1) d a b c e f nds D
 | none=>r=.panicked (faultP at_ 30)∧Kept (Mut g f) w w'
theorem ShapeM.yes {w:World}{g:Nat}{ws:List Wd}{k d:Nat}{a b c e f:Value}{nds:List Nd}{D:Nat→Prop}{o:Option ByteArray}{at_:Nat}{r:Ending}{w':World}{t:ByteArray}(h:o=some t)(hr:r=.returned (.string t))(hM:Mde w w' g ws (k+1) d a b c e f nds D):ShapeM w g ws k d a b c e f nds D o at_ r w':=by subst h;exact⟨hr,hM⟩
theorem ShapeM.no {w:World}{g:Nat}{ws:List Wd}{k d:Nat}{a b c e f:Value}{nds:List Nd}{D:Nat→Prop}{o:Option ByteArray}{at_:Nat}{r:Ending}{w':World}(h:o=none)(hr:r=.panicked (faultP at_ 30))(hM:Kept (Mut g f) w w'):ShapeM w g ws k d a b c e f nds D o at_ r w':=by subst h;exact⟨hr,hM⟩
set_option maxRecDepth 100000 in
set_option maxHeartbeats 2000000 in
theorem shape_any (g:Nat)(ws:List Wd)(hE:EndW ws)(hT:TextW ws)(d:Nat)(a b c e f:Value)(w w1:World)(k:Nat)(nds:List Nd)(D:Nat→Prop)(hM:Mde w w1 g ws k d a b c e f nds D)(hlt:k<ws.length) :
  Calls Tryz.prog 227 #[.pointer (some ⟨g,0,none⟩)] w1 fun r w'=>ShapeM w g ws k d a b c e f nds D (shapeS (tok ws k)) (tok ws k).at_ r w':=by
 have HM0:=hid hM;have HE:=hid hE;have f1:=field_word1 (tok ws k);have hsz:(9223372036854775807<(tok ws k).text.size+1)=False:=by have:=hT k;simp;omega
 have hsz2:(9223372036854775807<1+(tok ws k).text.size)=False:=by have:=hT k;simp;omega
 clear hM hE hT;go_enter Tryz.func227,Tryz.ntmps227
 go_wp2_with fail
 refine(HM0.out.has_from hlt 4).mono ?_;rintro r w2 ⟨rfl,hm⟩;have HM1:=hid hm;clear hm;by_cases hs:decide ((tok ws k).kind=4)=true
 ·rw[hs];have HS:=hid hs;clear hs;go_wp2_with fail
  refine(HM1.out.word_from hlt 4).mono ?_;intro r w3 hr;rw[HS.out] at hr;obtain⟨rfl,hm⟩:=hr;have HM2:=hid hm;clear hm;go_wp2_with fail
  go_ret
  exact ShapeM.yes (by rw[shapeS,if_pos (by simpa using HS.out)]) rfl HM2.out
 ·have hs2:decide ((tok ws k).kind=4)=false:=by simpa using hs
  rw[hs2];have HS:=hid hs2;clear hs hs2;have hsS:Hid (shapeS (tok ws k)=if seesW (tok ws k) ⟨#[110,117,108,108]⟩ then some (tok ws k).text
   else if seesW (tok ws k) ⟨#[98,111,111,108]⟩ then some (tok ws k).text
   else if seesW (tok ws k) ⟨#[105,110,116]⟩ then some (tok ws k).text
   else if seesW (tok ws k) ⟨#[114,101,99]⟩ then some (tok ws k).text
   else none):=by show _=_;rw[shapeS,if_neg (by simpa using HS.out)]
  go_wp2_with fail
  refine(HM1.out.take_from hlt ⟨#[110,117,108,108]⟩).mono ?_;rintro r w3 ⟨rfl,hm⟩;by_cases hs:seesW (tok ws k) ⟨#[110,117,108,108]⟩=true
  ·rw[adv_yes hs] at hm;rw[hs];have HS1:=hid hs;have HM2:=hid hm;clear hs hm;go_wp2_with fail
   refine(HM2.out.last_from hlt).mono ?_;rintro r w3b ⟨rfl,hm⟩;have HM2b:=hid hm;clear hm;go_wp2_with fail
   go_ret
   exact ShapeM.yes (by rw[hsS.out,if_pos HS1.out]) rfl HM2b.out
  ·have hs2:seesW (tok ws k) ⟨#[110,117,108,108]⟩=false:=by simpa using hs
   rw[adv_no hs2] at hm;rw[hs2];have HS1:=hid hs;have HM2:=hid hm;clear hs hs2 hm;go_wp2_with fail
   refine(HM2.out.take_from hlt ⟨#[98,111,111,108]⟩).mono ?_;rintro r w4 ⟨rfl,hm⟩;by_cases hs:seesW (tok ws k) ⟨#[98,111,111,108]⟩=true
   ·rw[adv_yes hs] at hm;rw[hs];have HS2:=hid hs;have HM3:=hid hm;clear hs hm;go_wp2_with fail
    refine(HM3.out.last_from hlt).mono ?_;rintro r w4b ⟨rfl,hm⟩;have HM3b:=hid hm;clear hm;go_wp2_with fail
    go_ret
    exact ShapeM.yes (by rw[hsS.out,if_neg HS1.out,if_pos HS2.out]) rfl HM3b.out
   ·have hs2:seesW (tok ws k) ⟨#[98,111,111,108]⟩=false:=by simpa using hs
    rw[adv_no hs2] at hm;rw[hs2];have HS2:=hid hs;have HM3:=hid hm;clear hs hs2 hm;go_wp2_with fail
    refine(HM3.out.take_from hlt ⟨#[105,110,116]⟩).mono ?_;rintro r w5 ⟨rfl,hm⟩;by_cases hs:seesW (tok ws k) ⟨#[105,110,116]⟩=true
    ·rw[adv_yes hs] at hm;rw[hs];have HS3:=hid hs;have HM4:=hid hm;clear hs hm;go_wp2_with fail
     refine(HM4.out.last_from hlt).mono ?_;rintro r w5b ⟨rfl,hm⟩;have HM4b:=hid hm;clear hm;go_wp2_with fail
     go_ret
     exact ShapeM.yes (by rw[hsS.out,if_neg HS1.out,if_neg HS2.out,if_pos HS3.out]) rfl HM4b.out
    ·have hs2:seesW (tok ws k) ⟨#[105,110,116]⟩=false:=by simpa using hs
     rw[adv_no hs2] at hm;rw[hs2];have HS3:=hid hs;have HM4:=hid hm;clear hs hs2 hm;go_wp2_with fail
     refine(HM4.out.take_from hlt ⟨#[114,101,99]⟩).mono ?_;rintro r w6 ⟨rfl,hm⟩;by_cases hs:seesW (tok ws k) ⟨#[114,101,99]⟩=true
     ·rw[adv_yes hs] at hm;rw[hs];have HS4:=hid hs;have HM5:=hid hm;clear hs hm;go_wp2_with fail
      refine(HM5.out.last_from hlt).mono ?_;rintro r w6b ⟨rfl,hm⟩;have HM5b:=hid hm;clear hm;go_wp2_with fail
      go_ret
      exact ShapeM.yes (by rw[hsS.out,if_neg HS1.out,if_neg HS2.out,if_neg HS3.out,if_pos HS4.out]) rfl HM5b.out
     ·have hs2:seesW (tok ws k) ⟨#[114,101,99]⟩=false:=by simpa using hs
      rw[adv_no hs2] at hm;rw[hs2];have HS4:=hid hs;have HM5:=hid hm;clear hs hs2 hm;go_wp2_with fail
      refine(HM5.out.fail_from hlt 30).mono ?_;rintro r w7 ⟨rfl,hk9⟩;exact And.intro rfl (ShapeM.no (by rw[hsS.out,if_neg HS1.out,if_neg HS2.out,if_neg HS3.out,if_neg HS4.out]) rfl hk9)
end
section
open Lib (hid)
open Go.RowKit
theorem ncells_at (l:List Np)(i j:Nat)(x:Np)(u:Value)(hx:l[i]? = some x)(hj:x.cells[j]? = some u):(ncells l)[i*6+j]? = some u:=by
 induction l generalizing i with
 | nil=>simp at hx
 | cons y l ih =>
  have hl:y.cells.length=6:=rfl;have hj4:j<6:=(List.getElem?_eq_some_iff.1 hj).1;rw[ncells,List.flatMap_cons,← ncells];cases i with
  | zero =>
   simp at hx;subst hx;rw[List.getElem?_append_left (by omega),Nat.zero_mul,Nat.zero_add,hj]
  | succ i =>
   rw[List.getElem?_append_right (by omega),hl]
   have:=ih i (by simpa using hx)
   rw[show(i+1)*6+j-6=i*6+j by omega]
   exact this
theorem Nds.at_ {w:World}{g:Nat}{f:Value}{nds:List Nd}{D:Nat→Prop}(h:Nds w g f nds D){i:Nat}{x:Nd}(hx:nds[i]? = some x):∃ q n kv lv,f=.slice (some ⟨q,0,none⟩) nds.length n∧q<w.heap.size ∧
  w.cell? ⟨q,i*6,none⟩=some (.int .i64 (x.kind:Int))∧w.cell? ⟨q,i*6+1,none⟩=some (.int .i64 (x.num:Int))∧w.cell? ⟨q,i*6+2,none⟩=some (.string x.md)∧w.cell? ⟨q,i*6+3,none⟩=some (.string x.nm)∧w.cell? ⟨q,i*6+4,none⟩=some kv∧w.cell? ⟨q,i*6+5,none⟩=some lv ∧
  SSq w (Bad g f D) kv x.keys∧ISq w (Bad g f D) lv x.l:=by
 obtain⟨ps,hps,hown,hall⟩:=h.rows;have hlen:nds.length=ps.length:=by rw[← hps];simp
 have hlt:=(List.getElem?_eq_some_iff.1 hx).1;obtain⟨q,n,rfl,_,hq⟩:=hown.form (by omega)
 have hp:∃ p,ps[i]? = some p∧p.1=x:=by
  rw[← hps,List.getElem?_map] at hx;rcases hpi:ps[i]? with _ | p
  ·rw[hpi] at hx;cases hx
  ·rw[hpi] at hx;exact⟨p,rfl,by simpa using hx⟩
 obtain⟨p,hp,rfl⟩:=hp;have hc:∀ j u,p.cells[j]? = some u→w.cell? ⟨q,i*6+j,none⟩=some u:=fun j u hu=>by
  have:=hown.cells (g:=q) rfl (i*6+j) u (ncells_at ps i j p u hp hu)
  rwa [addr_lit,Nat.zero_add] at this
 obtain⟨h1,h2⟩:=hall p (List.mem_of_getElem? hp);exact⟨q,n,p.2.1,p.2.2,by rw[hlen],hq,hc 0 _ rfl,hc 1 _ rfl,hc 2 _ rfl,hc 3 _ rfl,hc 4 _ rfl,hc 5 _ rfl,h1,h2⟩
set_option maxRecDepth 100000 in
set_option maxHeartbeats 2000000 in
theorem testable_any (g:Nat)(ws:List Wd)(k d:Nat)(a b c e f:Value)(w:World)(nds:List Nd)(D:Nat→Prop)(h:Stm w g ws k d a b c e f)(hn:Nds w g f nds D)(hok:NOk nds)(h4:nds.length≤4000)(v:Nat)(hv:v<nds.length) :
  Calls Tryz.prog 226 #[.pointer (some ⟨g,0,none⟩),.int .i64 (v:Int)] w fun r w'=>r=.returned (.bool (testableS nds v))∧Below w.heap.size w w':=by
 obtain⟨x,hx⟩:∃ x,nds[v]? = some x:=⟨_,List.getElem?_eq_getElem hv⟩;obtain⟨q,n,kv,lv,rfl,hq,c0,c1,c2,c3,c4,c5,hks,hls⟩:=hn.at_ hx;obtain⟨KA,kc,rfl,_⟩:=hks;have hls':=hls;obtain⟨LA,lc,rfl,hlc⟩:=hls;have hg:=h.lt;obtain⟨AA,nn,hbk,_⟩:=h.blk;have s7:=hbk.cell 7;simp at s7;have HN:=hid hn;have HOK:=hid hok;have HX:=hid hx;have HL:=hid hls';have HLC:=hid hlc;have HB:=hid hbk;clear h hn hok hx hls' hlc hbk;by_cases h18:x.kind=18
 ·have hb18:((x.kind:Int)==18)=true:=by rw[beq_iff_eq];omega
  have H18:=hid h18;clear h18;go_enter Tryz.func226,Tryz.ntmps226
  obtain⟨j,hj,hjv⟩:=HOK.out v x HX.out H18.out;have hxl:x.l.length=1:=by rw[hj];rfl
  obtain⟨b3,o3,rfl,hb3,hbad3,hcell⟩:=HLC.out (by omega)
  have l0':=hcell 0 j (by rw[hj];rfl)
  rw[Nat.add_zero] at l0';have HL0:=hid l0';have HXL:=hid hxl;clear hxl l0' hcell;go_wp2_with fail
  have hz:=Blk.new w 53 #[.int .i64 (x.kind:Int),.int .i64 (x.num:Int),.string x.md,.string x.nm,.slice KA x.keys.length kc,.slice (some ⟨b3,o3,none⟩) 1 lc];have hb1:=(Below.refl w.heap.size w).alloc (Nat.le_refl _) (.cells #[.int .i64 (x.kind:Int),.int .i64 (x.num:Int),.string x.md,.string x.nm,.slice KA x.keys.length kc,.slice (some ⟨b3,o3,none⟩) 1 lc] 53);have hn1:=HN.out.kept (Kept.of_below hb1 (fun i=>i=g)) (fun _ _ h=>h)
  have hbk1:=HB.out.below hb1 hg;obtain⟨y,hy⟩:∃ y,nds[j]? = some y:=⟨_,List.getElem?_eq_getElem (by omega)⟩
  obtain⟨q2,n2,kv2,lv2,hf2,hq2,d0,d1,d2,d3,d4,d5,hks2,hls2⟩:=hn1.at_ hy;cases hf2
  obtain⟨KA2,kc2,rfl,_⟩:=hks2;obtain⟨LA2,lc2,rfl,_⟩:=hls2;have l0:(w.alloc (.cells #[.int .i64 (x.kind:Int),.int .i64 (x.num:Int),.string x.md,.string x.nm,.slice KA x.keys.length kc,.slice (some ⟨b3,o3,none⟩) 1 lc] 53)).cell? ⟨b3,o3,none⟩=some (.int .i64 (j:Int)):=(hb1.cell (p:=⟨b3,o3,none⟩) hb3).trans HL0.out;have s7:=hbk1.cell 7;simp at s7;have y0:=hz.frozen 0;have y1:=hz.frozen 1;have y2:=hz.frozen 2;have y3:=hz.frozen 3;have y4:=hz.frozen 4;have y5:=hz.frozen 5;generalize hw1:w.alloc (.cells #[.int .i64 (x.kind:Int),.int .i64 (x.num:Int),.string x.md,.string x.nm,.slice KA x.keys.length kc,.slice (some ⟨b3,o3,none⟩) 1 lc] 53)=w1 at hb1 hbk1 hn1 s7 y0 y1 y2 y3 y4 y5 l0 d0 d1 d2 d3 d4 d5 hz ⊢;have z0:=hz.cell 0;have z1:=hz.cell 1;have z2:=hz.cell 2;have z3:=hz.cell 3;have z4:=hz.cell 4;have z5:=hz.cell 5;simp at z0 z1 z2 z3 z4 z5;have HJ:=hid hj;have HY:=hid hy;have HJV:=hid hjv;have hb16:((y.kind:Int)==16)=decide (y.kind=16):=by
   by_cases h:y.kind=16
   ·simp[h]
   ·have h2:¬((y.kind:Int)=16):=by omega
    simp[h,h2]
  have H16:=hid hb16;have HB1:=hid hb1;have HZ:=hid hz;have hjn:j<nds.length:=by omega
  clear hb1 hz hb16 hj hy hjv hbk1 hn1 hw1 c0 c1 c2 c3 c4 c5
  go_still_tail 11,(by kernel_rfl)
  change wpList _ _ _ _ _ w1.drew
  go_wp2_with fail
  go_ret
  have hT:testableS nds v=decide (y.kind=16):=by
   rw[testableS,HX.out];simp only[if_pos H18.out];rw[HJ.out,List.headD_cons,isVar,HY.out]
  refine⟨by rw[hT,← H16.out];rfl,?_⟩
  have hk:=((Kept.of_below HB1.out (fun i=>w.heap.size≤i)).set4 (Z:=w.heap.size) (Nat.le_refl _) (.int .i64 (y.kind:Int)) (.int .i64 (y.num:Int)) (.string y.md) (.string y.nm))
  have hk2:=(hk.setCell (p:=⟨w.heap.size,4,none⟩) (fun _=>Nat.le_refl _) (.slice KA2 y.keys.length kc2)).setCell (p:=⟨w.heap.size,5,none⟩) (fun _=>Nat.le_refl _) (.slice LA2 y.l.length lc2)
  exact hk2.drew.below (Nat.le_refl _) (fun i hi h=>by omega)
 ·have hb18:((x.kind:Int)==18)=false:=by rw[beq_eq_false_iff_ne];omega
  have hb16:((x.kind:Int)==16)=decide (x.kind=16):=by
   by_cases h:x.kind=16
   ·simp[h]
   ·have h2:¬((x.kind:Int)=16):=by omega
    simp[h,h2]
  have H18:=hid h18;have H16:=hid hb16;clear h18 hb16;go_enter Tryz.func226,Tryz.ntmps226
  go_wp2_with fail
  go_ret
  refine⟨?_,(Below.refl _ _).alloc (Nat.le_refl _) _⟩;have hT:testableS nds v=decide (x.kind=16):=by rw[testableS,HX.out];simp only[if_neg H18.out]
  rw[hT,← H16.out]
  rfl
end
section
open Lib (hid)
open Go.RowKit
theorem Mde.testable_from {w w1:World}{g k d:Nat}{ws:List Wd}{a b c e f:Value}{nds:List Nd}{D:Nat→Prop}(hM:Mde w w1 g ws k d a b c e f nds D)(hok:NOk nds)(h4:nds.length≤4000)(v:Nat)(hv:v<nds.length) :
  Calls Tryz.prog 226 #[.pointer (some ⟨g,0,none⟩),.int .i64 (v:Int)] w1 fun r w2=>r=.returned (.bool (testableS nds v))∧Mde w w2 g ws k d a b c e f nds D:=by
 obtain⟨⟨f1,h1,hn1,hm1⟩,hk1⟩:=hM;exact(testable_any g ws k d a b c e f1 w1 nds _ h1 hn1 hok h4 v hv).mono fun _ _ h=>⟨h.1,(Mde.of_below h.2 h1 hn1).behind hk1 hm1⟩
set_option maxRecDepth 100000 in
set_option maxHeartbeats 4000000 in
theorem test_any (g:Nat)(ws:List Wd)(hE:EndW ws)(hT:TextW ws)(d:Nat)(a b c e:Value)(R:Nat→List Nd→Res)(hR:Rule 225 g ws d a b c e R (OkP ws))(hG:GoodR ws R)
  (w:World)(f:Value)(k:Nat)(nds:List Nd)(D:Nat→Prop)(h:Stm w g ws k d a b c e f)(hn:Nds w g f nds D)(hok:OkP ws k nds) :
  Calls Tryz.prog 216 #[.pointer (some ⟨g,0,none⟩)] w fun r w'=>Out w g ws d a b c e f D (testR ws R k nds) r w':=by
 have HM0:=hid (Mde.refl h hn);have HOK:=hid hok;have HR:=hid hR;have HG:=hid hG;have HE:=hid hE;have HT:=hid hT;clear h hn hok hR hG hE hT;go_enter Tryz.func216,Tryz.ntmps216
 go_wp2_with fail
 refine(HR.out.from_ HM0.out HOK.out).mono ?_;intro r w1 ho;rcases hres:R k nds with⟨at_,er⟩ | ⟨vw1,kw1,nw1⟩
 ·rw[hres] at ho;obtain⟨rfl,hk9⟩:=ho;refine And.intro rfl (Out.err ?_ hk9);rw[testR,hres]
 ·rw[hres] at ho;obtain⟨rfl,hm⟩:=ho;have HMw1:=hid hm;have HRw1:=hid hres;obtain⟨hup1,hok1,hvw1,hlen1⟩:=HG.out _ _ _ _ _ HOK.out hres;have HOK1:=hid hok1;clear hok1 hlen1 hup1;clear hres hm;go_wp2_with fail
  refine(HMw1.out.sees_from HOK1.out.lt ⟨#[105,115]⟩).mono ?_;rintro r w2 ⟨rfl,hm⟩;have HMw2:=hid hm;clear hm;by_cases hs:seesW (tok ws kw1) ⟨#[105,115]⟩=true
  ·rw[hs];have HSw2:=hid hs;clear hs;go_wp2_with fail
   refine(HMw2.out.testable_from HOK1.out.ok HOK1.out.room vw1 hvw1).mono ?_;rintro r w3 ⟨rfl,hm⟩;have HMw3:=hid hm;clear hm;by_cases hs:testableS nw1 vw1=true
   ·rw[hs];have HSw3:=hid hs;clear hs;have hlt2:kw1+1<ws.length:=sees_next HE.out HOK1.out.lt HSw2.out;go_wp2_with fail
    refine(HMw3.out.need_from HOK1.out.lt ⟨#[105,115]⟩).mono ?_;intro r w4 hr;rw[HSw2.out] at hr;obtain⟨rfl,hm⟩:=hr;have HMw4:=hid hm;clear hm;go_wp2_with fail
    refine(shape_any g ws HE.out HT.out d a b c e f w w4 (kw1+1) nw1 D HMw4.out hlt2).mono ?_;intro r w5 ho;rcases hsh:shapeS (tok ws (kw1+1)) with _ | t
    ·rw[hsh] at ho;obtain⟨rfl,hk9⟩:=ho;refine And.intro rfl (Out.err ?_ hk9);rw[testR,HRw1.out];simp only[HSw2.out,HSw3.out,if_true,hsh]
    ·rw[hsh] at ho;obtain⟨rfl,hm⟩:=ho;have HMw5:=hid hm;have HSH:=hid hsh;clear hm hsh;go_wp2_with fail
     refine(HMw5.out.add_new_from hlt2 HOK1.out.room 21 0 ⟨#[]⟩ t [vw1]).mono ?_;intro r w6 ho;have HU:Hid (testR ws R k nds=addR ws (kw1+2) nw1 ⟨21,0,⟨#[]⟩,t,[],[vw1]⟩):=by
      show _=_
      rw[testR,HRw1.out];simp only[HSw2.out,HSw3.out,if_true,HSH.out]
     rcases hres:addR ws (kw1+2) nw1 ⟨21,0,⟨#[]⟩,t,[],[vw1]⟩ with⟨at_,er⟩ | ⟨v,k',nds'⟩
     ·rw[hres] at ho;obtain⟨rfl,hk9⟩:=ho;exact And.intro rfl (Out.err (by rw[HU.out,hres]) hk9)
     ·rw[hres] at ho;obtain⟨rfl,hm9⟩:=ho;have HM9:=hid hm9;have HRES9:=hid hres;clear hres hm9;go_wp2_with fail
      go_ret
      exact Out.done (by rw[HU.out,HRES9.out]) HM9.out
   ·have hs2:testableS nw1 vw1=false:=by simpa using hs
    rw[hs2];have HSw3:=hid hs2;clear hs hs2;go_wp2_with fail
    refine(HMw3.out.fail_from HOK1.out.lt 30).mono ?_;rintro r w4 ⟨rfl,hk9⟩;refine And.intro rfl (Out.err ?_ hk9);rw[testR,HRw1.out];simp only[HSw2.out,HSw3.out,if_true]
    rfl
  ·have hs2:seesW (tok ws kw1) ⟨#[105,115]⟩=false:=by simpa using hs
   rw[hs2];have HSw2:=hid hs2;clear hs hs2;go_wp2_with fail
   go_ret
   refine Out.done ?_ HMw2.out;rw[testR,HRw1.out];simp only[HSw2.out]
   rfl
end
section
open Lib (hid)
open Go.RowKit
set_option maxRecDepth 100000 in
set_option maxHeartbeats 4000000 in
theorem letOrIf_any (g:Nat)(ws:List Wd)(hE:EndW ws)(d:Nat)(a b c e:Value)(Rx Rt:Nat→List Nd→Res)(hR:Rule 192 g ws d a b c e Rx (OkP ws))(hG:GoodR ws Rx)
  (hQ:Rule 216 g ws d a b c e (testR ws (sumR ws (primR ws (atomR ws Rx Rt)))) (OkP ws))
  (w:World)(f:Value)(k:Nat)(nds:List Nd)(D:Nat→Prop)(h:Stm w g ws k d a b c e f)(hn:Nds w g f nds D)(hok:OkP ws k nds) :
  Calls Tryz.prog 210 #[.pointer (some ⟨g,0,none⟩)] w fun r w'=>Out w g ws d a b c e f D (letOrIfR ws Rx Rt k nds) r w':=by
 have HM0:=hid (Mde.refl h hn);have HOK:=hid hok;have HR:=hid hR;have HG:=hid hG;have HE:=hid hE;have HQ:=hid hQ;have hlt:=hok.lt;have hmf:∀(fn:Fn) (first cap:Array Value) (w:World),(Instr.makeFunc fn first cap).run Tryz.prog w=.ok (.func fn first cap) w:=fun _ _ _ _=>rfl
 clear h hn hok hR hG hE hQ;go_enter Tryz.func210,Tryz.ntmps210
 go_wp2_with fail
 refine(HM0.out.take_from hlt ⟨#[108,101,116]⟩).mono ?_;rintro r w1 ⟨rfl,hm⟩;by_cases hs:seesW (tok ws k) ⟨#[108,101,116]⟩=true
 ·rw[adv_yes hs] at hm;have HMw1:=hid hm;rw[hs];have HSw1:=hid hs;clear hs hm;have hlt1:k+1<ws.length:=sees_next HE.out hlt HSw1.out;go_wp2_with fail
  refine(HMw1.out.name_from hlt1).mono ?_;intro r w2 hr;by_cases hs:decide ((tok ws (k+1)).kind=1)=true
  ·rw[hs] at hr;obtain⟨rfl,hm⟩:=hr;have HMw2:=hid hm;have HSw2:=hid hs;clear hs hm;have hlt2:k+2<ws.length:=kind_next HE.out hlt1 (kd:=1) (by simpa using HSw2.out) (by decide)
   have HOK2:Hid (OkP ws (k+2) nds):=hid ⟨hlt2,HOK.out.room,HOK.out.ok⟩;go_wp2_with fail
   refine(HMw2.out.behind_from HR.out hlt2 ⟨#[61]⟩ (fun hs=>⟨sees_next HE.out HOK2.out.lt hs,HOK2.out.room,HOK2.out.ok⟩)).mono ?_
   intro r w3 ho;rcases hres:behindR ws ⟨#[61]⟩ Rx (k+2) nds with⟨at_,er⟩ | ⟨vw3,kw3,nw3⟩
   ·rw[hres] at ho;obtain⟨rfl,hk9⟩:=ho;refine And.intro rfl (Out.err ?_ hk9);rw[letOrIfR,if_pos HSw1.out,letR,if_pos (by simpa using HSw2.out),hres]
   ·rw[hres] at ho;obtain⟨rfl,hm⟩:=ho;have HMw3:=hid hm;have HRw3:=hid hres;obtain⟨hupw3,hokw3,hvw3,hlenw3⟩:=behindR_ok HE.out HG.out ⟨#[61]⟩ _ _ _ _ _ HOK2.out hres;have HOKw3:=hid hokw3;clear hokw3 hlenw3 hvw3;clear hres hm;go_wp2_with fail
    refine(HMw3.out.behind_from HR.out HOKw3.out.lt ⟨#[105,110]⟩ (fun hs=>⟨sees_next HE.out HOKw3.out.lt hs,HOKw3.out.room,HOKw3.out.ok⟩)).mono ?_
    intro r w4 ho;rcases hres:behindR ws ⟨#[105,110]⟩ Rx kw3 nw3 with⟨at_,er⟩ | ⟨vw4,kw4,nw4⟩
    ·rw[hres] at ho;obtain⟨rfl,hk9⟩:=ho;refine And.intro rfl (Out.err ?_ hk9);rw[letOrIfR,if_pos HSw1.out,letR,if_pos (by simpa using HSw2.out),HRw3.out]
     simp only[hres]
    ·rw[hres] at ho;obtain⟨rfl,hm⟩:=ho;have HMw4:=hid hm;have HRw4:=hid hres;obtain⟨hupw4,hokw4,hvw4,hlenw4⟩:=behindR_ok HE.out HG.out ⟨#[105,110]⟩ _ _ _ _ _ HOKw3.out hres;have HOKw4:=hid hokw4;clear hokw4 hlenw4 hvw4;clear hres hm;obtain⟨kw4,rfl⟩:∃ k4,kw4=k4+1:=⟨kw4-1,by omega⟩
     have hlt4:=HOKw4.out.lt;go_wp2_with fail
     refine(HMw4.out.add_new_from (by omega) HOKw4.out.room 22 0 ⟨#[]⟩ (tok ws (k+1)).text [vw3,vw4]).mono ?_
     intro r w5 ho;have HU:Hid (letOrIfR ws Rx Rt k nds=addR ws (kw4+1) nw4 ⟨22,0,⟨#[]⟩,(tok ws (k+1)).text,[],[vw3,vw4]⟩):=by
      show _=_
      rw[letOrIfR,if_pos HSw1.out,letR,if_pos (by simpa using HSw2.out),HRw3.out]
      simp only[HRw4.out]
     rcases hres:addR ws (kw4+1) nw4 ⟨22,0,⟨#[]⟩,(tok ws (k+1)).text,[],[vw3,vw4]⟩ with⟨at_,er⟩ | ⟨v,k',nds'⟩
     ·rw[hres] at ho;obtain⟨rfl,hk9⟩:=ho;exact And.intro rfl (Out.err (by rw[HU.out,hres]) hk9)
     ·rw[hres] at ho;obtain⟨rfl,hm9⟩:=ho;have HM9:=hid hm9;have HRES9:=hid hres;clear hres hm9;go_wp2_with fail
      go_ret
      exact Out.done (by rw[HU.out,HRES9.out]) HM9.out
  ·have hs2:decide ((tok ws (k+1)).kind=1)=false:=by simpa using hs
   rw[hs2] at hr;obtain⟨rfl,hk9⟩:=hr;refine And.intro rfl (Out.err ?_ hk9);rw[letOrIfR,if_pos HSw1.out,letR,if_neg (by simpa using hs2)]
 ·have hs2:seesW (tok ws k) ⟨#[108,101,116]⟩=false:=by simpa using hs
  rw[adv_no hs2] at hm;have HMw1:=hid hm;rw[hs2];have HSw1:=hid hs2;clear hs hs2 hm;go_wp2_with fail
  refine(HMw1.out.take_from hlt ⟨#[105,102]⟩).mono ?_;rintro r w2 ⟨rfl,hm⟩;by_cases hs:seesW (tok ws k) ⟨#[105,102]⟩=true
  ·rw[adv_yes hs] at hm;have HMw2:=hid hm;rw[hs];have HSw2:=hid hs;clear hs hm;have hlt1:k+1<ws.length:=sees_next HE.out hlt HSw2.out;have HOK2:Hid (OkP ws (k+1) nds):=hid ⟨hlt1,HOK.out.room,HOK.out.ok⟩;go_wp2_with fail
   refine(HR.out.from_ HMw2.out HOK2.out).mono ?_;intro r w3 ho;rcases hres:Rx (k+1) nds with⟨at_,er⟩ | ⟨vw3,kw3,nw3⟩
   ·rw[hres] at ho;obtain⟨rfl,hk9⟩:=ho;refine And.intro rfl (Out.err ?_ hk9);rw[letOrIfR,if_neg (by rw[HSw1.out];simp),if_pos HSw2.out,ifR,hres]
   ·rw[hres] at ho;obtain⟨rfl,hm⟩:=ho;have HMw3:=hid hm;have HRw3:=hid hres;obtain⟨hupw3,hokw3,hvw3,hlenw3⟩:=HG.out _ _ _ _ _ HOK2.out hres;have HOKw3:=hid hokw3;clear hokw3 hlenw3 hvw3;clear hres hm;go_wp2_with fail
    refine(HMw3.out.behind_from HR.out HOKw3.out.lt ⟨#[116,104,101,110]⟩ (fun hs=>⟨sees_next HE.out HOKw3.out.lt hs,HOKw3.out.room,HOKw3.out.ok⟩)).mono ?_
    intro r w4 ho;rcases hres:behindR ws ⟨#[116,104,101,110]⟩ Rx kw3 nw3 with⟨at_,er⟩ | ⟨vw4,kw4,nw4⟩
    ·rw[hres] at ho;obtain⟨rfl,hk9⟩:=ho;refine And.intro rfl (Out.err ?_ hk9);rw[letOrIfR,if_neg (by rw[HSw1.out];simp),if_pos HSw2.out,ifR,HRw3.out]
     simp only[hres]
    ·rw[hres] at ho;obtain⟨rfl,hm⟩:=ho;have HMw4:=hid hm;have HRw4:=hid hres;obtain⟨hupw4,hokw4,hvw4,hlenw4⟩:=behindR_ok HE.out HG.out ⟨#[116,104,101,110]⟩ _ _ _ _ _ HOKw3.out hres;have HOKw4:=hid hokw4;clear hokw4 hlenw4 hvw4;clear hres hm;go_wp2_with fail
     refine(HMw4.out.behind_from HR.out HOKw4.out.lt ⟨#[101,108,115,101]⟩ (fun hs=>⟨sees_next HE.out HOKw4.out.lt hs,HOKw4.out.room,HOKw4.out.ok⟩)).mono ?_
     intro r w5 ho;rcases hres:behindR ws ⟨#[101,108,115,101]⟩ Rx kw4 nw4 with⟨at_,er⟩ | ⟨vw5,kw5,nw5⟩
     ·rw[hres] at ho;obtain⟨rfl,hk9⟩:=ho;refine And.intro rfl (Out.err ?_ hk9);rw[letOrIfR,if_neg (by rw[HSw1.out];simp),if_pos HSw2.out,ifR,HRw3.out]
      simp only[HRw4.out,hres]
     ·rw[hres] at ho;obtain⟨rfl,hm⟩:=ho;have HMw5:=hid hm;have HRw5:=hid hres;obtain⟨hupw5,hokw5,hvw5,hlenw5⟩:=behindR_ok HE.out HG.out ⟨#[101,108,115,101]⟩ _ _ _ _ _ HOKw4.out hres;have HOKw5:=hid hokw5;clear hokw5 hlenw5 hvw5;clear hres hm;obtain⟨kw5,rfl⟩:∃ k5,kw5=k5+1:=⟨kw5-1,by omega⟩
      have hlt5:=HOKw5.out.lt;go_wp2_with fail
      refine(HMw5.out.add_new_from (by omega) HOKw5.out.room 20 0 ⟨#[]⟩ ⟨#[]⟩ [vw3,vw4,vw5]).mono ?_
      intro r w6 ho;have HU:Hid (letOrIfR ws Rx Rt k nds=addR ws (kw5+1) nw5 ⟨20,0,⟨#[]⟩,⟨#[]⟩,[],[vw3,vw4,vw5]⟩):=by
       show _=_
       rw[letOrIfR,if_neg (by rw[HSw1.out];simp),if_pos HSw2.out,ifR,HRw3.out]
       simp only[HRw4.out,HRw5.out]
      rcases hres:addR ws (kw5+1) nw5 ⟨20,0,⟨#[]⟩,⟨#[]⟩,[],[vw3,vw4,vw5]⟩ with⟨at_,er⟩ | ⟨v,k',nds'⟩
      ·rw[hres] at ho;obtain⟨rfl,hk9⟩:=ho;exact And.intro rfl (Out.err (by rw[HU.out,hres]) hk9)
      ·rw[hres] at ho;obtain⟨rfl,hm9⟩:=ho;have HM9:=hid hm9;have HRES9:=hid hres;clear hres hm9;go_wp2_with fail
       go_ret
       exact Out.done (by rw[HU.out,HRES9.out]) HM9.out
  ·have hs2:seesW (tok ws k) ⟨#[105,102]⟩=false:=by simpa using hs
   rw[adv_no hs2] at hm;have HMw2:=hid hm;rw[hs2];have HSw2:=hid hs2;clear hs hs2 hm;go_wp2_with fail
   refine(HQ.out.from_ HMw2.out HOK.out).mono ?_;intro r w3 ho;have HU:Hid (letOrIfR ws Rx Rt k nds=testR ws (sumR ws (primR ws (atomR ws Rx Rt))) k nds):=by
    show _=_
    rw[letOrIfR,if_neg (by rw[HSw1.out];simp),if_neg (by rw[HSw2.out];simp)]
   rcases hres:testR ws (sumR ws (primR ws (atomR ws Rx Rt))) k nds with⟨at_,er⟩ | ⟨v,k',nds'⟩
   ·rw[hres] at ho;obtain⟨rfl,hk9⟩:=ho;exact And.intro rfl (Out.err (by rw[HU.out,hres]) hk9)
   ·rw[hres] at ho;obtain⟨rfl,hm9⟩:=ho;have HM9:=hid hm9;have HRES9:=hid hres;clear hres hm9;go_wp2_with fail
    go_ret
    exact Out.done (by rw[HU.out,HRES9.out]) HM9.out
end
end Go.Proofs.YtmpaemchjehjbaaGreatDoor
