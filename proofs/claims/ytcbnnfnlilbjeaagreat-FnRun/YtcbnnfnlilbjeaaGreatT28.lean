import Derived.Test.YtcbnnfnlilbjeaaGreatT27
set_option linter.unusedVariables false
set_option linter.unusedSimpArgs false
namespace Go.Proofs.YtcbnnfnlilbjeaaGreat
section
open Go.RowKit
open M (OpD NodeD Gr InsD)
theorem note_st(s:MSt)(n:Nat)(S:Nat→Int):(s.note n S).st=s.st:=by unfold MSt.note;split<;>(try split)<;>rfl
theorem note_log(s:MSt)(n:Nat)(S:Nat→Int):(s.note n S).log=s.log:=by unfold MSt.note;split<;>(try split)<;>rfl
theorem fail_take(s:MSt):∃j i,s.fail.st=s.st.take j∧s.fail.log=s.log.take i:=by
 rcases fail_shape s with e | ⟨j,f,_,e⟩
 ·exact⟨s.st.length,s.log.length,by rw[e,List.take_of_length_le (Nat.le_refl _)];rfl,by rw[e,List.take_of_length_le (Nat.le_refl _)];rfl⟩
 ·exact⟨j,f.log,by rw[e],by rw[e]⟩
theorem test_take(s:MSt)(n:Nat)(S:Nat→Int)(il:Nat)(I:Nat→Int):∃j i,(s.test n S il I).st=s.st.take j∧(s.test n S il I).log=s.log.take i:=by
 unfold MSt.test;split
 ·exact⟨s.st.length,s.log.length,by rw[List.take_of_length_le (Nat.le_refl _)],by rw[List.take_of_length_le (Nat.le_refl _)]⟩
 ·split
  ·exact fail_take s
  ·obtain⟨j,i,h1,h2⟩:=fail_take (s.note n S)
   rw[note_st]at h1;rw[note_log]at h2;exact⟨j,i,h1,h2⟩
theorem spa_test{K L X X2:Nat→Prop}{w W:World}{s t:MSt}{ka:Option Addr}{kc:Nat}{la:Option Addr}{lc:Nat}{xa xa2:Option Addr}{xn xn2:Nat}(hA:SpA K L X w s ka kc la lc xa xn)(hb:Below w.heap.size w W)(ht:∃j i,t.st=s.st.take j∧t.log=s.log.take i)(hx:ExA X2 W xa2 xn2 t.exp){lo:Nat}(h0:w.heap.size≤lo)(hX2:∀b,X2 b→X b∨lo≤b∧b<W.heap.size) :
  SpA K L (fun b=>X b∨lo≤b∧b<W.heap.size) W t ka kc la lc xa2 xn2:=by
 obtain⟨j,i,hs,hl⟩:=ht;have hAW:=hA.on (fun b hq=>hb.block b (hA.lt b hq)) hb.size
 have h2:=hAW.cut (t:={ t with exp:=s.exp }) (j:=j) (i:=i) hs hl rfl
 refine⟨h2.st,h2.log,hx.wide hX2,fun b hq=>?_,hA.kl,fun b hK hX=>?_,fun b hL hX=>?_⟩
 ·rcases hq with q | q | q | q
  ·exact hAW.lt b (.inl q)
  ·exact hAW.lt b (.inr (.inl q))
  ·exact hAW.lt b (.inr (.inr q))
  ·exact q.2
 ·rcases hX with q | q
  ·exact hA.kx b hK q
  ·have:=hA.lt b (.inl hK);have:=q.1;omega
 ·rcases hX with q | q
  ·exact hA.lx b hL q
  ·have:=hA.lt b (.inr (.inl hL));have:=q.1;omega
theorem top_len{s:MSt}{k:Int}(h:s.top k=true):∃m f,s.st.length=m+1∧s.st[m]? = some f∧s.st.getLast? = some f∧f.kind=k:=by
 unfold MSt.top at h;cases hl:s.st.getLast? with
 |none=>rw[hl]at h;cases h
 |some f =>
  rw[hl]at h;have hne:s.st.length≠0:=fun e=>by rw[List.eq_nil_of_length_eq_zero e]at hl;cases hl
  obtain⟨m,hm⟩:∃m,s.st.length=m+1:=⟨s.st.length-1,by omega⟩
  refine⟨m,f,hm,?_,rfl,by simpa using h⟩
  rw[List.getLast?_eq_getElem?,hm]at hl;simpa using hl
theorem pop_len{s:MSt}{m:Nat}(h:s.st.length=m+1):s.pop.st.length=m:=by unfold MSt.pop;rw[List.length_dropLast,h];rfl
set_option maxRecDepth 100000 in
set_option maxHeartbeats 16000000 in
theorem do_test(K L X Q Q':Nat→Prop)(s:MSt)(ka la xa:Option Addr)(kc lc xn xc:Nat)(ag to_:Int)(sa:Option Addr)(sn sc:Nat)(S:Nat→Int)(ia:Option Addr)(il ic:Nat)(I:Nat→Int)(most:Int)(w:World)(hP:Pre4 K L X w s ka kc la lc xa xn)(hS:Ints Q .i64 w sa sn S)(hI:Ints Q' .u8 w ia il I)(hB:Byt il I)(hsn:sn≤1048576)(hil:il≤1048576) :
  Calls Tryz.prog 19 #[stV s ka kc la lc xa xn xc,.agg #[.int .i64 0,.int .i64 ag,.int .i64 to_,.slice sa sn sc],.slice ia il ic,.int .i64 most] w (DoIs (s.act ⟨0,ag,to_,sn,S⟩ il I most) K L X w):=by
 obtain⟨n,hnn⟩:∃n,s.st.length=n:=⟨_,rfl⟩;obtain⟨ln,hll⟩:∃ln,s.log.length=ln:=⟨_,rfl⟩;have HN:Hid (s.st.length=n):=hnn;have HLL:Hid (s.log.length=ln):=hll;have HV:Hid (stV s ka kc la lc xa xn xc=.agg #[.int .i64 s.at_,.int .i64 (s.pos:Int),.slice ka n kc,.slice la ln lc,.int .i64 (s.far:Int),.slice xa xn xc,.int .i64 (s.steps:Int),.int .i64 (s.throws:Int),.bool s.done,.int .i64 s.code,.int .i64 s.label]):=by
  show _=_;unfold stV;rw[hnn,hll]
 rw[HV.out];have HP:Hid (Pre4 K L X w s ka kc la lc xa xn):=hP;have HS:Hid (Ints Q .i64 w sa sn S):=hS;have HI:Hid (Ints Q' .u8 w ia il I):=hI;have HBY:Hid (Byt il I):=hB;have at0:=hP.at0;have at1:=hP.at1;have thr:=hP.thr;have hn:=hP.len;rw[hnn]at hn;have hlg:=hP.logl;rw[hll]at hlg;clear hP hS hI hB hnn hll;have HT0:Hid (s.act ⟨0,ag,to_,sn,S⟩ il I most=s.test sn S il I):=by show _=_;unfold MSt.act;rw[if_pos rfl]
 obtain⟨t,ht⟩:∃t,s.test sn S il I=t:=⟨_,rfl⟩;have HTP:Hid (s.test sn S il I=t):=ht;have HT:Hid (s.act ⟨0,ag,to_,sn,S⟩ il I most=t):=by show _=_;rw[HT0.out,ht]
 go_enter Tryz.func19,Tryz.ntmps19;go_wp2_with fail;have hc:=fun W h1 h2 h3 h4=>l4test_any X Q Q' s ka la xa kc lc xn xc sa sn sc S ia il ic I W h1 h2 h3 h4 HBY.out HP.out.len (own_cap HP.out.a.st) (own_cap HP.out.a.log) HP.out.last hsn hil at0 at1
 simp only[ht,HV.out]at hc;refine (hc _ (own_frames (HP.out.a.st.on (fun b hb=>(bel3 w _ _ _).block b (HP.out.a.lt b (.inl hb))))) (HP.out.a.ex.later (bel3 w _ _ _)) (HS.out.later (bel3 w _ _ _)) (HI.out.later (bel3 w _ _ _))).mono ?_
 clear hc ht;rintro e W ⟨xa2,xn2,xc2,rfl,hx,hb⟩;have B2:Hid (Below w.heap.size w W):=bel_tr (bel3 w _ _ _) hb;have hy:W.heap[w.heap.size+1+1]? = some (.cells #[.int .i64 0,.int .i64 0,.slice none 0 0,.slice none 0 0,.int .i64 0,.slice none 0 0,.int .i64 0,.int .i64 0,.bool false,.int .i64 0,.int .i64 0] 55):=(hb.block _ (by simp)).trans (blk_new _ _ (w.heap.size+1+1) (by simp))
 have y0:=blk_cell (j:=0) hy rfl;have y1:=blk_cell (j:=1) hy rfl;have y2:=blk_cell (j:=2) hy rfl;have y3:=blk_cell (j:=3) hy rfl;have y4:=blk_cell (j:=4) hy rfl;have y5:=blk_cell (j:=5) hy rfl;have y6:=blk_cell (j:=6) hy rfl;have y7:=blk_cell (j:=7) hy rfl;have y8:=blk_cell (j:=8) hy rfl;have y9:=blk_cell (j:=9) hy rfl;have y10:=blk_cell (j:=10) hy rfl;have q0:=blk_frz (j:=0) hy;have q1:=blk_frz (j:=1) hy;have q2:=blk_frz (j:=2) hy;have q3:=blk_frz (j:=3) hy;have q4:=blk_frz (j:=4) hy;have q5:=blk_frz (j:=5) hy;have q6:=blk_frz (j:=6) hy;have q7:=blk_frz (j:=7) hy;have q8:=blk_frz (j:=8) hy;have q9:=blk_frz (j:=9) hy;have q10:=blk_frz (j:=10) hy;have lw:w.heap.size+1+1<W.heap.size:=lt_of_cell y0;have HX2:Hid (ExA (fun b=>X b∨w.heap.size+3≤b∧b<W.heap.size) W xa2 xn2 t.exp):=hx.wide (fun b q=>q.imp id (fun q=>⟨by have:=q.1;simp at this;omega,q.2⟩))
 clear hx;clear hb hy;have HA:Hid (SpA K L (fun b=>X b∨w.heap.size+3≤b∧b<W.heap.size) W t ka kc la lc xa2 xn2):=spa_test HP.out.a B2.out (by rw[←HTP.out];exact test_take s sn S il I) HX2.out (by omega) (fun b q=>q)
 unfold stV;go_wp2;refine bodyPost_ret (v:=stV t ka kc la lc xa2 xn2 xc2) ?_ rfl ?_
 ·unfold stV
  simp[results,Tryz.f19,go_sem, *]
 ·rw[HT.out]
  exact do_end HA.out HP.out.a.lt (fun b hb=>.inl hb) (fun b hb=>.inl hb) (fun b hb=>hb.imp id And.left) (Kept.of B2.out) (Only.set (Only.set (Only.set (Only.set (Only.set (Only.set (Only.set (Only.set (Only.set (Only.set (Only.set (Only.refl _ _) _ _ _ ⟨by omega,by omega⟩) _ _ _ ⟨by omega,by omega⟩) _ _ _ ⟨by omega,by omega⟩) _ _ _ ⟨by omega,by omega⟩) _ _ _ ⟨by omega,by omega⟩) _ _ _ ⟨by omega,by omega⟩) _ _ _ ⟨by omega,by omega⟩) _ _ _ ⟨by omega,by omega⟩) _ _ _ ⟨by omega,by omega⟩) _ _ _ ⟨by omega,by omega⟩) _ _ _ ⟨by omega,by omega⟩)
set_option maxRecDepth 100000 in
set_option maxHeartbeats 16000000 in
theorem do_end_(K L X Q Q':Nat→Prop)(s:MSt)(ka la xa:Option Addr)(kc lc xn xc:Nat)(ag to_:Int)(sa:Option Addr)(sn sc:Nat)(S:Nat→Int)(ia:Option Addr)(il ic:Nat)(I:Nat→Int)(most:Int)(w:World)(hP:Pre4 K L X w s ka kc la lc xa xn)(hS:Ints Q .i64 w sa sn S)(hI:Ints Q' .u8 w ia il I)(hB:Byt il I)(hsn:sn≤1048576)(hil:il≤1048576) :
  Calls Tryz.prog 19 #[stV s ka kc la lc xa xn xc,.agg #[.int .i64 12,.int .i64 ag,.int .i64 to_,.slice sa sn sc],.slice ia il ic,.int .i64 most] w (DoIs (s.act ⟨12,ag,to_,sn,S⟩ il I most) K L X w):=by
 obtain⟨n,hnn⟩:∃n,s.st.length=n:=⟨_,rfl⟩;obtain⟨ln,hll⟩:∃ln,s.log.length=ln:=⟨_,rfl⟩;have HN:Hid (s.st.length=n):=hnn;have HLL:Hid (s.log.length=ln):=hll;have HV:Hid (stV s ka kc la lc xa xn xc=.agg #[.int .i64 s.at_,.int .i64 (s.pos:Int),.slice ka n kc,.slice la ln lc,.int .i64 (s.far:Int),.slice xa xn xc,.int .i64 (s.steps:Int),.int .i64 (s.throws:Int),.bool s.done,.int .i64 s.code,.int .i64 s.label]):=by
  show _=_;unfold stV;rw[hnn,hll]
 rw[HV.out];have HP:Hid (Pre4 K L X w s ka kc la lc xa xn):=hP;have HS:Hid (Ints Q .i64 w sa sn S):=hS;have HI:Hid (Ints Q' .u8 w ia il I):=hI;have HBY:Hid (Byt il I):=hB;have at0:=hP.at0;have at1:=hP.at1;have thr:=hP.thr;have hn:=hP.len;rw[hnn]at hn;have hlg:=hP.logl;rw[hll]at hlg;clear hP hS hI hB hnn hll;by_cases h0:n=0
 ·have hn0:s.st.length=0:=by rw[HN.out];exact h0
  have HT0:Hid (s.act ⟨12,ag,to_,sn,S⟩ il I most=s.fin 0):=by show _=_;unfold MSt.act;rw[if_neg (by simp),if_neg (by simp),if_neg (by simp),if_neg (by simp),if_neg (by simp),if_neg (by simp),if_neg (by simp),if_neg (by simp),if_neg (by simp),if_neg (by simp),if_neg (by simp),if_neg (by simp),if_pos ⟨rfl,hn0⟩]
  subst h0;go_enter Tryz.func19,Tryz.ntmps19;obtain⟨t,ht⟩:∃t,(s).fin 0=t:=⟨_,rfl⟩;have HTP:Hid ((s).fin 0=t):=ht;have HT:Hid (s.act ⟨12,ag,to_,sn,S⟩ il I most=t):=by show _=_;rw[HT0.out,ht]
  have HV2:Hid (stV (s) ka kc la lc xa xn xc=.agg #[.int .i64 s.at_,.int .i64 (s.pos:Int),.slice ka 0 kc,.slice la ln lc,.int .i64 (s.far:Int),.slice xa xn xc,.int .i64 (s.steps:Int),.int .i64 (s.throws:Int),.bool s.done,.int .i64 s.code,.int .i64 s.label]):=by
   show _=_;unfold stV;first|(simp only[HN.out,HLL.out];done)|(simp only[HN.out,HLL.out];rfl)
  go_wp2_with fail;have hc:=fun W=>l4end_any (s) ka la xa kc lc xn xc 0 W
  simp only[ht,HV2.out]at hc;refine (hc _).mono ?_;clear hc ht;rintro e W ⟨rfl,hb⟩;have B2:Hid (Below w.heap.size w W):=bel_tr (bel3 w _ _ _) hb;have hy:W.heap[w.heap.size+1+1]? = some (.cells #[.int .i64 0,.int .i64 0,.slice none 0 0,.slice none 0 0,.int .i64 0,.slice none 0 0,.int .i64 0,.int .i64 0,.bool false,.int .i64 0,.int .i64 0] 55):=(hb.block _ (by simp)).trans (blk_new _ _ (w.heap.size+1+1) (by simp))
  have y0:=blk_cell (j:=0) hy rfl;have y1:=blk_cell (j:=1) hy rfl;have y2:=blk_cell (j:=2) hy rfl;have y3:=blk_cell (j:=3) hy rfl;have y4:=blk_cell (j:=4) hy rfl;have y5:=blk_cell (j:=5) hy rfl;have y6:=blk_cell (j:=6) hy rfl;have y7:=blk_cell (j:=7) hy rfl;have y8:=blk_cell (j:=8) hy rfl;have y9:=blk_cell (j:=9) hy rfl;have y10:=blk_cell (j:=10) hy rfl;have q0:=blk_frz (j:=0) hy;have q1:=blk_frz (j:=1) hy;have q2:=blk_frz (j:=2) hy;have q3:=blk_frz (j:=3) hy;have q4:=blk_frz (j:=4) hy;have q5:=blk_frz (j:=5) hy;have q6:=blk_frz (j:=6) hy;have q7:=blk_frz (j:=7) hy;have q8:=blk_frz (j:=8) hy;have q9:=blk_frz (j:=9) hy;have q10:=blk_frz (j:=10) hy;have lw:w.heap.size+1+1<W.heap.size:=lt_of_cell y0;clear hb hy;have HA:Hid (SpA K L X W t ka kc la lc xa xn):=(SpA.same (s:=s) (HP.out.a.on (fun b hq=>(B2.out).block b (HP.out.a.lt b hq)) (B2.out).size) (by rw[←HTP.out];rfl) (by rw[←HTP.out];rfl) (by rw[←HTP.out];rfl))
  unfold stV;go_wp2;refine bodyPost_ret (v:=stV t ka kc la lc xa xn xc) ?_ rfl ?_
  ·unfold stV
   simp[results,Tryz.f19,go_sem, *]
  ·rw[HT.out]
   exact do_end HA.out HP.out.a.lt (fun b hb=>.inl hb) (fun b hb=>.inl hb) (fun b hb=>.inl hb) (Kept.of B2.out) (Only.set (Only.set (Only.set (Only.set (Only.set (Only.set (Only.set (Only.set (Only.set (Only.set (Only.set (Only.refl _ _) _ _ _ ⟨by omega,by omega⟩) _ _ _ ⟨by omega,by omega⟩) _ _ _ ⟨by omega,by omega⟩) _ _ _ ⟨by omega,by omega⟩) _ _ _ ⟨by omega,by omega⟩) _ _ _ ⟨by omega,by omega⟩) _ _ _ ⟨by omega,by omega⟩) _ _ _ ⟨by omega,by omega⟩) _ _ _ ⟨by omega,by omega⟩) _ _ _ ⟨by omega,by omega⟩) _ _ _ ⟨by omega,by omega⟩)
 ·have hn0:¬s.st.length=0:=by rw[HN.out];exact h0
  have HT0:Hid (s.act ⟨12,ag,to_,sn,S⟩ il I most=s.fin 4):=by show _=_;unfold MSt.act;rw[if_neg (by simp),if_neg (by simp),if_neg (by simp),if_neg (by simp),if_neg (by simp),if_neg (by simp),if_neg (by simp),if_neg (by simp),if_neg (by simp),if_neg (by simp),if_neg (by simp),if_neg (by simp),if_neg (fun q=>hn0 q.2)]
  have d0:((n:Int)==0)=false:=by simp;omega
  clear h0;go_enter Tryz.func19,Tryz.ntmps19;obtain⟨t,ht⟩:∃t,(s).fin 4=t:=⟨_,rfl⟩;have HTP:Hid ((s).fin 4=t):=ht;have HT:Hid (s.act ⟨12,ag,to_,sn,S⟩ il I most=t):=by show _=_;rw[HT0.out,ht]
  have HV2:Hid (stV (s) ka kc la lc xa xn xc=.agg #[.int .i64 s.at_,.int .i64 (s.pos:Int),.slice ka n kc,.slice la ln lc,.int .i64 (s.far:Int),.slice xa xn xc,.int .i64 (s.steps:Int),.int .i64 (s.throws:Int),.bool s.done,.int .i64 s.code,.int .i64 s.label]):=by
   show _=_;unfold stV;first|(simp only[HN.out,HLL.out];done)|(simp only[HN.out,HLL.out];rfl)
  go_wp2_with fail;have hc:=fun W=>l4end_any (s) ka la xa kc lc xn xc 4 W
  simp only[ht,HV2.out]at hc;refine (hc _).mono ?_;clear hc ht;rintro e W ⟨rfl,hb⟩;have B2:Hid (Below w.heap.size w W):=bel_tr (bel3 w _ _ _) hb;have hy:W.heap[w.heap.size+1+1]? = some (.cells #[.int .i64 0,.int .i64 0,.slice none 0 0,.slice none 0 0,.int .i64 0,.slice none 0 0,.int .i64 0,.int .i64 0,.bool false,.int .i64 0,.int .i64 0] 55):=(hb.block _ (by simp)).trans (blk_new _ _ (w.heap.size+1+1) (by simp))
  have y0:=blk_cell (j:=0) hy rfl;have y1:=blk_cell (j:=1) hy rfl;have y2:=blk_cell (j:=2) hy rfl;have y3:=blk_cell (j:=3) hy rfl;have y4:=blk_cell (j:=4) hy rfl;have y5:=blk_cell (j:=5) hy rfl;have y6:=blk_cell (j:=6) hy rfl;have y7:=blk_cell (j:=7) hy rfl;have y8:=blk_cell (j:=8) hy rfl;have y9:=blk_cell (j:=9) hy rfl;have y10:=blk_cell (j:=10) hy rfl;have q0:=blk_frz (j:=0) hy;have q1:=blk_frz (j:=1) hy;have q2:=blk_frz (j:=2) hy;have q3:=blk_frz (j:=3) hy;have q4:=blk_frz (j:=4) hy;have q5:=blk_frz (j:=5) hy;have q6:=blk_frz (j:=6) hy;have q7:=blk_frz (j:=7) hy;have q8:=blk_frz (j:=8) hy;have q9:=blk_frz (j:=9) hy;have q10:=blk_frz (j:=10) hy;have lw:w.heap.size+1+1<W.heap.size:=lt_of_cell y0;clear hb hy;have HA:Hid (SpA K L X W t ka kc la lc xa xn):=(SpA.same (s:=s) (HP.out.a.on (fun b hq=>(B2.out).block b (HP.out.a.lt b hq)) (B2.out).size) (by rw[←HTP.out];rfl) (by rw[←HTP.out];rfl) (by rw[←HTP.out];rfl))
  unfold stV;go_wp2;refine bodyPost_ret (v:=stV t ka kc la lc xa xn xc) ?_ rfl ?_
  ·unfold stV
   simp[results,Tryz.f19,go_sem, *]
  ·rw[HT.out]
   exact do_end HA.out HP.out.a.lt (fun b hb=>.inl hb) (fun b hb=>.inl hb) (fun b hb=>.inl hb) (Kept.of B2.out) (Only.set (Only.set (Only.set (Only.set (Only.set (Only.set (Only.set (Only.set (Only.set (Only.set (Only.set (Only.refl _ _) _ _ _ ⟨by omega,by omega⟩) _ _ _ ⟨by omega,by omega⟩) _ _ _ ⟨by omega,by omega⟩) _ _ _ ⟨by omega,by omega⟩) _ _ _ ⟨by omega,by omega⟩) _ _ _ ⟨by omega,by omega⟩) _ _ _ ⟨by omega,by omega⟩) _ _ _ ⟨by omega,by omega⟩) _ _ _ ⟨by omega,by omega⟩) _ _ _ ⟨by omega,by omega⟩) _ _ _ ⟨by omega,by omega⟩)
set_option maxRecDepth 100000 in
set_option maxHeartbeats 16000000 in
theorem do_other(K L X Q Q':Nat→Prop)(s:MSt)(ka la xa:Option Addr)(kc lc xn xc:Nat)(kd ag to_:Int)(sa:Option Addr)(sn sc:Nat)(S:Nat→Int)(ia:Option Addr)(il ic:Nat)(I:Nat→Int)(most:Int)(w:World)(hP:Pre4 K L X w s ka kc la lc xa xn)(hS:Ints Q .i64 w sa sn S)(hI:Ints Q' .u8 w ia il I)(hB:Byt il I)(hsn:sn≤1048576)(hil:il≤1048576)(hk:¬(0≤kd∧kd≤12)) :
  Calls Tryz.prog 19 #[stV s ka kc la lc xa xn xc,.agg #[.int .i64 kd,.int .i64 ag,.int .i64 to_,.slice sa sn sc],.slice ia il ic,.int .i64 most] w (DoIs (s.act ⟨kd,ag,to_,sn,S⟩ il I most) K L X w):=by
 obtain⟨n,hnn⟩:∃n,s.st.length=n:=⟨_,rfl⟩;obtain⟨ln,hll⟩:∃ln,s.log.length=ln:=⟨_,rfl⟩;have HN:Hid (s.st.length=n):=hnn;have HLL:Hid (s.log.length=ln):=hll;have HV:Hid (stV s ka kc la lc xa xn xc=.agg #[.int .i64 s.at_,.int .i64 (s.pos:Int),.slice ka n kc,.slice la ln lc,.int .i64 (s.far:Int),.slice xa xn xc,.int .i64 (s.steps:Int),.int .i64 (s.throws:Int),.bool s.done,.int .i64 s.code,.int .i64 s.label]):=by
  show _=_;unfold stV;rw[hnn,hll]
 rw[HV.out];have HP:Hid (Pre4 K L X w s ka kc la lc xa xn):=hP;have HS:Hid (Ints Q .i64 w sa sn S):=hS;have HI:Hid (Ints Q' .u8 w ia il I):=hI;have HBY:Hid (Byt il I):=hB;have at0:=hP.at0;have at1:=hP.at1;have thr:=hP.thr;have hn:=hP.len;rw[hnn]at hn;have hlg:=hP.logl;rw[hll]at hlg;clear hP hS hI hB hnn hll;have HT0:Hid (s.act ⟨kd,ag,to_,sn,S⟩ il I most=s.fin 4):=by show _=_;unfold MSt.act;rw[if_neg (by simp;omega),if_neg (by simp;omega),if_neg (by simp;omega),if_neg (by simp;omega),if_neg (by simp;omega),if_neg (fun q=>by have:=q.1;simp at this;omega),if_neg (fun q=>by have:=q.1;simp at this;omega),if_neg (fun q=>by have:=q.1;simp at this;omega),if_neg (fun q=>by have:=q.1;simp at this;omega),if_neg (by simp;omega),if_neg (by simp;omega),if_neg (by simp;omega),if_neg (fun q=>by have:=q.1;simp at this;omega)]
 have k0:(kd==0)=false:=by simp;omega
 have k1:(kd==1)=false:=by simp;omega
 have k2:(kd==2)=false:=by simp;omega
 have k3:(kd==3)=false:=by simp;omega
 have k4:(kd==4)=false:=by simp;omega
 have k5:(kd==5)=false:=by simp;omega
 have k6:(kd==6)=false:=by simp;omega
 have k7:(kd==7)=false:=by simp;omega
 have k8:(kd==8)=false:=by simp;omega
 have k9:(kd==9)=false:=by simp;omega
 have k10:(kd==10)=false:=by simp;omega
 have k11:(kd==11)=false:=by simp;omega
 have k12:(kd==12)=false:=by simp;omega
 clear hk;go_enter Tryz.func19,Tryz.ntmps19;obtain⟨t,ht⟩:∃t,(s).fin 4=t:=⟨_,rfl⟩;have HTP:Hid ((s).fin 4=t):=ht;have HT:Hid (s.act ⟨kd,ag,to_,sn,S⟩ il I most=t):=by show _=_;rw[HT0.out,ht]
 have HV2:Hid (stV (s) ka kc la lc xa xn xc=.agg #[.int .i64 s.at_,.int .i64 (s.pos:Int),.slice ka n kc,.slice la ln lc,.int .i64 (s.far:Int),.slice xa xn xc,.int .i64 (s.steps:Int),.int .i64 (s.throws:Int),.bool s.done,.int .i64 s.code,.int .i64 s.label]):=by
  show _=_;unfold stV;first|(simp only[HN.out,HLL.out];done)|(simp only[HN.out,HLL.out];rfl)
 go_wp2_with fail;have hc:=fun W=>l4end_any (s) ka la xa kc lc xn xc 4 W
 simp only[ht,HV2.out]at hc;refine (hc _).mono ?_;clear hc ht;rintro e W ⟨rfl,hb⟩;have B2:Hid (Below w.heap.size w W):=bel_tr (bel3 w _ _ _) hb;have hy:W.heap[w.heap.size+1+1]? = some (.cells #[.int .i64 0,.int .i64 0,.slice none 0 0,.slice none 0 0,.int .i64 0,.slice none 0 0,.int .i64 0,.int .i64 0,.bool false,.int .i64 0,.int .i64 0] 55):=(hb.block _ (by simp)).trans (blk_new _ _ (w.heap.size+1+1) (by simp))
 have y0:=blk_cell (j:=0) hy rfl;have y1:=blk_cell (j:=1) hy rfl;have y2:=blk_cell (j:=2) hy rfl;have y3:=blk_cell (j:=3) hy rfl;have y4:=blk_cell (j:=4) hy rfl;have y5:=blk_cell (j:=5) hy rfl;have y6:=blk_cell (j:=6) hy rfl;have y7:=blk_cell (j:=7) hy rfl;have y8:=blk_cell (j:=8) hy rfl;have y9:=blk_cell (j:=9) hy rfl;have y10:=blk_cell (j:=10) hy rfl;have q0:=blk_frz (j:=0) hy;have q1:=blk_frz (j:=1) hy;have q2:=blk_frz (j:=2) hy;have q3:=blk_frz (j:=3) hy;have q4:=blk_frz (j:=4) hy;have q5:=blk_frz (j:=5) hy;have q6:=blk_frz (j:=6) hy;have q7:=blk_frz (j:=7) hy;have q8:=blk_frz (j:=8) hy;have q9:=blk_frz (j:=9) hy;have q10:=blk_frz (j:=10) hy;have lw:w.heap.size+1+1<W.heap.size:=lt_of_cell y0;clear hb hy;have HA:Hid (SpA K L X W t ka kc la lc xa xn):=(SpA.same (s:=s) (HP.out.a.on (fun b hq=>(B2.out).block b (HP.out.a.lt b hq)) (B2.out).size) (by rw[←HTP.out];rfl) (by rw[←HTP.out];rfl) (by rw[←HTP.out];rfl))
 unfold stV;go_wp2;refine bodyPost_ret (v:=stV t ka kc la lc xa xn xc) ?_ rfl ?_
 ·unfold stV
  simp[results,Tryz.f19,go_sem, *]
 ·rw[HT.out]
  exact do_end HA.out HP.out.a.lt (fun b hb=>.inl hb) (fun b hb=>.inl hb) (fun b hb=>.inl hb) (Kept.of B2.out) (Only.set (Only.set (Only.set (Only.set (Only.set (Only.set (Only.set (Only.set (Only.set (Only.set (Only.set (Only.refl _ _) _ _ _ ⟨by omega,by omega⟩) _ _ _ ⟨by omega,by omega⟩) _ _ _ ⟨by omega,by omega⟩) _ _ _ ⟨by omega,by omega⟩) _ _ _ ⟨by omega,by omega⟩) _ _ _ ⟨by omega,by omega⟩) _ _ _ ⟨by omega,by omega⟩) _ _ _ ⟨by omega,by omega⟩) _ _ _ ⟨by omega,by omega⟩) _ _ _ ⟨by omega,by omega⟩) _ _ _ ⟨by omega,by omega⟩)
end
end Go.Proofs.YtcbnnfnlilbjeaaGreat
