import Derived.Test.YtcbnnfnlilbjeaaGreatT28
import Derived.Test.YtcbnnfnlilbjeaaGreatT29
set_option linter.unusedVariables false
set_option linter.unusedSimpArgs false
namespace Go.Proofs.YtcbnnfnlilbjeaaGreat
section
open Go.RowKit
open M (OpD NodeD Gr InsD)
set_option maxRecDepth 100000 in
set_option maxHeartbeats 16000000 in
theorem do_partial(K L X Q Q':Nat→Prop)(s:MSt)(ka la xa:Option Addr)(kc lc xn xc:Nat)(ag to_:Int)(sa:Option Addr)(sn sc:Nat)(S:Nat→Int)(ia:Option Addr)(il ic:Nat)(I:Nat→Int)(most:Int)(w:World)(hP:Pre4 K L X w s ka kc la lc xa xn)(hS:Ints Q .i64 w sa sn S)(hI:Ints Q' .u8 w ia il I)(hB:Byt il I)(hsn:sn≤1048576)(hil:il≤1048576) :
  Calls Tryz.prog 19 #[stV s ka kc la lc xa xn xc,.agg #[.int .i64 3,.int .i64 ag,.int .i64 to_,.slice sa sn sc],.slice ia il ic,.int .i64 most] w (DoIs (s.act ⟨3,ag,to_,sn,S⟩ il I most) K L X w):=by
 obtain⟨n,hnn⟩:∃n,s.st.length=n:=⟨_,rfl⟩;obtain⟨ln,hll⟩:∃ln,s.log.length=ln:=⟨_,rfl⟩;have HN:Hid (s.st.length=n):=hnn;have HLL:Hid (s.log.length=ln):=hll;have HV:Hid (stV s ka kc la lc xa xn xc=.agg #[.int .i64 s.at_,.int .i64 (s.pos:Int),.slice ka n kc,.slice la ln lc,.int .i64 (s.far:Int),.slice xa xn xc,.int .i64 (s.steps:Int),.int .i64 (s.throws:Int),.bool s.done,.int .i64 s.code,.int .i64 s.label]):=by
  show _=_;unfold stV;rw[hnn,hll]
 rw[HV.out];have HP:Hid (Pre4 K L X w s ka kc la lc xa xn):=hP;have HS:Hid (Ints Q .i64 w sa sn S):=hS;have HI:Hid (Ints Q' .u8 w ia il I):=hI;have HBY:Hid (Byt il I):=hB;have at0:=hP.at0;have at1:=hP.at1;have thr:=hP.thr;have hn:=hP.len;rw[hnn]at hn;have hlg:=hP.logl;rw[hll]at hlg;clear hP hS hI hB hnn hll;go_enter Tryz.func19,Tryz.ntmps19;go_wp2_with fail;have hc1:=fun W h1=>l4top_any s ka la xa kc lc xn xc 0 W h1 HP.out.len
 simp only[HV.out]at hc1;refine (hc1 _ (own_frames (HP.out.a.st.on (fun b hb=>(bel3 w _ _ _).block b (HP.out.a.lt b (.inl hb)))))).mono ?_
 clear hc1;rintro e W1 ⟨rfl,hb1⟩;have B1:Hid (Below w.heap.size w W1):=bel_tr (bel3 w _ _ _) hb1;have hz1:W1.heap[w.heap.size]? = some (.cells #[.int .i64 s.at_,.int .i64 (s.pos:Int),.slice ka n kc,.slice la ln lc,.int .i64 (s.far:Int),.slice xa xn xc,.int .i64 (s.steps:Int),.int .i64 (s.throws:Int),.bool s.done,.int .i64 s.code,.int .i64 s.label] 55):=(hb1.block _ (by first|(simp;done)|(simp;omega))).trans (blk_old (blk_old (blk_new w _ _ rfl) _) _)
 have hu1:W1.heap[w.heap.size+1]? = some (.cells #[.int .i64 3,.int .i64 ag,.int .i64 to_,.slice sa sn sc] 52):=(hb1.block _ (by first|(simp;done)|(simp;omega))).trans (blk_old (blk_new _ _ _ (by simp)) _)
 have hy1:W1.heap[w.heap.size+1+1]? = some (.cells #[.int .i64 0,.int .i64 0,.slice none 0 0,.slice none 0 0,.int .i64 0,.slice none 0 0,.int .i64 0,.int .i64 0,.bool false,.int .i64 0,.int .i64 0] 55):=(hb1.block _ (by simp)).trans (blk_new _ _ _ (by simp))
 have z0:=blk_cell (j:=0) hz1 rfl;have z1:=blk_cell (j:=1) hz1 rfl;have z2:=blk_cell (j:=2) hz1 rfl;have z3:=blk_cell (j:=3) hz1 rfl;have z4:=blk_cell (j:=4) hz1 rfl;have z5:=blk_cell (j:=5) hz1 rfl;have z6:=blk_cell (j:=6) hz1 rfl;have z7:=blk_cell (j:=7) hz1 rfl;have z8:=blk_cell (j:=8) hz1 rfl;have z9:=blk_cell (j:=9) hz1 rfl;have z10:=blk_cell (j:=10) hz1 rfl;have u0:=blk_cell (j:=0) hu1 rfl;have u1:=blk_cell (j:=1) hu1 rfl;have u2:=blk_cell (j:=2) hu1 rfl;have u3:=blk_cell (j:=3) hu1 rfl;have p0:=blk_frz (j:=0) hz1;have p2:=blk_frz (j:=2) hz1;have p3:=blk_frz (j:=3) hz1;have p7:=blk_frz (j:=7) hz1;have p10:=blk_frz (j:=10) hz1;have HY1:Hid (W1.heap[w.heap.size+1+1]? = some (.cells #[.int .i64 0,.int .i64 0,.slice none 0 0,.slice none 0 0,.int .i64 0,.slice none 0 0,.int .i64 0,.int .i64 0,.bool false,.int .i64 0,.int .i64 0] 55)):=hy1;have lw0:w.heap.size<W1.heap.size:=lt_of_cell z0;have lwu:w.heap.size+1<W1.heap.size:=lt_of_cell u0;have lwy:w.heap.size+1+1<W1.heap.size:=by have:=(Array.getElem?_eq_some_iff.1 hy1).1;exact this
 clear hb1 hz1 hu1 hy1;cases htop:s.top 0 with
 |true =>
  obtain⟨m,f,hm,hf,hlast,hfk⟩:=top_len htop;have HPL:Hid (s.pop.st.length=m):=pop_len hm;obtain rfl:n=m+1:=by rw[←HN.out];exact hm
  have HF:Hid (s.st[m]? = some f):=hf;have HTT:Hid (topTo s.st=f.to):=by show _=_;unfold topTo;rw[hlast]
  have hkc:=own_cap HP.out.a.st;rw[HN.out]at hkc;have hkc':(m:Int)≤(kc:Int):=by omega
  have hm0:(0:Int)≤(m:Int):=by omega
  have hml:(m:Int)<((m+1:Nat):Int):=by omega
  have hm1:((m+1:Nat):Int)-1=(m:Int):=by omega
  have HT0:Hid (s.act ⟨3,ag,to_,sn,S⟩ il I most=({ s.pop with at_:=to_ }).push ⟨0,f.to,s.pos,ln⟩ most):=by show _=_;unfold MSt.act;rw[if_neg (by simp),if_neg (by simp),if_neg (by simp),if_neg (by simp),if_neg (by simp),if_neg (by simp),if_pos ⟨rfl,htop⟩];rw[HTT.out,HLL.out]
  have hfk0:=hfk;clear hm hf hlast htop hkc hfk;have hfr:=own_frames ((HP.out.a.on (fun b hq=>(B1.out).block b (HP.out.a.lt b hq)) (B1.out).size)).st
  rcases hfr with h0 | ⟨fb,rfl,hfr⟩
  ·rw[HN.out]at h0;omega
  obtain⟨f0,f1,f2,f3⟩:=hfr m f HF.out;have lfb:=lt_of_cell f0;have HNB:Hid (fb<w.heap.size):=by
   rcases HP.out.a.st with⟨e,_⟩|⟨g,cap,e,hq,_⟩
   ·cases e
   ·obtain rfl:fb=g:=by injection e with e1;injection e1 with e1;injection e1
    exact HP.out.a.lt _ (.inl hq)
  have lfw:fb<w.heap.size:=HNB.out;clear hfr;rw[hfk0]at f0;obtain⟨t,ht⟩:∃t,(({ s.pop with at_:=to_ })).push ⟨0,f.to,s.pos,ln⟩ most=t:=⟨_,rfl⟩
  have HTP:Hid ((({ s.pop with at_:=to_ })).push ⟨0,f.to,s.pos,ln⟩ most=t):=ht
  have HT:Hid (s.act ⟨3,ag,to_,sn,S⟩ il I most=t):=by show _=_;rw[HT0.out,ht]
  have HV2:Hid (stV (({ s.pop with at_:=to_ })) (some ⟨fb,0,none⟩) kc la lc xa xn xc=.agg #[.int .i64 to_,.int .i64 (s.pos:Int),.slice (some ⟨fb,0,none⟩) m kc,.slice la ln lc,.int .i64 (s.far:Int),.slice xa xn xc,.int .i64 (s.steps:Int),.int .i64 (s.throws:Int),.bool s.done,.int .i64 s.code,.int .i64 s.label]):=by
   show _=_;unfold stV;rw[show (({ s.pop with at_:=to_ }:MSt)).st.length=m from HPL.out,show (({ s.pop with at_:=to_ }:MSt)).log.length=ln from HLL.out];rfl
  go_wp2_with fail;have hc:=fun W h1 h2=>l4push_any K (({ s.pop with at_:=to_ })) ⟨0,f.to,s.pos,ln⟩ most (some ⟨fb,0,none⟩) la xa kc lc xn xc W h1 h2 (by show s.pop.st.length≤1000;rw[HPL.out];omega)
  simp only[ht,HV2.out]at hc;refine (hc _ (HP.out.a.pop.st.on (fun b hb=>(bel_tr (bel_set (bel_set (B1.out) _ _ _ (Nat.le_refl _)) _ _ _ (Nat.le_refl _)) (bel1 _ _)).block b (HP.out.a.lt b (.inl hb)))) (fun b hb=>by have h1:=HP.out.a.lt b (.inl hb);simp;omega)).mono ?_
  clear hc ht;rintro e W ⟨ka2,kc2,rfl,hO,hk⟩;have hy:W.heap[w.heap.size+1+1]? = some (.cells #[.int .i64 0,.int .i64 0,.slice none 0 0,.slice none 0 0,.int .i64 0,.slice none 0 0,.int .i64 0,.int .i64 0,.bool false,.int .i64 0,.int .i64 0] 55):=(hk.block _ (by simp only[World.size_alloc,size_set];omega) (fun q=>by have:=HP.out.a.lt _ (.inl q);omega)).trans (blk_old ((Below.heap_setCell _ _ _ _ (by simp;omega)).trans ((Below.heap_setCell _ _ _ _ (by simp;omega)).trans (HY1.out))) _)
  have y0:=blk_cell (j:=0) hy rfl;have y1:=blk_cell (j:=1) hy rfl;have y2:=blk_cell (j:=2) hy rfl;have y3:=blk_cell (j:=3) hy rfl;have y4:=blk_cell (j:=4) hy rfl;have y5:=blk_cell (j:=5) hy rfl;have y6:=blk_cell (j:=6) hy rfl;have y7:=blk_cell (j:=7) hy rfl;have y8:=blk_cell (j:=8) hy rfl;have y9:=blk_cell (j:=9) hy rfl;have y10:=blk_cell (j:=10) hy rfl;have q0:=blk_frz (j:=0) hy;have q1:=blk_frz (j:=1) hy;have q2:=blk_frz (j:=2) hy;have q3:=blk_frz (j:=3) hy;have q4:=blk_frz (j:=4) hy;have q5:=blk_frz (j:=5) hy;have q6:=blk_frz (j:=6) hy;have q7:=blk_frz (j:=7) hy;have q8:=blk_frz (j:=8) hy;have q9:=blk_frz (j:=9) hy;have q10:=blk_frz (j:=10) hy;have lw:w.heap.size+1+1<W.heap.size:=lt_of_cell y0;obtain⟨hA,hK1⟩:=spa_push HP.out.a.pop (bel_tr (bel_set (bel_set (B1.out) _ _ _ (Nat.le_refl _)) _ _ _ (Nat.le_refl _)) (bel1 _ _)) hO hk (by rw[←HTP.out];exact push_log _ _ _) (by rw[←HTP.out];exact push_exp _ _ _) (lo:=w.heap.size+3) (by omega) (by simp;omega)
  have HA:Hid (SpA (fun b=>K b∨w.heap.size+3≤b∧b<W.heap.size) L X W t ka2 kc2 la lc xa xn):=hA
  have HK1:Hid (Kept (fun b=>K b∨L b) w W):=hK1
  clear hO hk hA hK1 hy;unfold stV;go_wp2;refine bodyPost_ret (v:=stV t ka2 kc2 la lc xa xn xc) ?_ rfl ?_
  ·unfold stV
   simp[results,Tryz.f19,go_sem, *]
  ·rw[HT.out]
   exact do_end HA.out HP.out.a.lt (fun b hb=>hb.imp id And.left) (fun b hb=>.inl hb) (fun b hb=>.inl hb) HK1.out (Only.set (Only.set (Only.set (Only.set (Only.set (Only.set (Only.set (Only.set (Only.set (Only.set (Only.set (Only.refl _ _) _ _ _ ⟨by omega,by omega⟩) _ _ _ ⟨by omega,by omega⟩) _ _ _ ⟨by omega,by omega⟩) _ _ _ ⟨by omega,by omega⟩) _ _ _ ⟨by omega,by omega⟩) _ _ _ ⟨by omega,by omega⟩) _ _ _ ⟨by omega,by omega⟩) _ _ _ ⟨by omega,by omega⟩) _ _ _ ⟨by omega,by omega⟩) _ _ _ ⟨by omega,by omega⟩) _ _ _ ⟨by omega,by omega⟩)
 |false =>
  have HT0:Hid (s.act ⟨3,ag,to_,sn,S⟩ il I most=s.fin 4):=by show _=_;unfold MSt.act;rw[if_neg (by simp),if_neg (by simp),if_neg (by simp),if_neg (by simp),if_neg (by simp),if_neg (by simp),if_neg (fun q=>by rw[htop]at q;cases q.2),if_neg (by simp),if_neg (by simp),if_neg (by simp),if_neg (by simp),if_neg (by simp),if_neg (by simp)]
  clear htop;obtain⟨t,ht⟩:∃t,(s).fin 4=t:=⟨_,rfl⟩;have HTP:Hid ((s).fin 4=t):=ht;have HT:Hid (s.act ⟨3,ag,to_,sn,S⟩ il I most=t):=by show _=_;rw[HT0.out,ht]
  have HV2:Hid (stV (s) ka kc la lc xa xn xc=.agg #[.int .i64 s.at_,.int .i64 (s.pos:Int),.slice ka n kc,.slice la ln lc,.int .i64 (s.far:Int),.slice xa xn xc,.int .i64 (s.steps:Int),.int .i64 (s.throws:Int),.bool s.done,.int .i64 s.code,.int .i64 s.label]):=by
   show _=_;unfold stV;first|(simp only[HN.out,HLL.out];done)|(simp only[HN.out,HLL.out];rfl)
  go_wp2_with fail;have hc:=fun W=>l4end_any (s) ka la xa kc lc xn xc 4 W
  simp only[ht,HV2.out]at hc;refine (hc _).mono ?_;clear hc ht;rintro e W ⟨rfl,hb⟩;have B2:Hid (Below w.heap.size w W):=bel_tr (B1.out) hb;have hy:W.heap[w.heap.size+1+1]? = some (.cells #[.int .i64 0,.int .i64 0,.slice none 0 0,.slice none 0 0,.int .i64 0,.slice none 0 0,.int .i64 0,.int .i64 0,.bool false,.int .i64 0,.int .i64 0] 55):=(hb.block _ (by exact lwy)).trans (HY1.out)
  have y0:=blk_cell (j:=0) hy rfl;have y1:=blk_cell (j:=1) hy rfl;have y2:=blk_cell (j:=2) hy rfl;have y3:=blk_cell (j:=3) hy rfl;have y4:=blk_cell (j:=4) hy rfl;have y5:=blk_cell (j:=5) hy rfl;have y6:=blk_cell (j:=6) hy rfl;have y7:=blk_cell (j:=7) hy rfl;have y8:=blk_cell (j:=8) hy rfl;have y9:=blk_cell (j:=9) hy rfl;have y10:=blk_cell (j:=10) hy rfl;have q0:=blk_frz (j:=0) hy;have q1:=blk_frz (j:=1) hy;have q2:=blk_frz (j:=2) hy;have q3:=blk_frz (j:=3) hy;have q4:=blk_frz (j:=4) hy;have q5:=blk_frz (j:=5) hy;have q6:=blk_frz (j:=6) hy;have q7:=blk_frz (j:=7) hy;have q8:=blk_frz (j:=8) hy;have q9:=blk_frz (j:=9) hy;have q10:=blk_frz (j:=10) hy;have lw:w.heap.size+1+1<W.heap.size:=lt_of_cell y0;clear hb hy;have HA:Hid (SpA K L X W t ka kc la lc xa xn):=(SpA.same (s:=s) (HP.out.a.on (fun b hq=>(B2.out).block b (HP.out.a.lt b hq)) (B2.out).size) (by rw[←HTP.out];rfl) (by rw[←HTP.out];rfl) (by rw[←HTP.out];rfl))
  unfold stV;go_wp2;refine bodyPost_ret (v:=stV t ka kc la lc xa xn xc) ?_ rfl ?_
  ·unfold stV
   simp[results,Tryz.f19,go_sem, *]
  ·rw[HT.out]
   exact do_end HA.out HP.out.a.lt (fun b hb=>.inl hb) (fun b hb=>.inl hb) (fun b hb=>.inl hb) (Kept.of B2.out) (Only.set (Only.set (Only.set (Only.set (Only.set (Only.set (Only.set (Only.set (Only.set (Only.set (Only.set (Only.refl _ _) _ _ _ ⟨by omega,by omega⟩) _ _ _ ⟨by omega,by omega⟩) _ _ _ ⟨by omega,by omega⟩) _ _ _ ⟨by omega,by omega⟩) _ _ _ ⟨by omega,by omega⟩) _ _ _ ⟨by omega,by omega⟩) _ _ _ ⟨by omega,by omega⟩) _ _ _ ⟨by omega,by omega⟩) _ _ _ ⟨by omega,by omega⟩) _ _ _ ⟨by omega,by omega⟩) _ _ _ ⟨by omega,by omega⟩)
end
section
open Go.RowKit
open M (OpD NodeD Gr InsD)
theorem infoEv:(Tryz.prog.info? 91).map (fun i=>(i.zero,i.size,i.bytes))=some (some (.agg #[.int .i64 0,.int .i64 0,.int .i64 0]),3,24):=by kernel_rfl
theorem elemEv:ElemT 34 91 3 24:=⟨Tryz.underlying34,⟨_,infoEv,rfl⟩,by omega⟩
theorem src_ev(w:World)(k a p:Int)(y:Nat)(hy:w.heap.size=y):Src Tryz.prog 3 34 (.slice (some ⟨y,0,none⟩) 1 1) 1 (evv ⟨k,a,p⟩) (w.alloc (.cells #[.int .i64 k,.int .i64 a,.int .i64 p] 91)):=by
 subst hy;refine Src.ofSlice (P:=Tryz.prog) _ Tryz.underlying34 ⟨w.heap.size,0,none⟩ 1 1 (evv ⟨k,a,p⟩) rfl (fun j u hu=>?_) (fun u hu=>?_)
 ·have e':(⟨w.heap.size,0,none⟩:Addr).add j=⟨w.heap.size,j,none⟩:=by
   by_cases h0:j=0
   ·subst h0;simp[Addr.add]
   ·simp[Addr.add,h0]
  rw[e'];match j,hu with
  |0,hu=>exact cN w.heap.size rfl hu
  |1,hu=>exact cN w.heap.size rfl hu
  |2,hu=>exact cN w.heap.size rfl hu
  |j+3,hu=>simp[evv]at hu
 ·simp[evv]at hu
  rcases hu with rfl | rfl | rfl<;>rfl
theorem spa_log{K L X:Nat→Prop}{w Z W:World}{s t:MSt}{ka:Option Addr}{kc:Nat}{la la':Option Addr}{lc lc':Nat}{xa:Option Addr}{xn:Nat}(hA:SpA K L X w s ka kc la lc xa xn)(hZ:Below w.heap.size w Z)(hO:OwnC (fun b=>L b∨Z.heap.size≤b) W (.slice la' t.log.length lc') 3 t.log.length (cellsE t.log))(hne:t.log.length≠0)(hk:Grew (fun b=>L b) Z W)(hl:t.st=s.st)(he:t.exp=s.exp){lo:Nat}(h0:w.heap.size≤lo)(h1:lo≤Z.heap.size) :
  SpA K (fun b=>L b∨lo≤b∧b<W.heap.size) X W t ka kc la' lc' xa xn∧Kept (fun b=>K b∨L b) w W:=by
 have hzs:=hZ.size;have hws:=hk.size;refine⟨⟨?_,?_,?_,fun b hb=>?_,fun b hK hL=>?_,hA.kx,fun b hb hX=>?_⟩,⟨hk.os.trans hZ.os,hk.tape.trans hZ.tape,hk.output.trans hZ.output,by omega,fun b hb hq=>(hk.block b (by omega) (fun q=>hq (.inr q))).trans (hZ.block b hb)⟩⟩
 ·rw[hl]
  exact hA.st.on (fun b hb=>(hk.block b (by have:=hA.lt b (.inl hb);omega) (fun q=>hA.kl b hb q)).trans (hZ.block b (hA.lt b (.inl hb))))
 ·rcases hO with⟨_,e,_⟩|⟨g,cap,e,hq,k3,k4,k5,k6⟩
  ·exact absurd e hne
  ·refine .inr ⟨g,cap,e,?_,k3,k4,k5,k6⟩
   obtain⟨u,hu⟩:=Option.isSome_iff_exists.1 (k6 0 (by omega)).1
   exact hq.imp id (fun q=>⟨by omega,lt_of_cell hu⟩)
 ·rw[he]
  exact hA.ex.on (fun b hb=>(hk.block b (by have:=hA.lt b (.inr (.inr hb));omega) (fun q=>hA.lx b q hb)).trans (hZ.block b (hA.lt b (.inr (.inr hb)))))
 ·rcases hb with hb|(hb | hb) | hb
  ·have:=hA.lt b (.inl hb);omega
  ·have:=hA.lt b (.inr (.inl hb));omega
  ·exact hb.2
  ·have:=hA.lt b (.inr (.inr hb));omega
 ·rcases hL with q | q
  ·exact hA.kl b hK q
  ·have:=hA.lt b (.inl hK);have:=q.1;omega
 ·rcases hb with hb | hb
  ·exact hA.lx b hb hX
  ·have:=hA.lt b (.inr (.inr hX));have:=hb.1;omega
set_option maxRecDepth 100000 in
set_option maxHeartbeats 16000000 in
theorem do_open(K L X Q Q':Nat→Prop)(s:MSt)(ka la xa:Option Addr)(kc lc xn xc:Nat)(ag to_:Int)(sa:Option Addr)(sn sc:Nat)(S:Nat→Int)(ia:Option Addr)(il ic:Nat)(I:Nat→Int)(most:Int)(w:World)(hP:Pre4 K L X w s ka kc la lc xa xn)(hS:Ints Q .i64 w sa sn S)(hI:Ints Q' .u8 w ia il I)(hB:Byt il I)(hsn:sn≤1048576)(hil:il≤1048576) :
  Calls Tryz.prog 19 #[stV s ka kc la lc xa xn xc,.agg #[.int .i64 9,.int .i64 ag,.int .i64 to_,.slice sa sn sc],.slice ia il ic,.int .i64 most] w (DoIs (s.act ⟨9,ag,to_,sn,S⟩ il I most) K L X w):=by
 obtain⟨n,hnn⟩:∃n,s.st.length=n:=⟨_,rfl⟩;obtain⟨ln,hll⟩:∃ln,s.log.length=ln:=⟨_,rfl⟩;have HN:Hid (s.st.length=n):=hnn;have HLL:Hid (s.log.length=ln):=hll;have HV:Hid (stV s ka kc la lc xa xn xc=.agg #[.int .i64 s.at_,.int .i64 (s.pos:Int),.slice ka n kc,.slice la ln lc,.int .i64 (s.far:Int),.slice xa xn xc,.int .i64 (s.steps:Int),.int .i64 (s.throws:Int),.bool s.done,.int .i64 s.code,.int .i64 s.label]):=by
  show _=_;unfold stV;rw[hnn,hll]
 rw[HV.out];have HP:Hid (Pre4 K L X w s ka kc la lc xa xn):=hP;have HS:Hid (Ints Q .i64 w sa sn S):=hS;have HI:Hid (Ints Q' .u8 w ia il I):=hI;have HBY:Hid (Byt il I):=hB;have at0:=hP.at0;have at1:=hP.at1;have thr:=hP.thr;have hn:=hP.len;rw[hnn]at hn;have hlg:=hP.logl;rw[hll]at hlg;clear hP hS hI hB hnn hll;have HT0:Hid (s.act ⟨9,ag,to_,sn,S⟩ il I most=s.put 0 ag):=by show _=_;unfold MSt.act;rw[if_neg (by simp),if_neg (by simp),if_neg (by simp),if_neg (by simp),if_neg (by simp),if_neg (by simp),if_neg (by simp),if_neg (by simp),if_neg (by simp),if_pos rfl]
 have HTL:Hid ((s.put 0 ag).log.length=ln+1∧cellsE (s.put 0 ag).log=cellsE s.log++evv ⟨0,ag,(s.pos:Int)⟩):=⟨by show (s.log++[_]).length=_;rw[List.length_append,HLL.out];rfl,cellsE_snoc _ _⟩
 have HOL:Hid (∀W',Below w.heap.size w W'→OwnC L W' (.slice la ln lc) 3 ln (cellsE s.log)):=fun W' hW=>by
  have h:=HP.out.a.log.on (fun b hb=>hW.block b (HP.out.a.lt b (.inr (.inl hb))))
  rw[HLL.out]at h;exact h
 go_enter Tryz.func19,Tryz.ntmps19;go_wp2_with (at_builtin;refine appC rfl _ _ 34 34 rfl rfl rfl elemEv (HOL.out _ (bel_tr (bel3 w _ _ _) (bel1 _ _))) (src_ev _ 0 ag (s.pos:Int) (w.heap.size+1+1+1) (by simp)) (by omega) (fun _=>Nat.one_pos) ?_;intro v4 W4 hown hgrew hsz4;obtain⟨a4,c4,rfl⟩:=own_shape hown;have hz1:W4.heap[w.heap.size]? = some (.cells #[.int .i64 s.at_,.int .i64 (s.pos:Int),.slice ka n kc,.slice la ln lc,.int .i64 (s.far:Int),.slice xa xn xc,.int .i64 (s.steps:Int),.int .i64 (s.throws:Int),.bool s.done,.int .i64 s.code,.int .i64 s.label] 55):=(hgrew.block _ (by first|(simp;done)|(simp;omega)) (fun q=>absurd (HP.out.a.lt _ (.inr (.inl q))) (by omega))).trans (blk_old (blk_old (blk_old (blk_new w _ _ rfl) _) _) _);have hy1:W4.heap[w.heap.size+1+1]? = some (.cells #[.int .i64 0,.int .i64 0,.slice none 0 0,.slice none 0 0,.int .i64 0,.slice none 0 0,.int .i64 0,.int .i64 0,.bool false,.int .i64 0,.int .i64 0] 55):=(hgrew.block _ (by first|(simp;done)|(simp;omega)) (fun q=>absurd (HP.out.a.lt _ (.inr (.inl q))) (by omega))).trans (blk_old (blk_new _ _ _ (by simp)) _);have z0:=blk_cell (j:=0) hz1 rfl;have z1:=blk_cell (j:=1) hz1 rfl;have z2:=blk_cell (j:=2) hz1 rfl;have z3:=blk_cell (j:=3) hz1 rfl;have z4:=blk_cell (j:=4) hz1 rfl;have z5:=blk_cell (j:=5) hz1 rfl;have z6:=blk_cell (j:=6) hz1 rfl;have z7:=blk_cell (j:=7) hz1 rfl;have z8:=blk_cell (j:=8) hz1 rfl;have z9:=blk_cell (j:=9) hz1 rfl;have z10:=blk_cell (j:=10) hz1 rfl;have y0:=blk_cell (j:=0) hy1 rfl;have q0:=blk_frz (j:=0) hy1;have y1:=blk_cell (j:=1) hy1 rfl;have q1:=blk_frz (j:=1) hy1;have y2:=blk_cell (j:=2) hy1 rfl;have q2:=blk_frz (j:=2) hy1;have y3:=blk_cell (j:=3) hy1 rfl;have q3:=blk_frz (j:=3) hy1;have y4:=blk_cell (j:=4) hy1 rfl;have q4:=blk_frz (j:=4) hy1;have y5:=blk_cell (j:=5) hy1 rfl;have q5:=blk_frz (j:=5) hy1;have y6:=blk_cell (j:=6) hy1 rfl;have q6:=blk_frz (j:=6) hy1;have y7:=blk_cell (j:=7) hy1 rfl;have q7:=blk_frz (j:=7) hy1;have y8:=blk_cell (j:=8) hy1 rfl;have q8:=blk_frz (j:=8) hy1;have y9:=blk_cell (j:=9) hy1 rfl;have q9:=blk_frz (j:=9) hy1;have y10:=blk_cell (j:=10) hy1 rfl;have q10:=blk_frz (j:=10) hy1;have p0:=blk_frz (j:=0) hz1;have p3:=blk_frz (j:=3) hz1;have lw0:w.heap.size<W4.heap.size:=lt_of_cell z0;have lwy:w.heap.size+1+1<W4.heap.size:=lt_of_cell y0;have hsp:=spa_log (t:=s.put 0 ag) (lo:=w.heap.size+3) HP.out.a (bel_tr (bel3 w _ _ _) (bel1 _ _)) (by { rw[HTL.out.1,HTL.out.2];exact hown }) (by { rw[HTL.out.1];omega }) hgrew rfl rfl (by omega) (by simp);have HSP:Hid (SpA K (fun b=>L b∨w.heap.size+3≤b∧b<W4.heap.size) X W4 (s.put 0 ag) ka kc a4 c4 xa xn∧Kept (fun b=>K b∨L b) w W4):=hsp;clear hsp;clear hown hgrew hsz4 hz1 hy1)
 have HVR:Hid (stV (s.put 0 ag) ka kc a4 c4 xa xn xc=.agg #[.int .i64 (s.at_+1),.int .i64 (s.pos:Int),.slice ka n kc,.slice a4 (ln+1) c4,.int .i64 (s.far:Int),.slice xa xn xc,.int .i64 (s.steps:Int),.int .i64 (s.throws:Int),.bool s.done,.int .i64 s.code,.int .i64 s.label]):=by
  show _=_;unfold stV;rw[HTL.out.1,show (s.put 0 ag).st.length=n from HN.out]
  rfl
 refine bodyPost_ret (v:=stV (s.put 0 ag) ka kc a4 c4 xa xn xc) ?_ rfl ?_
 ·rw[HVR.out]
  simp[results,Tryz.f19,go_sem, *]
 ·rw[HT0.out]
  exact do_end (W:=W4) HSP.out.1 HP.out.a.lt (fun b hb=>.inl hb) (fun b hb=>hb.imp id And.left) (fun b hb=>.inl hb) HSP.out.2 (Only.set (Only.set (Only.set (Only.set (Only.set (Only.set (Only.set (Only.set (Only.set (Only.set (Only.set (Only.set (Only.set (Only.refl _ _) _ _ _ ⟨by omega,by omega⟩) _ _ _ ⟨by omega,by omega⟩) _ _ _ ⟨by omega,by omega⟩) _ _ _ ⟨by omega,by omega⟩) _ _ _ ⟨by omega,by omega⟩) _ _ _ ⟨by omega,by omega⟩) _ _ _ ⟨by omega,by omega⟩) _ _ _ ⟨by omega,by omega⟩) _ _ _ ⟨by omega,by omega⟩) _ _ _ ⟨by omega,by omega⟩) _ _ _ ⟨by omega,by omega⟩) _ _ _ ⟨by omega,by omega⟩) _ _ _ ⟨by omega,by omega⟩)
set_option maxRecDepth 100000 in
set_option maxHeartbeats 16000000 in
theorem do_error(K L X Q Q':Nat→Prop)(s:MSt)(ka la xa:Option Addr)(kc lc xn xc:Nat)(ag to_:Int)(sa:Option Addr)(sn sc:Nat)(S:Nat→Int)(ia:Option Addr)(il ic:Nat)(I:Nat→Int)(most:Int)(w:World)(hP:Pre4 K L X w s ka kc la lc xa xn)(hS:Ints Q .i64 w sa sn S)(hI:Ints Q' .u8 w ia il I)(hB:Byt il I)(hsn:sn≤1048576)(hil:il≤1048576) :
  Calls Tryz.prog 19 #[stV s ka kc la lc xa xn xc,.agg #[.int .i64 10,.int .i64 ag,.int .i64 to_,.slice sa sn sc],.slice ia il ic,.int .i64 most] w (DoIs (s.act ⟨10,ag,to_,sn,S⟩ il I most) K L X w):=by
 obtain⟨n,hnn⟩:∃n,s.st.length=n:=⟨_,rfl⟩;obtain⟨ln,hll⟩:∃ln,s.log.length=ln:=⟨_,rfl⟩;have HN:Hid (s.st.length=n):=hnn;have HLL:Hid (s.log.length=ln):=hll;have HV:Hid (stV s ka kc la lc xa xn xc=.agg #[.int .i64 s.at_,.int .i64 (s.pos:Int),.slice ka n kc,.slice la ln lc,.int .i64 (s.far:Int),.slice xa xn xc,.int .i64 (s.steps:Int),.int .i64 (s.throws:Int),.bool s.done,.int .i64 s.code,.int .i64 s.label]):=by
  show _=_;unfold stV;rw[hnn,hll]
 rw[HV.out];have HP:Hid (Pre4 K L X w s ka kc la lc xa xn):=hP;have HS:Hid (Ints Q .i64 w sa sn S):=hS;have HI:Hid (Ints Q' .u8 w ia il I):=hI;have HBY:Hid (Byt il I):=hB;have at0:=hP.at0;have at1:=hP.at1;have thr:=hP.thr;have hn:=hP.len;rw[hnn]at hn;have hlg:=hP.logl;rw[hll]at hlg;clear hP hS hI hB hnn hll;have HT0:Hid (s.act ⟨10,ag,to_,sn,S⟩ il I most=s.put 1 ag):=by show _=_;unfold MSt.act;rw[if_neg (by simp),if_neg (by simp),if_neg (by simp),if_neg (by simp),if_neg (by simp),if_neg (by simp),if_neg (by simp),if_neg (by simp),if_neg (by simp),if_neg (by simp),if_pos rfl]
 have HTL:Hid ((s.put 1 ag).log.length=ln+1∧cellsE (s.put 1 ag).log=cellsE s.log++evv ⟨1,ag,(s.pos:Int)⟩):=⟨by show (s.log++[_]).length=_;rw[List.length_append,HLL.out];rfl,cellsE_snoc _ _⟩
 have HOL:Hid (∀W',Below w.heap.size w W'→OwnC L W' (.slice la ln lc) 3 ln (cellsE s.log)):=fun W' hW=>by
  have h:=HP.out.a.log.on (fun b hb=>hW.block b (HP.out.a.lt b (.inr (.inl hb))))
  rw[HLL.out]at h;exact h
 go_enter Tryz.func19,Tryz.ntmps19;go_wp2_with (at_builtin;refine appC rfl _ _ 34 34 rfl rfl rfl elemEv (HOL.out _ (bel_tr (bel3 w _ _ _) (bel1 _ _))) (src_ev _ 1 ag (s.pos:Int) (w.heap.size+1+1+1) (by simp)) (by omega) (fun _=>Nat.one_pos) ?_;intro v4 W4 hown hgrew hsz4;obtain⟨a4,c4,rfl⟩:=own_shape hown;have hz1:W4.heap[w.heap.size]? = some (.cells #[.int .i64 s.at_,.int .i64 (s.pos:Int),.slice ka n kc,.slice la ln lc,.int .i64 (s.far:Int),.slice xa xn xc,.int .i64 (s.steps:Int),.int .i64 (s.throws:Int),.bool s.done,.int .i64 s.code,.int .i64 s.label] 55):=(hgrew.block _ (by first|(simp;done)|(simp;omega)) (fun q=>absurd (HP.out.a.lt _ (.inr (.inl q))) (by omega))).trans (blk_old (blk_old (blk_old (blk_new w _ _ rfl) _) _) _);have hy1:W4.heap[w.heap.size+1+1]? = some (.cells #[.int .i64 0,.int .i64 0,.slice none 0 0,.slice none 0 0,.int .i64 0,.slice none 0 0,.int .i64 0,.int .i64 0,.bool false,.int .i64 0,.int .i64 0] 55):=(hgrew.block _ (by first|(simp;done)|(simp;omega)) (fun q=>absurd (HP.out.a.lt _ (.inr (.inl q))) (by omega))).trans (blk_old (blk_new _ _ _ (by simp)) _);have z0:=blk_cell (j:=0) hz1 rfl;have z1:=blk_cell (j:=1) hz1 rfl;have z2:=blk_cell (j:=2) hz1 rfl;have z3:=blk_cell (j:=3) hz1 rfl;have z4:=blk_cell (j:=4) hz1 rfl;have z5:=blk_cell (j:=5) hz1 rfl;have z6:=blk_cell (j:=6) hz1 rfl;have z7:=blk_cell (j:=7) hz1 rfl;have z8:=blk_cell (j:=8) hz1 rfl;have z9:=blk_cell (j:=9) hz1 rfl;have z10:=blk_cell (j:=10) hz1 rfl;have y0:=blk_cell (j:=0) hy1 rfl;have q0:=blk_frz (j:=0) hy1;have y1:=blk_cell (j:=1) hy1 rfl;have q1:=blk_frz (j:=1) hy1;have y2:=blk_cell (j:=2) hy1 rfl;have q2:=blk_frz (j:=2) hy1;have y3:=blk_cell (j:=3) hy1 rfl;have q3:=blk_frz (j:=3) hy1;have y4:=blk_cell (j:=4) hy1 rfl;have q4:=blk_frz (j:=4) hy1;have y5:=blk_cell (j:=5) hy1 rfl;have q5:=blk_frz (j:=5) hy1;have y6:=blk_cell (j:=6) hy1 rfl;have q6:=blk_frz (j:=6) hy1;have y7:=blk_cell (j:=7) hy1 rfl;have q7:=blk_frz (j:=7) hy1;have y8:=blk_cell (j:=8) hy1 rfl;have q8:=blk_frz (j:=8) hy1;have y9:=blk_cell (j:=9) hy1 rfl;have q9:=blk_frz (j:=9) hy1;have y10:=blk_cell (j:=10) hy1 rfl;have q10:=blk_frz (j:=10) hy1;have p0:=blk_frz (j:=0) hz1;have p3:=blk_frz (j:=3) hz1;have lw0:w.heap.size<W4.heap.size:=lt_of_cell z0;have lwy:w.heap.size+1+1<W4.heap.size:=lt_of_cell y0;have hsp:=spa_log (t:=s.put 1 ag) (lo:=w.heap.size+3) HP.out.a (bel_tr (bel3 w _ _ _) (bel1 _ _)) (by { rw[HTL.out.1,HTL.out.2];exact hown }) (by { rw[HTL.out.1];omega }) hgrew rfl rfl (by omega) (by simp);have HSP:Hid (SpA K (fun b=>L b∨w.heap.size+3≤b∧b<W4.heap.size) X W4 (s.put 1 ag) ka kc a4 c4 xa xn∧Kept (fun b=>K b∨L b) w W4):=hsp;clear hsp;clear hown hgrew hsz4 hz1 hy1)
 have HVR:Hid (stV (s.put 1 ag) ka kc a4 c4 xa xn xc=.agg #[.int .i64 (s.at_+1),.int .i64 (s.pos:Int),.slice ka n kc,.slice a4 (ln+1) c4,.int .i64 (s.far:Int),.slice xa xn xc,.int .i64 (s.steps:Int),.int .i64 (s.throws:Int),.bool s.done,.int .i64 s.code,.int .i64 s.label]):=by
  show _=_;unfold stV;rw[HTL.out.1,show (s.put 1 ag).st.length=n from HN.out]
  rfl
 refine bodyPost_ret (v:=stV (s.put 1 ag) ka kc a4 c4 xa xn xc) ?_ rfl ?_
 ·rw[HVR.out]
  simp[results,Tryz.f19,go_sem, *]
 ·rw[HT0.out]
  exact do_end (W:=W4) HSP.out.1 HP.out.a.lt (fun b hb=>.inl hb) (fun b hb=>hb.imp id And.left) (fun b hb=>.inl hb) HSP.out.2 (Only.set (Only.set (Only.set (Only.set (Only.set (Only.set (Only.set (Only.set (Only.set (Only.set (Only.set (Only.set (Only.set (Only.refl _ _) _ _ _ ⟨by omega,by omega⟩) _ _ _ ⟨by omega,by omega⟩) _ _ _ ⟨by omega,by omega⟩) _ _ _ ⟨by omega,by omega⟩) _ _ _ ⟨by omega,by omega⟩) _ _ _ ⟨by omega,by omega⟩) _ _ _ ⟨by omega,by omega⟩) _ _ _ ⟨by omega,by omega⟩) _ _ _ ⟨by omega,by omega⟩) _ _ _ ⟨by omega,by omega⟩) _ _ _ ⟨by omega,by omega⟩) _ _ _ ⟨by omega,by omega⟩) _ _ _ ⟨by omega,by omega⟩)
set_option maxRecDepth 100000 in
set_option maxHeartbeats 16000000 in
theorem do_close(K L X Q Q':Nat→Prop)(s:MSt)(ka la xa:Option Addr)(kc lc xn xc:Nat)(ag to_:Int)(sa:Option Addr)(sn sc:Nat)(S:Nat→Int)(ia:Option Addr)(il ic:Nat)(I:Nat→Int)(most:Int)(w:World)(hP:Pre4 K L X w s ka kc la lc xa xn)(hS:Ints Q .i64 w sa sn S)(hI:Ints Q' .u8 w ia il I)(hB:Byt il I)(hsn:sn≤1048576)(hil:il≤1048576) :
  Calls Tryz.prog 19 #[stV s ka kc la lc xa xn xc,.agg #[.int .i64 11,.int .i64 ag,.int .i64 to_,.slice sa sn sc],.slice ia il ic,.int .i64 most] w (DoIs (s.act ⟨11,ag,to_,sn,S⟩ il I most) K L X w):=by
 obtain⟨n,hnn⟩:∃n,s.st.length=n:=⟨_,rfl⟩;obtain⟨ln,hll⟩:∃ln,s.log.length=ln:=⟨_,rfl⟩;have HN:Hid (s.st.length=n):=hnn;have HLL:Hid (s.log.length=ln):=hll;have HV:Hid (stV s ka kc la lc xa xn xc=.agg #[.int .i64 s.at_,.int .i64 (s.pos:Int),.slice ka n kc,.slice la ln lc,.int .i64 (s.far:Int),.slice xa xn xc,.int .i64 (s.steps:Int),.int .i64 (s.throws:Int),.bool s.done,.int .i64 s.code,.int .i64 s.label]):=by
  show _=_;unfold stV;rw[hnn,hll]
 rw[HV.out];have HP:Hid (Pre4 K L X w s ka kc la lc xa xn):=hP;have HS:Hid (Ints Q .i64 w sa sn S):=hS;have HI:Hid (Ints Q' .u8 w ia il I):=hI;have HBY:Hid (Byt il I):=hB;have at0:=hP.at0;have at1:=hP.at1;have thr:=hP.thr;have hn:=hP.len;rw[hnn]at hn;have hlg:=hP.logl;rw[hll]at hlg;clear hP hS hI hB hnn hll;have HT0:Hid (s.act ⟨11,ag,to_,sn,S⟩ il I most=s.put 2 ag):=by show _=_;unfold MSt.act;rw[if_neg (by simp),if_neg (by simp),if_neg (by simp),if_neg (by simp),if_neg (by simp),if_neg (by simp),if_neg (by simp),if_neg (by simp),if_neg (by simp),if_neg (by simp),if_neg (by simp),if_pos rfl]
 have HTL:Hid ((s.put 2 ag).log.length=ln+1∧cellsE (s.put 2 ag).log=cellsE s.log++evv ⟨2,ag,(s.pos:Int)⟩):=⟨by show (s.log++[_]).length=_;rw[List.length_append,HLL.out];rfl,cellsE_snoc _ _⟩
 have HOL:Hid (∀W',Below w.heap.size w W'→OwnC L W' (.slice la ln lc) 3 ln (cellsE s.log)):=fun W' hW=>by
  have h:=HP.out.a.log.on (fun b hb=>hW.block b (HP.out.a.lt b (.inr (.inl hb))))
  rw[HLL.out]at h;exact h
 go_enter Tryz.func19,Tryz.ntmps19;go_wp2_with (at_builtin;refine appC rfl _ _ 34 34 rfl rfl rfl elemEv (HOL.out _ (bel_tr (bel3 w _ _ _) (bel1 _ _))) (src_ev _ 2 ag (s.pos:Int) (w.heap.size+1+1+1) (by simp)) (by omega) (fun _=>Nat.one_pos) ?_;intro v4 W4 hown hgrew hsz4;obtain⟨a4,c4,rfl⟩:=own_shape hown;have hz1:W4.heap[w.heap.size]? = some (.cells #[.int .i64 s.at_,.int .i64 (s.pos:Int),.slice ka n kc,.slice la ln lc,.int .i64 (s.far:Int),.slice xa xn xc,.int .i64 (s.steps:Int),.int .i64 (s.throws:Int),.bool s.done,.int .i64 s.code,.int .i64 s.label] 55):=(hgrew.block _ (by first|(simp;done)|(simp;omega)) (fun q=>absurd (HP.out.a.lt _ (.inr (.inl q))) (by omega))).trans (blk_old (blk_old (blk_old (blk_new w _ _ rfl) _) _) _);have hy1:W4.heap[w.heap.size+1+1]? = some (.cells #[.int .i64 0,.int .i64 0,.slice none 0 0,.slice none 0 0,.int .i64 0,.slice none 0 0,.int .i64 0,.int .i64 0,.bool false,.int .i64 0,.int .i64 0] 55):=(hgrew.block _ (by first|(simp;done)|(simp;omega)) (fun q=>absurd (HP.out.a.lt _ (.inr (.inl q))) (by omega))).trans (blk_old (blk_new _ _ _ (by simp)) _);have z0:=blk_cell (j:=0) hz1 rfl;have z1:=blk_cell (j:=1) hz1 rfl;have z2:=blk_cell (j:=2) hz1 rfl;have z3:=blk_cell (j:=3) hz1 rfl;have z4:=blk_cell (j:=4) hz1 rfl;have z5:=blk_cell (j:=5) hz1 rfl;have z6:=blk_cell (j:=6) hz1 rfl;have z7:=blk_cell (j:=7) hz1 rfl;have z8:=blk_cell (j:=8) hz1 rfl;have z9:=blk_cell (j:=9) hz1 rfl;have z10:=blk_cell (j:=10) hz1 rfl;have y0:=blk_cell (j:=0) hy1 rfl;have q0:=blk_frz (j:=0) hy1;have y1:=blk_cell (j:=1) hy1 rfl;have q1:=blk_frz (j:=1) hy1;have y2:=blk_cell (j:=2) hy1 rfl;have q2:=blk_frz (j:=2) hy1;have y3:=blk_cell (j:=3) hy1 rfl;have q3:=blk_frz (j:=3) hy1;have y4:=blk_cell (j:=4) hy1 rfl;have q4:=blk_frz (j:=4) hy1;have y5:=blk_cell (j:=5) hy1 rfl;have q5:=blk_frz (j:=5) hy1;have y6:=blk_cell (j:=6) hy1 rfl;have q6:=blk_frz (j:=6) hy1;have y7:=blk_cell (j:=7) hy1 rfl;have q7:=blk_frz (j:=7) hy1;have y8:=blk_cell (j:=8) hy1 rfl;have q8:=blk_frz (j:=8) hy1;have y9:=blk_cell (j:=9) hy1 rfl;have q9:=blk_frz (j:=9) hy1;have y10:=blk_cell (j:=10) hy1 rfl;have q10:=blk_frz (j:=10) hy1;have p0:=blk_frz (j:=0) hz1;have p3:=blk_frz (j:=3) hz1;have lw0:w.heap.size<W4.heap.size:=lt_of_cell z0;have lwy:w.heap.size+1+1<W4.heap.size:=lt_of_cell y0;have hsp:=spa_log (t:=s.put 2 ag) (lo:=w.heap.size+3) HP.out.a (bel_tr (bel3 w _ _ _) (bel1 _ _)) (by { rw[HTL.out.1,HTL.out.2];exact hown }) (by { rw[HTL.out.1];omega }) hgrew rfl rfl (by omega) (by simp);have HSP:Hid (SpA K (fun b=>L b∨w.heap.size+3≤b∧b<W4.heap.size) X W4 (s.put 2 ag) ka kc a4 c4 xa xn∧Kept (fun b=>K b∨L b) w W4):=hsp;clear hsp;clear hown hgrew hsz4 hz1 hy1)
 have HVR:Hid (stV (s.put 2 ag) ka kc a4 c4 xa xn xc=.agg #[.int .i64 (s.at_+1),.int .i64 (s.pos:Int),.slice ka n kc,.slice a4 (ln+1) c4,.int .i64 (s.far:Int),.slice xa xn xc,.int .i64 (s.steps:Int),.int .i64 (s.throws:Int),.bool s.done,.int .i64 s.code,.int .i64 s.label]):=by
  show _=_;unfold stV;rw[HTL.out.1,show (s.put 2 ag).st.length=n from HN.out]
  rfl
 refine bodyPost_ret (v:=stV (s.put 2 ag) ka kc a4 c4 xa xn xc) ?_ rfl ?_
 ·rw[HVR.out]
  simp[results,Tryz.f19,go_sem, *]
 ·rw[HT0.out]
  exact do_end (W:=W4) HSP.out.1 HP.out.a.lt (fun b hb=>.inl hb) (fun b hb=>hb.imp id And.left) (fun b hb=>.inl hb) HSP.out.2 (Only.set (Only.set (Only.set (Only.set (Only.set (Only.set (Only.set (Only.set (Only.set (Only.set (Only.set (Only.set (Only.set (Only.refl _ _) _ _ _ ⟨by omega,by omega⟩) _ _ _ ⟨by omega,by omega⟩) _ _ _ ⟨by omega,by omega⟩) _ _ _ ⟨by omega,by omega⟩) _ _ _ ⟨by omega,by omega⟩) _ _ _ ⟨by omega,by omega⟩) _ _ _ ⟨by omega,by omega⟩) _ _ _ ⟨by omega,by omega⟩) _ _ _ ⟨by omega,by omega⟩) _ _ _ ⟨by omega,by omega⟩) _ _ _ ⟨by omega,by omega⟩) _ _ _ ⟨by omega,by omega⟩) _ _ _ ⟨by omega,by omega⟩)
end
section
open Go.RowKit
open M (OpD NodeD Gr InsD)
theorem l4do_any(K L X Q Q':Nat→Prop)(s:MSt)(ka la xa:Option Addr)(kc lc xn xc:Nat)(x:InsD)(sa:Option Addr)(sc:Nat)(ia:Option Addr)(il ic:Nat)(I:Nat→Int)(most:Int)(w:World)(hP:Pre4 K L X w s ka kc la lc xa xn)(hS:Ints Q .i64 w sa x.sl x.set)(hI:Ints Q' .u8 w ia il I)(hB:Byt il I)(hsn:x.sl≤1048576)(hil:il≤1048576) :
  Calls Tryz.prog 19 #[stV s ka kc la lc xa xn xc,.agg #[.int .i64 x.kind,.int .i64 x.arg,.int .i64 x.to,.slice sa x.sl sc],.slice ia il ic,.int .i64 most] w (DoIs (s.act x il I most) K L X w):=by
 obtain⟨kd,ag,to_,sn,S⟩:=x;show Calls Tryz.prog 19 #[stV s ka kc la lc xa xn xc,.agg #[.int .i64 kd,.int .i64 ag,.int .i64 to_,.slice sa sn sc],.slice ia il ic,.int .i64 most] w _;by_cases h:0≤kd∧kd≤12
 ·rcases (by omega:kd=0∨kd=1∨kd=2∨kd=3∨kd=4∨kd=5∨kd=6∨kd=7∨kd=8∨kd=9∨kd=10∨kd=11∨kd=12) with rfl | rfl | rfl | rfl | rfl | rfl | rfl | rfl | rfl | rfl | rfl | rfl | rfl
  ·exact do_test K L X Q Q' s ka la xa kc lc xn xc ag to_ sa sn sc S ia il ic I most w hP hS hI hB hsn hil
  ·exact do_choice K L X Q Q' s ka la xa kc lc xn xc ag to_ sa sn sc S ia il ic I most w hP hS hI hB hsn hil
  ·exact do_commit K L X Q Q' s ka la xa kc lc xn xc ag to_ sa sn sc S ia il ic I most w hP hS hI hB hsn hil
  ·exact do_partial K L X Q Q' s ka la xa kc lc xn xc ag to_ sa sn sc S ia il ic I most w hP hS hI hB hsn hil
  ·exact do_not K L X Q Q' s ka la xa kc lc xn xc ag to_ sa sn sc S ia il ic I most w hP hS hI hB hsn hil
  ·exact do_twice K L X Q Q' s ka la xa kc lc xn xc ag to_ sa sn sc S ia il ic I most w hP hS hI hB hsn hil
  ·exact do_call K L X Q Q' s ka la xa kc lc xn xc ag to_ sa sn sc S ia il ic I most w hP hS hI hB hsn hil
  ·exact do_ret K L X Q Q' s ka la xa kc lc xn xc ag to_ sa sn sc S ia il ic I most w hP hS hI hB hsn hil
  ·exact do_throw K L X Q Q' s ka la xa kc lc xn xc ag to_ sa sn sc S ia il ic I most w hP hS hI hB hsn hil
  ·exact do_open K L X Q Q' s ka la xa kc lc xn xc ag to_ sa sn sc S ia il ic I most w hP hS hI hB hsn hil
  ·exact do_error K L X Q Q' s ka la xa kc lc xn xc ag to_ sa sn sc S ia il ic I most w hP hS hI hB hsn hil
  ·exact do_close K L X Q Q' s ka la xa kc lc xn xc ag to_ sa sn sc S ia il ic I most w hP hS hI hB hsn hil
  ·exact do_end_ K L X Q Q' s ka la xa kc lc xn xc ag to_ sa sn sc S ia il ic I most w hP hS hI hB hsn hil
 ·exact do_other K L X Q Q' s ka la xa kc lc xn xc kd ag to_ sa sn sc S ia il ic I most w hP hS hI hB hsn hil h
end
end Go.Proofs.YtcbnnfnlilbjeaaGreat
