import Derived.Test.YtcbnnfnlilbjeaaGreatT25
set_option linter.unusedVariables false
set_option linter.unusedSimpArgs false
namespace Go.Proofs.YtcbnnfnlilbjeaaGreat
section
open Go.RowKit
open M (OpD NodeD Gr InsD)
def TestIs(t:MSt)(X:Nat→Prop)(ka:Option Addr)(kc:Nat)(la:Option Addr)(lc:Nat)(w:World)(e:Ending)(w':World):Prop :=
 ∃xa xn xc,e=.returned (stV t ka kc la lc xa xn xc)∧ExA (fun b=>X b∨New w w' b) w' xa xn t.exp∧Below w.heap.size w w'
theorem fail_exp(s:MSt):s.fail.exp=s.exp:=by unfold MSt.fail;split<;>rfl
theorem has_ex{Q:Nat→Prop}{w:World}{xa:Option Addr}{xn:Nat}{M:Nat→Bool}(h:ExA Q w xa xn M)(n:Nat)(S:Nat→Int){b:Nat}(hb:b<256):(hasN n S (b:Int)||hasN xn (lf (rg M 256)) (b:Int))=(hasN n S (b:Int)||M b):=by
 rw[h.1,rg_has M hb]
theorem st_set{Q:Nat→Prop}{w W:World}(h:Stay Q w W)(b o:Nat)(v:Value)(hb:¬Q b):Stay Q w (W.setCell ⟨b,o,none⟩ v):=h.trans (stay_set W ⟨b,o,none⟩ v hb)
theorem ex_set{X:Nat→Prop}{w w':World}{xa:Option Addr}{xn:Nat}{M:Nat→Bool}(h:ExA X w xa xn M)(k:Below w.heap.size w w'):ExA (fun b=>X b∨New w w' b) w' xa xn M:=(h.later k).wide (fun b q=>.inl q)
set_option maxRecDepth 100000 in
set_option maxHeartbeats 16000000 in
theorem l4test_any(X Q Q':Nat→Prop)(s:MSt)(ka la xa:Option Addr)(kc lc xn xc:Nat)(sa:Option Addr)(sn sc:Nat)(S:Nat→Int)(ia:Option Addr)(il ic:Nat)(I:Nat→Int)(w:World)(hK:FrA w ka s.st)(hX:ExA X w xa xn s.exp)(hS:Ints Q .i64 w sa sn S)(hI:Ints Q' .u8 w ia il I)(hB:Byt il I)
  (hn:s.st.length≤1000) (hkc:s.st.length≤kc) (hlc:s.log.length≤lc) (hlog:∀f,f∈s.st→f.kind≠2→f.log≤s.log.length) (hsn:sn≤1048576) (hil:il≤1048576) (hat0:0≤s.at_) (hat:s.at_≤1048576) :
  Calls Tryz.prog 41 #[stV s ka kc la lc xa xn xc,.slice sa sn sc,.slice ia il ic] w (TestIs (s.test sn S il I) X ka kc la lc w):=by
 obtain⟨n,hnn⟩:∃n,s.st.length=n:=⟨_,rfl⟩;obtain⟨ln,hll⟩:∃ln,s.log.length=ln:=⟨_,rfl⟩;have HN:Hid (s.st.length=n):=hnn;have HLL:Hid (s.log.length=ln):=hll;have HV:Hid (stV s ka kc la lc xa xn xc=.agg #[.int .i64 s.at_,.int .i64 (s.pos:Int),.slice ka n kc,.slice la ln lc,.int .i64 (s.far:Int),.slice xa xn xc,.int .i64 (s.steps:Int),.int .i64 (s.throws:Int),.bool s.done,.int .i64 s.code,.int .i64 s.label]):=by
  show _=_;unfold stV;rw[hnn,hll]
 rw[HV.out];have HK:Hid (FrA w ka s.st):=hK;have HX:Hid (ExA X w xa xn s.exp):=hX;have HS:Hid (Ints Q .i64 w sa sn S):=hS;have HI:Hid (Ints Q' .u8 w ia il I):=hI;have HBY:Hid (Byt il I):=hB;have HLG:Hid (∀f,f∈s.st→f.kind≠2→f.log≤s.log.length):=hlog;have HHN:Hid (s.st.length≤1000):=hn;have HKC:Hid (s.st.length≤kc):=hkc;have HLC:Hid (s.log.length≤lc):=hlc;have hxl:=hX.le;rw[hnn]at hn hkc;rw[hll]at hlc;clear hK hX hS hI hB hlog hnn hll;by_cases hp:s.pos<il
 ·rcases HI.out with h0 | ⟨ib,iof,rfl,hq,hI⟩
  ·omega
  have hi:=hI s.pos hp;have lib:=lt_of_cell hi;have hb:=HBY.out s.pos hp;obtain⟨z,hz⟩:∃z,I s.pos=z:=⟨_,rfl⟩;rw[hz]at hi hb;have HZ:Hid (I s.pos=z):=hz;have hp':(s.pos:Int)<(il:Int):=by omega
  clear hI hz;go_enter Tryz.func41,Tryz.ntmps41;go_wp2_with fail;refine (l2has_any Q sa sn sc S z _ (HS.out.later (bel2 w _ _)) hsn).mono ?_;rintro e W ⟨rfl,hW⟩;subst W;cases hh:hasN sn S z with
  |true =>
   have HT:Hid (s.test sn S il I={ s with pos:=s.pos+1,at_:=s.at_+1 }):=by show _=_;unfold MSt.test;rw[if_pos ⟨hp,by rw[HZ.out];exact hh⟩]
   clear hh;go_wp2;refine bodyPost_ret (v:=stV (s.test sn S il I) ka kc la lc xa xn xc) ?_ rfl ?_
   ·rw[HT.out]
    unfold stV;simp only[HN.out,HLL.out];simp[results,Tryz.f41,go_sem]
   ·rw[HT.out]
    exact⟨xa,xn,xc,rfl,ex_set HX.out (bel2 w _ _),bel2 w _ _⟩
  |false =>
   have HT:Hid (s.test sn S il I=(if s.inNot then s else s.note sn S).fail):=by show _=_;unfold MSt.test;rw[if_neg (fun q=>by have:=q.2;rw[HZ.out,hh]at this;cases this)]
   clear hh;go_wp2_with fail;have hc1:=l4inNot_any s ka la xa kc lc xn xc ((w.alloc (.cells #[.int .i64 s.at_,.int .i64 (s.pos:Int),.slice ka n kc,.slice la ln lc,.int .i64 (s.far:Int),.slice xa xn xc,.int .i64 (s.steps:Int),.int .i64 (s.throws:Int),.bool s.done,.int .i64 s.code,.int .i64 s.label] 55)).alloc (.cells #[.int .i64 0,.int .i64 0,.slice none 0 0,.slice none 0 0,.int .i64 0,.slice none 0 0,.int .i64 0,.int .i64 0,.bool false,.int .i64 0,.int .i64 0] 55)) (HK.out.later (bel2 w _ _)) HHN.out;rw[HV.out]at hc1;refine hc1.mono ?_;rintro e W1 ⟨rfl,hb1⟩;have z0:=cell_on (a:=⟨w.heap.size,0,none⟩) (v:=.int .i64 s.at_) (cellOn _ (cN w.heap.size rfl rfl)) hb1;have z1:=cell_on (a:=⟨w.heap.size,1,none⟩) (v:=.int .i64 (s.pos:Int)) (cellOn _ (cN w.heap.size rfl rfl)) hb1;have z2:=cell_on (a:=⟨w.heap.size,2,none⟩) (v:=.slice ka n kc) (cellOn _ (cN w.heap.size rfl rfl)) hb1;have z3:=cell_on (a:=⟨w.heap.size,3,none⟩) (v:=.slice la ln lc) (cellOn _ (cN w.heap.size rfl rfl)) hb1;have z4:=cell_on (a:=⟨w.heap.size,4,none⟩) (v:=.int .i64 (s.far:Int)) (cellOn _ (cN w.heap.size rfl rfl)) hb1;have z5:=cell_on (a:=⟨w.heap.size,5,none⟩) (v:=.slice xa xn xc) (cellOn _ (cN w.heap.size rfl rfl)) hb1;have z6:=cell_on (a:=⟨w.heap.size,6,none⟩) (v:=.int .i64 (s.steps:Int)) (cellOn _ (cN w.heap.size rfl rfl)) hb1;have z7:=cell_on (a:=⟨w.heap.size,7,none⟩) (v:=.int .i64 (s.throws:Int)) (cellOn _ (cN w.heap.size rfl rfl)) hb1;have z8:=cell_on (a:=⟨w.heap.size,8,none⟩) (v:=.bool s.done) (cellOn _ (cN w.heap.size rfl rfl)) hb1;have z9:=cell_on (a:=⟨w.heap.size,9,none⟩) (v:=.int .i64 s.code) (cellOn _ (cN w.heap.size rfl rfl)) hb1;have z10:=cell_on (a:=⟨w.heap.size,10,none⟩) (v:=.int .i64 s.label) (cellOn _ (cN w.heap.size rfl rfl)) hb1;have y0:=cell_on (a:=⟨w.heap.size+1,0,none⟩) (v:=.int .i64 0) (cN (w.heap.size+1) (by simp) rfl) hb1
   have y1:=cell_on (a:=⟨w.heap.size+1,1,none⟩) (v:=.int .i64 0) (cN (w.heap.size+1) (by simp) rfl) hb1
   have y2:=cell_on (a:=⟨w.heap.size+1,2,none⟩) (v:=.slice none 0 0) (cN (w.heap.size+1) (by simp) rfl) hb1
   have y3:=cell_on (a:=⟨w.heap.size+1,3,none⟩) (v:=.slice none 0 0) (cN (w.heap.size+1) (by simp) rfl) hb1
   have y4:=cell_on (a:=⟨w.heap.size+1,4,none⟩) (v:=.int .i64 0) (cN (w.heap.size+1) (by simp) rfl) hb1
   have y5:=cell_on (a:=⟨w.heap.size+1,5,none⟩) (v:=.slice none 0 0) (cN (w.heap.size+1) (by simp) rfl) hb1
   have y6:=cell_on (a:=⟨w.heap.size+1,6,none⟩) (v:=.int .i64 0) (cN (w.heap.size+1) (by simp) rfl) hb1
   have y7:=cell_on (a:=⟨w.heap.size+1,7,none⟩) (v:=.int .i64 0) (cN (w.heap.size+1) (by simp) rfl) hb1
   have y8:=cell_on (a:=⟨w.heap.size+1,8,none⟩) (v:=.bool false) (cN (w.heap.size+1) (by simp) rfl) hb1
   have y9:=cell_on (a:=⟨w.heap.size+1,9,none⟩) (v:=.int .i64 0) (cN (w.heap.size+1) (by simp) rfl) hb1
   have y10:=cell_on (a:=⟨w.heap.size+1,10,none⟩) (v:=.int .i64 0) (cN (w.heap.size+1) (by simp) rfl) hb1
   have fz:∀b o,w.heap.size≤b→b<w.heap.size+2→W1.frozen? ⟨b,o,none⟩=false:=fun b o h1 h2=>by
    rw[hb1.frozen (p:=⟨b,o,none⟩) (by simp;omega)]
    exact ((soft1 w _ 55).trans (soft1 _ _ 55) (bel1 _ _)) b o h1 (by simp;omega)
   have p0:=fz w.heap.size 0 (by omega) (by omega)
   have p1:=fz w.heap.size 1 (by omega) (by omega)
   have p2:=fz w.heap.size 2 (by omega) (by omega)
   have p3:=fz w.heap.size 3 (by omega) (by omega)
   have p4:=fz w.heap.size 4 (by omega) (by omega)
   have p5:=fz w.heap.size 5 (by omega) (by omega)
   have p6:=fz w.heap.size 6 (by omega) (by omega)
   have p7:=fz w.heap.size 7 (by omega) (by omega)
   have p8:=fz w.heap.size 8 (by omega) (by omega)
   have p9:=fz w.heap.size 9 (by omega) (by omega)
   have p10:=fz w.heap.size 10 (by omega) (by omega)
   have q0:=fz (w.heap.size+1) 0 (by omega) (by omega)
   have q1:=fz (w.heap.size+1) 1 (by omega) (by omega)
   have q2:=fz (w.heap.size+1) 2 (by omega) (by omega)
   have q3:=fz (w.heap.size+1) 3 (by omega) (by omega)
   have q4:=fz (w.heap.size+1) 4 (by omega) (by omega)
   have q5:=fz (w.heap.size+1) 5 (by omega) (by omega)
   have q6:=fz (w.heap.size+1) 6 (by omega) (by omega)
   have q7:=fz (w.heap.size+1) 7 (by omega) (by omega)
   have q8:=fz (w.heap.size+1) 8 (by omega) (by omega)
   have q9:=fz (w.heap.size+1) 9 (by omega) (by omega)
   have q10:=fz (w.heap.size+1) 10 (by omega) (by omega)
   have B1:Hid (Below w.heap.size w W1):=bel_tr (bel2 w _ _) hb1;have lw0:w.heap.size<W1.heap.size:=lt_of_cell z0;have lw1:w.heap.size+1<W1.heap.size:=lt_of_cell y0;clear hb1 hc1 fz;cases hin:s.inNot with
   |true =>
    have HT3:Hid (s.test sn S il I=s.fail):=by show _=_;rw[HT.out,hin];rfl
    clear hin;go_wp2_with fail;have hc:=l4fail_any s ka la xa kc lc xn xc W1 (HK.out.later B1.out) HHN.out HKC.out HLC.out HLG.out;obtain⟨t,ht⟩:∃t,s.fail=t:=⟨_,rfl⟩;have HE:Hid (t.exp=s.exp):=by show _=_;rw[←ht];exact fail_exp s
    have HT2:Hid (s.test sn S il I=t):=by show _=_;rw[HT3.out,ht]
    rw[ht,HV.out]at hc;clear ht;unfold stV at hc;refine hc.mono ?_;rintro e W9 ⟨rfl,hb9⟩;replace y0:=cell_on (y0) hb9;replace y1:=cell_on (y1) hb9;replace y2:=cell_on (y2) hb9;replace y3:=cell_on (y3) hb9;replace y4:=cell_on (y4) hb9;replace y5:=cell_on (y5) hb9;replace y6:=cell_on (y6) hb9;replace y7:=cell_on (y7) hb9;replace y8:=cell_on (y8) hb9;replace y9:=cell_on (y9) hb9;replace y10:=cell_on (y10) hb9;replace q0:=(hb9.frozen (p:=⟨w.heap.size+1,0,none⟩) (lw1)).trans (q0);replace q1:=(hb9.frozen (p:=⟨w.heap.size+1,1,none⟩) (lw1)).trans (q1);replace q2:=(hb9.frozen (p:=⟨w.heap.size+1,2,none⟩) (lw1)).trans (q2);replace q3:=(hb9.frozen (p:=⟨w.heap.size+1,3,none⟩) (lw1)).trans (q3);replace q4:=(hb9.frozen (p:=⟨w.heap.size+1,4,none⟩) (lw1)).trans (q4);replace q5:=(hb9.frozen (p:=⟨w.heap.size+1,5,none⟩) (lw1)).trans (q5);replace q6:=(hb9.frozen (p:=⟨w.heap.size+1,6,none⟩) (lw1)).trans (q6);replace q7:=(hb9.frozen (p:=⟨w.heap.size+1,7,none⟩) (lw1)).trans (q7);replace q8:=(hb9.frozen (p:=⟨w.heap.size+1,8,none⟩) (lw1)).trans (q8);replace q9:=(hb9.frozen (p:=⟨w.heap.size+1,9,none⟩) (lw1)).trans (q9);replace q10:=(hb9.frozen (p:=⟨w.heap.size+1,10,none⟩) (lw1)).trans (q10)
    have HB9:Hid (Below w.heap.size w W9):=bel_tr B1.out hb9;have lw9:w.heap.size+1<W9.heap.size:=lt_of_cell y0;clear hb9 hc;go_wp2;refine bodyPost_ret (v:=stV t ka kc la lc xa xn xc) ?_ rfl ?_
    ·unfold stV
     simp[results,Tryz.f41,go_sem, *]
    ·rw[HT2.out]
     refine⟨xa,xn,xc,rfl,ex_set (by rw[HE.out];exact HX.out) ?_,?_⟩
     ·exact bel_set (bel_set (bel_set (bel_set (bel_set (bel_set (bel_set (bel_set (bel_set (bel_set (bel_set (HB9.out) _ _ _ (by omega)) _ _ _ (by omega)) _ _ _ (by omega)) _ _ _ (by omega)) _ _ _ (by omega)) _ _ _ (by omega)) _ _ _ (by omega)) _ _ _ (by omega)) _ _ _ (by omega)) _ _ _ (by omega)) _ _ _ (by omega)
     ·exact bel_set (bel_set (bel_set (bel_set (bel_set (bel_set (bel_set (bel_set (bel_set (bel_set (bel_set (HB9.out) _ _ _ (by omega)) _ _ _ (by omega)) _ _ _ (by omega)) _ _ _ (by omega)) _ _ _ (by omega)) _ _ _ (by omega)) _ _ _ (by omega)) _ _ _ (by omega)) _ _ _ (by omega)) _ _ _ (by omega)) _ _ _ (by omega)
   |false =>
    have HT3:Hid (s.test sn S il I=(s.note sn S).fail):=by show _=_;rw[HT.out,hin];rfl
    clear hin;by_cases hf:s.far<s.pos
    ·have hf':(s.far:Int)<(s.pos:Int):=by omega
     have HNO:Hid (s.note sn S={ s with far:=s.pos,exp:=fun b=>hasN sn S (b:Int) }):=by show _=_;unfold MSt.note;rw[if_pos hf]
     clear hf;go_wp2_with fail;refine (l4bytes_any Q (fun _=>False) sa none sn 0 sc 0 S (fun _=>0) _ (HS.out.later (bel_set B1.out _ _ _ (Nat.le_refl _))) (.inl rfl) hsn (by omega)).mono ?_
     rintro e W2 ⟨a2,c2,rfl,hO⟩;obtain⟨x2,hx2⟩:∃x2,(rg (fun b=>hasN sn S (b:Int)||hasN 0 (fun _=>0) (b:Int)) 256).length=x2:=⟨_,rfl⟩
     have hb2:=hO.bel;have hs2:=hb2.size;rw[size_set]at hs2;have HX2:Hid (ExA (fun b=>W1.heap.size≤b∧b<W2.heap.size) W2 a2 x2 ({ s with far:=s.pos,exp:=fun b=>hasN sn S (b:Int) }).exp):=by
      have h:=ownL_ex (N:=({ s with far:=s.pos,exp:=fun b=>hasN sn S (b:Int) }).exp) hO (fun b _=>by simp[hasN,hasP])
      rw[hx2]at h;exact h.wide (fun b hb=>⟨by have:=hb.1;(try simp only[size_set]at *);omega,hb.2⟩)
     rw[hx2];replace z0:=cell_on (a:=⟨w.heap.size,0,none⟩) (cell_setO (j:=4) (u:=.int .i64 (s.pos:Int)) (by omega) z0) hb2
     replace y0:=cell_on (a:=⟨w.heap.size+1,0,none⟩) (cell_setB (c:=w.heap.size) (j:=4) (u:=.int .i64 (s.pos:Int)) (by omega) y0) hb2
     replace z1:=cell_on (a:=⟨w.heap.size,1,none⟩) (cell_setO (j:=4) (u:=.int .i64 (s.pos:Int)) (by omega) z1) hb2
     replace y1:=cell_on (a:=⟨w.heap.size+1,1,none⟩) (cell_setB (c:=w.heap.size) (j:=4) (u:=.int .i64 (s.pos:Int)) (by omega) y1) hb2
     replace z2:=cell_on (a:=⟨w.heap.size,2,none⟩) (cell_setO (j:=4) (u:=.int .i64 (s.pos:Int)) (by omega) z2) hb2
     replace y2:=cell_on (a:=⟨w.heap.size+1,2,none⟩) (cell_setB (c:=w.heap.size) (j:=4) (u:=.int .i64 (s.pos:Int)) (by omega) y2) hb2
     replace z3:=cell_on (a:=⟨w.heap.size,3,none⟩) (cell_setO (j:=4) (u:=.int .i64 (s.pos:Int)) (by omega) z3) hb2
     replace y3:=cell_on (a:=⟨w.heap.size+1,3,none⟩) (cell_setB (c:=w.heap.size) (j:=4) (u:=.int .i64 (s.pos:Int)) (by omega) y3) hb2
     replace z4:=cell_on (a:=⟨w.heap.size,4,none⟩) (cell_set_same (v:=.int .i64 (s.pos:Int)) z4) hb2;replace y4:=cell_on (a:=⟨w.heap.size+1,4,none⟩) (cell_setB (c:=w.heap.size) (j:=4) (u:=.int .i64 (s.pos:Int)) (by omega) y4) hb2
     replace z5:=cell_on (a:=⟨w.heap.size,5,none⟩) (cell_setO (j:=4) (u:=.int .i64 (s.pos:Int)) (by omega) z5) hb2
     replace y5:=cell_on (a:=⟨w.heap.size+1,5,none⟩) (cell_setB (c:=w.heap.size) (j:=4) (u:=.int .i64 (s.pos:Int)) (by omega) y5) hb2
     replace z6:=cell_on (a:=⟨w.heap.size,6,none⟩) (cell_setO (j:=4) (u:=.int .i64 (s.pos:Int)) (by omega) z6) hb2
     replace y6:=cell_on (a:=⟨w.heap.size+1,6,none⟩) (cell_setB (c:=w.heap.size) (j:=4) (u:=.int .i64 (s.pos:Int)) (by omega) y6) hb2
     replace z7:=cell_on (a:=⟨w.heap.size,7,none⟩) (cell_setO (j:=4) (u:=.int .i64 (s.pos:Int)) (by omega) z7) hb2
     replace y7:=cell_on (a:=⟨w.heap.size+1,7,none⟩) (cell_setB (c:=w.heap.size) (j:=4) (u:=.int .i64 (s.pos:Int)) (by omega) y7) hb2
     replace z8:=cell_on (a:=⟨w.heap.size,8,none⟩) (cell_setO (j:=4) (u:=.int .i64 (s.pos:Int)) (by omega) z8) hb2
     replace y8:=cell_on (a:=⟨w.heap.size+1,8,none⟩) (cell_setB (c:=w.heap.size) (j:=4) (u:=.int .i64 (s.pos:Int)) (by omega) y8) hb2
     replace z9:=cell_on (a:=⟨w.heap.size,9,none⟩) (cell_setO (j:=4) (u:=.int .i64 (s.pos:Int)) (by omega) z9) hb2
     replace y9:=cell_on (a:=⟨w.heap.size+1,9,none⟩) (cell_setB (c:=w.heap.size) (j:=4) (u:=.int .i64 (s.pos:Int)) (by omega) y9) hb2
     replace z10:=cell_on (a:=⟨w.heap.size,10,none⟩) (cell_setO (j:=4) (u:=.int .i64 (s.pos:Int)) (by omega) z10) hb2
     replace y10:=cell_on (a:=⟨w.heap.size+1,10,none⟩) (cell_setB (c:=w.heap.size) (j:=4) (u:=.int .i64 (s.pos:Int)) (by omega) y10) hb2
     replace p5:=(hb2.frozen (p:=⟨w.heap.size,5,none⟩) (by (try simp only[size_set]at *);omega)).trans ((World.frozen?_setCell _ _ _ _).trans p5)
     replace q0:=(hb2.frozen (p:=⟨w.heap.size+1,0,none⟩) (by (try simp only[size_set]at *);omega)).trans ((World.frozen?_setCell _ _ _ _).trans q0)
     replace q1:=(hb2.frozen (p:=⟨w.heap.size+1,1,none⟩) (by (try simp only[size_set]at *);omega)).trans ((World.frozen?_setCell _ _ _ _).trans q1)
     replace q2:=(hb2.frozen (p:=⟨w.heap.size+1,2,none⟩) (by (try simp only[size_set]at *);omega)).trans ((World.frozen?_setCell _ _ _ _).trans q2)
     replace q3:=(hb2.frozen (p:=⟨w.heap.size+1,3,none⟩) (by (try simp only[size_set]at *);omega)).trans ((World.frozen?_setCell _ _ _ _).trans q3)
     replace q4:=(hb2.frozen (p:=⟨w.heap.size+1,4,none⟩) (by (try simp only[size_set]at *);omega)).trans ((World.frozen?_setCell _ _ _ _).trans q4)
     replace q5:=(hb2.frozen (p:=⟨w.heap.size+1,5,none⟩) (by (try simp only[size_set]at *);omega)).trans ((World.frozen?_setCell _ _ _ _).trans q5)
     replace q6:=(hb2.frozen (p:=⟨w.heap.size+1,6,none⟩) (by (try simp only[size_set]at *);omega)).trans ((World.frozen?_setCell _ _ _ _).trans q6)
     replace q7:=(hb2.frozen (p:=⟨w.heap.size+1,7,none⟩) (by (try simp only[size_set]at *);omega)).trans ((World.frozen?_setCell _ _ _ _).trans q7)
     replace q8:=(hb2.frozen (p:=⟨w.heap.size+1,8,none⟩) (by (try simp only[size_set]at *);omega)).trans ((World.frozen?_setCell _ _ _ _).trans q8)
     replace q9:=(hb2.frozen (p:=⟨w.heap.size+1,9,none⟩) (by (try simp only[size_set]at *);omega)).trans ((World.frozen?_setCell _ _ _ _).trans q9)
     replace q10:=(hb2.frozen (p:=⟨w.heap.size+1,10,none⟩) (by (try simp only[size_set]at *);omega)).trans ((World.frozen?_setCell _ _ _ _).trans q10)
     have B2:Hid (Below w.heap.size w W2):=bel_tr (bel_set B1.out _ _ _ (Nat.le_refl _)) hb2;have lw20:w.heap.size<W2.heap.size:=lt_of_cell z0;have lw21:w.heap.size+1<W2.heap.size:=lt_of_cell y0;have HV2:Hid (stV ({ s with far:=s.pos,exp:=fun b=>hasN sn S (b:Int) }) ka kc la lc a2 x2 c2=.agg #[.int .i64 s.at_,.int .i64 (s.pos:Int),.slice ka n kc,.slice la ln lc,.int .i64 (s.pos:Int),.slice a2 x2 c2,.int .i64 (s.steps:Int),.int .i64 (s.throws:Int),.bool s.done,.int .i64 s.code,.int .i64 s.label]):=by
      show _=_;unfold stV;rw[HN.out,HLL.out]
     clear hO hb2 hs2 hx2 p0 p1 p2 p3 p4 p6 p7 p8 p9 p10;go_wp2_with fail;have hc:=l4fail_any ({ s with far:=s.pos,exp:=fun b=>hasN sn S (b:Int) }) ka la a2 kc lc x2 c2 (W2.setCell ⟨w.heap.size,5,none⟩ (.slice a2 x2 c2)) (HK.out.later (bel_set B2.out _ _ _ (Nat.le_refl _))) HHN.out HKC.out HLC.out HLG.out
     obtain⟨t,ht⟩:∃t,({ s with far:=s.pos,exp:=fun b=>hasN sn S (b:Int) }).fail=t:=⟨_,rfl⟩
     have HE:Hid (t.exp=({ s with far:=s.pos,exp:=fun b=>hasN sn S (b:Int) }).exp):=by show _=_;rw[←ht];exact fail_exp _
     have HT2:Hid (s.test sn S il I=t):=by show _=_;rw[HT3.out,HNO.out,ht]
     rw[ht,HV2.out]at hc;clear ht;unfold stV at hc;refine hc.mono ?_;rintro e W9 ⟨rfl,hb9⟩;replace y0:=cell_on (cell_setB (c:=w.heap.size) (j:=5) (u:=.slice a2 x2 c2) (by omega) y0) hb9
     replace y1:=cell_on (cell_setB (c:=w.heap.size) (j:=5) (u:=.slice a2 x2 c2) (by omega) y1) hb9
     replace y2:=cell_on (cell_setB (c:=w.heap.size) (j:=5) (u:=.slice a2 x2 c2) (by omega) y2) hb9
     replace y3:=cell_on (cell_setB (c:=w.heap.size) (j:=5) (u:=.slice a2 x2 c2) (by omega) y3) hb9
     replace y4:=cell_on (cell_setB (c:=w.heap.size) (j:=5) (u:=.slice a2 x2 c2) (by omega) y4) hb9
     replace y5:=cell_on (cell_setB (c:=w.heap.size) (j:=5) (u:=.slice a2 x2 c2) (by omega) y5) hb9
     replace y6:=cell_on (cell_setB (c:=w.heap.size) (j:=5) (u:=.slice a2 x2 c2) (by omega) y6) hb9
     replace y7:=cell_on (cell_setB (c:=w.heap.size) (j:=5) (u:=.slice a2 x2 c2) (by omega) y7) hb9
     replace y8:=cell_on (cell_setB (c:=w.heap.size) (j:=5) (u:=.slice a2 x2 c2) (by omega) y8) hb9
     replace y9:=cell_on (cell_setB (c:=w.heap.size) (j:=5) (u:=.slice a2 x2 c2) (by omega) y9) hb9
     replace y10:=cell_on (cell_setB (c:=w.heap.size) (j:=5) (u:=.slice a2 x2 c2) (by omega) y10) hb9
     replace q0:=(hb9.frozen (p:=⟨w.heap.size+1,0,none⟩) (by rw[size_set];exact lw21)).trans ((World.frozen?_setCell _ _ _ _).trans q0)
     replace q1:=(hb9.frozen (p:=⟨w.heap.size+1,1,none⟩) (by rw[size_set];exact lw21)).trans ((World.frozen?_setCell _ _ _ _).trans q1)
     replace q2:=(hb9.frozen (p:=⟨w.heap.size+1,2,none⟩) (by rw[size_set];exact lw21)).trans ((World.frozen?_setCell _ _ _ _).trans q2)
     replace q3:=(hb9.frozen (p:=⟨w.heap.size+1,3,none⟩) (by rw[size_set];exact lw21)).trans ((World.frozen?_setCell _ _ _ _).trans q3)
     replace q4:=(hb9.frozen (p:=⟨w.heap.size+1,4,none⟩) (by rw[size_set];exact lw21)).trans ((World.frozen?_setCell _ _ _ _).trans q4)
     replace q5:=(hb9.frozen (p:=⟨w.heap.size+1,5,none⟩) (by rw[size_set];exact lw21)).trans ((World.frozen?_setCell _ _ _ _).trans q5)
     replace q6:=(hb9.frozen (p:=⟨w.heap.size+1,6,none⟩) (by rw[size_set];exact lw21)).trans ((World.frozen?_setCell _ _ _ _).trans q6)
     replace q7:=(hb9.frozen (p:=⟨w.heap.size+1,7,none⟩) (by rw[size_set];exact lw21)).trans ((World.frozen?_setCell _ _ _ _).trans q7)
     replace q8:=(hb9.frozen (p:=⟨w.heap.size+1,8,none⟩) (by rw[size_set];exact lw21)).trans ((World.frozen?_setCell _ _ _ _).trans q8)
     replace q9:=(hb9.frozen (p:=⟨w.heap.size+1,9,none⟩) (by rw[size_set];exact lw21)).trans ((World.frozen?_setCell _ _ _ _).trans q9)
     replace q10:=(hb9.frozen (p:=⟨w.heap.size+1,10,none⟩) (by rw[size_set];exact lw21)).trans ((World.frozen?_setCell _ _ _ _).trans q10)
     have HB9:Hid (Below w.heap.size w W9):=bel_tr (bel_set B2.out _ _ _ (Nat.le_refl _)) hb9;have lw9:w.heap.size+1<W9.heap.size:=lt_of_cell y0;have HX9:Hid (ExA (fun b=>W1.heap.size≤b∧b<W9.heap.size) W9 a2 x2 t.exp):=by
      rw[HE.out];have h1:=hb9.size;rw[size_set]at h1;refine ((HX2.out.on (stay_set _ ⟨w.heap.size,5,none⟩ _ (fun q=>by have:=q.1;simp at this;omega))).on (fun b hb=>hb9.block b (by rw[size_set];exact hb.2))).wide (fun b hb=>⟨hb.1,by have:=hb.2;omega⟩)
     clear hb9 hc;go_wp2;refine bodyPost_ret (v:=stV t ka kc la lc a2 x2 c2) ?_ rfl ?_
     ·unfold stV
      simp[results,Tryz.f41,go_sem, *]
     ·rw[HT2.out]
      refine⟨a2,x2,c2,rfl,(HX9.out.on ?_).wide (fun b hb=>.inr ⟨by have:=hb.1;omega,by simp only[size_set];exact hb.2⟩),?_⟩
      ·exact st_set (st_set (st_set (st_set (st_set (st_set (st_set (st_set (st_set (st_set (st_set (fun b _=>rfl) _ _ _ (fun q=>by have:=q.1;omega)) _ _ _ (fun q=>by have:=q.1;omega)) _ _ _ (fun q=>by have:=q.1;omega)) _ _ _ (fun q=>by have:=q.1;omega)) _ _ _ (fun q=>by have:=q.1;omega)) _ _ _ (fun q=>by have:=q.1;omega)) _ _ _ (fun q=>by have:=q.1;omega)) _ _ _ (fun q=>by have:=q.1;omega)) _ _ _ (fun q=>by have:=q.1;omega)) _ _ _ (fun q=>by have:=q.1;omega)) _ _ _ (fun q=>by have:=q.1;omega)
      ·exact bel_set (bel_set (bel_set (bel_set (bel_set (bel_set (bel_set (bel_set (bel_set (bel_set (bel_set (HB9.out) _ _ _ (by omega)) _ _ _ (by omega)) _ _ _ (by omega)) _ _ _ (by omega)) _ _ _ (by omega)) _ _ _ (by omega)) _ _ _ (by omega)) _ _ _ (by omega)) _ _ _ (by omega)) _ _ _ (by omega)) _ _ _ (by omega)
    ·by_cases hf2:s.pos=s.far
     ·have hf':¬(s.far:Int)<(s.pos:Int):=by omega
      have d1:decide ((s.far:Int)<(s.pos:Int))=false:=by simpa using hf'
      have d2:((s.pos:Int)==(s.far:Int))=true:=by simp[hf2]
      have HNO:Hid (s.note sn S={ s with exp:=fun b=>hasN sn S (b:Int)||s.exp b }):=by show _=_;unfold MSt.note;rw[if_neg hf,if_pos hf2]
      clear hf hf2;go_wp2_with fail;refine (l4bytes_any Q X sa xa sn xn sc xc S (lf (rg s.exp 256)) _ (HS.out.later B1.out) (HX.out.2.later B1.out) hsn (by omega)).mono ?_
      rintro e W2 ⟨a2,c2,rfl,hO⟩;obtain⟨x2,hx2⟩:∃x2,(rg (fun b=>hasN sn S (b:Int)||hasN xn (lf (rg s.exp 256)) (b:Int)) 256).length=x2:=⟨_,rfl⟩
      have hb2:=hO.bel;have hs2:=hb2.size
      have HX2:Hid (ExA (fun b=>W1.heap.size≤b∧b<W2.heap.size) W2 a2 x2 ({ s with exp:=fun b=>hasN sn S (b:Int)||s.exp b }).exp):=by
       have h:=ownL_ex (N:=({ s with exp:=fun b=>hasN sn S (b:Int)||s.exp b }).exp) hO (fun b hb=>has_ex HX.out sn S hb)
       rw[hx2]at h;exact h.wide (fun b hb=>⟨by have:=hb.1;(try simp only[size_set]at *);omega,hb.2⟩)
      rw[hx2];replace z0:=cell_on z0 hb2;replace y0:=cell_on y0 hb2;replace z1:=cell_on z1 hb2;replace y1:=cell_on y1 hb2;replace z2:=cell_on z2 hb2;replace y2:=cell_on y2 hb2;replace z3:=cell_on z3 hb2;replace y3:=cell_on y3 hb2;replace z4:=cell_on z4 hb2;replace y4:=cell_on y4 hb2;replace z5:=cell_on z5 hb2;replace y5:=cell_on y5 hb2;replace z6:=cell_on z6 hb2;replace y6:=cell_on y6 hb2;replace z7:=cell_on z7 hb2;replace y7:=cell_on y7 hb2;replace z8:=cell_on z8 hb2;replace y8:=cell_on y8 hb2;replace z9:=cell_on z9 hb2;replace y9:=cell_on y9 hb2;replace z10:=cell_on z10 hb2;replace y10:=cell_on y10 hb2;replace p5:=(hb2.frozen (p:=⟨w.heap.size,5,none⟩) (by (try simp only[size_set]at *);omega)).trans (p5)
      replace q0:=(hb2.frozen (p:=⟨w.heap.size+1,0,none⟩) (by (try simp only[size_set]at *);omega)).trans (q0)
      replace q1:=(hb2.frozen (p:=⟨w.heap.size+1,1,none⟩) (by (try simp only[size_set]at *);omega)).trans (q1)
      replace q2:=(hb2.frozen (p:=⟨w.heap.size+1,2,none⟩) (by (try simp only[size_set]at *);omega)).trans (q2)
      replace q3:=(hb2.frozen (p:=⟨w.heap.size+1,3,none⟩) (by (try simp only[size_set]at *);omega)).trans (q3)
      replace q4:=(hb2.frozen (p:=⟨w.heap.size+1,4,none⟩) (by (try simp only[size_set]at *);omega)).trans (q4)
      replace q5:=(hb2.frozen (p:=⟨w.heap.size+1,5,none⟩) (by (try simp only[size_set]at *);omega)).trans (q5)
      replace q6:=(hb2.frozen (p:=⟨w.heap.size+1,6,none⟩) (by (try simp only[size_set]at *);omega)).trans (q6)
      replace q7:=(hb2.frozen (p:=⟨w.heap.size+1,7,none⟩) (by (try simp only[size_set]at *);omega)).trans (q7)
      replace q8:=(hb2.frozen (p:=⟨w.heap.size+1,8,none⟩) (by (try simp only[size_set]at *);omega)).trans (q8)
      replace q9:=(hb2.frozen (p:=⟨w.heap.size+1,9,none⟩) (by (try simp only[size_set]at *);omega)).trans (q9)
      replace q10:=(hb2.frozen (p:=⟨w.heap.size+1,10,none⟩) (by (try simp only[size_set]at *);omega)).trans (q10)
      have B2:Hid (Below w.heap.size w W2):=bel_tr B1.out hb2;have lw20:w.heap.size<W2.heap.size:=lt_of_cell z0;have lw21:w.heap.size+1<W2.heap.size:=lt_of_cell y0;have HV2:Hid (stV ({ s with exp:=fun b=>hasN sn S (b:Int)||s.exp b }) ka kc la lc a2 x2 c2=.agg #[.int .i64 s.at_,.int .i64 (s.pos:Int),.slice ka n kc,.slice la ln lc,.int .i64 (s.far:Int),.slice a2 x2 c2,.int .i64 (s.steps:Int),.int .i64 (s.throws:Int),.bool s.done,.int .i64 s.code,.int .i64 s.label]):=by
       show _=_;unfold stV;rw[HN.out,HLL.out]
      clear hO hb2 hs2 hx2 p0 p1 p2 p3 p4 p6 p7 p8 p9 p10;go_wp2_with fail;have hc:=l4fail_any ({ s with exp:=fun b=>hasN sn S (b:Int)||s.exp b }) ka la a2 kc lc x2 c2 (W2.setCell ⟨w.heap.size,5,none⟩ (.slice a2 x2 c2)) (HK.out.later (bel_set B2.out _ _ _ (Nat.le_refl _))) HHN.out HKC.out HLC.out HLG.out
      obtain⟨t,ht⟩:∃t,({ s with exp:=fun b=>hasN sn S (b:Int)||s.exp b }).fail=t:=⟨_,rfl⟩
      have HE:Hid (t.exp=({ s with exp:=fun b=>hasN sn S (b:Int)||s.exp b }).exp):=by show _=_;rw[←ht];exact fail_exp _
      have HT2:Hid (s.test sn S il I=t):=by show _=_;rw[HT3.out,HNO.out,ht]
      rw[ht,HV2.out]at hc;clear ht;unfold stV at hc;refine hc.mono ?_;rintro e W9 ⟨rfl,hb9⟩;replace y0:=cell_on (cell_setB (c:=w.heap.size) (j:=5) (u:=.slice a2 x2 c2) (by omega) y0) hb9
      replace y1:=cell_on (cell_setB (c:=w.heap.size) (j:=5) (u:=.slice a2 x2 c2) (by omega) y1) hb9
      replace y2:=cell_on (cell_setB (c:=w.heap.size) (j:=5) (u:=.slice a2 x2 c2) (by omega) y2) hb9
      replace y3:=cell_on (cell_setB (c:=w.heap.size) (j:=5) (u:=.slice a2 x2 c2) (by omega) y3) hb9
      replace y4:=cell_on (cell_setB (c:=w.heap.size) (j:=5) (u:=.slice a2 x2 c2) (by omega) y4) hb9
      replace y5:=cell_on (cell_setB (c:=w.heap.size) (j:=5) (u:=.slice a2 x2 c2) (by omega) y5) hb9
      replace y6:=cell_on (cell_setB (c:=w.heap.size) (j:=5) (u:=.slice a2 x2 c2) (by omega) y6) hb9
      replace y7:=cell_on (cell_setB (c:=w.heap.size) (j:=5) (u:=.slice a2 x2 c2) (by omega) y7) hb9
      replace y8:=cell_on (cell_setB (c:=w.heap.size) (j:=5) (u:=.slice a2 x2 c2) (by omega) y8) hb9
      replace y9:=cell_on (cell_setB (c:=w.heap.size) (j:=5) (u:=.slice a2 x2 c2) (by omega) y9) hb9
      replace y10:=cell_on (cell_setB (c:=w.heap.size) (j:=5) (u:=.slice a2 x2 c2) (by omega) y10) hb9
      replace q0:=(hb9.frozen (p:=⟨w.heap.size+1,0,none⟩) (by rw[size_set];exact lw21)).trans ((World.frozen?_setCell _ _ _ _).trans q0)
      replace q1:=(hb9.frozen (p:=⟨w.heap.size+1,1,none⟩) (by rw[size_set];exact lw21)).trans ((World.frozen?_setCell _ _ _ _).trans q1)
      replace q2:=(hb9.frozen (p:=⟨w.heap.size+1,2,none⟩) (by rw[size_set];exact lw21)).trans ((World.frozen?_setCell _ _ _ _).trans q2)
      replace q3:=(hb9.frozen (p:=⟨w.heap.size+1,3,none⟩) (by rw[size_set];exact lw21)).trans ((World.frozen?_setCell _ _ _ _).trans q3)
      replace q4:=(hb9.frozen (p:=⟨w.heap.size+1,4,none⟩) (by rw[size_set];exact lw21)).trans ((World.frozen?_setCell _ _ _ _).trans q4)
      replace q5:=(hb9.frozen (p:=⟨w.heap.size+1,5,none⟩) (by rw[size_set];exact lw21)).trans ((World.frozen?_setCell _ _ _ _).trans q5)
      replace q6:=(hb9.frozen (p:=⟨w.heap.size+1,6,none⟩) (by rw[size_set];exact lw21)).trans ((World.frozen?_setCell _ _ _ _).trans q6)
      replace q7:=(hb9.frozen (p:=⟨w.heap.size+1,7,none⟩) (by rw[size_set];exact lw21)).trans ((World.frozen?_setCell _ _ _ _).trans q7)
      replace q8:=(hb9.frozen (p:=⟨w.heap.size+1,8,none⟩) (by rw[size_set];exact lw21)).trans ((World.frozen?_setCell _ _ _ _).trans q8)
      replace q9:=(hb9.frozen (p:=⟨w.heap.size+1,9,none⟩) (by rw[size_set];exact lw21)).trans ((World.frozen?_setCell _ _ _ _).trans q9)
      replace q10:=(hb9.frozen (p:=⟨w.heap.size+1,10,none⟩) (by rw[size_set];exact lw21)).trans ((World.frozen?_setCell _ _ _ _).trans q10)
      have HB9:Hid (Below w.heap.size w W9):=bel_tr (bel_set B2.out _ _ _ (Nat.le_refl _)) hb9;have lw9:w.heap.size+1<W9.heap.size:=lt_of_cell y0;have HX9:Hid (ExA (fun b=>W1.heap.size≤b∧b<W9.heap.size) W9 a2 x2 t.exp):=by
       rw[HE.out];have h1:=hb9.size;rw[size_set]at h1;refine ((HX2.out.on (stay_set _ ⟨w.heap.size,5,none⟩ _ (fun q=>by have:=q.1;simp at this;omega))).on (fun b hb=>hb9.block b (by rw[size_set];exact hb.2))).wide (fun b hb=>⟨hb.1,by have:=hb.2;omega⟩)
      clear hb9 hc;go_wp2;refine bodyPost_ret (v:=stV t ka kc la lc a2 x2 c2) ?_ rfl ?_
      ·unfold stV
       simp[results,Tryz.f41,go_sem, *]
      ·rw[HT2.out]
       refine⟨a2,x2,c2,rfl,(HX9.out.on ?_).wide (fun b hb=>.inr ⟨by have:=hb.1;omega,by simp only[size_set];exact hb.2⟩),?_⟩
       ·exact st_set (st_set (st_set (st_set (st_set (st_set (st_set (st_set (st_set (st_set (st_set (fun b _=>rfl) _ _ _ (fun q=>by have:=q.1;omega)) _ _ _ (fun q=>by have:=q.1;omega)) _ _ _ (fun q=>by have:=q.1;omega)) _ _ _ (fun q=>by have:=q.1;omega)) _ _ _ (fun q=>by have:=q.1;omega)) _ _ _ (fun q=>by have:=q.1;omega)) _ _ _ (fun q=>by have:=q.1;omega)) _ _ _ (fun q=>by have:=q.1;omega)) _ _ _ (fun q=>by have:=q.1;omega)) _ _ _ (fun q=>by have:=q.1;omega)) _ _ _ (fun q=>by have:=q.1;omega)
       ·exact bel_set (bel_set (bel_set (bel_set (bel_set (bel_set (bel_set (bel_set (bel_set (bel_set (bel_set (HB9.out) _ _ _ (by omega)) _ _ _ (by omega)) _ _ _ (by omega)) _ _ _ (by omega)) _ _ _ (by omega)) _ _ _ (by omega)) _ _ _ (by omega)) _ _ _ (by omega)) _ _ _ (by omega)) _ _ _ (by omega)) _ _ _ (by omega)
     ·have hf':¬(s.far:Int)<(s.pos:Int):=by omega
      have d1:decide ((s.far:Int)<(s.pos:Int))=false:=by simpa using hf'
      have d2:((s.pos:Int)==(s.far:Int))=false:=by simp;omega
      have HNO:Hid (s.note sn S=s):=by show _=_;unfold MSt.note;rw[if_neg hf,if_neg hf2]
      clear hf hf2;go_wp2_with fail;have hc:=l4fail_any s ka la xa kc lc xn xc W1 (HK.out.later B1.out) HHN.out HKC.out HLC.out HLG.out;obtain⟨t,ht⟩:∃t,s.fail=t:=⟨_,rfl⟩;have HE:Hid (t.exp=s.exp):=by show _=_;rw[←ht];exact fail_exp s
      have HT2:Hid (s.test sn S il I=t):=by show _=_;rw[HT3.out,HNO.out,ht]
      rw[ht,HV.out]at hc;clear ht;unfold stV at hc;refine hc.mono ?_;rintro e W9 ⟨rfl,hb9⟩;replace y0:=cell_on (y0) hb9;replace y1:=cell_on (y1) hb9;replace y2:=cell_on (y2) hb9;replace y3:=cell_on (y3) hb9;replace y4:=cell_on (y4) hb9;replace y5:=cell_on (y5) hb9;replace y6:=cell_on (y6) hb9;replace y7:=cell_on (y7) hb9;replace y8:=cell_on (y8) hb9;replace y9:=cell_on (y9) hb9;replace y10:=cell_on (y10) hb9;replace q0:=(hb9.frozen (p:=⟨w.heap.size+1,0,none⟩) (lw1)).trans (q0);replace q1:=(hb9.frozen (p:=⟨w.heap.size+1,1,none⟩) (lw1)).trans (q1);replace q2:=(hb9.frozen (p:=⟨w.heap.size+1,2,none⟩) (lw1)).trans (q2);replace q3:=(hb9.frozen (p:=⟨w.heap.size+1,3,none⟩) (lw1)).trans (q3);replace q4:=(hb9.frozen (p:=⟨w.heap.size+1,4,none⟩) (lw1)).trans (q4);replace q5:=(hb9.frozen (p:=⟨w.heap.size+1,5,none⟩) (lw1)).trans (q5);replace q6:=(hb9.frozen (p:=⟨w.heap.size+1,6,none⟩) (lw1)).trans (q6);replace q7:=(hb9.frozen (p:=⟨w.heap.size+1,7,none⟩) (lw1)).trans (q7);replace q8:=(hb9.frozen (p:=⟨w.heap.size+1,8,none⟩) (lw1)).trans (q8);replace q9:=(hb9.frozen (p:=⟨w.heap.size+1,9,none⟩) (lw1)).trans (q9);replace q10:=(hb9.frozen (p:=⟨w.heap.size+1,10,none⟩) (lw1)).trans (q10)
      have HB9:Hid (Below w.heap.size w W9):=bel_tr B1.out hb9;have lw9:w.heap.size+1<W9.heap.size:=lt_of_cell y0;clear hb9 hc;go_wp2;refine bodyPost_ret (v:=stV t ka kc la lc xa xn xc) ?_ rfl ?_
      ·unfold stV
       simp[results,Tryz.f41,go_sem, *]
      ·rw[HT2.out]
       refine⟨xa,xn,xc,rfl,ex_set (by rw[HE.out];exact HX.out) ?_,?_⟩
       ·exact bel_set (bel_set (bel_set (bel_set (bel_set (bel_set (bel_set (bel_set (bel_set (bel_set (bel_set (HB9.out) _ _ _ (by omega)) _ _ _ (by omega)) _ _ _ (by omega)) _ _ _ (by omega)) _ _ _ (by omega)) _ _ _ (by omega)) _ _ _ (by omega)) _ _ _ (by omega)) _ _ _ (by omega)) _ _ _ (by omega)) _ _ _ (by omega)
       ·exact bel_set (bel_set (bel_set (bel_set (bel_set (bel_set (bel_set (bel_set (bel_set (bel_set (bel_set (HB9.out) _ _ _ (by omega)) _ _ _ (by omega)) _ _ _ (by omega)) _ _ _ (by omega)) _ _ _ (by omega)) _ _ _ (by omega)) _ _ _ (by omega)) _ _ _ (by omega)) _ _ _ (by omega)) _ _ _ (by omega)) _ _ _ (by omega)
 ·have hp':¬(s.pos:Int)<(il:Int):=by omega
  have dp:decide ((s.pos:Int)<(il:Int))=false:=by simpa using hp'
  have HT:Hid (s.test sn S il I=(if s.inNot then s else s.note sn S).fail):=by show _=_;unfold MSt.test;rw[if_neg (fun q=>hp q.1)]
  go_enter Tryz.func41,Tryz.ntmps41;go_wp2_with fail;have hc1:=l4inNot_any s ka la xa kc lc xn xc ((w.alloc (.cells #[.int .i64 s.at_,.int .i64 (s.pos:Int),.slice ka n kc,.slice la ln lc,.int .i64 (s.far:Int),.slice xa xn xc,.int .i64 (s.steps:Int),.int .i64 (s.throws:Int),.bool s.done,.int .i64 s.code,.int .i64 s.label] 55)).alloc (.cells #[.int .i64 0,.int .i64 0,.slice none 0 0,.slice none 0 0,.int .i64 0,.slice none 0 0,.int .i64 0,.int .i64 0,.bool false,.int .i64 0,.int .i64 0] 55)) (HK.out.later (bel2 w _ _)) HHN.out;rw[HV.out]at hc1;refine hc1.mono ?_;rintro e W1 ⟨rfl,hb1⟩;have z0:=cell_on (a:=⟨w.heap.size,0,none⟩) (v:=.int .i64 s.at_) (cellOn _ (cN w.heap.size rfl rfl)) hb1;have z1:=cell_on (a:=⟨w.heap.size,1,none⟩) (v:=.int .i64 (s.pos:Int)) (cellOn _ (cN w.heap.size rfl rfl)) hb1;have z2:=cell_on (a:=⟨w.heap.size,2,none⟩) (v:=.slice ka n kc) (cellOn _ (cN w.heap.size rfl rfl)) hb1;have z3:=cell_on (a:=⟨w.heap.size,3,none⟩) (v:=.slice la ln lc) (cellOn _ (cN w.heap.size rfl rfl)) hb1;have z4:=cell_on (a:=⟨w.heap.size,4,none⟩) (v:=.int .i64 (s.far:Int)) (cellOn _ (cN w.heap.size rfl rfl)) hb1;have z5:=cell_on (a:=⟨w.heap.size,5,none⟩) (v:=.slice xa xn xc) (cellOn _ (cN w.heap.size rfl rfl)) hb1;have z6:=cell_on (a:=⟨w.heap.size,6,none⟩) (v:=.int .i64 (s.steps:Int)) (cellOn _ (cN w.heap.size rfl rfl)) hb1;have z7:=cell_on (a:=⟨w.heap.size,7,none⟩) (v:=.int .i64 (s.throws:Int)) (cellOn _ (cN w.heap.size rfl rfl)) hb1;have z8:=cell_on (a:=⟨w.heap.size,8,none⟩) (v:=.bool s.done) (cellOn _ (cN w.heap.size rfl rfl)) hb1;have z9:=cell_on (a:=⟨w.heap.size,9,none⟩) (v:=.int .i64 s.code) (cellOn _ (cN w.heap.size rfl rfl)) hb1;have z10:=cell_on (a:=⟨w.heap.size,10,none⟩) (v:=.int .i64 s.label) (cellOn _ (cN w.heap.size rfl rfl)) hb1;have y0:=cell_on (a:=⟨w.heap.size+1,0,none⟩) (v:=.int .i64 0) (cN (w.heap.size+1) (by simp) rfl) hb1
  have y1:=cell_on (a:=⟨w.heap.size+1,1,none⟩) (v:=.int .i64 0) (cN (w.heap.size+1) (by simp) rfl) hb1
  have y2:=cell_on (a:=⟨w.heap.size+1,2,none⟩) (v:=.slice none 0 0) (cN (w.heap.size+1) (by simp) rfl) hb1
  have y3:=cell_on (a:=⟨w.heap.size+1,3,none⟩) (v:=.slice none 0 0) (cN (w.heap.size+1) (by simp) rfl) hb1
  have y4:=cell_on (a:=⟨w.heap.size+1,4,none⟩) (v:=.int .i64 0) (cN (w.heap.size+1) (by simp) rfl) hb1
  have y5:=cell_on (a:=⟨w.heap.size+1,5,none⟩) (v:=.slice none 0 0) (cN (w.heap.size+1) (by simp) rfl) hb1
  have y6:=cell_on (a:=⟨w.heap.size+1,6,none⟩) (v:=.int .i64 0) (cN (w.heap.size+1) (by simp) rfl) hb1
  have y7:=cell_on (a:=⟨w.heap.size+1,7,none⟩) (v:=.int .i64 0) (cN (w.heap.size+1) (by simp) rfl) hb1
  have y8:=cell_on (a:=⟨w.heap.size+1,8,none⟩) (v:=.bool false) (cN (w.heap.size+1) (by simp) rfl) hb1
  have y9:=cell_on (a:=⟨w.heap.size+1,9,none⟩) (v:=.int .i64 0) (cN (w.heap.size+1) (by simp) rfl) hb1
  have y10:=cell_on (a:=⟨w.heap.size+1,10,none⟩) (v:=.int .i64 0) (cN (w.heap.size+1) (by simp) rfl) hb1
  have fz:∀b o,w.heap.size≤b→b<w.heap.size+2→W1.frozen? ⟨b,o,none⟩=false:=fun b o h1 h2=>by
   rw[hb1.frozen (p:=⟨b,o,none⟩) (by simp;omega)]
   exact ((soft1 w _ 55).trans (soft1 _ _ 55) (bel1 _ _)) b o h1 (by simp;omega)
  have p0:=fz w.heap.size 0 (by omega) (by omega)
  have p1:=fz w.heap.size 1 (by omega) (by omega)
  have p2:=fz w.heap.size 2 (by omega) (by omega)
  have p3:=fz w.heap.size 3 (by omega) (by omega)
  have p4:=fz w.heap.size 4 (by omega) (by omega)
  have p5:=fz w.heap.size 5 (by omega) (by omega)
  have p6:=fz w.heap.size 6 (by omega) (by omega)
  have p7:=fz w.heap.size 7 (by omega) (by omega)
  have p8:=fz w.heap.size 8 (by omega) (by omega)
  have p9:=fz w.heap.size 9 (by omega) (by omega)
  have p10:=fz w.heap.size 10 (by omega) (by omega)
  have q0:=fz (w.heap.size+1) 0 (by omega) (by omega)
  have q1:=fz (w.heap.size+1) 1 (by omega) (by omega)
  have q2:=fz (w.heap.size+1) 2 (by omega) (by omega)
  have q3:=fz (w.heap.size+1) 3 (by omega) (by omega)
  have q4:=fz (w.heap.size+1) 4 (by omega) (by omega)
  have q5:=fz (w.heap.size+1) 5 (by omega) (by omega)
  have q6:=fz (w.heap.size+1) 6 (by omega) (by omega)
  have q7:=fz (w.heap.size+1) 7 (by omega) (by omega)
  have q8:=fz (w.heap.size+1) 8 (by omega) (by omega)
  have q9:=fz (w.heap.size+1) 9 (by omega) (by omega)
  have q10:=fz (w.heap.size+1) 10 (by omega) (by omega)
  have B1:Hid (Below w.heap.size w W1):=bel_tr (bel2 w _ _) hb1;have lw0:w.heap.size<W1.heap.size:=lt_of_cell z0;have lw1:w.heap.size+1<W1.heap.size:=lt_of_cell y0;clear hb1 hc1 fz;cases hin:s.inNot with
  |true =>
   have HT3:Hid (s.test sn S il I=s.fail):=by show _=_;rw[HT.out,hin];rfl
   clear hin;go_wp2_with fail;have hc:=l4fail_any s ka la xa kc lc xn xc W1 (HK.out.later B1.out) HHN.out HKC.out HLC.out HLG.out;obtain⟨t,ht⟩:∃t,s.fail=t:=⟨_,rfl⟩;have HE:Hid (t.exp=s.exp):=by show _=_;rw[←ht];exact fail_exp s
   have HT2:Hid (s.test sn S il I=t):=by show _=_;rw[HT3.out,ht]
   rw[ht,HV.out]at hc;clear ht;unfold stV at hc;refine hc.mono ?_;rintro e W9 ⟨rfl,hb9⟩;replace y0:=cell_on (y0) hb9;replace y1:=cell_on (y1) hb9;replace y2:=cell_on (y2) hb9;replace y3:=cell_on (y3) hb9;replace y4:=cell_on (y4) hb9;replace y5:=cell_on (y5) hb9;replace y6:=cell_on (y6) hb9;replace y7:=cell_on (y7) hb9;replace y8:=cell_on (y8) hb9;replace y9:=cell_on (y9) hb9;replace y10:=cell_on (y10) hb9;replace q0:=(hb9.frozen (p:=⟨w.heap.size+1,0,none⟩) (lw1)).trans (q0);replace q1:=(hb9.frozen (p:=⟨w.heap.size+1,1,none⟩) (lw1)).trans (q1);replace q2:=(hb9.frozen (p:=⟨w.heap.size+1,2,none⟩) (lw1)).trans (q2);replace q3:=(hb9.frozen (p:=⟨w.heap.size+1,3,none⟩) (lw1)).trans (q3);replace q4:=(hb9.frozen (p:=⟨w.heap.size+1,4,none⟩) (lw1)).trans (q4);replace q5:=(hb9.frozen (p:=⟨w.heap.size+1,5,none⟩) (lw1)).trans (q5);replace q6:=(hb9.frozen (p:=⟨w.heap.size+1,6,none⟩) (lw1)).trans (q6);replace q7:=(hb9.frozen (p:=⟨w.heap.size+1,7,none⟩) (lw1)).trans (q7);replace q8:=(hb9.frozen (p:=⟨w.heap.size+1,8,none⟩) (lw1)).trans (q8);replace q9:=(hb9.frozen (p:=⟨w.heap.size+1,9,none⟩) (lw1)).trans (q9);replace q10:=(hb9.frozen (p:=⟨w.heap.size+1,10,none⟩) (lw1)).trans (q10)
   have HB9:Hid (Below w.heap.size w W9):=bel_tr B1.out hb9;have lw9:w.heap.size+1<W9.heap.size:=lt_of_cell y0;clear hb9 hc;go_wp2;refine bodyPost_ret (v:=stV t ka kc la lc xa xn xc) ?_ rfl ?_
   ·unfold stV
    simp[results,Tryz.f41,go_sem, *]
   ·rw[HT2.out]
    refine⟨xa,xn,xc,rfl,ex_set (by rw[HE.out];exact HX.out) ?_,?_⟩
    ·exact bel_set (bel_set (bel_set (bel_set (bel_set (bel_set (bel_set (bel_set (bel_set (bel_set (bel_set (HB9.out) _ _ _ (by omega)) _ _ _ (by omega)) _ _ _ (by omega)) _ _ _ (by omega)) _ _ _ (by omega)) _ _ _ (by omega)) _ _ _ (by omega)) _ _ _ (by omega)) _ _ _ (by omega)) _ _ _ (by omega)) _ _ _ (by omega)
    ·exact bel_set (bel_set (bel_set (bel_set (bel_set (bel_set (bel_set (bel_set (bel_set (bel_set (bel_set (HB9.out) _ _ _ (by omega)) _ _ _ (by omega)) _ _ _ (by omega)) _ _ _ (by omega)) _ _ _ (by omega)) _ _ _ (by omega)) _ _ _ (by omega)) _ _ _ (by omega)) _ _ _ (by omega)) _ _ _ (by omega)) _ _ _ (by omega)
  |false =>
   have HT3:Hid (s.test sn S il I=(s.note sn S).fail):=by show _=_;rw[HT.out,hin];rfl
   clear hin;by_cases hf:s.far<s.pos
   ·have hf':(s.far:Int)<(s.pos:Int):=by omega
    have HNO:Hid (s.note sn S={ s with far:=s.pos,exp:=fun b=>hasN sn S (b:Int) }):=by show _=_;unfold MSt.note;rw[if_pos hf]
    clear hf;go_wp2_with fail;refine (l4bytes_any Q (fun _=>False) sa none sn 0 sc 0 S (fun _=>0) _ (HS.out.later (bel_set B1.out _ _ _ (Nat.le_refl _))) (.inl rfl) hsn (by omega)).mono ?_
    rintro e W2 ⟨a2,c2,rfl,hO⟩;obtain⟨x2,hx2⟩:∃x2,(rg (fun b=>hasN sn S (b:Int)||hasN 0 (fun _=>0) (b:Int)) 256).length=x2:=⟨_,rfl⟩
    have hb2:=hO.bel;have hs2:=hb2.size;rw[size_set]at hs2;have HX2:Hid (ExA (fun b=>W1.heap.size≤b∧b<W2.heap.size) W2 a2 x2 ({ s with far:=s.pos,exp:=fun b=>hasN sn S (b:Int) }).exp):=by
     have h:=ownL_ex (N:=({ s with far:=s.pos,exp:=fun b=>hasN sn S (b:Int) }).exp) hO (fun b _=>by simp[hasN,hasP])
     rw[hx2]at h;exact h.wide (fun b hb=>⟨by have:=hb.1;(try simp only[size_set]at *);omega,hb.2⟩)
    rw[hx2];replace z0:=cell_on (a:=⟨w.heap.size,0,none⟩) (cell_setO (j:=4) (u:=.int .i64 (s.pos:Int)) (by omega) z0) hb2
    replace y0:=cell_on (a:=⟨w.heap.size+1,0,none⟩) (cell_setB (c:=w.heap.size) (j:=4) (u:=.int .i64 (s.pos:Int)) (by omega) y0) hb2
    replace z1:=cell_on (a:=⟨w.heap.size,1,none⟩) (cell_setO (j:=4) (u:=.int .i64 (s.pos:Int)) (by omega) z1) hb2
    replace y1:=cell_on (a:=⟨w.heap.size+1,1,none⟩) (cell_setB (c:=w.heap.size) (j:=4) (u:=.int .i64 (s.pos:Int)) (by omega) y1) hb2
    replace z2:=cell_on (a:=⟨w.heap.size,2,none⟩) (cell_setO (j:=4) (u:=.int .i64 (s.pos:Int)) (by omega) z2) hb2
    replace y2:=cell_on (a:=⟨w.heap.size+1,2,none⟩) (cell_setB (c:=w.heap.size) (j:=4) (u:=.int .i64 (s.pos:Int)) (by omega) y2) hb2
    replace z3:=cell_on (a:=⟨w.heap.size,3,none⟩) (cell_setO (j:=4) (u:=.int .i64 (s.pos:Int)) (by omega) z3) hb2
    replace y3:=cell_on (a:=⟨w.heap.size+1,3,none⟩) (cell_setB (c:=w.heap.size) (j:=4) (u:=.int .i64 (s.pos:Int)) (by omega) y3) hb2
    replace z4:=cell_on (a:=⟨w.heap.size,4,none⟩) (cell_set_same (v:=.int .i64 (s.pos:Int)) z4) hb2;replace y4:=cell_on (a:=⟨w.heap.size+1,4,none⟩) (cell_setB (c:=w.heap.size) (j:=4) (u:=.int .i64 (s.pos:Int)) (by omega) y4) hb2
    replace z5:=cell_on (a:=⟨w.heap.size,5,none⟩) (cell_setO (j:=4) (u:=.int .i64 (s.pos:Int)) (by omega) z5) hb2
    replace y5:=cell_on (a:=⟨w.heap.size+1,5,none⟩) (cell_setB (c:=w.heap.size) (j:=4) (u:=.int .i64 (s.pos:Int)) (by omega) y5) hb2
    replace z6:=cell_on (a:=⟨w.heap.size,6,none⟩) (cell_setO (j:=4) (u:=.int .i64 (s.pos:Int)) (by omega) z6) hb2
    replace y6:=cell_on (a:=⟨w.heap.size+1,6,none⟩) (cell_setB (c:=w.heap.size) (j:=4) (u:=.int .i64 (s.pos:Int)) (by omega) y6) hb2
    replace z7:=cell_on (a:=⟨w.heap.size,7,none⟩) (cell_setO (j:=4) (u:=.int .i64 (s.pos:Int)) (by omega) z7) hb2
    replace y7:=cell_on (a:=⟨w.heap.size+1,7,none⟩) (cell_setB (c:=w.heap.size) (j:=4) (u:=.int .i64 (s.pos:Int)) (by omega) y7) hb2
    replace z8:=cell_on (a:=⟨w.heap.size,8,none⟩) (cell_setO (j:=4) (u:=.int .i64 (s.pos:Int)) (by omega) z8) hb2
    replace y8:=cell_on (a:=⟨w.heap.size+1,8,none⟩) (cell_setB (c:=w.heap.size) (j:=4) (u:=.int .i64 (s.pos:Int)) (by omega) y8) hb2
    replace z9:=cell_on (a:=⟨w.heap.size,9,none⟩) (cell_setO (j:=4) (u:=.int .i64 (s.pos:Int)) (by omega) z9) hb2
    replace y9:=cell_on (a:=⟨w.heap.size+1,9,none⟩) (cell_setB (c:=w.heap.size) (j:=4) (u:=.int .i64 (s.pos:Int)) (by omega) y9) hb2
    replace z10:=cell_on (a:=⟨w.heap.size,10,none⟩) (cell_setO (j:=4) (u:=.int .i64 (s.pos:Int)) (by omega) z10) hb2
    replace y10:=cell_on (a:=⟨w.heap.size+1,10,none⟩) (cell_setB (c:=w.heap.size) (j:=4) (u:=.int .i64 (s.pos:Int)) (by omega) y10) hb2
    replace p5:=(hb2.frozen (p:=⟨w.heap.size,5,none⟩) (by (try simp only[size_set]at *);omega)).trans ((World.frozen?_setCell _ _ _ _).trans p5)
    replace q0:=(hb2.frozen (p:=⟨w.heap.size+1,0,none⟩) (by (try simp only[size_set]at *);omega)).trans ((World.frozen?_setCell _ _ _ _).trans q0)
    replace q1:=(hb2.frozen (p:=⟨w.heap.size+1,1,none⟩) (by (try simp only[size_set]at *);omega)).trans ((World.frozen?_setCell _ _ _ _).trans q1)
    replace q2:=(hb2.frozen (p:=⟨w.heap.size+1,2,none⟩) (by (try simp only[size_set]at *);omega)).trans ((World.frozen?_setCell _ _ _ _).trans q2)
    replace q3:=(hb2.frozen (p:=⟨w.heap.size+1,3,none⟩) (by (try simp only[size_set]at *);omega)).trans ((World.frozen?_setCell _ _ _ _).trans q3)
    replace q4:=(hb2.frozen (p:=⟨w.heap.size+1,4,none⟩) (by (try simp only[size_set]at *);omega)).trans ((World.frozen?_setCell _ _ _ _).trans q4)
    replace q5:=(hb2.frozen (p:=⟨w.heap.size+1,5,none⟩) (by (try simp only[size_set]at *);omega)).trans ((World.frozen?_setCell _ _ _ _).trans q5)
    replace q6:=(hb2.frozen (p:=⟨w.heap.size+1,6,none⟩) (by (try simp only[size_set]at *);omega)).trans ((World.frozen?_setCell _ _ _ _).trans q6)
    replace q7:=(hb2.frozen (p:=⟨w.heap.size+1,7,none⟩) (by (try simp only[size_set]at *);omega)).trans ((World.frozen?_setCell _ _ _ _).trans q7)
    replace q8:=(hb2.frozen (p:=⟨w.heap.size+1,8,none⟩) (by (try simp only[size_set]at *);omega)).trans ((World.frozen?_setCell _ _ _ _).trans q8)
    replace q9:=(hb2.frozen (p:=⟨w.heap.size+1,9,none⟩) (by (try simp only[size_set]at *);omega)).trans ((World.frozen?_setCell _ _ _ _).trans q9)
    replace q10:=(hb2.frozen (p:=⟨w.heap.size+1,10,none⟩) (by (try simp only[size_set]at *);omega)).trans ((World.frozen?_setCell _ _ _ _).trans q10)
    have B2:Hid (Below w.heap.size w W2):=bel_tr (bel_set B1.out _ _ _ (Nat.le_refl _)) hb2;have lw20:w.heap.size<W2.heap.size:=lt_of_cell z0;have lw21:w.heap.size+1<W2.heap.size:=lt_of_cell y0;have HV2:Hid (stV ({ s with far:=s.pos,exp:=fun b=>hasN sn S (b:Int) }) ka kc la lc a2 x2 c2=.agg #[.int .i64 s.at_,.int .i64 (s.pos:Int),.slice ka n kc,.slice la ln lc,.int .i64 (s.pos:Int),.slice a2 x2 c2,.int .i64 (s.steps:Int),.int .i64 (s.throws:Int),.bool s.done,.int .i64 s.code,.int .i64 s.label]):=by
     show _=_;unfold stV;rw[HN.out,HLL.out]
    clear hO hb2 hs2 hx2 p0 p1 p2 p3 p4 p6 p7 p8 p9 p10;go_wp2_with fail;have hc:=l4fail_any ({ s with far:=s.pos,exp:=fun b=>hasN sn S (b:Int) }) ka la a2 kc lc x2 c2 (W2.setCell ⟨w.heap.size,5,none⟩ (.slice a2 x2 c2)) (HK.out.later (bel_set B2.out _ _ _ (Nat.le_refl _))) HHN.out HKC.out HLC.out HLG.out
    obtain⟨t,ht⟩:∃t,({ s with far:=s.pos,exp:=fun b=>hasN sn S (b:Int) }).fail=t:=⟨_,rfl⟩
    have HE:Hid (t.exp=({ s with far:=s.pos,exp:=fun b=>hasN sn S (b:Int) }).exp):=by show _=_;rw[←ht];exact fail_exp _
    have HT2:Hid (s.test sn S il I=t):=by show _=_;rw[HT3.out,HNO.out,ht]
    rw[ht,HV2.out]at hc;clear ht;unfold stV at hc;refine hc.mono ?_;rintro e W9 ⟨rfl,hb9⟩;replace y0:=cell_on (cell_setB (c:=w.heap.size) (j:=5) (u:=.slice a2 x2 c2) (by omega) y0) hb9
    replace y1:=cell_on (cell_setB (c:=w.heap.size) (j:=5) (u:=.slice a2 x2 c2) (by omega) y1) hb9
    replace y2:=cell_on (cell_setB (c:=w.heap.size) (j:=5) (u:=.slice a2 x2 c2) (by omega) y2) hb9
    replace y3:=cell_on (cell_setB (c:=w.heap.size) (j:=5) (u:=.slice a2 x2 c2) (by omega) y3) hb9
    replace y4:=cell_on (cell_setB (c:=w.heap.size) (j:=5) (u:=.slice a2 x2 c2) (by omega) y4) hb9
    replace y5:=cell_on (cell_setB (c:=w.heap.size) (j:=5) (u:=.slice a2 x2 c2) (by omega) y5) hb9
    replace y6:=cell_on (cell_setB (c:=w.heap.size) (j:=5) (u:=.slice a2 x2 c2) (by omega) y6) hb9
    replace y7:=cell_on (cell_setB (c:=w.heap.size) (j:=5) (u:=.slice a2 x2 c2) (by omega) y7) hb9
    replace y8:=cell_on (cell_setB (c:=w.heap.size) (j:=5) (u:=.slice a2 x2 c2) (by omega) y8) hb9
    replace y9:=cell_on (cell_setB (c:=w.heap.size) (j:=5) (u:=.slice a2 x2 c2) (by omega) y9) hb9
    replace y10:=cell_on (cell_setB (c:=w.heap.size) (j:=5) (u:=.slice a2 x2 c2) (by omega) y10) hb9
    replace q0:=(hb9.frozen (p:=⟨w.heap.size+1,0,none⟩) (by rw[size_set];exact lw21)).trans ((World.frozen?_setCell _ _ _ _).trans q0)
    replace q1:=(hb9.frozen (p:=⟨w.heap.size+1,1,none⟩) (by rw[size_set];exact lw21)).trans ((World.frozen?_setCell _ _ _ _).trans q1)
    replace q2:=(hb9.frozen (p:=⟨w.heap.size+1,2,none⟩) (by rw[size_set];exact lw21)).trans ((World.frozen?_setCell _ _ _ _).trans q2)
    replace q3:=(hb9.frozen (p:=⟨w.heap.size+1,3,none⟩) (by rw[size_set];exact lw21)).trans ((World.frozen?_setCell _ _ _ _).trans q3)
    replace q4:=(hb9.frozen (p:=⟨w.heap.size+1,4,none⟩) (by rw[size_set];exact lw21)).trans ((World.frozen?_setCell _ _ _ _).trans q4)
    replace q5:=(hb9.frozen (p:=⟨w.heap.size+1,5,none⟩) (by rw[size_set];exact lw21)).trans ((World.frozen?_setCell _ _ _ _).trans q5)
    replace q6:=(hb9.frozen (p:=⟨w.heap.size+1,6,none⟩) (by rw[size_set];exact lw21)).trans ((World.frozen?_setCell _ _ _ _).trans q6)
    replace q7:=(hb9.frozen (p:=⟨w.heap.size+1,7,none⟩) (by rw[size_set];exact lw21)).trans ((World.frozen?_setCell _ _ _ _).trans q7)
    replace q8:=(hb9.frozen (p:=⟨w.heap.size+1,8,none⟩) (by rw[size_set];exact lw21)).trans ((World.frozen?_setCell _ _ _ _).trans q8)
    replace q9:=(hb9.frozen (p:=⟨w.heap.size+1,9,none⟩) (by rw[size_set];exact lw21)).trans ((World.frozen?_setCell _ _ _ _).trans q9)
    replace q10:=(hb9.frozen (p:=⟨w.heap.size+1,10,none⟩) (by rw[size_set];exact lw21)).trans ((World.frozen?_setCell _ _ _ _).trans q10)
    have HB9:Hid (Below w.heap.size w W9):=bel_tr (bel_set B2.out _ _ _ (Nat.le_refl _)) hb9;have lw9:w.heap.size+1<W9.heap.size:=lt_of_cell y0;have HX9:Hid (ExA (fun b=>W1.heap.size≤b∧b<W9.heap.size) W9 a2 x2 t.exp):=by
     rw[HE.out];have h1:=hb9.size;rw[size_set]at h1;refine ((HX2.out.on (stay_set _ ⟨w.heap.size,5,none⟩ _ (fun q=>by have:=q.1;simp at this;omega))).on (fun b hb=>hb9.block b (by rw[size_set];exact hb.2))).wide (fun b hb=>⟨hb.1,by have:=hb.2;omega⟩)
    clear hb9 hc;go_wp2;refine bodyPost_ret (v:=stV t ka kc la lc a2 x2 c2) ?_ rfl ?_
    ·unfold stV
     simp[results,Tryz.f41,go_sem, *]
    ·rw[HT2.out]
     refine⟨a2,x2,c2,rfl,(HX9.out.on ?_).wide (fun b hb=>.inr ⟨by have:=hb.1;omega,by simp only[size_set];exact hb.2⟩),?_⟩
     ·exact st_set (st_set (st_set (st_set (st_set (st_set (st_set (st_set (st_set (st_set (st_set (fun b _=>rfl) _ _ _ (fun q=>by have:=q.1;omega)) _ _ _ (fun q=>by have:=q.1;omega)) _ _ _ (fun q=>by have:=q.1;omega)) _ _ _ (fun q=>by have:=q.1;omega)) _ _ _ (fun q=>by have:=q.1;omega)) _ _ _ (fun q=>by have:=q.1;omega)) _ _ _ (fun q=>by have:=q.1;omega)) _ _ _ (fun q=>by have:=q.1;omega)) _ _ _ (fun q=>by have:=q.1;omega)) _ _ _ (fun q=>by have:=q.1;omega)) _ _ _ (fun q=>by have:=q.1;omega)
     ·exact bel_set (bel_set (bel_set (bel_set (bel_set (bel_set (bel_set (bel_set (bel_set (bel_set (bel_set (HB9.out) _ _ _ (by omega)) _ _ _ (by omega)) _ _ _ (by omega)) _ _ _ (by omega)) _ _ _ (by omega)) _ _ _ (by omega)) _ _ _ (by omega)) _ _ _ (by omega)) _ _ _ (by omega)) _ _ _ (by omega)) _ _ _ (by omega)
   ·by_cases hf2:s.pos=s.far
    ·have hf':¬(s.far:Int)<(s.pos:Int):=by omega
     have d1:decide ((s.far:Int)<(s.pos:Int))=false:=by simpa using hf'
     have d2:((s.pos:Int)==(s.far:Int))=true:=by simp[hf2]
     have HNO:Hid (s.note sn S={ s with exp:=fun b=>hasN sn S (b:Int)||s.exp b }):=by show _=_;unfold MSt.note;rw[if_neg hf,if_pos hf2]
     clear hf hf2;go_wp2_with fail;refine (l4bytes_any Q X sa xa sn xn sc xc S (lf (rg s.exp 256)) _ (HS.out.later B1.out) (HX.out.2.later B1.out) hsn (by omega)).mono ?_
     rintro e W2 ⟨a2,c2,rfl,hO⟩;obtain⟨x2,hx2⟩:∃x2,(rg (fun b=>hasN sn S (b:Int)||hasN xn (lf (rg s.exp 256)) (b:Int)) 256).length=x2:=⟨_,rfl⟩
     have hb2:=hO.bel;have hs2:=hb2.size
     have HX2:Hid (ExA (fun b=>W1.heap.size≤b∧b<W2.heap.size) W2 a2 x2 ({ s with exp:=fun b=>hasN sn S (b:Int)||s.exp b }).exp):=by
      have h:=ownL_ex (N:=({ s with exp:=fun b=>hasN sn S (b:Int)||s.exp b }).exp) hO (fun b hb=>has_ex HX.out sn S hb)
      rw[hx2]at h;exact h.wide (fun b hb=>⟨by have:=hb.1;(try simp only[size_set]at *);omega,hb.2⟩)
     rw[hx2];replace z0:=cell_on z0 hb2;replace y0:=cell_on y0 hb2;replace z1:=cell_on z1 hb2;replace y1:=cell_on y1 hb2;replace z2:=cell_on z2 hb2;replace y2:=cell_on y2 hb2;replace z3:=cell_on z3 hb2;replace y3:=cell_on y3 hb2;replace z4:=cell_on z4 hb2;replace y4:=cell_on y4 hb2;replace z5:=cell_on z5 hb2;replace y5:=cell_on y5 hb2;replace z6:=cell_on z6 hb2;replace y6:=cell_on y6 hb2;replace z7:=cell_on z7 hb2;replace y7:=cell_on y7 hb2;replace z8:=cell_on z8 hb2;replace y8:=cell_on y8 hb2;replace z9:=cell_on z9 hb2;replace y9:=cell_on y9 hb2;replace z10:=cell_on z10 hb2;replace y10:=cell_on y10 hb2;replace p5:=(hb2.frozen (p:=⟨w.heap.size,5,none⟩) (by (try simp only[size_set]at *);omega)).trans (p5)
     replace q0:=(hb2.frozen (p:=⟨w.heap.size+1,0,none⟩) (by (try simp only[size_set]at *);omega)).trans (q0)
     replace q1:=(hb2.frozen (p:=⟨w.heap.size+1,1,none⟩) (by (try simp only[size_set]at *);omega)).trans (q1)
     replace q2:=(hb2.frozen (p:=⟨w.heap.size+1,2,none⟩) (by (try simp only[size_set]at *);omega)).trans (q2)
     replace q3:=(hb2.frozen (p:=⟨w.heap.size+1,3,none⟩) (by (try simp only[size_set]at *);omega)).trans (q3)
     replace q4:=(hb2.frozen (p:=⟨w.heap.size+1,4,none⟩) (by (try simp only[size_set]at *);omega)).trans (q4)
     replace q5:=(hb2.frozen (p:=⟨w.heap.size+1,5,none⟩) (by (try simp only[size_set]at *);omega)).trans (q5)
     replace q6:=(hb2.frozen (p:=⟨w.heap.size+1,6,none⟩) (by (try simp only[size_set]at *);omega)).trans (q6)
     replace q7:=(hb2.frozen (p:=⟨w.heap.size+1,7,none⟩) (by (try simp only[size_set]at *);omega)).trans (q7)
     replace q8:=(hb2.frozen (p:=⟨w.heap.size+1,8,none⟩) (by (try simp only[size_set]at *);omega)).trans (q8)
     replace q9:=(hb2.frozen (p:=⟨w.heap.size+1,9,none⟩) (by (try simp only[size_set]at *);omega)).trans (q9)
     replace q10:=(hb2.frozen (p:=⟨w.heap.size+1,10,none⟩) (by (try simp only[size_set]at *);omega)).trans (q10)
     have B2:Hid (Below w.heap.size w W2):=bel_tr B1.out hb2;have lw20:w.heap.size<W2.heap.size:=lt_of_cell z0;have lw21:w.heap.size+1<W2.heap.size:=lt_of_cell y0;have HV2:Hid (stV ({ s with exp:=fun b=>hasN sn S (b:Int)||s.exp b }) ka kc la lc a2 x2 c2=.agg #[.int .i64 s.at_,.int .i64 (s.pos:Int),.slice ka n kc,.slice la ln lc,.int .i64 (s.far:Int),.slice a2 x2 c2,.int .i64 (s.steps:Int),.int .i64 (s.throws:Int),.bool s.done,.int .i64 s.code,.int .i64 s.label]):=by
      show _=_;unfold stV;rw[HN.out,HLL.out]
     clear hO hb2 hs2 hx2 p0 p1 p2 p3 p4 p6 p7 p8 p9 p10;go_wp2_with fail;have hc:=l4fail_any ({ s with exp:=fun b=>hasN sn S (b:Int)||s.exp b }) ka la a2 kc lc x2 c2 (W2.setCell ⟨w.heap.size,5,none⟩ (.slice a2 x2 c2)) (HK.out.later (bel_set B2.out _ _ _ (Nat.le_refl _))) HHN.out HKC.out HLC.out HLG.out
     obtain⟨t,ht⟩:∃t,({ s with exp:=fun b=>hasN sn S (b:Int)||s.exp b }).fail=t:=⟨_,rfl⟩
     have HE:Hid (t.exp=({ s with exp:=fun b=>hasN sn S (b:Int)||s.exp b }).exp):=by show _=_;rw[←ht];exact fail_exp _
     have HT2:Hid (s.test sn S il I=t):=by show _=_;rw[HT3.out,HNO.out,ht]
     rw[ht,HV2.out]at hc;clear ht;unfold stV at hc;refine hc.mono ?_;rintro e W9 ⟨rfl,hb9⟩;replace y0:=cell_on (cell_setB (c:=w.heap.size) (j:=5) (u:=.slice a2 x2 c2) (by omega) y0) hb9
     replace y1:=cell_on (cell_setB (c:=w.heap.size) (j:=5) (u:=.slice a2 x2 c2) (by omega) y1) hb9
     replace y2:=cell_on (cell_setB (c:=w.heap.size) (j:=5) (u:=.slice a2 x2 c2) (by omega) y2) hb9
     replace y3:=cell_on (cell_setB (c:=w.heap.size) (j:=5) (u:=.slice a2 x2 c2) (by omega) y3) hb9
     replace y4:=cell_on (cell_setB (c:=w.heap.size) (j:=5) (u:=.slice a2 x2 c2) (by omega) y4) hb9
     replace y5:=cell_on (cell_setB (c:=w.heap.size) (j:=5) (u:=.slice a2 x2 c2) (by omega) y5) hb9
     replace y6:=cell_on (cell_setB (c:=w.heap.size) (j:=5) (u:=.slice a2 x2 c2) (by omega) y6) hb9
     replace y7:=cell_on (cell_setB (c:=w.heap.size) (j:=5) (u:=.slice a2 x2 c2) (by omega) y7) hb9
     replace y8:=cell_on (cell_setB (c:=w.heap.size) (j:=5) (u:=.slice a2 x2 c2) (by omega) y8) hb9
     replace y9:=cell_on (cell_setB (c:=w.heap.size) (j:=5) (u:=.slice a2 x2 c2) (by omega) y9) hb9
     replace y10:=cell_on (cell_setB (c:=w.heap.size) (j:=5) (u:=.slice a2 x2 c2) (by omega) y10) hb9
     replace q0:=(hb9.frozen (p:=⟨w.heap.size+1,0,none⟩) (by rw[size_set];exact lw21)).trans ((World.frozen?_setCell _ _ _ _).trans q0)
     replace q1:=(hb9.frozen (p:=⟨w.heap.size+1,1,none⟩) (by rw[size_set];exact lw21)).trans ((World.frozen?_setCell _ _ _ _).trans q1)
     replace q2:=(hb9.frozen (p:=⟨w.heap.size+1,2,none⟩) (by rw[size_set];exact lw21)).trans ((World.frozen?_setCell _ _ _ _).trans q2)
     replace q3:=(hb9.frozen (p:=⟨w.heap.size+1,3,none⟩) (by rw[size_set];exact lw21)).trans ((World.frozen?_setCell _ _ _ _).trans q3)
     replace q4:=(hb9.frozen (p:=⟨w.heap.size+1,4,none⟩) (by rw[size_set];exact lw21)).trans ((World.frozen?_setCell _ _ _ _).trans q4)
     replace q5:=(hb9.frozen (p:=⟨w.heap.size+1,5,none⟩) (by rw[size_set];exact lw21)).trans ((World.frozen?_setCell _ _ _ _).trans q5)
     replace q6:=(hb9.frozen (p:=⟨w.heap.size+1,6,none⟩) (by rw[size_set];exact lw21)).trans ((World.frozen?_setCell _ _ _ _).trans q6)
     replace q7:=(hb9.frozen (p:=⟨w.heap.size+1,7,none⟩) (by rw[size_set];exact lw21)).trans ((World.frozen?_setCell _ _ _ _).trans q7)
     replace q8:=(hb9.frozen (p:=⟨w.heap.size+1,8,none⟩) (by rw[size_set];exact lw21)).trans ((World.frozen?_setCell _ _ _ _).trans q8)
     replace q9:=(hb9.frozen (p:=⟨w.heap.size+1,9,none⟩) (by rw[size_set];exact lw21)).trans ((World.frozen?_setCell _ _ _ _).trans q9)
     replace q10:=(hb9.frozen (p:=⟨w.heap.size+1,10,none⟩) (by rw[size_set];exact lw21)).trans ((World.frozen?_setCell _ _ _ _).trans q10)
     have HB9:Hid (Below w.heap.size w W9):=bel_tr (bel_set B2.out _ _ _ (Nat.le_refl _)) hb9;have lw9:w.heap.size+1<W9.heap.size:=lt_of_cell y0;have HX9:Hid (ExA (fun b=>W1.heap.size≤b∧b<W9.heap.size) W9 a2 x2 t.exp):=by
      rw[HE.out];have h1:=hb9.size;rw[size_set]at h1;refine ((HX2.out.on (stay_set _ ⟨w.heap.size,5,none⟩ _ (fun q=>by have:=q.1;simp at this;omega))).on (fun b hb=>hb9.block b (by rw[size_set];exact hb.2))).wide (fun b hb=>⟨hb.1,by have:=hb.2;omega⟩)
     clear hb9 hc;go_wp2;refine bodyPost_ret (v:=stV t ka kc la lc a2 x2 c2) ?_ rfl ?_
     ·unfold stV
      simp[results,Tryz.f41,go_sem, *]
     ·rw[HT2.out]
      refine⟨a2,x2,c2,rfl,(HX9.out.on ?_).wide (fun b hb=>.inr ⟨by have:=hb.1;omega,by simp only[size_set];exact hb.2⟩),?_⟩
      ·exact st_set (st_set (st_set (st_set (st_set (st_set (st_set (st_set (st_set (st_set (st_set (fun b _=>rfl) _ _ _ (fun q=>by have:=q.1;omega)) _ _ _ (fun q=>by have:=q.1;omega)) _ _ _ (fun q=>by have:=q.1;omega)) _ _ _ (fun q=>by have:=q.1;omega)) _ _ _ (fun q=>by have:=q.1;omega)) _ _ _ (fun q=>by have:=q.1;omega)) _ _ _ (fun q=>by have:=q.1;omega)) _ _ _ (fun q=>by have:=q.1;omega)) _ _ _ (fun q=>by have:=q.1;omega)) _ _ _ (fun q=>by have:=q.1;omega)) _ _ _ (fun q=>by have:=q.1;omega)
      ·exact bel_set (bel_set (bel_set (bel_set (bel_set (bel_set (bel_set (bel_set (bel_set (bel_set (bel_set (HB9.out) _ _ _ (by omega)) _ _ _ (by omega)) _ _ _ (by omega)) _ _ _ (by omega)) _ _ _ (by omega)) _ _ _ (by omega)) _ _ _ (by omega)) _ _ _ (by omega)) _ _ _ (by omega)) _ _ _ (by omega)) _ _ _ (by omega)
    ·have hf':¬(s.far:Int)<(s.pos:Int):=by omega
     have d1:decide ((s.far:Int)<(s.pos:Int))=false:=by simpa using hf'
     have d2:((s.pos:Int)==(s.far:Int))=false:=by simp;omega
     have HNO:Hid (s.note sn S=s):=by show _=_;unfold MSt.note;rw[if_neg hf,if_neg hf2]
     clear hf hf2;go_wp2_with fail;have hc:=l4fail_any s ka la xa kc lc xn xc W1 (HK.out.later B1.out) HHN.out HKC.out HLC.out HLG.out;obtain⟨t,ht⟩:∃t,s.fail=t:=⟨_,rfl⟩;have HE:Hid (t.exp=s.exp):=by show _=_;rw[←ht];exact fail_exp s
     have HT2:Hid (s.test sn S il I=t):=by show _=_;rw[HT3.out,HNO.out,ht]
     rw[ht,HV.out]at hc;clear ht;unfold stV at hc;refine hc.mono ?_;rintro e W9 ⟨rfl,hb9⟩;replace y0:=cell_on (y0) hb9;replace y1:=cell_on (y1) hb9;replace y2:=cell_on (y2) hb9;replace y3:=cell_on (y3) hb9;replace y4:=cell_on (y4) hb9;replace y5:=cell_on (y5) hb9;replace y6:=cell_on (y6) hb9;replace y7:=cell_on (y7) hb9;replace y8:=cell_on (y8) hb9;replace y9:=cell_on (y9) hb9;replace y10:=cell_on (y10) hb9;replace q0:=(hb9.frozen (p:=⟨w.heap.size+1,0,none⟩) (lw1)).trans (q0);replace q1:=(hb9.frozen (p:=⟨w.heap.size+1,1,none⟩) (lw1)).trans (q1);replace q2:=(hb9.frozen (p:=⟨w.heap.size+1,2,none⟩) (lw1)).trans (q2);replace q3:=(hb9.frozen (p:=⟨w.heap.size+1,3,none⟩) (lw1)).trans (q3);replace q4:=(hb9.frozen (p:=⟨w.heap.size+1,4,none⟩) (lw1)).trans (q4);replace q5:=(hb9.frozen (p:=⟨w.heap.size+1,5,none⟩) (lw1)).trans (q5);replace q6:=(hb9.frozen (p:=⟨w.heap.size+1,6,none⟩) (lw1)).trans (q6);replace q7:=(hb9.frozen (p:=⟨w.heap.size+1,7,none⟩) (lw1)).trans (q7);replace q8:=(hb9.frozen (p:=⟨w.heap.size+1,8,none⟩) (lw1)).trans (q8);replace q9:=(hb9.frozen (p:=⟨w.heap.size+1,9,none⟩) (lw1)).trans (q9);replace q10:=(hb9.frozen (p:=⟨w.heap.size+1,10,none⟩) (lw1)).trans (q10)
     have HB9:Hid (Below w.heap.size w W9):=bel_tr B1.out hb9;have lw9:w.heap.size+1<W9.heap.size:=lt_of_cell y0;clear hb9 hc;go_wp2;refine bodyPost_ret (v:=stV t ka kc la lc xa xn xc) ?_ rfl ?_
     ·unfold stV
      simp[results,Tryz.f41,go_sem, *]
     ·rw[HT2.out]
      refine⟨xa,xn,xc,rfl,ex_set (by rw[HE.out];exact HX.out) ?_,?_⟩
      ·exact bel_set (bel_set (bel_set (bel_set (bel_set (bel_set (bel_set (bel_set (bel_set (bel_set (bel_set (HB9.out) _ _ _ (by omega)) _ _ _ (by omega)) _ _ _ (by omega)) _ _ _ (by omega)) _ _ _ (by omega)) _ _ _ (by omega)) _ _ _ (by omega)) _ _ _ (by omega)) _ _ _ (by omega)) _ _ _ (by omega)) _ _ _ (by omega)
      ·exact bel_set (bel_set (bel_set (bel_set (bel_set (bel_set (bel_set (bel_set (bel_set (bel_set (bel_set (HB9.out) _ _ _ (by omega)) _ _ _ (by omega)) _ _ _ (by omega)) _ _ _ (by omega)) _ _ _ (by omega)) _ _ _ (by omega)) _ _ _ (by omega)) _ _ _ (by omega)) _ _ _ (by omega)) _ _ _ (by omega)) _ _ _ (by omega)
end
end Go.Proofs.YtcbnnfnlilbjeaaGreat
