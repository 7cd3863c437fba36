import Derived.Test.YtcbnnfnlilbjeaaGreatT39
import Derived.Test.YtcbnnfnlilbjeaaGreatT40
set_option linter.unusedVariables false
set_option linter.unusedSimpArgs false
namespace Go.Proofs.YtcbnnfnlilbjeaaGreat
section
open Go.RowKit
open M (OpD NodeD Gr InsD)
def mac0:Array Value:=#[.slice none 0 0,.int .i64 0,.int .i64 0,.int .i64 0,.slice none 0 0,.slice none 0 0,.int .i64 0]++(madeCells #[.bool false] 256++#[.int .i64 0,.int .i64 0,.int .i64 0])
theorem infoMac:(Tryz.prog.info? 68).map (fun i=>(i.zero,i.size))=some (some (.agg mac0),266):=by kernel_rfl
def RunW(o:OutD)(w:World)(e:Ending)(w':World):Prop :=
 ∃ea ec va vc,∃Q1 Q2:Nat→Prop,e=.returned (outV o ea ec va vc)∧OutW Q1 Q2 w' o ea va∧(∀x,Q1 x→New w w' x)∧(∀x,Q2 x→New w w' x)∧Below w.heap.size w w'
theorem runW_bad{w w':World}(hb:Below w.heap.size w w'):RunW (outBad 4) w (.returned (.agg #[.int .i64 4,.int .i64 0,.int .i64 0,.int .i64 0,.slice none 0 0,.int .i64 0,.int .i64 0,.slice none 0 0])) w' :=
 ⟨none,0,none,0,fun _=>False,fun _=>False,rfl,⟨.inl rfl,fun b j h=>h.elim,.inl rfl,fun b h=>h.elim,fun b h=>(h.elim id id).elim⟩,fun x h=>h.elim,fun x h=>h.elim,hb⟩
theorem mac0_size:mac0.size=266:=by simp[mac0,size_madeCells]
theorem mac0_lo{j:Nat}{v:Value}(h:j<7)(hv:(#[.slice none 0 0,.int .i64 0,.int .i64 0,.int .i64 0,.slice none 0 0,.slice none 0 0,.int .i64 0]:Array Value)[j]? = some v):mac0[j]? = some v:=by
 unfold mac0;rw[Array.getElem?_append_left (by simpa using h)]
 exact hv
theorem mac0_mid{i:Nat}(h:i<256):mac0[7+i]? = some (.bool false):=by
 unfold mac0;rw[Array.getElem?_append_right (by simp),Array.getElem?_append_left (by simp[size_madeCells];omega)]
 have e:7+i-(#[.slice none 0 0,.int .i64 0,.int .i64 0,.int .i64 0,.slice none 0 0,.slice none 0 0,.int .i64 0]:Array Value).size=i:=by simp
 rw[e];exact made_get h
theorem three_get{j:Nat}(h:j<3):(#[.int .i64 0,.int .i64 0,.int .i64 0]:Array Value)[j]? = some (.int .i64 0):=by
 match j,h with
 |0,_=>rfl
 |1,_=>rfl
 |2,_=>rfl
theorem mac0_hi{j:Nat}(h:j<3):mac0[263+j]? = some (.int .i64 0):=by
 unfold mac0;rw[Array.getElem?_append_right (by simp;omega),Array.getElem?_append_right (by simp[size_madeCells];omega)]
 have e:263+j-(#[.slice none 0 0,.int .i64 0,.int .i64 0,.int .i64 0,.slice none 0 0,.slice none 0 0,.int .i64 0]:Array Value).size-(madeCells #[.bool false] 256).size=j:=by simp[size_madeCells];omega
 rw[e];exact three_get h
def mac1(ia:Option Addr)(il ic:Nat)(most:Int):Array Value:=(mac0.setIfInBounds 0 (.slice ia il ic)).setIfInBounds 1 (.int .i64 most)
theorem mac1_size(ia:Option Addr)(il ic:Nat)(most:Int):(mac1 ia il ic most).size=266:=by unfold mac1;simp[mac0_size]
theorem mac1_get(ia:Option Addr)(il ic:Nat)(most:Int){j:Nat}{v:Value}(h0:j≠0)(h1:j≠1)(hv:mac0[j]? = some v):(mac1 ia il ic most)[j]? = some v:=by
 unfold mac1;rw[Array.getElem?_setIfInBounds_ne (by omega),Array.getElem?_setIfInBounds_ne (by omega)]
 exact hv
theorem mac_start(W:World)(ia:Option Addr)(il ic:Nat)(most:Int):MacA (fun _=>False) (fun _=>False) (W.alloc (.cells (mac1 ia il ic most) 68)) W.heap.size s0 ia il ic most none 0 none 0:=by
 have hb:=blk_new W (.cells (mac1 ia il ic most) 68) _ rfl;have g:=fun (j:Nat) (v:Value) (h0:j≠0) (h1:j≠1) (hv:mac0[j]? = some v)=>blk_cell (j:=j) hb (mac1_get ia il ic most h0 h1 hv)
 refine⟨⟨blk_cell (j:=0) hb ?_,blk_cell (j:=1) hb ?_,g 2 _ (by decide) (by decide) (mac0_lo (by decide) rfl),g 3 _ (by decide) (by decide) (mac0_lo (by decide) rfl),g 4 _ (by decide) (by decide) (mac0_lo (by decide) rfl),g 5 _ (by decide) (by decide) (mac0_lo (by decide) rfl),g 6 _ (by decide) (by decide) (mac0_lo (by decide) rfl),fun i hi=>g (7+i) _ (by omega) (by omega) (mac0_mid hi),g 263 _ (by decide) (by decide) (mac0_hi (j:=0) (by decide)),g 264 _ (by decide) (by decide) (mac0_hi (j:=1) (by decide)),g 265 _ (by decide) (by decide) (mac0_hi (j:=2) (by decide)),fun j=>blk_frz hb⟩,.inl ⟨rfl,rfl,rfl⟩,.inl ⟨rfl,rfl,rfl⟩,fun x hx=>(hx.elim id id).elim,fun x h=>h.elim,id,id⟩
 ·unfold mac1
  rw[Array.getElem?_setIfInBounds_ne (by decide)]
  simp[mac0_size]
 ·unfold mac1
  simp[mac0_size]
theorem mac_store(W:World)(ia:Option Addr)(il ic:Nat)(most:Int):(storeCells ⟨W.heap.size,0,none⟩ ((mac0.toList.set 0 (.slice ia il ic)).set 1 (.int .i64 most))).run Tryz.prog (W.alloc (.cells mac0 68))=.ok () (W.alloc (.cells (mac1 ia il ic most) 68)):=by
 have h:=run_storeCells_new (P:=Tryz.prog) W 68 mac0 (mac1 ia il ic most) (by rw[mac1_size];exact (zero_of_info (P:=Tryz.prog) infoMac).2) (by rw[mac0_size,mac1_size]) (by
  rw[Array.all_eq_true_iff_forall_mem];intro v hv;obtain⟨j,hj,e⟩:=Array.mem_iff_getElem.1 hv;have hj':j<266:=by rw[mac1_size]at hj;exact hj
  have hv2:(mac1 ia il ic most)[j]? = some v:=by rw[Array.getElem?_eq_getElem hj,e]
  by_cases h0:j=0
  ·subst h0
   unfold mac1 at hv2;rw[Array.getElem?_setIfInBounds_ne (by decide)]at hv2
   simp[mac0_size]at hv2;subst hv2;rfl
  ·by_cases h1:j=1
   ·subst h1
    unfold mac1 at hv2;simp[mac0_size]at hv2;subst hv2;rfl
   ·by_cases h7:j<7
    ·have q:∀u,mac0[j]? = some u→v=u:=fun u hu=>by rw[mac1_get ia il ic most h0 h1 hu]at hv2;cases hv2;rfl
     match j,h7,h0,h1 with
     |2,_,_,_=>rw[q _ (mac0_lo (by decide) rfl)];rfl
     |3,_,_,_=>rw[q _ (mac0_lo (by decide) rfl)];rfl
     |4,_,_,_=>rw[q _ (mac0_lo (by decide) rfl)];rfl
     |5,_,_,_=>rw[q _ (mac0_lo (by decide) rfl)];rfl
     |6,_,_,_=>rw[q _ (mac0_lo (by decide) rfl)];rfl
     |0,_,h0,_=>exact absurd rfl h0
     |1,_,_,h1=>exact absurd rfl h1
    ·by_cases h3:j<263
     ·obtain⟨i,rfl⟩:∃i,j=7+i:=⟨j-7,by omega⟩
      rw[mac1_get ia il ic most h0 h1 (mac0_mid (by omega))]at hv2
      cases hv2;rfl
     ·obtain⟨i,rfl⟩:∃i,j=263+i:=⟨j-263,by omega⟩
      rw[mac1_get ia il ic most h0 h1 (mac0_hi (by omega))]at hv2
      cases hv2;rfl)
 have e:(mac1 ia il ic most).toList=(mac0.toList.set 0 (.slice ia il ic)).set 1 (.int .i64 most):=by unfold mac1;simp
 rw[e]at h;exact h
theorem outOf_at(t:MSt)(z:Int)(st:List FrD):outOf { t with at_:=z,st:=st }=outOf t:=by
 unfold outOf;dsimp only
set_option maxRecDepth 100000 in
set_option maxHeartbeats 16000000 in
theorem irun_any(Q Q':Nat→Prop)(a:Option Addr)(n c:Nat)(R:Nat→InsD)(ia:Option Addr)(il ic:Nat)(I:Nat→Int)(fuel most:Int)(o:OutD)(w:World)(hA:InsA Q w a n R)(hsl:∀i,i<n→(R i).sl≤1048576)(hn:n≤1048576)(hI:Ints Q' .u8 w ia il I)(hB:Byt il I)(hil:il≤1048576)(hD:RunD n R il I fuel most o)(hqk:∀y,Q y→y<w.heap.size)(hqk':∀y,Q' y→y<w.heap.size) :
  Calls Tryz.prog 10 #[.slice a n c,.slice ia il ic,.int .i64 fuel,.int .i64 most] w (RunW o w):=by
 have HA:Hid (InsA Q w a n R):=hA;have HSL:Hid (∀i,i<n→(R i).sl≤1048576):=hsl;have HI:Hid (Ints Q' .u8 w ia il I):=hI;have HBY:Hid (Byt il I):=hB;have HD:Hid (RunD n R il I fuel most o):=hD;have HQ:Hid ((∀y,Q y→y<w.heap.size)∧∀y,Q' y→y<w.heap.size):=⟨hqk,hqk'⟩;have hz:=(zero_of_info (P:=Tryz.prog) infoMac).1;clear hA hsl hI hB hD hqk hqk';go_enter Tryz.func10,Tryz.ntmps10;go_wp2_with fail;refine (within_any fuel most _).mono ?_;rintro e W ⟨rfl,hW⟩;subst W;by_cases hbd:0≤fuel∧fuel≤50000∧0≤most∧most≤1000
 ·have hd:decide (0≤fuel∧fuel≤50000∧0≤most∧most≤1000)=true:=by simp[hbd]
  rw[hd];have HBD:Hid (0≤fuel∧fuel≤50000∧0≤most∧most≤1000):=hbd;clear hd hbd;go_wp2_with fail;refine (contains_any Q a n c R _ (HA.out.later (bel1 w _)) hn HSL.out).mono ?_;rintro e W ⟨⟨r,rfl,hr⟩,hb⟩;have hres:=(hb.block w.heap.size (by simp)).trans (blk_new w (.cells #[.int .i64 0,.int .i64 0,.int .i64 0,.int .i64 0,.slice none 0 0,.int .i64 0,.int .i64 0,.slice none 0 0] 36) _ rfl)
  have HW:Hid (Below w.heap.size w W):=bel_tr (bel1 w _) hb;have HRES:Hid (W.heap[w.heap.size]? = some (.cells #[.int .i64 0,.int .i64 0,.int .i64 0,.int .i64 0,.slice none 0 0,.int .i64 0,.int .i64 0,.slice none 0 0] 36)):=hres;clear hb;have hlw:w.heap.size<W.heap.size:=(Array.getElem?_eq_some_iff.1 hres).1;cases r with
  |true =>
   have HO:Hid (o=outBad 4):=by
    show _=_;rcases HD.out with⟨h,_⟩|⟨_,h⟩
    ·obtain⟨i,hi,hl⟩:=hr.1 rfl
     have:=h.sets i hi;omega
    ·exact h
   have z0:=blk_cell (j:=0) hres rfl;have p0:=blk_frz (j:=0) hres;have z1:=blk_cell (j:=1) hres rfl;have p1:=blk_frz (j:=1) hres;have z2:=blk_cell (j:=2) hres rfl;have p2:=blk_frz (j:=2) hres;have z3:=blk_cell (j:=3) hres rfl;have p3:=blk_frz (j:=3) hres;have z4:=blk_cell (j:=4) hres rfl;have p4:=blk_frz (j:=4) hres;have z5:=blk_cell (j:=5) hres rfl;have p5:=blk_frz (j:=5) hres;have z6:=blk_cell (j:=6) hres rfl;have p6:=blk_frz (j:=6) hres;have z7:=blk_cell (j:=7) hres rfl;have p7:=blk_frz (j:=7) hres;clear hres hr hz;go_wp2;refine bodyPost_ret (v:=.agg #[.int .i64 4,.int .i64 0,.int .i64 0,.int .i64 0,.slice none 0 0,.int .i64 0,.int .i64 0,.slice none 0 0]) ?_ rfl ?_
   ·simp[results,Tryz.f10,go_sem, *]
   ·rw[HO.out]
    refine runW_bad ?_;exact below_set8 HW.out _ _ _ _ _ _ _ _
  |false =>
   have HRA:Hid (RArgs n R fuel most):=⟨HBD.out.1,HBD.out.2.1,HBD.out.2.2.1,HBD.out.2.2.2,fun i hi=>by
    by_cases q:(R i).sl≤512
    ·exact q
    ·exact absurd (hr.2 ⟨i,hi,by omega⟩) (by decide)⟩
   have HT:Hid (∃t,Ends n R il I fuel most s0 t∧o=outOf t):=by
    show ∃t,_;rcases HD.out with⟨_,h⟩|⟨h,_⟩
    ·exact h
    ·exact absurd HRA.out h
   obtain⟨t,hEn,hot⟩:=HT.out;have HEN:Hid (Ends n R il I fuel most s0 t):=hEn;have HOT:Hid (o=outOf t):=hot;have hms:=mac0_size;have hm0:¬mac0=#[]:=fun h=>by have h2:=mac0_size;rw[h]at h2;cases h2
   have hsc:=mac_store W ia il ic most;have hXb:=bel1 W (.cells (mac1 ia il ic most) 68);have HXM:Hid (MacA (fun _=>False) (fun _=>False) (W.alloc (.cells (mac1 ia il ic most) 68)) W.heap.size s0 ia il ic most none 0 none 0):=mac_start W ia il ic most
   clear hres hr hEn hot HT;go_wp2_with fail;generalize W.alloc (.cells (mac1 ia il ic most) 68)=X at *;have HXB:Hid (Below W.heap.size W X):=hXb;clear hsc hms hm0 hz hXb;refine (mrun_any Q Q' W.heap.size a n c R ia il ic I fuel most t X HXM.out ((HA.out.later HW.out).later HXB.out) hn ((HI.out.later HW.out).later HXB.out) HBY.out hil HRA.out HEN.out (fun q=>by have:=HQ.out.1 _ q;omega) (fun y q=>by have h1:=HQ.out.1 y q;have h2:=HXB.out.size;omega) (fun q=>by have:=HQ.out.2 _ q;omega) (fun y q=>by have h1:=HQ.out.2 y q;have h2:=HXB.out.size;omega)).mono ?_
   rintro e W2 ⟨rfl,z,st,ka,kc,la,lc,K,L,hM,hlo,hk⟩;have HM:Hid (MacA K L W2 W.heap.size { t with at_:=z,st:=st } ia il ic most ka kc la lc):=hM
   have HLO:Hid (∀x,K x∨L x→X.heap.size≤x):=hlo;have HK:Hid (Kept (fun x=>x=W.heap.size) X W2):=hk
   clear hM hlo hk;go_wp2_with fail;refine (outcome_any K L W.heap.size { t with at_:=z,st:=st } ia il ic most ka kc la lc W2 HM.out).mono ?_
   rintro e W3 ⟨ea,ec,va,vc,Q1,Q2,rfl,hO,h1,h2,hb3⟩;rw[outOf_at,←HOT.out]at hO ⊢;have hr3:W3.heap[w.heap.size]? = some (.cells #[.int .i64 0,.int .i64 0,.int .i64 0,.int .i64 0,.slice none 0 0,.int .i64 0,.int .i64 0,.slice none 0 0] 36):=by
    have hX2:=HXB.out.size;have hK2:=HK.out.size;exact (hb3.block _ (by omega)).trans ((HK.out.block _ (by omega) (by omega)).trans ((HXB.out.block _ hlw).trans HRES.out))
   have HFIN:Hid (∀W',Only (fun x=>x=w.heap.size) W3 W'→RunW o w (.returned (outV o ea ec va vc)) W'):=fun W' ho=>by
    have hX2:=HXB.out.size;have hK2:=HK.out.size;have hB2:=hb3.size;have hWs:=HW.out.size;have hsz:=ho.size;have q1:∀x,Q1 x→w.heap.size<x∧x<W3.heap.size:=fun x hx=>⟨by have:=(h1 x hx).1;omega,(h1 x hx).2⟩
    have q2:∀x,Q2 x→w.heap.size<x∧x<W3.heap.size:=fun x hx=>by
     rcases h2 x hx with q | q
     ·have h5:=HLO.out x (.inr q)
      have h6:=HM.out.lt x (.inr q);exact⟨by omega,by omega⟩
     ·exact⟨by have:=q.1;omega,q.2⟩
    refine⟨ea,ec,va,vc,Q1,Q2,rfl,hO.on (fun x hx=>ho.block x (fun e=>?_)) (by omega),fun x hx=>⟨by have:=(q1 x hx).1;omega,by have:=(q1 x hx).2;omega⟩,fun x hx=>⟨by have:=(q2 x hx).1;omega,by have:=(q2 x hx).2;omega⟩,?_⟩
    ·rcases hx with q | q
     ·have:=(q1 x q).1;omega
     ·have:=(q2 x q).1;omega
    ·refine⟨ho.os.trans (hb3.os.trans (HK.out.os.trans (HXB.out.os.trans HW.out.os))),ho.tape.trans (hb3.tape.trans (HK.out.tape.trans (HXB.out.tape.trans HW.out.tape))),ho.output.trans (hb3.output.trans (HK.out.output.trans (HXB.out.output.trans HW.out.output))),by omega,fun x hx=>?_⟩
     exact (ho.block x (by omega)).trans ((hb3.block x (by omega)).trans ((HK.out.block x (by omega) (by omega)).trans ((HXB.out.block x (by omega)).trans (HW.out.block x hx))))
   have z0:=blk_cell (j:=0) hr3 rfl;have p0:=blk_frz (j:=0) hr3;have z1:=blk_cell (j:=1) hr3 rfl;have p1:=blk_frz (j:=1) hr3;have z2:=blk_cell (j:=2) hr3 rfl;have p2:=blk_frz (j:=2) hr3;have z3:=blk_cell (j:=3) hr3 rfl;have p3:=blk_frz (j:=3) hr3;have z4:=blk_cell (j:=4) hr3 rfl;have p4:=blk_frz (j:=4) hr3;have z5:=blk_cell (j:=5) hr3 rfl;have p5:=blk_frz (j:=5) hr3;have z6:=blk_cell (j:=6) hr3 rfl;have p6:=blk_frz (j:=6) hr3;have z7:=blk_cell (j:=7) hr3 rfl;have p7:=blk_frz (j:=7) hr3;have lw3:w.heap.size<W3.heap.size:=lt_of_cell z0;clear hO h1 h2 hb3 hr3;unfold outV at HFIN ⊢;go_wp2;refine bodyPost_ret (v:=.agg #[.int .i64 o.code,.int .i64 o.pos,.int .i64 o.label,.int .i64 o.far,.slice ea o.en ec,.int .i64 o.steps,.int .i64 o.throws,.slice va o.vn vc]) ?_ rfl ?_
   ·simp[results,Tryz.f10,go_sem, *]
   ·exact HFIN.out _ (set8_only _ _ _ _ _ _ _ _ _ _)
 ·have hd:decide (0≤fuel∧fuel≤50000∧0≤most∧most≤1000)=false:=by simp only[decide_eq_false_iff_not];exact hbd
  rw[hd];have HO:Hid (o=outBad 4):=by
   show _=_;rcases HD.out with⟨h,_⟩|⟨_,h⟩
   ·exact absurd ⟨h.f0,h.f1,h.m0,h.m1⟩ hbd
   ·exact h
  clear hd hbd hz;go_wp2;refine bodyPost_ret (v:=.agg #[.int .i64 4,.int .i64 0,.int .i64 0,.int .i64 0,.slice none 0 0,.int .i64 0,.int .i64 0,.slice none 0 0]) ?_ rfl ?_
  ·simp[results,Tryz.f10,go_sem, *]
  ·rw[HO.out]
   exact runW_bad (bel1 w _)
end
end Go.Proofs.YtcbnnfnlilbjeaaGreat
