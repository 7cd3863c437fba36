import Derived.Test.YtcbnnfnlilbjeaaGreatT33
import Derived.BigRegion
import Derived.BigQuiet
import Derived.Deep.WholeRow
set_option linter.unusedVariables false
set_option linter.unusedSimpArgs false
namespace Go.Proofs.YtcbnnfnlilbjeaaGreat
section
open Go.RowKit
open M (OpD NodeD Gr InsD)
theorem infoFr:(Tryz.prog.info? 152).map (fun i=>(i.zero,i.size,i.bytes))=some (some .nilIface,1,16):=by kernel_rfl
theorem elemFr:ElemT 65 152 1 16:=⟨Tryz.underlying65,⟨_,infoFr,rfl⟩,by omega⟩
theorem src_frame{Y:World}(v:Value)(y:Nat)(hy:y=Y.heap.size)(hv:v.oneCell'=true):Src Tryz.prog 1 65 (.slice (some ⟨y,0,none⟩) 1 1) 1 [v] (Y.alloc (.cells #[v] 152)):=by
 subst hy;refine Src.ofSlice (P:=Tryz.prog) _ Tryz.underlying65 ⟨Y.heap.size,0,none⟩ 1 1 [v] rfl (fun j u hu=>?_) (fun u hu=>?_)
 ·match j,hu with
  |0,hu=>simpa[Addr.add] using (cN Y.heap.size rfl hu:(Y.alloc (.cells #[v] 152)).cell? ⟨Y.heap.size,0,none⟩=some u)
  |j+1,hu=>simp at hu
 ·simp at hu;subst hu;exact hv
theorem act_push{K L:Nat→Prop}{b:Nat}{s:MSt}{ia:Option Addr}{il ic:Nat}{most:Int}{ka:Option Addr}{kc:Nat}{la:Option Addr}{lc:Nat}{w Y W:World}{f:FrD}{a':Option Addr}{c':Nat}(hA:MacA K L w b s ia il ic most ka kc la lc)(hY:Below w.heap.size w Y)(hG:Grew (fun x=>K x) Y W)
  (hO:OwnC (fun x=>K x∨Y.heap.size≤x) W (.slice a' (s.st.length+1) c') 1 (s.st.length+1) (cellsG false s.st++[frC f (s.inNot||f.kind==1)])) (hm:¬(s.st.length:Int) ≥ most) (hd:s.done=false) :
  ActIs (s.push f most) K L b ia il ic most w (.returned (.int .i64 (-1))) (W.setCell ⟨b,4,none⟩ (.slice a' (s.st.length+1) c')):=by
 have hE:s.push f most={ s with st:=s.st++[f] }:=by unfold MSt.push;rw[if_neg hm]
 have hbl:=hA.bl;have hys:=hY.size;have hgs:=hG.size;have blk:∀x,x<w.heap.size→¬K x→W.heap[x]? = w.heap[x]?:=fun x hx hk=>(hG.block x (by omega) hk).trans (hY.block x hx)
 have hb:W.heap[b]? = w.heap[b]?:=blk b hbl hA.kb;rw[hE];refine⟨by unfold rcode;simp[hd],s.at_,s.st++[f],a',c',la,lc,fun x=>(K x∨Y.heap.size≤x)∧x<W.heap.size,L,fun _=>⟨rfl,rfl⟩,⟨?_,?_,?_,?_,?_,?_,hA.lb⟩,?_,fun x hx=>.inl hx,?_⟩
 ·show MacC _ b _ ia il ic most a' (s.st++[f]).length c' la s.log.length lc
  rw[List.length_append,List.length_singleton];have h:=(hA.c.on hb).set4 a' (s.st.length+1) c';exact⟨h.c0,h.c1,h.c2,h.c3,h.c4,h.c5,h.c6,h.ex,h.c8,h.c9,h.c10,h.fz⟩
 ·show OwnC _ _ (.slice a' (s.st++[f]).length c') 1 (s.st++[f]).length (cellsG false (s.st++[f]))
  rw[cellsG_snoc,List.length_append,List.length_singleton,Bool.false_or];rcases hO with⟨e,_⟩|⟨g,cap,e,hq,h3,h4,h5,h6⟩
  ·injection e with _ e2;exact absurd e2 (by omega)
  ·have hlt:g<W.heap.size:=by
    obtain⟨u,hu⟩:=Option.isSome_iff_exists.1 (h6 0 (by omega)).1
    exact lt_of_cell hu
   have hne:g≠b:=fun e=>by
    subst e;rcases hq with q | q
    ·exact hA.kb q
    ·omega
   have hk:(W.setCell ⟨b,4,none⟩ (.slice a' (s.st.length+1) c')).heap[g]? = W.heap[g]?:=Below.heap_setCell _ _ _ _ hne;exact .inr ⟨g,cap,e,⟨hq,hlt⟩,h3,h4,fun j hj=>(World.cell?_of_block (a:=⟨g,j,none⟩) hk).trans (h5 j hj),h6.later hk⟩
 ·exact hA.log.on (fun x hx=>(Below.heap_setCell _ _ _ _ (fun e=>hA.lb (by simp at e;exact e▸hx))).trans (blk x (hA.lt x (.inr hx)) (fun q=>hA.kl x q hx)))
 ·intro x hx
  rw[size_set];rcases hx with q | q
  ·exact q.2
  ·have:=hA.lt x (.inr q);omega
 ·rintro x ⟨q | q,_⟩ h
  ·exact hA.kl x q h
  ·have:=hA.lt x (.inr h);omega
 ·rintro⟨q | q,_⟩
  ·exact hA.kb q
  ·omega
 ·rintro x ⟨q | q,h⟩
  ·exact .inl q
  ·exact .inr ⟨by omega,by rw[size_set];exact h⟩
 ·refine⟨hG.os.trans hY.os,hG.tape.trans hY.tape,hG.output.trans hY.output,by rw[size_set];omega,fun x hx hn=>(Below.heap_setCell _ _ _ _ (fun e=>hn (.inr (.inr e)))).trans (blk x hx (fun q=>hn (.inl q)))⟩
theorem act_full{K L:Nat→Prop}{b:Nat}{s:MSt}{ia:Option Addr}{il ic:Nat}{most:Int}{ka:Option Addr}{kc:Nat}{la:Option Addr}{lc:Nat}{w W:World}{f:FrD}(hA:MacA K L w b s ia il ic most ka kc la lc)(hY:Below w.heap.size w W)(hm:(s.st.length:Int) ≥ most) :
  ActIs (s.push f most) K L b ia il ic most w (.returned (.int .i64 3)) W:=by
 have hE:s.push f most=s.fin 3:=by unfold MSt.push;rw[if_pos hm]
 rw[hE];have h:=hA.later hY;exact⟨rfl,s.at_,s.st,ka,kc,la,lc,K,L,(fun q=>by cases q),⟨⟨h.c.c0,h.c.c1,h.c.c2,h.c.c3,h.c.c4,h.c.c5,h.c.c6,h.c.ex,h.c.c8,h.c.c9,h.c.c10,h.c.fz⟩,h.st,h.log,h.lt,h.kl,h.kb,h.lb⟩,fun x hx=>.inl hx,fun x hx=>.inl hx,Kept.of hY⟩
set_option maxRecDepth 100000 in
set_option maxHeartbeats 8000000 in
theorem push_any(K L:Nat→Prop)(b:Nat)(s:MSt)(f:FrD)(vt:TypeId)(vu:Value)(ia:Option Addr)(il ic:Nat)(most:Int)(ka:Option Addr)(kc:Nat)(la:Option Addr)(lc:Nat)(w:World)(hA:MacA K L w b s ia il ic most ka kc la lc)(hn:s.st.length≤1000)(hl:(s.st.length:Int)≤most)(hd:s.done=false)(hv : .iface vt vu=frC f (s.inNot||f.kind==1)) :
  Calls Tryz.prog 106 #[.pointer (some ⟨b,0,none⟩),.iface vt vu] w (ActIs (s.push f most) K L b ia il ic most w):=by
 have HA:Hid (MacA K L w b s ia il ic most ka kc la lc):=hA;have hv1:(Value.iface vt vu).oneCell'=true:=rfl;have HV:Hid (Value.iface vt vu=frC f (s.inNot||f.kind==1)):=hv;obtain⟨n,hnn⟩:∃n,s.st.length=n:=⟨_,rfl⟩;have HN:Hid (s.st.length=n):=hnn;have c1:=hA.c.c1;have c4:=hA.c.c4;have lb:=hA.bl;rw[hnn]at c4 hn hl;clear hA hv hnn;by_cases hm:(n:Int)=most
 ·have hq:((n:Int)==most)=true:=by simp[hm]
  have HM:Hid ((n:Int)=most):=hm;clear hm;go_enter Tryz.func106,Tryz.ntmps106;go_wp2;go_quiet (fail);have hY:Below w.heap.size w (w.drewN nq):=below_drewN (Below.refl _ _) nq;generalize w.drewN nq=Y at *;go_wp2;go_ret;exact act_full HA.out hY (by rw[HN.out,HM.out];exact Int.le_refl _)
 ·have hq:((n:Int)==most)=false:=by simp[hm]
  have HM:Hid (¬(n:Int)=most):=hm;clear hm;go_enter Tryz.func106,Tryz.ntmps106;go_wp2;go_quiet (fail);have hY:Below w.heap.size w (w.drewN nq):=below_drewN (Below.refl _ _) nq;generalize w.drewN nq=Y at *;have d4:=cell_on c4 hY;have lbY:b<Y.heap.size:=Nat.lt_of_lt_of_le lb hY.size;have HY:Hid (Below w.heap.size w Y):=hY;have HOY:Hid (OwnC K (Y.alloc (.cells #[.iface vt vu] 152)) (.slice ka n kc) 1 n (cellsG false s.st)):=by
   have h:=HA.out.st;rw[HN.out]at h;exact h.on (fun x hx=>(bel_tr hY (bel1 Y _)).block x (HA.out.lt x (.inl hx)))
  have HB:Hid (∀W,Grew (fun x=>K x) (Y.alloc (.cells #[.iface vt vu] 152)) W→W.cell? ⟨b,4,none⟩=some (.slice ka n kc)∧W.frozen? ⟨b,4,none⟩=false):=fun W hG=>by
   have e:W.heap[b]? = w.heap[b]?:=(hG.block b (by simp;omega) HA.out.kb).trans ((bel_tr hY (bel1 Y _)).block b lb)
   exact⟨(World.cell?_of_block (a:=⟨b,4,none⟩) e).trans (by have:=HA.out.c.c4;rw[HN.out]at this;exact this),(World.frozen?_of_block (a:=⟨b,4,none⟩) e).trans (HA.out.c.fz 4)⟩
  clear hY c1 c4;go_wp2_with (at_builtin;refine appC rfl _ _ 65 65 rfl rfl rfl elemFr HOY.out (src_frame (.iface vt vu) Y.heap.size rfl hv1) (by omega) (fun _=>Nat.one_pos) ?_;intro v' W4 hown hgrew hsz;obtain⟨a',c',rfl⟩:=own_shape hown;have HOW:Hid _:=hown;have HGW:Hid _:=hgrew;obtain⟨k4,k5⟩:=HB.out W4 hgrew;clear hown hgrew hsz)
  go_ret;have e:cellsG false s.st++[frC f (s.inNot||f.kind==1)]=cellsG false s.st++[.iface vt vu]:=by rw[HV.out]
  have hO:=HOW.out;rw[←HN.out]at hO ⊢;exact act_push (Y:=Y.alloc (.cells #[.iface vt vu] 152)) HA.out (bel_tr HY.out (bel1 Y _)) HGW.out (by rw[e];exact hO) (by rw[HN.out];have:=HM.out;omega) hd
structure BackIs(b:Nat)(s:MSt)(ia:Option Addr)(il ic:Nat)(most:Int)(ka:Option Addr)(kn kc:Nat)(la:Option Addr)(ln lc:Nat)(w:World)(e:Ending)(w':World):Prop where
 val:e=.returned (.int .i64 (-1))
 c:MacC w' b s ia il ic most ka kn kc la ln lc
 kept:Kept (fun x=>x=b) w w'
theorem kept_set{w W:World}{b:Nat}(h:Kept (fun x=>x=b) w W)(j:Nat)(v:Value):Kept (fun x=>x=b) w (W.setCell ⟨b,j,none⟩ v) :=
 ⟨h.os,h.tape,h.output,by rw[size_set];exact h.size,fun x hx hn=>(Below.heap_setCell _ _ _ _ hn).trans (h.block x hx hn)⟩
theorem kept_alloc{P:Nat→Prop}{w W:World}(h:Kept P w W)(o:Obj):Kept P w (W.alloc o) :=
 ⟨h.os,h.tape,h.output,by rw[World.size_alloc];exact Nat.le_succ_of_le h.size,fun x hx hn=>(Below.heap_alloc _ _ _ (Nat.lt_of_lt_of_le hx h.size)).trans (h.block x hx hn)⟩
theorem kept_refl(P:Nat→Prop)(w:World):Kept P w w:=⟨rfl,rfl,rfl,Nat.le_refl _,fun _ _ _=>rfl⟩
theorem kept_drewN{P:Nat→Prop}{w W:World}(h:Kept P w W)(n:Nat):Kept P w (W.drewN n):=⟨h.os,h.tape,h.output,h.size,h.block⟩
theorem kept_drew{P:Nat→Prop}{w W:World}(h:Kept P w W):Kept P w W.drew:=⟨h.os,h.tape,h.output,h.size,h.block⟩
set_option maxRecDepth 100000 in
set_option maxHeartbeats 8000000 in
theorem goBack_any(b:Nat)(s:MSt)(ia:Option Addr)(il ic:Nat)(most:Int)(ka:Option Addr)(kn kc:Nat)(la:Option Addr)(ln lc:Nat)(to:Int)(pos lg:Nat)(w:World)(hc:MacC w b s ia il ic most ka kn kc la ln lc)(hlg:lg≤lc) :
  Calls Tryz.prog 114 #[.pointer (some ⟨b,0,none⟩),.int .i64 to,.agg #[.int .i64 (pos:Int),.int .i64 (lg:Int)]] w (BackIs b { s with at_:=to,pos:=pos } ia il ic most ka kn kc la lg lc w):=by
 have HC:Hid (MacC w b s ia il ic most ka kn kc la ln lc):=hc;have lb:b<w.heap.size:=lt_of_cell hc.c0;have c2:=hc.c2;have c3:=hc.c3;have c5:=hc.c5;have f2:=hc.fz 2;have f3:=hc.fz 3;have f5:=hc.fz 5;have l0:(0:Int)≤(lg:Int):=by omega
 have l1:(lg:Int)≤(lc:Int):=by omega
 clear hc;go_enter Tryz.func114,Tryz.ntmps114;go_wp2;go_region;all_goals
  go_wp2;go_ret;refine⟨rfl,?_,kept_drew (kept_alloc (kept_set (kept_set (kept_set (kept_refl _ w) 2 _) 3 _) 5 _) _)⟩;exact (((HC.out.set2 to).set3 pos).set5 la lg lc).on (Below.heap_alloc _ _ _ (by rw[size_set,size_set,size_set];exact lb))
theorem zeroCh(w:World):(zeroValue 149).run Tryz.prog w=.ok (.agg #[.int .i64 0,.bool false,.int .i64 0,.int .i64 0]) w:=(zero_of_info (P:=Tryz.prog) (t:=149) (v:=.agg #[.int .i64 0,.bool false,.int .i64 0,.int .i64 0]) (n:=4) (by kernel_rfl)).1 w
theorem zeroNo(w:World):(zeroValue 154).run Tryz.prog w=.ok (.agg #[.int .i64 0,.bool false,.int .i64 0,.int .i64 0]) w:=(zero_of_info (P:=Tryz.prog) (t:=154) (v:=.agg #[.int .i64 0,.bool false,.int .i64 0,.int .i64 0]) (n:=4) (by kernel_rfl)).1 w
theorem zeroRe(w:World):(zeroValue 157).run Tryz.prog w=.ok (.agg #[.int .i64 0,.bool false]) w:=(zero_of_info (P:=Tryz.prog) (t:=157) (v:=.agg #[.int .i64 0,.bool false]) (n:=2) (by kernel_rfl)).1 w
theorem asChNil(w:World):(Instr.typeAssert .nilIface 152 149 true).run Tryz.prog w=.ok (.tuple #[.agg #[.int .i64 0,.bool false,.int .i64 0,.int .i64 0],.bool false]) w:=by simp[Instr.typeAssert,run_underlying Tryz.underlying149,zeroCh]
theorem asChCh(v:Value)(w:World):(Instr.typeAssert (.iface 149 v) 152 149 true).run Tryz.prog w=.ok (.tuple #[v,.bool true]) w:=by simp[Instr.typeAssert,run_underlying Tryz.underlying149]
theorem asChNo(v:Value)(w:World):(Instr.typeAssert (.iface 154 v) 152 149 true).run Tryz.prog w=.ok (.tuple #[.agg #[.int .i64 0,.bool false,.int .i64 0,.int .i64 0],.bool false]) w:=by simp[Instr.typeAssert,run_underlying Tryz.underlying149,zeroCh]
theorem asChRe(v:Value)(w:World):(Instr.typeAssert (.iface 157 v) 152 149 true).run Tryz.prog w=.ok (.tuple #[.agg #[.int .i64 0,.bool false,.int .i64 0,.int .i64 0],.bool false]) w:=by simp[Instr.typeAssert,run_underlying Tryz.underlying149,zeroCh]
theorem asNoNil(w:World):(Instr.typeAssert .nilIface 152 154 true).run Tryz.prog w=.ok (.tuple #[.agg #[.int .i64 0,.bool false,.int .i64 0,.int .i64 0],.bool false]) w:=by simp[Instr.typeAssert,run_underlying Tryz.underlying154,zeroNo]
theorem asNoCh(v:Value)(w:World):(Instr.typeAssert (.iface 149 v) 152 154 true).run Tryz.prog w=.ok (.tuple #[.agg #[.int .i64 0,.bool false,.int .i64 0,.int .i64 0],.bool false]) w:=by simp[Instr.typeAssert,run_underlying Tryz.underlying154,zeroNo]
theorem asNoNo(v:Value)(w:World):(Instr.typeAssert (.iface 154 v) 152 154 true).run Tryz.prog w=.ok (.tuple #[v,.bool true]) w:=by simp[Instr.typeAssert,run_underlying Tryz.underlying154]
theorem asNoRe(v:Value)(w:World):(Instr.typeAssert (.iface 157 v) 152 154 true).run Tryz.prog w=.ok (.tuple #[.agg #[.int .i64 0,.bool false,.int .i64 0,.int .i64 0],.bool false]) w:=by simp[Instr.typeAssert,run_underlying Tryz.underlying154,zeroNo]
theorem asReNil(w:World):(Instr.typeAssert .nilIface 152 157 true).run Tryz.prog w=.ok (.tuple #[.agg #[.int .i64 0,.bool false],.bool false]) w:=by simp[Instr.typeAssert,run_underlying Tryz.underlying157,zeroRe]
theorem asReCh(v:Value)(w:World):(Instr.typeAssert (.iface 149 v) 152 157 true).run Tryz.prog w=.ok (.tuple #[.agg #[.int .i64 0,.bool false],.bool false]) w:=by simp[Instr.typeAssert,run_underlying Tryz.underlying157,zeroRe]
theorem asReNo(v:Value)(w:World):(Instr.typeAssert (.iface 154 v) 152 157 true).run Tryz.prog w=.ok (.tuple #[.agg #[.int .i64 0,.bool false],.bool false]) w:=by simp[Instr.typeAssert,run_underlying Tryz.underlying157,zeroRe]
theorem asReRe(v:Value)(w:World):(Instr.typeAssert (.iface 157 v) 152 157 true).run Tryz.prog w=.ok (.tuple #[v,.bool true]) w:=by simp[Instr.typeAssert,run_underlying Tryz.underlying157]
attribute [local go_sem] asChNil asChCh asChNo asChRe asNoNil asNoCh asNoNo asNoRe asReNil asReCh asReNo asReRe
def lenAt(wr:World)(b:Nat):Nat:=match wr.cell? ⟨b,4,none⟩ with | some (.slice _ n _)=>n | _=>0
theorem lenAt_eq{wr:World}{b n c:Nat}{a:Option Addr}(h:wr.cell? ⟨b,4,none⟩=some (.slice a n c)):lenAt wr b=n:=by unfold lenAt;rw[h]
structure FaA(w:World)(b:Nat)(s:MSt)(ia:Option Addr)(il ic:Nat)(most:Int)(ka:Option Addr)(kc:Nat)(la:Option Addr)(ln lc k:Nat)(wr:World):Prop where
 le:k≤s.st.length
 un:unwind s.st.reverse=unwind (s.st.take k).reverse
 c:MacC wr b s ia il ic most ka k kc la ln lc
 only:Only (fun x=>x=b) w wr
def ifaI(w:World)(b:Nat)(s:MSt)(ia:Option Addr)(il ic:Nat)(most:Int)(ka:Option Addr)(kc:Nat)(la:Option Addr)(ln lc:Nat)(wr:World):Prop:=∃k,FaA w b s ia il ic most ka kc la ln lc k wr
theorem MacC.re{w:World}{b:Nat}{s t:MSt}{ia:Option Addr}{il ic:Nat}{most:Int}{ka:Option Addr}{kn kc:Nat}{la:Option Addr}{ln lc:Nat}(h:MacC w b s ia il ic most ka kn kc la ln lc)(e1:t.at_=s.at_)(e2:t.pos=s.pos)(e3:t.far=s.far)(e4:t.exp=s.exp)(e5:t.steps=s.steps)(e6:t.throws=s.throws)(e7:t.label=s.label):MacC w b t ia il ic most ka kn kc la ln lc :=
 ⟨h.c0,h.c1,by rw[e1];exact h.c2,by rw[e2];exact h.c3,h.c4,h.c5,by rw[e3];exact h.c6,by rw[e4];exact h.ex,by rw[e5];exact h.c8,by rw[e6];exact h.c9,by rw[e7];exact h.c10,h.fz⟩
theorem act_back{K L:Nat→Prop}{b:Nat}{s:MSt}{f:FrD}{ia:Option Addr}{il ic:Nat}{most:Int}{ka:Option Addr}{kc:Nat}{la:Option Addr}{lc j:Nat}{w wr W:World}{e:Ending}(hA:MacA K L w b s ia il ic most ka kc la lc)(hd:s.done=false)(hj:s.st[j]? = some f)(hk:f.kind≠2)(hlg:f.log≤s.log.length)
  (hun:unwind s.st.reverse=unwind (s.st.take (j+1)).reverse) (ho:Kept (fun x=>x=b) w wr) (hB:BackIs b { s with at_:=f.to,pos:=f.pos } ia il ic most ka j kc la f.log lc wr e W):ActIs s.fail K L b ia il ic most w e W:=by
 have hjl:j<s.st.length:=(List.getElem?_eq_some_iff.1 hj).1;have hu:unwind s.st.reverse=some (f,(s.st.take j).reverse):=by
  rw[hun,unwind_take hj,List.reverse_append];show unwind (f::(s.st.take j).reverse)=_;rw[unwind,if_neg hk]
 have hE:s.fail={ s with st:=s.st.take j,pos:=f.pos,log:=s.log.take f.log,at_:=f.to }:=by
  unfold MSt.fail;rw[hu];simp only[List.reverse_reverse]
 have hl1:(s.st.take j).length=j:=by rw[List.length_take];omega
 have hl2:(s.log.take f.log).length=f.log:=by rw[List.length_take];omega
 have kk:∀x,x<w.heap.size→x≠b→W.heap[x]? = w.heap[x]?:=fun x hx hn=>(hB.kept.block x (Nat.lt_of_lt_of_le hx ho.size) hn).trans (ho.block x hx hn)
 rw[hE];refine⟨by rw[hB.val];unfold rcode;simp[hd],f.to,s.st.take j,ka,kc,la,lc,K,L,fun _=>⟨rfl,rfl⟩,⟨?_,?_,?_,?_,hA.kl,hA.kb,hA.lb⟩,fun x hx=>.inl hx,fun x hx=>.inl hx,?_⟩
 ·show MacC W b _ ia il ic most ka (s.st.take j).length kc la (s.log.take f.log).length lc
  rw[hl1,hl2];exact hB.c.re rfl rfl rfl rfl rfl rfl rfl
 ·show OwnC K W (.slice ka (s.st.take j).length kc) 1 (s.st.take j).length (cellsG false (s.st.take j))
  rw[hl1,cellsG_take];have h:=own_take hA.st (j:=j) (by omega)
  rw[Nat.mul_one]at h;exact h.on (fun x hx=>kk x (hA.lt x (.inl hx)) (fun e=>hA.kb (e▸hx)))
 ·show OwnC L W (.slice la (s.log.take f.log).length lc) 3 (s.log.take f.log).length (cellsE (s.log.take f.log))
  rw[hl2,cellsE_take];exact (own_take hA.log (j:=f.log) hlg).on (fun x hx=>kk x (hA.lt x (.inr hx)) (fun e=>hA.lb (e▸hx)))
 ·intro x hx
  have h1:=hB.kept.size;have h2:=ho.size;have:=hA.lt x hx;omega
 ·exact⟨hB.kept.os.trans ho.os,hB.kept.tape.trans ho.tape,hB.kept.output.trans ho.output,Nat.le_trans ho.size hB.kept.size,fun x hx hn=>kk x hx (fun e=>hn (.inr (.inr e)))⟩
theorem act_failed{K L:Nat→Prop}{b:Nat}{s:MSt}{ia:Option Addr}{il ic:Nat}{most:Int}{ka:Option Addr}{kc:Nat}{la:Option Addr}{lc:Nat}{w wr:World}(hA:MacA K L w b s ia il ic most ka kc la lc)(hF:FaA w b s ia il ic most ka kc la s.log.length lc 0 wr):ActIs s.fail K L b ia il ic most w (.returned (.int .i64 1)) wr:=by
 have hE:s.fail=s.fin 1:=by
  unfold MSt.fail;rw[hF.un];rfl
 rw[hE];have ho:=hF.only;refine⟨rfl,s.at_,[],ka,kc,la,lc,K,L,(fun q=>by cases q),⟨hF.c.re rfl rfl rfl rfl rfl rfl rfl,?_,?_,?_,hA.kl,hA.kb,hA.lb⟩,fun x hx=>.inl hx,fun x hx=>.inl hx,⟨ho.os,ho.tape,ho.output,by rw[ho.size];exact Nat.le_refl _,fun x hx hn=>ho.block x (fun e=>hn (.inr (.inr e)))⟩⟩
 ·have h:=own_take hA.st (j:=0) (by omega)
  exact h.on (fun x hx=>ho.block x (fun e=>hA.kb (e▸hx)))
 ·exact hA.log.on (fun x hx=>ho.block x (fun e=>hA.lb (e▸hx)))
 ·intro x hx;rw[ho.size];exact hA.lt x hx
set_option maxRecDepth 100000 in
set_option maxHeartbeats 8000000 in
theorem fail_any(K L:Nat→Prop)(b:Nat)(s:MSt)(ia:Option Addr)(il ic:Nat)(most:Int)(ka:Option Addr)(kc:Nat)(la:Option Addr)(lc:Nat)(w:World)(hA:MacA K L w b s ia il ic most ka kc la lc)(hn:s.st.length≤1000)(hd:s.done=false)(hlast:∀f,f∈s.st→f.kind≠2→f.log≤s.log.length)(hkd:∀f,f∈s.st→f.kind=0∨f.kind=1∨f.kind=2) :
  Calls Tryz.prog 105 #[.pointer (some ⟨b,0,none⟩)] w (ActIs s.fail K L b ia il ic most w):=by
 have HA:Hid (MacA K L w b s ia il ic most ka kc la lc):=hA;have HL:Hid (∀f,f∈s.st→f.kind≠2→f.log≤s.log.length):=hlast;have HK:Hid (∀f,f∈s.st→f.kind=0∨f.kind=1∨f.kind=2):=hkd;have HN:Hid (s.st.length≤1000):=hn;obtain⟨ln,hln⟩:∃ln,s.log.length=ln:=⟨_,rfl⟩;have HLN:Hid (s.log.length=ln):=hln;have HD:Hid (s.done=false):=hd;have lb:=hA.bl;have h0:FaA w b s ia il ic most ka kc la ln lc s.st.length w:=⟨Nat.le_refl _,by rw[List.take_of_length_le (Nat.le_refl _)],by have:=hA.c;rw[hln]at this;exact this,Only.refl _ _⟩
 have H0:Hid (FaA w b s ia il ic most ka kc la ln lc s.st.length w):=h0;clear hA hlast hkd hn hd hln h0;go_enter Tryz.func105,Tryz.ntmps105;go_wp2;go_loopw [7] (fun _ wr=>ifaI w b s ia il ic most ka kc la ln lc wr) (fun _ wr=>lenAt wr b)
 case atStart=>exact⟨_,H0.out⟩
 case round =>
  obtain⟨k,hF⟩:=hrel;have HF:Hid (FaA w b s ia il ic most ka kc la ln lc k wr):=hF;have lbw:b<wr.heap.size:=by rw[hF.only.size];exact lb
  have c4:=hF.c.c4;have f4:=hF.c.fz 4;rcases Nat.eq_zero_or_pos k with hz | hz
  ·subst hz
   clear hF;go_wp2_with (go_at_call 109;refine (take_none b ka kc _ c4).mono ?_;rintro e W ⟨rfl,hW⟩;subst W);go_ret;have h:=HF.out;rw[←HLN.out]at h;exact act_failed HA.out h
  ·obtain⟨j,rfl⟩:∃j,k=j+1:=⟨k-1,by omega⟩
   have hjl:j<s.st.length:=hF.le;have hfr:=List.getElem?_eq_getElem hjl;have hin:s.st[j]∈s.st:=List.getElem_mem hjl;generalize s.st[j]=fr at hfr hin;have hlog:=HL.out fr hin;rw[HLN.out]at hlog;have hkind:=HK.out fr hin;have HFR:Hid (s.st[j]? = some fr):=hfr;have HUN:Hid (unwind s.st.reverse=unwind (s.st.take (j+1)).reverse):=hF.un;obtain⟨g,rfl,hg,hkc,cg⟩:∃g,ka=some ⟨g,0,none⟩∧K g∧s.st.length≤kc∧w.cell? ⟨g,j,none⟩=some (frC fr ((s.st.take (j+1)).any (fun f=>f.kind==1))):=by
    rcases HA.out.st with⟨_,e,_⟩|⟨g,cap,e,hq,h3,h4,h5,h6⟩
    ·omega
    ·injection e with e1 e2 e3
     exact⟨g,e1,hq,by omega,by rw[h5 j (by rw[cellsG_len];omega),cellsG_get s.st false j fr hfr,Bool.false_or]⟩
   have hj:j≤1000:=by have:=HN.out;omega
   have hjk:j+1≤kc:=by omega
   have hgb:g≠b:=fun e=>HA.out.kb (e▸hg)
   replace cg:=(World.cell?_of_block (a:=⟨g,j,none⟩) (hF.only.block g hgb)).trans cg;generalize (s.st.take (j+1)).any (fun f=>f.kind==1)=nn at cg
   have lg:g<wr.heap.size:=lt_of_cell cg;unfold frC at cg;clear hF hfr hin hkc hjl hz;rcases hkind with hkind | hkind | hkind
   ·rw[if_pos hkind]at cg
    have HK2:Hid (fr.kind≠2):=by show fr.kind≠2;rw[hkind];decide
    rw[hkind]at hlog;replace hlog:=hlog (by decide)
    clear hkind;go_wp2_with fail;refine (take_some b g j kc _ _ c4 f4 cg hj hjk).mono ?_;rintro e W ⟨rfl,hW⟩;subst W;have HOW:Hid (Only (fun x=>x=b) w (wr.setCell ⟨b,4,none⟩ (.slice (some ⟨g,0,none⟩) j kc))):=HF.out.only.set b 4 _ rfl
    have HCW:Hid (MacC (wr.setCell ⟨b,4,none⟩ (.slice (some ⟨g,0,none⟩) j kc)) b s ia il ic most (some ⟨g,0,none⟩) j kc la ln lc):=HF.out.c.set4 _ _ _;generalize wr.setCell ⟨b,4,none⟩ (.slice (some ⟨g,0,none⟩) j kc)=V at *;have lbv:b<V.heap.size:=lt_of_cell HCW.out.c0;clear c4 f4 cg;go_wp2_with fail;refine (goBack_any b s ia il ic most (some ⟨g,0,none⟩) j kc la ln lc fr.to fr.pos fr.log _ (HCW.out.on (Below.heap_alloc _ _ _ lbv)) (by have:=own_cap HA.out.log;rw[HLN.out]at this;omega)).mono ?_
    rintro e W hB;obtain rfl:=hB.val;have HB:Hid (BackIs b { s with at_:=fr.to,pos:=fr.pos } ia il ic most (some ⟨g,0,none⟩) j kc la fr.log lc _ _ W):=hB
    clear hB;go_wp2;go_ret;refine act_back HA.out HD.out HFR.out HK2.out (by rw[HLN.out];exact hlog) HUN.out ?_ HB.out
    have ho:=HOW.out;exact kept_alloc ⟨ho.os,ho.tape,ho.output,by rw[ho.size];exact Nat.le_refl _,fun x hx hn=>ho.block x hn⟩ _
   ·rw[if_neg (by rw[hkind];decide),if_pos hkind]at cg
    have HK2:Hid (fr.kind≠2):=by show fr.kind≠2;rw[hkind];decide
    rw[hkind]at hlog;replace hlog:=hlog (by decide)
    clear hkind;go_wp2_with fail;refine (take_some b g j kc _ _ c4 f4 cg hj hjk).mono ?_;rintro e W ⟨rfl,hW⟩;subst W;have HOW:Hid (Only (fun x=>x=b) w (wr.setCell ⟨b,4,none⟩ (.slice (some ⟨g,0,none⟩) j kc))):=HF.out.only.set b 4 _ rfl
    have HCW:Hid (MacC (wr.setCell ⟨b,4,none⟩ (.slice (some ⟨g,0,none⟩) j kc)) b s ia il ic most (some ⟨g,0,none⟩) j kc la ln lc):=HF.out.c.set4 _ _ _;generalize wr.setCell ⟨b,4,none⟩ (.slice (some ⟨g,0,none⟩) j kc)=V at *;have lbv:b<V.heap.size:=lt_of_cell HCW.out.c0;clear c4 f4 cg;go_wp2_with fail;refine (goBack_any b s ia il ic most (some ⟨g,0,none⟩) j kc la ln lc fr.to fr.pos fr.log _ (HCW.out.on (Below.heap_alloc _ _ _ lbv)) (by have:=own_cap HA.out.log;rw[HLN.out]at this;omega)).mono ?_
    rintro e W hB;obtain rfl:=hB.val;have HB:Hid (BackIs b { s with at_:=fr.to,pos:=fr.pos } ia il ic most (some ⟨g,0,none⟩) j kc la fr.log lc _ _ W):=hB
    clear hB;go_wp2;go_ret;refine act_back HA.out HD.out HFR.out HK2.out (by rw[HLN.out];exact hlog) HUN.out ?_ HB.out
    have ho:=HOW.out;exact kept_alloc ⟨ho.os,ho.tape,ho.output,by rw[ho.size];exact Nat.le_refl _,fun x hx hn=>ho.block x hn⟩ _
   ·rw[if_neg (by rw[hkind];decide),if_neg (by rw[hkind];decide)]at cg
    have HK2:Hid (fr.kind=2):=hkind;clear hkind hlog;go_wp2_with (go_at_call 109;refine (take_some b g j kc _ _ c4 f4 cg hj hjk).mono ?_;rintro e W ⟨rfl,hW⟩;subst W);go_roundw
    case rel =>
     refine⟨j,?_,?_,HF.out.c.set4 _ _ _,HF.out.only.set b 4 _ rfl⟩
     ·have:=HF.out.le;omega
     ·rw[HUN.out,unwind_take HFR.out,unwind_snoc _ _ HK2.out]
    case measure =>
     rw[lenAt_eq (HF.out.c.set4 (some ⟨g,0,none⟩) j kc).c4,lenAt_eq HF.out.c.c4];omega
end
end Go.Proofs.YtcbnnfnlilbjeaaGreat
