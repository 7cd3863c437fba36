import Derived.Test.YtcbnnfnlilbjeaaGreatT30
set_option linter.unusedVariables false
set_option linter.unusedSimpArgs false
namespace Go.Proofs.YtcbnnfnlilbjeaaGreat
section
open Go.RowKit
open M (OpD NodeD Gr InsD)
theorem act_throws{most:Int}{s:MSt}(x:InsD)(il:Nat)(I:Nat→Int):(s.act x il I most).throws≤s.throws+1:=by
 have hfail:∀s:MSt,s.fail.throws=s.throws:=fun s=>by unfold MSt.fail;split<;>rfl
 have hpush:∀(s:MSt) f,(s.push f most).throws=s.throws:=fun s f=>by unfold MSt.push;split<;>rfl
 have hnote:∀(s:MSt) n S,(s.note n S).throws=s.throws:=fun s n S=>by unfold MSt.note;split<;>(try split)<;>rfl
 unfold MSt.act;by_cases q:x.kind=0
 ·rw[if_pos q]
  unfold MSt.test;split
  ·exact Nat.le_succ _
  ·rw[hfail];split
   ·exact Nat.le_succ _
   ·rw[hnote];exact Nat.le_succ _
 rw[if_neg q];clear q;by_cases q:x.kind=1
 ·rw[if_pos q];first|exact Nat.le_succ _|(unfold MSt.hold;rw[hpush];exact Nat.le_succ _)|(unfold MSt.enter;rw[hpush];exact Nat.le_succ _)|(rw[hpush];exact Nat.le_succ _)|(rw[hfail];exact Nat.le_succ _)
 rw[if_neg q];clear q;by_cases q:x.kind=4
 ·rw[if_pos q];first|exact Nat.le_succ _|(unfold MSt.hold;rw[hpush];exact Nat.le_succ _)|(unfold MSt.enter;rw[hpush];exact Nat.le_succ _)|(rw[hpush];exact Nat.le_succ _)|(rw[hfail];exact Nat.le_succ _)
 rw[if_neg q];clear q;by_cases q:x.kind=6
 ·rw[if_pos q];first|exact Nat.le_succ _|(unfold MSt.hold;rw[hpush];exact Nat.le_succ _)|(unfold MSt.enter;rw[hpush];exact Nat.le_succ _)|(rw[hpush];exact Nat.le_succ _)|(rw[hfail];exact Nat.le_succ _)
 rw[if_neg q];clear q;by_cases q:x.kind=8
 ·rw[if_pos q]
  by_cases q2:s.inNot=true
  ·rw[if_pos q2,hfail];exact Nat.le_succ _
  rw[if_neg q2];by_cases q3:x.to<0
  ·rw[if_pos q3];exact Nat.le_refl _
  ·rw[if_neg q3]
   unfold MSt.enter;rw[hpush];exact Nat.le_refl _
 rw[if_neg q];clear q;by_cases q:x.kind=2∧s.top 0=true
 ·rw[if_pos q];first|exact Nat.le_succ _|(unfold MSt.hold;rw[hpush];exact Nat.le_succ _)|(unfold MSt.enter;rw[hpush];exact Nat.le_succ _)|(rw[hpush];exact Nat.le_succ _)|(rw[hfail];exact Nat.le_succ _)
 rw[if_neg q];clear q;by_cases q:x.kind=3∧s.top 0=true
 ·rw[if_pos q];first|exact Nat.le_succ _|(unfold MSt.hold;rw[hpush];exact Nat.le_succ _)|(unfold MSt.enter;rw[hpush];exact Nat.le_succ _)|(rw[hpush];exact Nat.le_succ _)|(rw[hfail];exact Nat.le_succ _)
 rw[if_neg q];clear q;by_cases q:x.kind=5∧s.top 1=true
 ·rw[if_pos q];first|exact Nat.le_succ _|(unfold MSt.hold;rw[hpush];exact Nat.le_succ _)|(unfold MSt.enter;rw[hpush];exact Nat.le_succ _)|(rw[hpush];exact Nat.le_succ _)|(rw[hfail];exact Nat.le_succ _)
 rw[if_neg q];clear q;by_cases q:x.kind=7∧s.top 2=true
 ·rw[if_pos q];first|exact Nat.le_succ _|(unfold MSt.hold;rw[hpush];exact Nat.le_succ _)|(unfold MSt.enter;rw[hpush];exact Nat.le_succ _)|(rw[hpush];exact Nat.le_succ _)|(rw[hfail];exact Nat.le_succ _)
 rw[if_neg q];clear q;by_cases q:x.kind=9
 ·rw[if_pos q];first|exact Nat.le_succ _|(unfold MSt.hold;rw[hpush];exact Nat.le_succ _)|(unfold MSt.enter;rw[hpush];exact Nat.le_succ _)|(rw[hpush];exact Nat.le_succ _)|(rw[hfail];exact Nat.le_succ _)
 rw[if_neg q];clear q;by_cases q:x.kind=10
 ·rw[if_pos q];first|exact Nat.le_succ _|(unfold MSt.hold;rw[hpush];exact Nat.le_succ _)|(unfold MSt.enter;rw[hpush];exact Nat.le_succ _)|(rw[hpush];exact Nat.le_succ _)|(rw[hfail];exact Nat.le_succ _)
 rw[if_neg q];clear q;by_cases q:x.kind=11
 ·rw[if_pos q];first|exact Nat.le_succ _|(unfold MSt.hold;rw[hpush];exact Nat.le_succ _)|(unfold MSt.enter;rw[hpush];exact Nat.le_succ _)|(rw[hpush];exact Nat.le_succ _)|(rw[hfail];exact Nat.le_succ _)
 rw[if_neg q];clear q;by_cases q:x.kind=12∧s.st.length=0
 ·rw[if_pos q];first|exact Nat.le_succ _|(unfold MSt.hold;rw[hpush];exact Nat.le_succ _)|(unfold MSt.enter;rw[hpush];exact Nat.le_succ _)|(rw[hpush];exact Nat.le_succ _)|(rw[hfail];exact Nat.le_succ _)
 rw[if_neg q];clear q;exact Nat.le_succ _
def outBad(c:Int):OutD:=⟨c,0,0,0,0,fun _=>0,0,0,0,fun _=>⟨0,0,0⟩⟩
def outOf(t:MSt):OutD :=
 if t.code=4∨t.code=3 then outBad t.code else
 ⟨t.code,if t.code=0∨t.code=2 then (t.pos:Int) else 0,if t.code=2 then t.label else 0,t.far,(rg t.exp 256).length,lf (rg t.exp 256),t.steps,t.throws,if t.code=0 then t.log.length else 0,fun i=>t.log.getD i ⟨0,0,0⟩⟩
structure RArgs(n:Nat)(R:Nat→InsD)(fuel most:Int):Prop where
 f0:0≤fuel
 f1:fuel≤50000
 m0:0≤most
 m1:most≤1000
 sets:∀i,i<n→(R i).sl≤512
def s0:MSt:=⟨0,0,[],[],0,fun _=>false,0,0,false,0,0⟩
def RunD(n:Nat)(R:Nat→InsD)(il:Nat)(I:Nat→Int)(fuel most:Int)(o:OutD):Prop :=
 (RArgs n R fuel most∧∃t,Ends n R il I fuel most s0 t∧o=outOf t)∨(¬RArgs n R fuel most∧o=outBad 4)
theorem run_some(n:Nat)(R:Nat→InsD)(il:Nat)(I:Nat→Int)(fuel most:Int):∃o,RunD n R il I fuel most o:=by
 by_cases h:RArgs n R fuel most
 ·obtain⟨t,ht⟩:=ends_some (n:=n) (R:=R) (il:=il) (I:=I) (fuel:=fuel) (most:=most) fuel.toNat s0 h.f0 (by show (fuel-0).toNat≤_;simp)
  exact⟨outOf t,.inl ⟨h,t,ht,rfl⟩⟩
 ·exact⟨outBad 4,.inr ⟨h,rfl⟩⟩
def RunIs(o:OutD)(w:World)(e:Ending)(w':World):Prop:=∃ea ec va vc,e=.returned (outV o ea ec va vc)∧OutA (New w w') w' o ea va∧Below w.heap.size w w'
theorem run_bad{w w':World}(c:Int)(hb:Below w.heap.size w w'):RunIs (outBad c) w (.returned (outV (outBad c) none 0 none 0)) w':=⟨none,0,none,0,rfl,⟨.inl rfl,.inl rfl⟩,hb⟩
def stArr(s:MSt)(ka:Option Addr)(kc:Nat)(la:Option Addr)(lc:Nat)(xa:Option Addr)(xn xc:Nat):Array Value:=#[.int .i64 s.at_,.int .i64 (s.pos:Int),.slice ka s.st.length kc,.slice la s.log.length lc,.int .i64 (s.far:Int),.slice xa xn xc,.int .i64 (s.steps:Int),.int .i64 (s.throws:Int),.bool s.done,.int .i64 s.code,.int .i64 s.label]
structure RuA(w:World)(t:MSt)(n:Nat)(R:Nat→InsD)(il:Nat)(I:Nat→Int)(fuel most:Int)(s:MSt)(wr:World)(ka:Option Addr)(kc:Nat)(la:Option Addr)(lc:Nat)(xa:Option Addr)(xn xc:Nat)(K L X:Nat→Prop):Prop where
 box:wr.heap[w.heap.size+1]? = some (.cells (stArr s ka kc la lc xa xn xc) 55)
 res:wr.heap[w.heap.size]? = some (.cells #[.int .i64 0,.int .i64 0,.int .i64 0,.int .i64 0,.slice none 0 0,.int .i64 0,.int .i64 0,.slice none 0 0] 36)
 a:SpA K L X wr s ka kc la lc xa xn
 lo:∀b,K b∨L b∨X b→w.heap.size+2≤b
 good:Good most s
 st:(s.steps:Int)≤fuel
 thr:s.throws≤s.steps
 ends:Ends n R il I fuel most s t
 bel:Below w.heap.size w wr
def ruI(w:World)(t:MSt)(n:Nat)(R:Nat→InsD)(il:Nat)(I:Nat→Int)(fuel most:Int)(wr:World):Prop :=
 ∃s ka kc la lc xa xn xc,∃K L X:Nat→Prop,RuA w t n R il I fuel most s wr ka kc la lc xa xn xc K L X
def stAt(wr:World)(b:Nat):Nat:=match wr.cell? ⟨b,6,none⟩ with | some (.int _ z)=>z.toNat | _=>0
def doAt(wr:World)(b:Nat):Nat:=match wr.cell? ⟨b,8,none⟩ with | some (.bool true)=>0 | _=>1
theorem stAt_eq{wr:World}{b k:Nat}(h:wr.cell? ⟨b,6,none⟩=some (.int .i64 (k:Int))):stAt wr b=k:=by unfold stAt;rw[h];simp
theorem doAt_eq{wr:World}{b:Nat}{d:Bool}(h:wr.cell? ⟨b,8,none⟩=some (.bool d)):doAt wr b=if d then 0 else 1:=by unfold doAt;rw[h];cases d<;>rfl
theorem blk_set{w:World}{b j:Nat}{c:Array Value}{t:TypeId}(v:Value)(h:w.heap[b]? = some (.cells c t)):(w.setCell ⟨b,j,none⟩ v).heap[b]? = some (.cells (c.setIfInBounds j v) t):=by
 simp only[World.setCell,Array.getElem?_modify,h,if_true,Option.map_some];rfl
theorem ru_next{w:World}{t:MSt}{n:Nat}{R:Nat→InsD}{il:Nat}{I:Nat→Int}{fuel most:Int}{s s':MSt}{wr Z W W':World}{ka ka' la la' xa xa':Option Addr}{kc kc' lc lc' xn xn' xc xc':Nat}{K L X K' L' X':Nat→Prop}
  (h:RuA w t n R il I fuel most s wr ka kc la lc xa xn xc K L X) (hd:s.done=false) (hn:s.next n R il I fuel most=s') (hZ:Only (fun b=>b=w.heap.size+1) wr Z) (hk:Kept (fun b=>K b∨L b) Z W) (ho:Only (fun b=>b=w.heap.size+1) W W')
  (hA:SpA K' L' X' W s' ka' kc' la' lc' xa' xn') (hK:∀b,K' b→K b∨New Z W b) (hL:∀b,L' b→L b∨New Z W b) (hX:∀b,X' b→X b∨New Z W b) (hbox:W'.heap[w.heap.size+1]? = some (.cells (stArr s' ka' kc' la' lc' xa' xn' xc') 55)) (hthr:s'.throws≤s'.steps) :
  ruI w t n R il I fuel most W'∧2*(fuel.toNat-stAt W' (w.heap.size+1))+doAt W' (w.heap.size+1)<2*(fuel.toNat-stAt wr (w.heap.size+1))+doAt wr (w.heap.size+1):=by
 have hs1:=(Array.getElem?_eq_some_iff.1 h.box).1;have hZs:=hZ.size;have hWs:=hk.size;have hW's:=ho.size;have nk:∀b,b≤w.heap.size+1→¬(K b∨L b):=fun b hb q=>by
  have:=h.lo b (q.elim .inl (fun q=>.inr (.inl q)))
  omega
 have lo':∀b,K' b∨L' b∨X' b→w.heap.size+2≤b:=fun b hb=>by
  rcases hb with hb | hb | hb
  ·rcases hK b hb with q | q
   ·exact h.lo b (.inl q)
   ·have:=q.1;omega
  ·rcases hL b hb with q | q
   ·exact h.lo b (.inr (.inl q))
   ·have:=q.1;omega
  ·rcases hX b hb with q | q
   ·exact h.lo b (.inr (.inr q))
   ·have:=q.1;omega
 have hm:=next_measure (n:=n) (R:=R) (il:=il) (I:=I) (most:=most) hd h.st;rw[hn]at hm;refine⟨⟨s',ka',kc',la',lc',xa',xn',xc',K',L',X',hbox,?_,hA.on (fun b hb=>ho.block b (fun e=>by have:=lo' b hb;omega)) (by omega),lo',hn▸next_good h.good,hm.1,hthr,hn▸h.ends.next hd,?_⟩,?_⟩
 ·rw[ho.block _ (by omega),hk.block _ (by omega) (nk _ (by omega)),hZ.block _ (by omega)]
  exact h.res
 ·have hb:=h.bel
  exact⟨ho.os.trans (hk.os.trans (hZ.os.trans hb.os)),ho.tape.trans (hk.tape.trans (hZ.tape.trans hb.tape)),ho.output.trans (hk.output.trans (hZ.output.trans hb.output)),by have:=hb.size;omega,fun b hq=>(ho.block b (by omega)).trans ((hk.block b (by omega) (nk b (by omega))).trans ((hZ.block b (by omega)).trans (hb.block b hq)))⟩
 ·have e1:=stAt_eq (k:=s.steps) (blk_cell (j:=6) h.box rfl)
  have e2:=doAt_eq (d:=s.done) (blk_cell (j:=8) h.box rfl);have e3:=stAt_eq (k:=s'.steps) (blk_cell (j:=6) hbox rfl);have e4:=doAt_eq (d:=s'.done) (blk_cell (j:=8) hbox rfl);rw[e1,e2,e3,e4,hd];have hf:=h.st;rcases hm.2 with⟨q1,q2⟩ | q
  ·rw[q1,q2];simp
  ·have:=hm.1
   rw[q];cases s'.done<;>simp<;>omega
def set11(w:World)(b:Nat)(v0 v1 v2 v3 v4 v5 v6 v7 v8 v9 v10:Value):World:=(((((((((((w.setCell ⟨b,0,none⟩ v0).setCell ⟨b,1,none⟩ v1).setCell ⟨b,2,none⟩ v2).setCell ⟨b,3,none⟩ v3).setCell ⟨b,4,none⟩ v4).setCell ⟨b,5,none⟩ v5).setCell ⟨b,6,none⟩ v6).setCell ⟨b,7,none⟩ v7).setCell ⟨b,8,none⟩ v8).setCell ⟨b,9,none⟩ v9).setCell ⟨b,10,none⟩ v10)
theorem set11_box{w:World}{b:Nat}{t:TypeId}{c0 c1 c2 c3 c4 c5 c6 c7 c8 c9 c10:Value}(v0 v1 v2 v3 v4 v5 v6 v7 v8 v9 v10:Value)(h:w.heap[b]? = some (.cells #[c0,c1,c2,c3,c4,c5,c6,c7,c8,c9,c10] t)):(set11 w b v0 v1 v2 v3 v4 v5 v6 v7 v8 v9 v10).heap[b]? = some (.cells #[v0,v1,v2,v3,v4,v5,v6,v7,v8,v9,v10] t):=by
 have e:=blk_set (j:=10) v10 (blk_set (j:=9) v9 (blk_set (j:=8) v8 (blk_set (j:=7) v7 (blk_set (j:=6) v6 (blk_set (j:=5) v5 (blk_set (j:=4) v4 (blk_set (j:=3) v3 (blk_set (j:=2) v2 (blk_set (j:=1) v1 (blk_set (j:=0) v0 (h)))))))))));simp only[List.setIfInBounds_toArray,List.set_cons_zero,List.set_cons_succ]at e;exact e
theorem set11_only(w:World)(b:Nat)(v0 v1 v2 v3 v4 v5 v6 v7 v8 v9 v10:Value):Only (fun x=>x=b) w (set11 w b v0 v1 v2 v3 v4 v5 v6 v7 v8 v9 v10):=by
 unfold set11;have h:=fun (o:Nat) (v:Value) {W:World} (k:Only (fun x=>x=b) w W)=>Only.set (P:=fun x=>x=b) k b o v rfl
 exact h 10 v10 (h 9 v9 (h 8 v8 (h 7 v7 (h 6 v6 (h 5 v5 (h 4 v4 (h 3 v3 (h 2 v2 (h 1 v1 (h 0 v0 (Only.refl _ _)))))))))))
theorem Only.drew{P:Nat→Prop}{w w':World}(h:Only P w w'):Only P w w'.drew:=⟨h.os,h.tape,h.output,h.size,h.block⟩
theorem stepCall4{P:Program}{ops:Array Oper}{o:Oper}{a:Act}{w:World}{K:Act→World→Prop}{P':Exit→Act→World→Prop}{E:Prop}{f:FuncId}(hf:∀args w,(callFunc f args).run P w=.ok (.enter f args) w)(hgd:o.guard=none)(x1 x2 x3 x4:Operand)(t1 t2 t3 t4:TypeId)
  (ho:o.op=.call { callee:=.value (.func f),args:=#[x1,x2,x3,x4],argTypes:=#[t1,t2,t3,t4] }) {y1 y2 y3 y4:Value} (hx1:a.eval x1=y1) (hx2:a.eval x2=y2) (hx3:a.eval x3=y3) (hx4:a.eval x4=y4) (h:Calls P f #[y1,y2,y3,y4] w (fun e w'=>∃u,e=.returned u∧K (a.put o.dst u) w')):if Region.wanted o (yielded ops a.tmps)=true then Oper.wp P o a w K P' else E:=by
 have hw:Region.wanted o (yielded ops a.tmps)=true:=by simp[Region.wanted,hgd]
 rw[if_pos hw];have hrun:(execOp a.eval o).run P w=.ok (.enter f #[y1,y2,y3,y4]) w:=by
  have e:a.eval (.func f)=.func (.func f) #[] #[]:=rfl;unfold execOp;simp only[ho,resolve,invoke,Deferred.ofValue,Sem.run_bind,Sem.run_pure,Result.andThen_ok,List.map_toArray,List.map_cons,List.map_nil,hx1,hx2,hx3,hx4,e];exact hf #[y1,y2,y3,y4] w
 unfold Oper.wp;rw[hrun];refine Calls.mono h ?_;rintro e w' ⟨u,rfl,hk⟩;exact hk
end
end Go.Proofs.YtcbnnfnlilbjeaaGreat
