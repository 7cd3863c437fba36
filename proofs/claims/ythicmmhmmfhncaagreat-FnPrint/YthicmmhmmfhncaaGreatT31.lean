import Derived.Test.YthicmmhmmfhncaaGreatT19
import Derived.Test.YthicmmhmmfhncaaGreatT26
import Derived.Test.YthicmmhmmfhncaaGreatT25
import Derived.Test.YthicmmhmmfhncaaGreatT08
import Derived.Test.YthicmmhmmfhncaaGreatT28
set_option linter.unusedVariables false
set_option linter.unusedSimpArgs false
namespace Go.Proofs.YthicmmhmmfhncaaGreat
section
open Go.RowKit
open M (OpD uj Gr)
theorem kq(w:World):(zeroValue 115).run Tryz.prog w=.ok (.agg #[.slice none 0 0]) w:=by kernel_rfl
theorem kt(w:World):(zeroValue 117).run Tryz.prog w=.ok (.agg #[.string ⟨#[]⟩]) w:=by kernel_rfl
theorem ku(w:World):(zeroValue 119).run Tryz.prog w=.ok (.agg #[.string ⟨#[]⟩]) w:=by kernel_rfl
theorem kv(w:World):(zeroValue 121).run Tryz.prog w=.ok (.agg #[.nilIface,.nilIface]) w:=by kernel_rfl
theorem kw(w:World):(zeroValue 122).run Tryz.prog w=.ok (.agg #[.nilIface,.nilIface]) w:=by kernel_rfl
theorem kz(w:World):(zeroValue 124).run Tryz.prog w=.ok (.agg #[.nilIface]) w:=by kernel_rfl
theorem kB(w:World):(zeroValue 125).run Tryz.prog w=.ok (.agg #[.nilIface]) w:=by kernel_rfl
theorem ubd(v:Value)(w:World):(Instr.typeAssert (.iface 115 v) 63 115 true).run Tryz.prog w=.ok (.tuple #[v,.bool true]) w:=by simp[Instr.typeAssert,run_underlying Tryz.underlying115]
theorem ube(v:Value)(w:World):(Instr.typeAssert (.iface 117 v) 63 115 true).run Tryz.prog w=.ok (.tuple #[.agg #[.slice none 0 0],.bool false]) w:=by simp[Instr.typeAssert,run_underlying Tryz.underlying115,kq]
theorem ubf(v:Value)(w:World):(Instr.typeAssert (.iface 119 v) 63 115 true).run Tryz.prog w=.ok (.tuple #[.agg #[.slice none 0 0],.bool false]) w:=by simp[Instr.typeAssert,run_underlying Tryz.underlying115,kq]
theorem ubg(v:Value)(w:World):(Instr.typeAssert (.iface 121 v) 63 115 true).run Tryz.prog w=.ok (.tuple #[.agg #[.slice none 0 0],.bool false]) w:=by simp[Instr.typeAssert,run_underlying Tryz.underlying115,kq]
theorem ubh(v:Value)(w:World):(Instr.typeAssert (.iface 122 v) 63 115 true).run Tryz.prog w=.ok (.tuple #[.agg #[.slice none 0 0],.bool false]) w:=by simp[Instr.typeAssert,run_underlying Tryz.underlying115,kq]
theorem ubi(v:Value)(w:World):(Instr.typeAssert (.iface 124 v) 63 115 true).run Tryz.prog w=.ok (.tuple #[.agg #[.slice none 0 0],.bool false]) w:=by simp[Instr.typeAssert,run_underlying Tryz.underlying115,kq]
theorem ubj(v:Value)(w:World):(Instr.typeAssert (.iface 125 v) 63 115 true).run Tryz.prog w=.ok (.tuple #[.agg #[.slice none 0 0],.bool false]) w:=by simp[Instr.typeAssert,run_underlying Tryz.underlying115,kq]
theorem ubk(v:Value)(w:World):(Instr.typeAssert (.iface 135 v) 63 115 true).run Tryz.prog w=.ok (.tuple #[.agg #[.slice none 0 0],.bool false]) w:=by simp[Instr.typeAssert,run_underlying Tryz.underlying115,kq]
theorem ubl(v:Value)(w:World):(Instr.typeAssert (.iface 115 v) 63 117 true).run Tryz.prog w=.ok (.tuple #[.agg #[.string ⟨#[]⟩],.bool false]) w:=by simp[Instr.typeAssert,run_underlying Tryz.underlying117,kt]
theorem ubm(v:Value)(w:World):(Instr.typeAssert (.iface 117 v) 63 117 true).run Tryz.prog w=.ok (.tuple #[v,.bool true]) w:=by simp[Instr.typeAssert,run_underlying Tryz.underlying117]
theorem ubn(v:Value)(w:World):(Instr.typeAssert (.iface 119 v) 63 117 true).run Tryz.prog w=.ok (.tuple #[.agg #[.string ⟨#[]⟩],.bool false]) w:=by simp[Instr.typeAssert,run_underlying Tryz.underlying117,kt]
theorem ubo(v:Value)(w:World):(Instr.typeAssert (.iface 121 v) 63 117 true).run Tryz.prog w=.ok (.tuple #[.agg #[.string ⟨#[]⟩],.bool false]) w:=by simp[Instr.typeAssert,run_underlying Tryz.underlying117,kt]
theorem ubp(v:Value)(w:World):(Instr.typeAssert (.iface 122 v) 63 117 true).run Tryz.prog w=.ok (.tuple #[.agg #[.string ⟨#[]⟩],.bool false]) w:=by simp[Instr.typeAssert,run_underlying Tryz.underlying117,kt]
theorem ubq(v:Value)(w:World):(Instr.typeAssert (.iface 124 v) 63 117 true).run Tryz.prog w=.ok (.tuple #[.agg #[.string ⟨#[]⟩],.bool false]) w:=by simp[Instr.typeAssert,run_underlying Tryz.underlying117,kt]
theorem ubr(v:Value)(w:World):(Instr.typeAssert (.iface 125 v) 63 117 true).run Tryz.prog w=.ok (.tuple #[.agg #[.string ⟨#[]⟩],.bool false]) w:=by simp[Instr.typeAssert,run_underlying Tryz.underlying117,kt]
theorem ubs(v:Value)(w:World):(Instr.typeAssert (.iface 135 v) 63 117 true).run Tryz.prog w=.ok (.tuple #[.agg #[.string ⟨#[]⟩],.bool false]) w:=by simp[Instr.typeAssert,run_underlying Tryz.underlying117,kt]
theorem ubt(v:Value)(w:World):(Instr.typeAssert (.iface 115 v) 63 119 true).run Tryz.prog w=.ok (.tuple #[.agg #[.string ⟨#[]⟩],.bool false]) w:=by simp[Instr.typeAssert,run_underlying Tryz.underlying119,ku]
theorem ubu(v:Value)(w:World):(Instr.typeAssert (.iface 117 v) 63 119 true).run Tryz.prog w=.ok (.tuple #[.agg #[.string ⟨#[]⟩],.bool false]) w:=by simp[Instr.typeAssert,run_underlying Tryz.underlying119,ku]
theorem ubv(v:Value)(w:World):(Instr.typeAssert (.iface 119 v) 63 119 true).run Tryz.prog w=.ok (.tuple #[v,.bool true]) w:=by simp[Instr.typeAssert,run_underlying Tryz.underlying119]
theorem ubw(v:Value)(w:World):(Instr.typeAssert (.iface 121 v) 63 119 true).run Tryz.prog w=.ok (.tuple #[.agg #[.string ⟨#[]⟩],.bool false]) w:=by simp[Instr.typeAssert,run_underlying Tryz.underlying119,ku]
theorem ubx(v:Value)(w:World):(Instr.typeAssert (.iface 122 v) 63 119 true).run Tryz.prog w=.ok (.tuple #[.agg #[.string ⟨#[]⟩],.bool false]) w:=by simp[Instr.typeAssert,run_underlying Tryz.underlying119,ku]
theorem uby(v:Value)(w:World):(Instr.typeAssert (.iface 124 v) 63 119 true).run Tryz.prog w=.ok (.tuple #[.agg #[.string ⟨#[]⟩],.bool false]) w:=by simp[Instr.typeAssert,run_underlying Tryz.underlying119,ku]
theorem ubz(v:Value)(w:World):(Instr.typeAssert (.iface 125 v) 63 119 true).run Tryz.prog w=.ok (.tuple #[.agg #[.string ⟨#[]⟩],.bool false]) w:=by simp[Instr.typeAssert,run_underlying Tryz.underlying119,ku]
theorem ubA(v:Value)(w:World):(Instr.typeAssert (.iface 135 v) 63 119 true).run Tryz.prog w=.ok (.tuple #[.agg #[.string ⟨#[]⟩],.bool false]) w:=by simp[Instr.typeAssert,run_underlying Tryz.underlying119,ku]
theorem ubB(v:Value)(w:World):(Instr.typeAssert (.iface 115 v) 63 121 true).run Tryz.prog w=.ok (.tuple #[.agg #[.nilIface,.nilIface],.bool false]) w:=by simp[Instr.typeAssert,run_underlying Tryz.underlying121,kv]
theorem ubC(v:Value)(w:World):(Instr.typeAssert (.iface 117 v) 63 121 true).run Tryz.prog w=.ok (.tuple #[.agg #[.nilIface,.nilIface],.bool false]) w:=by simp[Instr.typeAssert,run_underlying Tryz.underlying121,kv]
theorem ubD(v:Value)(w:World):(Instr.typeAssert (.iface 119 v) 63 121 true).run Tryz.prog w=.ok (.tuple #[.agg #[.nilIface,.nilIface],.bool false]) w:=by simp[Instr.typeAssert,run_underlying Tryz.underlying121,kv]
theorem ubE(v:Value)(w:World):(Instr.typeAssert (.iface 121 v) 63 121 true).run Tryz.prog w=.ok (.tuple #[v,.bool true]) w:=by simp[Instr.typeAssert,run_underlying Tryz.underlying121]
theorem ubF(v:Value)(w:World):(Instr.typeAssert (.iface 122 v) 63 121 true).run Tryz.prog w=.ok (.tuple #[.agg #[.nilIface,.nilIface],.bool false]) w:=by simp[Instr.typeAssert,run_underlying Tryz.underlying121,kv]
theorem ubG(v:Value)(w:World):(Instr.typeAssert (.iface 124 v) 63 121 true).run Tryz.prog w=.ok (.tuple #[.agg #[.nilIface,.nilIface],.bool false]) w:=by simp[Instr.typeAssert,run_underlying Tryz.underlying121,kv]
theorem ubH(v:Value)(w:World):(Instr.typeAssert (.iface 125 v) 63 121 true).run Tryz.prog w=.ok (.tuple #[.agg #[.nilIface,.nilIface],.bool false]) w:=by simp[Instr.typeAssert,run_underlying Tryz.underlying121,kv]
theorem ubI(v:Value)(w:World):(Instr.typeAssert (.iface 135 v) 63 121 true).run Tryz.prog w=.ok (.tuple #[.agg #[.nilIface,.nilIface],.bool false]) w:=by simp[Instr.typeAssert,run_underlying Tryz.underlying121,kv]
theorem ubJ(v:Value)(w:World):(Instr.typeAssert (.iface 115 v) 63 122 true).run Tryz.prog w=.ok (.tuple #[.agg #[.nilIface,.nilIface],.bool false]) w:=by simp[Instr.typeAssert,run_underlying Tryz.underlying122,kw]
theorem ubK(v:Value)(w:World):(Instr.typeAssert (.iface 117 v) 63 122 true).run Tryz.prog w=.ok (.tuple #[.agg #[.nilIface,.nilIface],.bool false]) w:=by simp[Instr.typeAssert,run_underlying Tryz.underlying122,kw]
theorem ubL(v:Value)(w:World):(Instr.typeAssert (.iface 119 v) 63 122 true).run Tryz.prog w=.ok (.tuple #[.agg #[.nilIface,.nilIface],.bool false]) w:=by simp[Instr.typeAssert,run_underlying Tryz.underlying122,kw]
theorem ubM(v:Value)(w:World):(Instr.typeAssert (.iface 121 v) 63 122 true).run Tryz.prog w=.ok (.tuple #[.agg #[.nilIface,.nilIface],.bool false]) w:=by simp[Instr.typeAssert,run_underlying Tryz.underlying122,kw]
theorem ubN(v:Value)(w:World):(Instr.typeAssert (.iface 122 v) 63 122 true).run Tryz.prog w=.ok (.tuple #[v,.bool true]) w:=by simp[Instr.typeAssert,run_underlying Tryz.underlying122]
theorem ubO(v:Value)(w:World):(Instr.typeAssert (.iface 124 v) 63 122 true).run Tryz.prog w=.ok (.tuple #[.agg #[.nilIface,.nilIface],.bool false]) w:=by simp[Instr.typeAssert,run_underlying Tryz.underlying122,kw]
theorem ubP(v:Value)(w:World):(Instr.typeAssert (.iface 125 v) 63 122 true).run Tryz.prog w=.ok (.tuple #[.agg #[.nilIface,.nilIface],.bool false]) w:=by simp[Instr.typeAssert,run_underlying Tryz.underlying122,kw]
theorem ubQ(v:Value)(w:World):(Instr.typeAssert (.iface 135 v) 63 122 true).run Tryz.prog w=.ok (.tuple #[.agg #[.nilIface,.nilIface],.bool false]) w:=by simp[Instr.typeAssert,run_underlying Tryz.underlying122,kw]
theorem ubR(v:Value)(w:World):(Instr.typeAssert (.iface 115 v) 63 124 true).run Tryz.prog w=.ok (.tuple #[.agg #[.nilIface],.bool false]) w:=by simp[Instr.typeAssert,run_underlying Tryz.underlying124,kz]
theorem ubS(v:Value)(w:World):(Instr.typeAssert (.iface 117 v) 63 124 true).run Tryz.prog w=.ok (.tuple #[.agg #[.nilIface],.bool false]) w:=by simp[Instr.typeAssert,run_underlying Tryz.underlying124,kz]
theorem ubT(v:Value)(w:World):(Instr.typeAssert (.iface 119 v) 63 124 true).run Tryz.prog w=.ok (.tuple #[.agg #[.nilIface],.bool false]) w:=by simp[Instr.typeAssert,run_underlying Tryz.underlying124,kz]
theorem ubU(v:Value)(w:World):(Instr.typeAssert (.iface 121 v) 63 124 true).run Tryz.prog w=.ok (.tuple #[.agg #[.nilIface],.bool false]) w:=by simp[Instr.typeAssert,run_underlying Tryz.underlying124,kz]
theorem ubV(v:Value)(w:World):(Instr.typeAssert (.iface 122 v) 63 124 true).run Tryz.prog w=.ok (.tuple #[.agg #[.nilIface],.bool false]) w:=by simp[Instr.typeAssert,run_underlying Tryz.underlying124,kz]
theorem ubW(v:Value)(w:World):(Instr.typeAssert (.iface 124 v) 63 124 true).run Tryz.prog w=.ok (.tuple #[v,.bool true]) w:=by simp[Instr.typeAssert,run_underlying Tryz.underlying124]
theorem ubX(v:Value)(w:World):(Instr.typeAssert (.iface 125 v) 63 124 true).run Tryz.prog w=.ok (.tuple #[.agg #[.nilIface],.bool false]) w:=by simp[Instr.typeAssert,run_underlying Tryz.underlying124,kz]
theorem ubY(v:Value)(w:World):(Instr.typeAssert (.iface 135 v) 63 124 true).run Tryz.prog w=.ok (.tuple #[.agg #[.nilIface],.bool false]) w:=by simp[Instr.typeAssert,run_underlying Tryz.underlying124,kz]
theorem ubZ(v:Value)(w:World):(Instr.typeAssert (.iface 115 v) 63 125 true).run Tryz.prog w=.ok (.tuple #[.agg #[.nilIface],.bool false]) w:=by simp[Instr.typeAssert,run_underlying Tryz.underlying125,kB]
theorem ub0(v:Value)(w:World):(Instr.typeAssert (.iface 117 v) 63 125 true).run Tryz.prog w=.ok (.tuple #[.agg #[.nilIface],.bool false]) w:=by simp[Instr.typeAssert,run_underlying Tryz.underlying125,kB]
theorem ub1(v:Value)(w:World):(Instr.typeAssert (.iface 119 v) 63 125 true).run Tryz.prog w=.ok (.tuple #[.agg #[.nilIface],.bool false]) w:=by simp[Instr.typeAssert,run_underlying Tryz.underlying125,kB]
theorem ub2(v:Value)(w:World):(Instr.typeAssert (.iface 121 v) 63 125 true).run Tryz.prog w=.ok (.tuple #[.agg #[.nilIface],.bool false]) w:=by simp[Instr.typeAssert,run_underlying Tryz.underlying125,kB]
theorem ub3(v:Value)(w:World):(Instr.typeAssert (.iface 122 v) 63 125 true).run Tryz.prog w=.ok (.tuple #[.agg #[.nilIface],.bool false]) w:=by simp[Instr.typeAssert,run_underlying Tryz.underlying125,kB]
theorem ub4(v:Value)(w:World):(Instr.typeAssert (.iface 124 v) 63 125 true).run Tryz.prog w=.ok (.tuple #[.agg #[.nilIface],.bool false]) w:=by simp[Instr.typeAssert,run_underlying Tryz.underlying125,kB]
theorem ub5(v:Value)(w:World):(Instr.typeAssert (.iface 125 v) 63 125 true).run Tryz.prog w=.ok (.tuple #[v,.bool true]) w:=by simp[Instr.typeAssert,run_underlying Tryz.underlying125]
theorem ub6(v:Value)(w:World):(Instr.typeAssert (.iface 135 v) 63 125 true).run Tryz.prog w=.ok (.tuple #[.agg #[.nilIface],.bool false]) w:=by simp[Instr.typeAssert,run_underlying Tryz.underlying125,kB]
theorem Bod.more{O S:Nat→Prop}{L:Nat→Nat}{W2 W4:World}{v v4:Value}{l:List OC}{x:OC}(h:Bod O L W2 v l)(hO:∀b,O b→b<W2.heap.size)(hS:∀b,S b→b<W2.heap.size∧¬O b)(hset:OwnC S W2 (.slice x.a x.d.sl x.c) 1 x.d.sl (uz .i64 x.d.set x.d.sl))
  (own:OwnC (fun b=>(O b∧L b=0)∨W2.heap.size≤b) W4 v4 3 (l.length+1) (uA l++ocv x)) (g4:Grew (fun b=>O b∧L b=0) W2 W4) :
  ∃L4,Bod (fun b=>O b∨S b∨New W2 W4 b) L4 W4 v4 (l++[x]):=by
 classical
 refine⟨fun b=>if W2.heap.size≤b then 0 else if S b then l.length+1 else L b,?_,fun i y hy=>?_⟩
 ·have hn:l.length+1=(l++[x]).length:=by simp
  have hc:uA l++ocv x=uA (l++[x]):=by simp[uA]
  rw[←hn,←hc];rcases own with⟨_,q,_⟩|⟨g,cap,e,hq,h3,h4,h5,h6⟩
  ·omega
  refine .inr ⟨g,cap,e,?_,h3,h4,h5,h6⟩;have hg:g<W4.heap.size:=by
   have hlen:0<(uA l++ocv x).length:=by rw[List.length_append,jV];omega
   have h:=h5 0 hlen;rw[List.getElem?_eq_getElem hlen]at h;exact ub h
  rcases hq with⟨q1,q2⟩ | q
  ·have q3:=hO g q1
   exact⟨.inl q1,by simp only[if_neg (show ¬W2.heap.size≤g by omega),if_neg (fun z=>(hS g z).2 q1),q2]⟩
  ·exact⟨.inr (.inr ⟨q,hg⟩),by simp only[if_pos q]⟩
 ·by_cases e:i<l.length
  ·rw[List.getElem?_append_left e]at hy
   refine uo ((h.sets i y hy).on (w':=W4) (fun b hb=>g4.block b (hO b hb.1) (fun q=>by have:=hb.2;have:=q.2;omega))) (fun b hb=>⟨.inl hb.1,?_⟩)
   have:=hO b hb.1;simp only[if_neg (show ¬W2.heap.size≤b by omega),if_neg (fun z=>(hS b z).2 hb.1),hb.2]
  ·rw[List.getElem?_append_right (by omega)]at hy
   obtain⟨j,hj⟩:∃j,i-l.length=j:=⟨_,rfl⟩;rw[hj]at hy;match j,hy with
   |0,hy =>
    cases hy
    refine uo (hset.on (w':=W4) (fun b hb=>g4.block b (hS b hb).1 (fun q=>(hS b hb).2 q.1))) (fun b hb=>⟨.inr (.inl hb),?_⟩)
    have:=(hS b hb).1;simp only[if_neg (show ¬W2.heap.size≤b by omega),if_pos hb]
    omega
theorem aoS{ops:Array Oper}{rest:List Oper}{o:Oper}{a:Act}{P':Exit→Act→World→Prop}{W2:World}(hgd:o.guard=none)(s x:Operand)(ho:o.op=.call { callee:=.builtin .append,args:=#[s,x],argTypes:=#[37,37] })
  {v:Value} {D:List OpD} {O S:Nat→Prop} {k g:Int} {xa:Option Addr} {xn xc y:Nat} {ty:TypeId} (d:OpD) (hk:d.kind=k) (hn:d.sl=xn) (hg:d.arg=g) (hs:a.eval s=v) (hx:a.eval x=.slice (some ⟨y,0,none⟩) 1 1) (hy:y=W2.heap.size) (h1:BodP O W2 v D) (hO:∀b,O b→b<W2.heap.size) (hS:∀b,S b→b<W2.heap.size∧¬O b) (hset:OwnC S W2 (.slice xa d.sl xc) 1 d.sl (uz .i64 d.set d.sl)) (hlen:D.length+1≤16777216)
  (h:∀a' c' n' W3,Hid (n'=(D++[d]).length)→Hid (BodP (fun b=>O b∨S b∨New W2 W3 b) W3 (.slice a' n' c') (D++[d]))→Hid (Keep O W2 W3)→wpList Tryz.prog ops P' rest (a.put o.dst (.slice a' n' c')) W3):wpList Tryz.prog ops P' (o::rest) a (W2.alloc (.cells #[.int .i64 k,.slice xa xn xc,.int .i64 g] ty)):=by
 subst hk hn hg hy;obtain⟨L,l,hb,hl⟩:=h1;have e1:l.length=D.length:=by rw[←hl,List.length_map]
 have ka:Keep (fun _=>False) W2 (W2.alloc (.cells #[.int .i64 d.kind,.slice xa d.sl xc,.int .i64 d.arg] ty)):=Keep.alloc _ _ _
 have hsz:(W2.alloc (.cells #[.int .i64 d.kind,.slice xa d.sl xc,.int .i64 d.arg] ty)).heap.size=W2.heap.size+1:=by simp
 have hb2:Bod O L (W2.alloc (.cells #[.int .i64 d.kind,.slice xa d.sl xc,.int .i64 d.arg] ty)) v l:=hb.on (fun b q=>ka.block b (hO b q) (fun z=>z))
 refine uai hgd s x 37 37 ho hs hx jk (Q:=fun b=>O b∧L b=0) (n:=l.length) (cs:=uA l) (m:=1) (news:=ocv ⟨d,xa,xc⟩) hb2.own (uhL (x:=⟨d,xa,xc⟩) (World.alloc_heap_new W2 _)) (by omega) ?_
 intro v3 W3 hown hgrew hsz3;obtain⟨a3,c3,rfl⟩:=um hown;obtain⟨L4,hB⟩:=Bod.more (x:=⟨d,xa,xc⟩) hb2 (fun b q=>by have:=hO b q;omega) (fun b q=>⟨by have:=(hS b q).1;omega,(hS b q).2⟩) (hset.on (fun b q=>ka.block b (hS b q).1 (fun z=>z))) hown hgrew
 refine h a3 c3 _ W3 (by show _=_;rw[List.length_append,e1];rfl) ⟨L4,_,hB.wide (fun b q=>⟨q.imp id (fun q=>q.imp id (fun q=>⟨by have:=q.1;omega,q.2⟩)),rfl⟩),by rw[List.map_append,hl];rfl⟩ ?_
 have kg:=hgrew.kept;exact⟨kg.os.trans ka.os,kg.tape.trans ka.tape,kg.output.trans ka.output,Nat.le_trans ka.size kg.size,fun b hb hc=>(kg.block b (by omega) (fun q=>hc q.1)).trans (ka.block b hb (fun z=>z))⟩
inductive TrV(w:World)(rs ls:List (List Int)):Value→(Nat→Prop)→List OpD→Prop
 |set (z:List Int) (a:Option Addr) (c:Nat) (P:Nat→Prop):OwnC P w (.slice a z.length c) 1 z.length (uz .i64 (lf z) z.length)→TrV w rs ls (.iface 115 (.agg #[.slice a z.length c])) P (ui z)
 |ref (z:List Int) (P:Nat→Prop):z∈rs→TrV w rs ls (.iface 117 (.agg #[.string (str z.length (lf z))])) P (uf 2 (vV z rs 0))
 |thr (z:List Int) (P:Nat→Prop):z∈ls→TrV w rs ls (.iface 119 (.agg #[.string (str z.length (lf z))])) P (uf 3 (vV z ls 0))
 |seq (u u':Value) (Pa Pb P:Nat→Prop) (D D':List OpD):TrV w rs ls u Pa D→TrV w rs ls u' Pb D'→(∀b,Pa b→P b)→(∀b,Pb b→P b)→(∀b,Pa b→¬Pb b)→TrV w rs ls (.iface 121 (.agg #[u,u'])) P (uw 4 D D')
 |alt (u u':Value) (Pa Pb P:Nat→Prop) (D D':List OpD):TrV w rs ls u Pa D→TrV w rs ls u' Pb D'→(∀b,Pa b→P b)→(∀b,Pb b→P b)→(∀b,Pa b→¬Pb b)→TrV w rs ls (.iface 122 (.agg #[u,u'])) P (uw 5 D D')
 |star (u:Value) (P:Nat→Prop) (D:List OpD):TrV w rs ls u P D→TrV w rs ls (.iface 124 (.agg #[u])) P (unD 6 D)
 |not (u:Value) (P:Nat→Prop) (D:List OpD):TrV w rs ls u P D→TrV w rs ls (.iface 125 (.agg #[u])) P (unD 7 D)
 |emp (P:Nat→Prop):TrV w rs ls ues P (uf 0 0)
theorem TrV.iface{w:World}{rs ls:List (List Int)}{v:Value}{P:Nat→Prop}{D:List OpD}(h:TrV w rs ls v P D):∃ty u,v=.iface ty u:=by
 cases h<;>exact⟨_,_,rfl⟩
theorem uf7(z:List Int)(x y:Int):xQ ((z++[x])++[y])=uw 4 (xQ (z++[x])) (ui (ur y)):=by
 cases z with
 |nil=>rfl
 |cons c r =>
  simp only[List.cons_append,xQ];rw[List.foldl_append];simp[uw]
theorem StrN.trv{w:World}{rs ls:List (List Int)}:∀(z:List Int) {v:Value} {P:Nat→Prop},StrN w z v P→TrV w rs ls v P (xQ z.reverse)
 | [],v,P,h=>by
  have h:v=ues:=h;subst h;exact .emp P
 | [x],v,P,h=>by
  obtain⟨a,c,rfl,h⟩:=h;exact .set (ur x) a c P h
 |y::x::r,v,P,h=>by
  obtain⟨u,u',Pa,Pb,rfl,h1,h2,h3,h4,⟨a,c,rfl,h5⟩⟩:=h;have h6:=StrN.trv (rs:=rs) (ls:=ls) (x::r) h4;rw[List.reverse_cons]at h6;rw[List.reverse_cons,List.reverse_cons,uf7];exact .seq _ _ Pa Pb P _ _ h6 (.set (ur y) a c Pb h5) h1 h2 h3
theorem TrA.trv{w:World}{rs ls:List (List Int)}:∀(e:PE) {v:Value} {P:Nat→Prop},TrA w e v P→(∀t∈e.refT,t.nm∈rs)→(∀t∈e.thrT,t.nm∈ls)→TrV w rs ls v P (e.ops rs ls):=by
 intro e;induction e with
 |ref t =>
  intro v P h h1 h2;have h:v=.iface 117 (.agg #[.string (str t.nm.length (lf t.nm))]):=h;subst h;exact .ref t.nm P (h1 t (by simp[PE.refT]))
 |thr c t =>
  intro v P h h1 h2;have h:v=.iface 119 (.agg #[.string (str t.nm.length (lf t.nm))]):=h;subst h;exact .thr t.nm P (h2 t (by simp[PE.thrT]))
 |str t =>
  intro v P h h1 h2;have:=StrN.trv (rs:=rs) (ls:=ls) _ (show StrN w t.nm.reverse v P from h)
  rw[List.reverse_reverse]at this;exact this
 |cls t =>
  intro v P h h1 h2;obtain⟨a,c,rfl,h⟩:=h;exact .set t.set a c P h
 |dot t =>
  intro v P h h1 h2;obtain⟨a,c,rfl,h⟩:=h;exact .set [0,255] a c P h
 |grp o e c ih=>exact fun h h1 h2=>ih h h1 h2
 |star e t ih =>
  rintro v P ⟨u,rfl,h⟩ h1 h2;exact .star u P _ (ih h h1 h2)
 |opt e t ih =>
  rintro v P ⟨u,rfl,h⟩ h1 h2;exact .alt u ues P (fun _=>False) P _ _ (ih h h1 h2) (.emp _) (fun b q=>q) (fun b q=>q.elim) (fun b q z=>z)
 |not t e ih =>
  rintro v P ⟨u,rfl,h⟩ h1 h2;exact .not u P _ (ih h h1 h2)
 |amp t e ih =>
  rintro v P ⟨u,rfl,h⟩ h1 h2;exact .not _ P _ (.not u P _ (ih h h1 h2))
 |emp =>
  intro v P h h1 h2;have h:v=ues:=h;subst h;exact .emp P
 |seq a b iha ihb =>
  rintro v P ⟨u,u',Pa,Pb,rfl,k1,k2,k3,h,h'⟩ h1 h2;exact .seq u u' Pa Pb P _ _ (iha h (fun t q=>h1 t (List.mem_append.2 (.inl q))) (fun t q=>h2 t (List.mem_append.2 (.inl q)))) (ihb h' (fun t q=>h1 t (List.mem_append.2 (.inr q))) (fun t q=>h2 t (List.mem_append.2 (.inr q)))) k1 k2 k3
 |alt a t b iha ihb =>
  rintro v P ⟨u,u',Pa,Pb,rfl,k1,k2,k3,h,h'⟩ h1 h2;exact .alt u u' Pa Pb P _ _ (iha h (fun t q=>h1 t (List.mem_append.2 (.inl q))) (fun t q=>h2 t (List.mem_append.2 (.inl q)))) (ihb h' (fun t q=>h1 t (List.mem_append.2 (.inr q))) (fun t q=>h2 t (List.mem_append.2 (.inr q)))) k1 k2 k3
end
section
open Go.RowKit
open M (OpD uj Gr)
attribute [local go_sem] ubd ube ubf ubg ubh ubi ubj ubk ubl ubm ubn ubo ubp ubq ubr ubs ubt ubu ubv ubw ubx uby ubz ubA ubB ubC ubD ubE ubF ubG ubH ubI ubJ ubK ubL ubM ubN ubO ubP ubQ ubR ubS ubT ubU ubV ubW ubX ubY ubZ ub0 ub1 ub2 ub3 ub4 ub5 ub6
structure Nm2(w:World)(b1 b2:Nat)(rs ls:List (List Int)):Prop where
 rules:MapN w b1 rs (ixN rs)
 labs:MapN w b2 ls (ixN ls)
theorem Nm2.on{w w':World}{b1 b2:Nat}{rs ls:List (List Int)}(h:Nm2 w b1 b2 rs ls)(e1:w'.heap[b1]? = w.heap[b1]?)(e2:w'.heap[b2]? = w.heap[b2]?):Nm2 w' b1 b2 rs ls:=⟨h.rules.on e1,h.labs.on e2⟩
def ufp(O P:Nat→Prop)(D:List OpD)(w:World)(e:Ending)(w':World):Prop :=
 ∃a c n,e=.returned (.slice a n c)∧n=D.length∧BodP (fun b=>O b∨P b∨New w w' b) w' (.slice a n c) D∧Keep (fun b=>O b∨P b) w w'
def AoC(w:World)(b1 b2:Nat)(rs ls:List (List Int))(v:Value)(P:Nat→Prop)(D:List OpD):Prop :=
 ∀(W:World) (O:Nat→Prop) (a:Option Addr) (c n:Nat) (D0:List OpD),Stay P w W→(∀b,P b→b<W.heap.size∧¬O b)→(∀b,O b→b<W.heap.size)→Nm2 W b1 b2 rs ls→¬O b1→¬O b2→¬P b1→¬P b2→BodP O W (.slice a n c) D0→n=D0.length→D0.length+D.length≤1000000 →
  Calls Tryz.prog 41 #[.agg #[.map (some b1),.map (some b2)],.slice a n c,v] W (ufp O P (D0++D) W)
theorem qi{O P S:Nat→Prop}{W W2 W3:World}{D:List OpD}{a:Option Addr}{c n:Nat}(hK:Keep (fun b=>O b∨P b) W W2)(hS:∀b,S b→O b∨P b∨New W W2 b){O2:Nat→Prop}(hO2:∀b,O2 b→O b∨P b∨New W W2 b)(hn:n=D.length)(hB:BodP (fun b=>O2 b∨S b∨New W2 W3 b) W3 (.slice a n c) D)(k3:Keep O2 W2 W3):ufp O P D W (.returned (.slice a n c)) W3:=by
 have z1:=hK.size;have z3:=k3.size;have nm:∀b,New W W2 b→New W W3 b:=fun b q=>⟨q.1,by have:=q.2;omega⟩
 refine⟨a,c,n,rfl,hn,hB.wide (fun b q=>?_),⟨k3.os.trans hK.os,k3.tape.trans hK.tape,k3.output.trans hK.output,by omega,fun b hb hc=>?_⟩⟩
 ·rcases q with q | q | q
  ·exact (hO2 b q).imp id (fun q=>q.imp id (nm b))
  ·exact (hS b q).imp id (fun q=>q.imp id (nm b))
  ·exact .inr (.inr ⟨by have:=q.1;omega,q.2⟩)
 ·refine (k3.block b (by omega) (fun q=>?_)).trans (hK.block b hb hc)
  rcases hO2 b q with z | z | z
  ·exact hc (.inl z)
  ·exact hc (.inr z)
  ·have:=z.1;omega
set_option maxHeartbeats 1000000 in
set_option maxRecDepth 100000 in
theorem uoy(w:World)(b1 b2:Nat)(rs ls:List (List Int))(P:Nat→Prop):AoC w b1 b2 rs ls ues P (uf 0 0):=by
 intro W O a c n D0 hst hP hO hN _ _ _ _ hB hn hl;have HB:Hid (BodP O W (.slice a n c) D0):=hB;have HO:Hid (∀b,O b→b<W.heap.size):=hO;have HL:Hid (D0.length+1≤16777216):=by
   have h:D0.length+1≤1000000:=hl;have h2:D0.length+1≤16777216:=by omega
   exact h2
 clear hB hO hst hP hN hl hn;go_enter Tryz.func41,Tryz.ntmps41;have HK:Hid (Keep (fun b=>O b∨P b) W (W.alloc (.cells #[.map (some b1),.map (some b2)] 59))):=(Keep.alloc _ _ _)
 have HB1:Hid (BodP O (W.alloc (.cells #[.map (some b1),.map (some b2)] 59)) (.slice a n c) D0):=HB.out.on (fun b q=>(Keep.alloc (fun _=>False) W (.cells #[.map (some b1),.map (some b2)] 59)).block b (HO.out b q) (fun z=>z))
 go_wp2_with (at_builtin;refine aoS rfl _ _ rfl (opd 0 0) rfl rfl rfl rfl rfl (by simp) HB1.out (S:=fun _=>False) (fun b q=>by have:=HO.out b q;simp;omega) (fun b q=>q.elim) (.inl ⟨rfl,rfl,rfl⟩) HL.out ?_;intro a' c' n' W3 hn' hB' hK')
 go_ret;exact qi HK.out (fun b q=>q.elim) (fun b q=>.inl q) hn'.out hB'.out hK'.out
theorem BodP.alloc{O:Nat→Prop}{W:World}{v:Value}{D:List OpD}(h:BodP O W v D)(hO:∀b,O b→b<W.heap.size)(o:Obj):BodP O (W.alloc o) v D:=h.on (fun b q=>(Keep.alloc (fun _=>False) W o).block b (hO b q) (fun z=>z))
theorem ueD{O:Nat→Prop}{W:World}{v:Value}{n m:Nat}{cs:List Value}(h:OwnC O W v n m cs)(hO:∀b,O b→b<W.heap.size)(o:Obj):OwnC O (W.alloc o) v n m cs:=h.on (fun b q=>(Keep.alloc (fun _=>False) W o).block b (hO b q) (fun z=>z))
theorem uJ{O:Nat→Prop}{W:World}(hO:∀b,O b→b<W.heap.size)(o:Obj):∀b,O b→b<(W.alloc o).heap.size:=fun b q=>by have:=hO b q;simp;omega
theorem ucZ(args:Array Value)(w:World):(callFunc 41 args).run Tryz.prog w=.ok (.enter 41 args) w:=by
 simp[callFunc,Tryz.func41,Tryz.f41,go_sem]
set_option maxHeartbeats 1000000 in
set_option maxRecDepth 100000 in
theorem uoz(w:World)(b1 b2:Nat)(rs ls:List (List Int))(z:List Int)(sa:Option Addr)(sc:Nat)(P:Nat→Prop)(hS:OwnC P w (.slice sa z.length sc) 1 z.length (uz .i64 (lf z) z.length)):AoC w b1 b2 rs ls (.iface 115 (.agg #[.slice sa z.length sc])) P (ui z):=by
 intro W O a c n D0 hst hP hO hN _ _ _ _ hB hn hl;have HK:Hid (Keep (fun b=>O b∨P b) W ((W.alloc (.cells #[.map (some b1),.map (some b2)] 59)).alloc (.cells #[.slice sa z.length sc] 115))):=(Keep.alloc _ _ _).trans (Keep.alloc _ _ _)
 have HB:Hid (BodP O ((W.alloc (.cells #[.map (some b1),.map (some b2)] 59)).alloc (.cells #[.slice sa z.length sc] 115)) (.slice a n c) D0):=(hB.alloc hO _).alloc (uJ hO _) _;have HO:Hid (∀b,O b→b<((W.alloc (.cells #[.map (some b1),.map (some b2)] 59)).alloc (.cells #[.slice sa z.length sc] 115)).heap.size):=uJ (uJ hO _) _;have HP:Hid (∀b,P b→b<((W.alloc (.cells #[.map (some b1),.map (some b2)] 59)).alloc (.cells #[.slice sa z.length sc] 115)).heap.size∧¬O b):=fun b q=>⟨uJ (uJ (fun b q=>(hP b q).1) _) _ b q,(hP b q).2⟩
 have HS:Hid (OwnC P ((W.alloc (.cells #[.map (some b1),.map (some b2)] 59)).alloc (.cells #[.slice sa z.length sc] 115)) (.slice sa z.length sc) 1 z.length (uz .i64 (lf z) z.length)):=ueD (ueD (hS.on hst) (fun b q=>(hP b q).1) _) (uJ (fun b q=>(hP b q).1) _) _
 have hl':D0.length+1≤1000000:=hl;have HL:Hid (D0.length+1≤16777216):=Nat.le_trans hl' (by omega)
 clear hB hO hst hP hN hl hn hS hl';go_enter Tryz.func41,Tryz.ntmps41;go_wp2_with (at_builtin;refine aoS rfl _ _ rfl (sod z) rfl rfl rfl rfl rfl (by simp) HB.out (S:=P) HO.out HP.out HS.out HL.out ?_;intro a' c' n' W3 hn' hB' hK')
 go_ret;exact qi HK.out (fun b q=>.inr (.inl q)) (fun b q=>.inl q) hn'.out hB'.out hK'.out
set_option maxHeartbeats 1000000 in
set_option maxRecDepth 100000 in
theorem uoA(w:World)(b1 b2:Nat)(rs ls:List (List Int))(z:List Int)(P:Nat→Prop)(hz:z∈rs):AoC w b1 b2 rs ls (.iface 117 (.agg #[.string (str z.length (lf z))])) P (uf 2 (vV z rs 0)):=by
 intro W O a c n D0 hst hP hO hN _ _ _ _ hB hn hl;have e:vV z rs 0=((udq rs (ixN rs) z:Nat):Int):=by
  rw[uax hz];unfold udq;rw[if_pos hz,Nat.zero_add]
 rw[e];have HK:Hid (Keep (fun b=>O b∨P b) W ((W.alloc (.cells #[.map (some b1),.map (some b2)] 59)).alloc (.cells #[.string (str z.length (lf z))] 117))):=(Keep.alloc _ _ _).trans (Keep.alloc _ _ _)
 have HB:Hid (BodP O ((W.alloc (.cells #[.map (some b1),.map (some b2)] 59)).alloc (.cells #[.string (str z.length (lf z))] 117)) (.slice a n c) D0):=(hB.alloc hO _).alloc (uJ hO _) _;have HO:Hid (∀b,O b→b<((W.alloc (.cells #[.map (some b1),.map (some b2)] 59)).alloc (.cells #[.string (str z.length (lf z))] 117)).heap.size):=uJ (uJ hO _) _;have HM:Hid (MapN ((W.alloc (.cells #[.map (some b1),.map (some b2)] 59)).alloc (.cells #[.string (str z.length (lf z))] 117)) b1 rs (ixN rs)):=(hN.rules.alloc _).alloc _;have HZ:Hid (BytL z∧z.length≤1000000):=⟨hN.rules.byt z hz,hN.rules.sml z hz⟩;have hl':D0.length+1≤1000000:=hl;have HL:Hid (D0.length+1≤16777216):=Nat.le_trans hl' (by omega)
 clear hB hO hst hP hN hl hn hz hl' e;go_enter Tryz.func41,Tryz.ntmps41;go_wp2_with (first
  | (at_lookup;refine ule _ rfl _ _ rfl b1 rs (ixN rs) z rfl HM.out rfl HZ.out.1 HZ.out.2 ?_)
  | (at_builtin;refine aoS rfl _ _ rfl (opd 2 (udq rs (ixN rs) z:Nat)) rfl rfl rfl rfl rfl (by simp) HB.out (S:=fun _=>False) HO.out (fun b q=>q.elim) (.inl ⟨rfl,rfl,rfl⟩) HL.out ?_;intro a' c' n' W3 hn' hB' hK'))
 go_ret;exact qi HK.out (fun b q=>q.elim) (fun b q=>.inl q) hn'.out hB'.out hK'.out
set_option maxHeartbeats 1000000 in
set_option maxRecDepth 100000 in
theorem uoB(w:World)(b1 b2:Nat)(rs ls:List (List Int))(z:List Int)(P:Nat→Prop)(hz:z∈ls):AoC w b1 b2 rs ls (.iface 119 (.agg #[.string (str z.length (lf z))])) P (uf 3 (vV z ls 0)):=by
 intro W O a c n D0 hst hP hO hN _ _ _ _ hB hn hl;have e:vV z ls 0=((udq ls (ixN ls) z:Nat):Int):=by
  rw[uax hz];unfold udq;rw[if_pos hz,Nat.zero_add]
 rw[e];have HK:Hid (Keep (fun b=>O b∨P b) W ((W.alloc (.cells #[.map (some b1),.map (some b2)] 59)).alloc (.cells #[.string (str z.length (lf z))] 119))):=(Keep.alloc _ _ _).trans (Keep.alloc _ _ _)
 have HB:Hid (BodP O ((W.alloc (.cells #[.map (some b1),.map (some b2)] 59)).alloc (.cells #[.string (str z.length (lf z))] 119)) (.slice a n c) D0):=(hB.alloc hO _).alloc (uJ hO _) _;have HO:Hid (∀b,O b→b<((W.alloc (.cells #[.map (some b1),.map (some b2)] 59)).alloc (.cells #[.string (str z.length (lf z))] 119)).heap.size):=uJ (uJ hO _) _;have HM:Hid (MapN ((W.alloc (.cells #[.map (some b1),.map (some b2)] 59)).alloc (.cells #[.string (str z.length (lf z))] 119)) b2 ls (ixN ls)):=(hN.labs.alloc _).alloc _;have HZ:Hid (BytL z∧z.length≤1000000):=⟨hN.labs.byt z hz,hN.labs.sml z hz⟩;have hl':D0.length+1≤1000000:=hl;have HL:Hid (D0.length+1≤16777216):=Nat.le_trans hl' (by omega)
 clear hB hO hst hP hN hl hn hz hl' e;go_enter Tryz.func41,Tryz.ntmps41;go_wp2_with (first
  | (at_lookup;refine ule _ rfl _ _ rfl b2 ls (ixN ls) z rfl HM.out rfl HZ.out.1 HZ.out.2 ?_)
  | (at_builtin;refine aoS rfl _ _ rfl (opd 3 (udq ls (ixN ls) z:Nat)) rfl rfl rfl rfl rfl (by simp) HB.out (S:=fun _=>False) HO.out (fun b q=>q.elim) (.inl ⟨rfl,rfl,rfl⟩) HL.out ?_;intro a' c' n' W3 hn' hB' hK'))
 go_ret;exact qi HK.out (fun b q=>q.elim) (fun b q=>.inl q) hn'.out hB'.out hK'.out
set_option maxHeartbeats 1000000 in
set_option maxRecDepth 100000 in
theorem um4(w:World)(b1 b2:Nat)(rs ls:List (List Int))(ty:TypeId)(u:Value)(P:Nat→Prop)(D:List OpD)(hU:AoC w b1 b2 rs ls (.iface ty u) P D):AoC w b1 b2 rs ls (.iface 124 (.agg #[.iface ty u])) P (unD 6 D):=by
 intro W O a c n D0 hst hP hO hN n1 n2 n3 n4 hB hn hl;have hl':D0.length+D.length+1≤1000000:=by
  have h:=hl;simp only[unD,List.length_append,List.length_singleton]at h;omega
 have ka:Keep (fun _=>False) W ((W.alloc (.cells #[.map (some b1),.map (some b2)] 59)).alloc (.cells #[.iface ty u] 124)):=(Keep.alloc _ _ _).trans (Keep.alloc _ _ _)
 have HK:Hid (Keep (fun b=>O b∨P b) W ((W.alloc (.cells #[.map (some b1),.map (some b2)] 59)).alloc (.cells #[.iface ty u] 124))):=(Keep.alloc _ _ _).trans (Keep.alloc _ _ _)
 have HC:Hid (Calls Tryz.prog 41 #[.agg #[.map (some b1),.map (some b2)],.slice a n c,.iface ty u] ((W.alloc (.cells #[.map (some b1),.map (some b2)] 59)).alloc (.cells #[.iface ty u] 124)) (ufp O P (D0++D) ((W.alloc (.cells #[.map (some b1),.map (some b2)] 59)).alloc (.cells #[.iface ty u] 124)))) :=
  hU _ O a c n D0 (fun b q=>(ka.block b (hP b q).1 (fun z=>z)).trans (hst b q)) (fun b q=>⟨uJ (uJ (fun b q=>(hP b q).1) _) _ b q,(hP b q).2⟩) (uJ (uJ hO _) _) ⟨(hN.rules.alloc _).alloc _,(hN.labs.alloc _).alloc _⟩ n1 n2 n3 n4 ((hB.alloc hO _).alloc (uJ hO _) _) hn (by omega)
 have HOP:Hid (∀b,O b∨P b→b<((W.alloc (.cells #[.map (some b1),.map (some b2)] 59)).alloc (.cells #[.iface ty u] 124)).heap.size):=uJ (uJ (fun b q=>q.elim (hO b) (fun z=>(hP b z).1)) _) _
 have HL:Hid ((D0++D).length+1≤16777216):=by
  have h:(D0++D).length+1≤16777216:=by rw[List.length_append];omega
  exact h
 clear hB hO hst hP hN hl hn hU hl' ka;go_enter Tryz.func41,Tryz.ntmps41;go_wp2_with fail;refine HC.out.mono ?_;rintro e W2 ⟨a2,c2,m2,rfl,hm2,hB2,hK2⟩;have HB2:Hid (BodP (fun b=>O b∨P b∨New ((W.alloc (.cells #[.map (some b1),.map (some b2)] 59)).alloc (.cells #[.iface ty u] 124)) W2 b) W2 (.slice a2 m2 c2) (D0++D)):=hB2
 have HK2:Hid (Keep (fun b=>O b∨P b) W W2):=HK.out.trans hK2
 have HO2:Hid (∀b,O b∨P b∨New ((W.alloc (.cells #[.map (some b1),.map (some b2)] 59)).alloc (.cells #[.iface ty u] 124)) W2 b→b<W2.heap.size):=fun b q=>by
  rcases q with q | q | q
  ·exact Nat.lt_of_lt_of_le (HOP.out b (.inl q)) hK2.size
  ·exact Nat.lt_of_lt_of_le (HOP.out b (.inr q)) hK2.size
  ·exact q.2
 have HO3:Hid (∀b,O b∨P b∨New ((W.alloc (.cells #[.map (some b1),.map (some b2)] 59)).alloc (.cells #[.iface ty u] 124)) W2 b→O b∨P b∨New W W2 b):=fun b q=>q.imp id (fun q=>q.imp id (fun q=>⟨Nat.le_trans HK.out.size q.1,q.2⟩))
 clear hm2 hB2 hK2 HC;go_wp2_with (at_builtin;refine aoS rfl _ _ rfl (opd 6 0) rfl rfl rfl rfl rfl (by first|rfl | simp) HB2.out (S:=fun _=>False) HO2.out (fun b q=>q.elim) (.inl ⟨rfl,rfl,rfl⟩) HL.out ?_;intro a' c' n' W3 hn' hB' hK')
 go_ret;have hfin:=qi HK2.out (fun b q=>q.elim) HO3.out hn'.out hB'.out hK'.out
 rw[List.append_assoc]at hfin;exact hfin
set_option maxHeartbeats 1000000 in
set_option maxRecDepth 100000 in
theorem uoC(w:World)(b1 b2:Nat)(rs ls:List (List Int))(ty:TypeId)(u:Value)(P:Nat→Prop)(D:List OpD)(hU:AoC w b1 b2 rs ls (.iface ty u) P D):AoC w b1 b2 rs ls (.iface 125 (.agg #[.iface ty u])) P (unD 7 D):=by
 intro W O a c n D0 hst hP hO hN n1 n2 n3 n4 hB hn hl;have hl':D0.length+D.length+1≤1000000:=by
  have h:=hl;simp only[unD,List.length_append,List.length_singleton]at h;omega
 have ka:Keep (fun _=>False) W ((W.alloc (.cells #[.map (some b1),.map (some b2)] 59)).alloc (.cells #[.iface ty u] 125)):=(Keep.alloc _ _ _).trans (Keep.alloc _ _ _)
 have HK:Hid (Keep (fun b=>O b∨P b) W ((W.alloc (.cells #[.map (some b1),.map (some b2)] 59)).alloc (.cells #[.iface ty u] 125))):=(Keep.alloc _ _ _).trans (Keep.alloc _ _ _)
 have HC:Hid (Calls Tryz.prog 41 #[.agg #[.map (some b1),.map (some b2)],.slice a n c,.iface ty u] ((W.alloc (.cells #[.map (some b1),.map (some b2)] 59)).alloc (.cells #[.iface ty u] 125)) (ufp O P (D0++D) ((W.alloc (.cells #[.map (some b1),.map (some b2)] 59)).alloc (.cells #[.iface ty u] 125)))) :=
  hU _ O a c n D0 (fun b q=>(ka.block b (hP b q).1 (fun z=>z)).trans (hst b q)) (fun b q=>⟨uJ (uJ (fun b q=>(hP b q).1) _) _ b q,(hP b q).2⟩) (uJ (uJ hO _) _) ⟨(hN.rules.alloc _).alloc _,(hN.labs.alloc _).alloc _⟩ n1 n2 n3 n4 ((hB.alloc hO _).alloc (uJ hO _) _) hn (by omega)
 have HOP:Hid (∀b,O b∨P b→b<((W.alloc (.cells #[.map (some b1),.map (some b2)] 59)).alloc (.cells #[.iface ty u] 125)).heap.size):=uJ (uJ (fun b q=>q.elim (hO b) (fun z=>(hP b z).1)) _) _
 have HL:Hid ((D0++D).length+1≤16777216):=by
  have h:(D0++D).length+1≤16777216:=by rw[List.length_append];omega
  exact h
 clear hB hO hst hP hN hl hn hU hl' ka;go_enter Tryz.func41,Tryz.ntmps41;go_wp2_with fail;refine HC.out.mono ?_;rintro e W2 ⟨a2,c2,m2,rfl,hm2,hB2,hK2⟩;have HB2:Hid (BodP (fun b=>O b∨P b∨New ((W.alloc (.cells #[.map (some b1),.map (some b2)] 59)).alloc (.cells #[.iface ty u] 125)) W2 b) W2 (.slice a2 m2 c2) (D0++D)):=hB2
 have HK2:Hid (Keep (fun b=>O b∨P b) W W2):=HK.out.trans hK2
 have HO2:Hid (∀b,O b∨P b∨New ((W.alloc (.cells #[.map (some b1),.map (some b2)] 59)).alloc (.cells #[.iface ty u] 125)) W2 b→b<W2.heap.size):=fun b q=>by
  rcases q with q | q | q
  ·exact Nat.lt_of_lt_of_le (HOP.out b (.inl q)) hK2.size
  ·exact Nat.lt_of_lt_of_le (HOP.out b (.inr q)) hK2.size
  ·exact q.2
 have HO3:Hid (∀b,O b∨P b∨New ((W.alloc (.cells #[.map (some b1),.map (some b2)] 59)).alloc (.cells #[.iface ty u] 125)) W2 b→O b∨P b∨New W W2 b):=fun b q=>q.imp id (fun q=>q.imp id (fun q=>⟨Nat.le_trans HK.out.size q.1,q.2⟩))
 clear hm2 hB2 hK2 HC;go_wp2_with (at_builtin;refine aoS rfl _ _ rfl (opd 7 0) rfl rfl rfl rfl rfl (by first|rfl | simp) HB2.out (S:=fun _=>False) HO2.out (fun b q=>q.elim) (.inl ⟨rfl,rfl,rfl⟩) HL.out ?_;intro a' c' n' W3 hn' hB' hK')
 go_ret;have hfin:=qi HK2.out (fun b q=>q.elim) HO3.out hn'.out hB'.out hK'.out
 rw[List.append_assoc]at hfin;exact hfin
end
end Go.Proofs.YthicmmhmmfhncaaGreat
