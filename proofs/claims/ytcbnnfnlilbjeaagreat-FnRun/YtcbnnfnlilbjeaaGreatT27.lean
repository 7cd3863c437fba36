import Derived.Test.YtcbnnfnlilbjeaaGreatT26
set_option linter.unusedVariables false
set_option linter.unusedSimpArgs false
namespace Go.Proofs.YtcbnnfnlilbjeaaGreat
section
open Go.RowKit
open M (OpD NodeD Gr InsD)
def evv(e:EvD):List Value:=[.int .i64 e.kind,.int .i64 e.arg,.int .i64 e.pos]
def cellsE(l:List EvD):List Value:=l.flatMap evv
theorem cellsE_snoc(l:List EvD)(e:EvD):cellsE (l++[e])=cellsE l++evv e:=by simp[cellsE]
theorem flat_take{α:Type}(f:α→List Value)(k:Nat)(h:∀x,(f x).length=k):∀(l:List α) (j:Nat),(l.take j).flatMap f=(l.flatMap f).take (j*k)
 | [],j=>by simp
 |x::l,0=>by simp
 |x::l,j+1=>by
  rw[List.take_succ_cons,List.flatMap_cons,List.flatMap_cons,flat_take f k h l j,List.take_append,h x,show (j+1)*k-k=j*k by rw[Nat.add_mul];omega,List.take_of_length_le (l:=f x) (by rw[h x,Nat.add_mul];omega)]
theorem cellsF_take(l:List FrD)(j:Nat):cellsF (l.take j)=(cellsF l).take (j*4):=flat_take frv 4 (fun _=>rfl) l j
theorem cellsE_take(l:List EvD)(j:Nat):cellsE (l.take j)=(cellsE l).take (j*3):=flat_take evv 3 (fun _=>rfl) l j
theorem own_take{Q:Nat→Prop}{w:World}{a:Option Addr}{sz n c:Nat}{cs:List Value}(h:OwnC Q w (.slice a n c) sz n cs){j:Nat}(hj:j≤n):OwnC Q w (.slice a j c) sz j (cs.take (j*sz)):=by
 rcases h with⟨e,e1,e2⟩|⟨g,cap,e,hq,h3,h4,h5,h6⟩
 ·obtain rfl:j=0:=by omega
  subst e1;exact .inl ⟨e,rfl,by rw[e2];simp⟩
 ·obtain⟨rfl,rfl⟩:a=some ⟨g,0,none⟩∧c=cap:=by injection e with e1 e2 e3;exact⟨e1,e3⟩
  have hm:j*sz≤n*sz:=Nat.mul_le_mul_right _ hj;refine .inr ⟨g,c,rfl,hq,by rw[List.length_take,h3];omega,by omega,fun i hi=>?_,h6⟩
  rw[List.length_take]at hi;rw[h5 i (by omega),List.getElem?_take_of_lt (by omega)]
structure SpA(K L X:Nat→Prop)(w:World)(s:MSt)(ka:Option Addr)(kc:Nat)(la:Option Addr)(lc:Nat)(xa:Option Addr)(xn:Nat):Prop where
 st:OwnC K w (.slice ka s.st.length kc) 4 s.st.length (cellsF s.st)
 log:OwnC L w (.slice la s.log.length lc) 3 s.log.length (cellsE s.log)
 ex:ExA X w xa xn s.exp
 lt:∀b,K b∨L b∨X b→b<w.heap.size
 kl:∀b,K b→¬L b
 kx:∀b,K b→¬X b
 lx:∀b,L b→¬X b
theorem own_cap{Q:Nat→Prop}{w:World}{a:Option Addr}{sz n c:Nat}{cs:List Value}(h:OwnC Q w (.slice a n c) sz n cs):n≤c:=by
 rcases h with⟨e,e1,_⟩|⟨g,cap,e,hq,h3,h4,h5,h6⟩
 ·omega
 ·injection e with _ _ e3;omega
theorem fail_shape(s:MSt):s.fail=s.fin 1∨∃(j:Nat) (f:FrD),j≤s.st.length∧s.fail={ s with st:=s.st.take j,pos:=f.pos,log:=s.log.take f.log,at_:=f.to }:=by
 unfold MSt.fail;cases hu:unwind s.st.reverse with
 |none=>exact .inl rfl
 |some p =>
  obtain⟨f,r⟩:=p;obtain⟨hk,p,hp⟩:=unwind_some hu;have hst:s.st=r.reverse++(f::p.reverse):=by
   have:=congrArg List.reverse hp;simpa using this
  refine .inr ⟨r.length,f,by rw[hst,List.length_append,List.length_reverse];omega,?_⟩
  have:s.st.take r.length=r.reverse:=by rw[hst,List.take_left' (by simp)]
  rw[this]
theorem SpA.cut{K L X:Nat→Prop}{w:World}{s t:MSt}{ka:Option Addr}{kc:Nat}{la:Option Addr}{lc:Nat}{xa:Option Addr}{xn:Nat}(h:SpA K L X w s ka kc la lc xa xn){j i:Nat}(hs:t.st=s.st.take j)(hl:t.log=s.log.take i)(he:t.exp=s.exp):SpA K L X w t ka kc la lc xa xn:=by
 refine⟨?_,?_,by rw[he];exact h.ex,h.lt,h.kl,h.kx,h.lx⟩
 ·have e:t.st=s.st.take (min j s.st.length):=by rw[hs];by_cases q:j≤s.st.length;rw[Nat.min_eq_left q];rw[Nat.min_eq_right (by omega),List.take_of_length_le (by omega),List.take_of_length_le (Nat.le_refl _)]
  rw[e,cellsF_take,List.length_take,Nat.min_eq_left (Nat.min_le_right _ _)];exact own_take h.st (Nat.min_le_right _ _)
 ·have e:t.log=s.log.take (min i s.log.length):=by rw[hl];by_cases q:i≤s.log.length;rw[Nat.min_eq_left q];rw[Nat.min_eq_right (by omega),List.take_of_length_le (by omega),List.take_of_length_le (Nat.le_refl _)]
  rw[e,cellsE_take,List.length_take,Nat.min_eq_left (Nat.min_le_right _ _)];exact own_take h.log (Nat.min_le_right _ _)
theorem SpA.same{K L X:Nat→Prop}{w:World}{s t:MSt}{ka:Option Addr}{kc:Nat}{la:Option Addr}{lc:Nat}{xa:Option Addr}{xn:Nat}(h:SpA K L X w s ka kc la lc xa xn)(hs:t.st=s.st)(hl:t.log=s.log)(he:t.exp=s.exp):SpA K L X w t ka kc la lc xa xn:=by
 refine⟨?_,?_,by rw[he];exact h.ex,h.lt,h.kl,h.kx,h.lx⟩
 ·rw[hs];exact h.st
 ·rw[hl];exact h.log
theorem SpA.fail{K L X:Nat→Prop}{w:World}{s:MSt}{ka:Option Addr}{kc:Nat}{la:Option Addr}{lc:Nat}{xa:Option Addr}{xn:Nat}(h:SpA K L X w s ka kc la lc xa xn):SpA K L X w s.fail ka kc la lc xa xn:=by
 rcases fail_shape s with e | ⟨j,f,_,e⟩
 ·rw[e];exact h.same rfl rfl rfl
 ·rw[e];exact h.cut (j:=j) (i:=f.log) rfl rfl rfl
theorem SpA.pop{K L X:Nat→Prop}{w:World}{s:MSt}{ka:Option Addr}{kc:Nat}{la:Option Addr}{lc:Nat}{xa:Option Addr}{xn:Nat}(h:SpA K L X w s ka kc la lc xa xn):SpA K L X w s.pop ka kc la lc xa xn :=
 h.cut (j:=s.st.length-1) (i:=s.log.length) (by unfold MSt.pop;exact List.dropLast_eq_take) (by unfold MSt.pop;rw[List.take_of_length_le (Nat.le_refl _)]) rfl
theorem SpA.on{K L X:Nat→Prop}{w w':World}{s:MSt}{ka:Option Addr}{kc:Nat}{la:Option Addr}{lc:Nat}{xa:Option Addr}{xn:Nat}(h:SpA K L X w s ka kc la lc xa xn)(k:∀b,K b∨L b∨X b→w'.heap[b]? = w.heap[b]?)(hs:w.heap.size≤w'.heap.size):SpA K L X w' s ka kc la lc xa xn :=
 ⟨h.st.on (fun b hb=>k b (.inl hb)),h.log.on (fun b hb=>k b (.inr (.inl hb))),h.ex.on (fun b hb=>k b (.inr (.inr hb))),fun b hb=>Nat.lt_of_lt_of_le (h.lt b hb) hs,h.kl,h.kx,h.lx⟩
structure Only(P:Nat→Prop)(w w':World):Prop where
 os:w'.os=w.os
 tape:w'.tape=w.tape
 output:w'.output=w.output
 size:w'.heap.size=w.heap.size
 block:∀b,¬P b→w'.heap[b]? = w.heap[b]?
theorem Only.refl(P:Nat→Prop)(w:World):Only P w w:=⟨rfl,rfl,rfl,rfl,fun _ _=>rfl⟩
theorem Only.set{P:Nat→Prop}{w w':World}(h:Only P w w')(b o:Nat)(v:Value)(hb:P b):Only P w (w'.setCell ⟨b,o,none⟩ v) :=
 ⟨h.os,h.tape,h.output,by rw[size_set];exact h.size,fun x hx=>(Below.heap_setCell _ _ _ x (fun e=>hx (by simp at e;rw[e];exact hb))).trans (h.block x hx)⟩
theorem blk_cell{w:World}{b j:Nat}{c:Array Value}{t:TypeId}{v:Value}(h:w.heap[b]? = some (.cells c t))(hv:c[j]? = some v):w.cell? ⟨b,j,none⟩=some v:=by
 simp only[World.cell?,h];exact hv
theorem blk_frz{w:World}{b j:Nat}{c:Array Value}{t:TypeId}(h:w.heap[b]? = some (.cells c t)):w.frozen? ⟨b,j,none⟩=false:=by
 simp only[World.frozen?,h];simp
theorem blk_new(w:World)(o:Obj)(b:Nat)(hb:b=w.heap.size):(w.alloc o).heap[b]? = some o:=by subst hb;exact World.alloc_heap_new w o
theorem blk_old{w:World}{b:Nat}{c:Obj}(h:w.heap[b]? = some c)(o:Obj):(w.alloc o).heap[b]? = some c:=by
 rw[Below.heap_alloc w _ _ (by have:=(Array.getElem?_eq_some_iff.1 h).1;exact this)];exact h
def Bxs(w:World)(b:Nat):Prop:=w.heap.size≤b∧b<w.heap.size+3
def DoIs(t:MSt)(K L X:Nat→Prop)(w:World)(e:Ending)(w':World):Prop :=
 ∃ka kc la lc xa xn xc,∃K' L' X':Nat→Prop,e=.returned (stV t ka kc la lc xa xn xc)∧SpA K' L' X' w' t ka kc la lc xa xn ∧
  (∀b,K' b→K b∨New w w' b)∧(∀b,L' b→L b∨New w w' b)∧(∀b,X' b→X b∨New w w' b)∧Kept (fun b=>K b∨L b) w w'
theorem do_end{t:MSt}{K L X K' L' X':Nat→Prop}{w W W':World}{ka:Option Addr}{kc:Nat}{la:Option Addr}{lc:Nat}{xa:Option Addr}{xn xc:Nat}(hA:SpA K' L' X' W t ka kc la lc xa xn)
  (hlt:∀b,K b∨L b∨X b→b<w.heap.size) (hK:∀b,K' b→K b∨w.heap.size+3≤b) (hL:∀b,L' b→L b∨w.heap.size+3≤b) (hX:∀b,X' b→X b∨w.heap.size+3≤b) (hk:Kept (fun b=>K b∨L b) w W) (ho:Only (Bxs w) W W') :
  DoIs t K L X w (.returned (stV t ka kc la lc xa xn xc)) W':=by
 have hs:=ho.size;have hn:∀b,K' b∨L' b∨X' b→¬Bxs w b:=fun b hb q=>by
  have q1:=q.1;have q2:=q.2;rcases hb with hb | hb | hb
  ·rcases hK b hb with h | h
   ·have:=hlt b (.inl h);omega
   ·omega
  ·rcases hL b hb with h | h
   ·have:=hlt b (.inr (.inl h));omega
   ·omega
  ·rcases hX b hb with h | h
   ·have:=hlt b (.inr (.inr h));omega
   ·omega
 refine⟨ka,kc,la,lc,xa,xn,xc,K',L',X',rfl,hA.on (fun b hb=>ho.block b (hn b hb)) (by omega),fun b hb=>?_,fun b hb=>?_,fun b hb=>?_,?_⟩
 ·exact (hK b hb).imp id (fun h=>⟨by omega,by rw[hs];exact hA.lt b (.inl hb)⟩)
 ·exact (hL b hb).imp id (fun h=>⟨by omega,by rw[hs];exact hA.lt b (.inr (.inl hb))⟩)
 ·exact (hX b hb).imp id (fun h=>⟨by omega,by rw[hs];exact hA.lt b (.inr (.inr hb))⟩)
 ·exact⟨ho.os.trans hk.os,ho.tape.trans hk.tape,ho.output.trans hk.output,by rw[hs];exact hk.size,fun b hb hq=>(ho.block b (fun q=>by have:=q.1;omega)).trans (hk.block b hb hq)⟩
structure Pre4(K L X:Nat→Prop)(w:World)(s:MSt)(ka:Option Addr)(kc:Nat)(la:Option Addr)(lc:Nat)(xa:Option Addr)(xn:Nat):Prop where
 a:SpA K L X w s ka kc la lc xa xn
 len:s.st.length≤1000
 logl:s.log.length≤1048576
 last:∀f,f∈s.st→f.kind≠2→f.log≤s.log.length
 at0:0≤s.at_
 at1:s.at_≤1048576
 thr:s.throws≤1048576
end
section
open Go.RowKit
open M (OpD NodeD Gr InsD)
theorem push_log(s:MSt)(f:FrD)(m:Int):(s.push f m).log=s.log:=by unfold MSt.push;split<;>rfl
theorem push_exp(s:MSt)(f:FrD)(m:Int):(s.push f m).exp=s.exp:=by unfold MSt.push;split<;>rfl
theorem spa_push{K L X:Nat→Prop}{w Z W:World}{s t:MSt}{ka ka':Option Addr}{kc kc':Nat}{la:Option Addr}{lc:Nat}{xa:Option Addr}{xn:Nat}(hA:SpA K L X w s ka kc la lc xa xn)(hZ:Below w.heap.size w Z)(hO:OwnC (fun b=>K b∨New Z W b) W (.slice ka' t.st.length kc') 4 t.st.length (cellsF t.st))(hk:Kept K Z W)(hl:t.log=s.log)(he:t.exp=s.exp){lo:Nat}(h0:w.heap.size≤lo)(h1:lo≤Z.heap.size) :
  SpA (fun b=>K b∨lo≤b∧b<W.heap.size) L X W t ka' kc' la lc xa xn∧Kept (fun b=>K b∨L b) w W:=by
 have hzs:=hZ.size;have hws:=hk.size;refine⟨⟨ownC_wide hO (fun b hb=>hb.imp id (fun q=>⟨Nat.le_trans h1 q.1,q.2⟩)),?_,?_,fun b hb=>?_,fun b hb hL=>?_,fun b hb hX=>?_,hA.lx⟩,⟨hk.os.trans hZ.os,hk.tape.trans hZ.tape,hk.output.trans hZ.output,by omega,fun b hb hq=>(hk.block b (by omega) (fun q=>hq (.inl q))).trans (hZ.block b hb)⟩⟩
 ·rw[hl]
  exact hA.log.on (fun b hb=>(hk.block b (by have:=hA.lt b (.inr (.inl hb));omega) (fun q=>hA.kl b q hb)).trans (hZ.block b (hA.lt b (.inr (.inl hb)))))
 ·rw[he]
  exact hA.ex.on (fun b hb=>(hk.block b (by have:=hA.lt b (.inr (.inr hb));omega) (fun q=>hA.kx b q hb)).trans (hZ.block b (hA.lt b (.inr (.inr hb)))))
 ·rcases hb with (hb | hb) | hb
  ·have:=hA.lt b (.inl hb);omega
  ·exact hb.2
  ·have:=hA.lt b (.inr hb);omega
 ·rcases hb with hb | hb
  ·exact hA.kl b hb hL
  ·have:=hA.lt b (.inr (.inl hL));have:=hb.1;omega
 ·rcases hb with hb | hb
  ·exact hA.kx b hb hX
  ·have:=hA.lt b (.inr (.inr hX));have:=hb.1;omega
set_option maxRecDepth 100000 in
set_option maxHeartbeats 16000000 in
theorem do_choice(K L X Q Q':Nat→Prop)(s:MSt)(ka la xa:Option Addr)(kc lc xn xc:Nat)(ag to_:Int)(sa:Option Addr)(sn sc:Nat)(S:Nat→Int)(ia:Option Addr)(il ic:Nat)(I:Nat→Int)(most:Int)(w:World)(hP:Pre4 K L X w s ka kc la lc xa xn)(hS:Ints Q .i64 w sa sn S)(hI:Ints Q' .u8 w ia il I)(hB:Byt il I)(hsn:sn≤1048576)(hil:il≤1048576) :
  Calls Tryz.prog 19 #[stV s ka kc la lc xa xn xc,.agg #[.int .i64 1,.int .i64 ag,.int .i64 to_,.slice sa sn sc],.slice ia il ic,.int .i64 most] w (DoIs (s.act ⟨1,ag,to_,sn,S⟩ il I most) K L X w):=by
 obtain⟨n,hnn⟩:∃n,s.st.length=n:=⟨_,rfl⟩;obtain⟨ln,hll⟩:∃ln,s.log.length=ln:=⟨_,rfl⟩;have HN:Hid (s.st.length=n):=hnn;have HLL:Hid (s.log.length=ln):=hll;have HV:Hid (stV s ka kc la lc xa xn xc=.agg #[.int .i64 s.at_,.int .i64 (s.pos:Int),.slice ka n kc,.slice la ln lc,.int .i64 (s.far:Int),.slice xa xn xc,.int .i64 (s.steps:Int),.int .i64 (s.throws:Int),.bool s.done,.int .i64 s.code,.int .i64 s.label]):=by
  show _=_;unfold stV;rw[hnn,hll]
 rw[HV.out];have HP:Hid (Pre4 K L X w s ka kc la lc xa xn):=hP;have HS:Hid (Ints Q .i64 w sa sn S):=hS;have HI:Hid (Ints Q' .u8 w ia il I):=hI;have HBY:Hid (Byt il I):=hB;have at0:=hP.at0;have at1:=hP.at1;have thr:=hP.thr;have hn:=hP.len;rw[hnn]at hn;have hlg:=hP.logl;rw[hll]at hlg;clear hP hS hI hB hnn hll;have HT0:Hid (s.act ⟨1,ag,to_,sn,S⟩ il I most=({ s with at_:=s.at_+1 }).push ⟨0,to_,s.pos,ln⟩ most):=by show _=_;unfold MSt.act;rw[if_neg (by simp),if_pos rfl];unfold MSt.hold;rw[HLL.out]
 go_enter Tryz.func19,Tryz.ntmps19;obtain⟨t,ht⟩:∃t,({ s with at_:=s.at_+1 }).push ⟨0,to_,s.pos,ln⟩ most=t:=⟨_,rfl⟩
 have HTP:Hid (({ s with at_:=s.at_+1 }).push ⟨0,to_,s.pos,ln⟩ most=t):=ht
 have HT:Hid (s.act ⟨1,ag,to_,sn,S⟩ il I most=t):=by show _=_;rw[HT0.out,ht]
 have HV2:Hid (stV ({ s with at_:=s.at_+1 }) ka kc la lc xa xn xc=.agg #[.int .i64 (s.at_+1),.int .i64 (s.pos:Int),.slice ka n kc,.slice la ln lc,.int .i64 (s.far:Int),.slice xa xn xc,.int .i64 (s.steps:Int),.int .i64 (s.throws:Int),.bool s.done,.int .i64 s.code,.int .i64 s.label]):=by
  show _=_;unfold stV;first|(simp only[HN.out,HLL.out];done)|(simp only[HN.out,HLL.out];rfl)
 go_wp2_with fail;have hc:=fun W h1 h2=>l4push_any K ({ s with at_:=s.at_+1 }) ⟨0,to_,s.pos,ln⟩ most ka la xa kc lc xn xc W h1 h2 HP.out.len
 simp only[ht,HV2.out]at hc;refine (hc _ (HP.out.a.st.on (fun b hb=>(bel_tr (bel3 w _ _ _) (bel1 _ _)).block b (HP.out.a.lt b (.inl hb)))) (fun b hb=>by have h1:=HP.out.a.lt b (.inl hb);simp;omega)).mono ?_
 clear hc ht;rintro e W ⟨ka2,kc2,rfl,hO,hk⟩;have hy:W.heap[w.heap.size+1+1]? = some (.cells #[.int .i64 0,.int .i64 0,.slice none 0 0,.slice none 0 0,.int .i64 0,.slice none 0 0,.int .i64 0,.int .i64 0,.bool false,.int .i64 0,.int .i64 0] 55):=(hk.block _ (by simp) (fun q=>by have:=HP.out.a.lt _ (.inl q);omega)).trans (blk_old (blk_new _ _ (w.heap.size+1+1) (by simp)) _)
 have y0:=blk_cell (j:=0) hy rfl;have y1:=blk_cell (j:=1) hy rfl;have y2:=blk_cell (j:=2) hy rfl;have y3:=blk_cell (j:=3) hy rfl;have y4:=blk_cell (j:=4) hy rfl;have y5:=blk_cell (j:=5) hy rfl;have y6:=blk_cell (j:=6) hy rfl;have y7:=blk_cell (j:=7) hy rfl;have y8:=blk_cell (j:=8) hy rfl;have y9:=blk_cell (j:=9) hy rfl;have y10:=blk_cell (j:=10) hy rfl;have q0:=blk_frz (j:=0) hy;have q1:=blk_frz (j:=1) hy;have q2:=blk_frz (j:=2) hy;have q3:=blk_frz (j:=3) hy;have q4:=blk_frz (j:=4) hy;have q5:=blk_frz (j:=5) hy;have q6:=blk_frz (j:=6) hy;have q7:=blk_frz (j:=7) hy;have q8:=blk_frz (j:=8) hy;have q9:=blk_frz (j:=9) hy;have q10:=blk_frz (j:=10) hy;have lw:w.heap.size+1+1<W.heap.size:=lt_of_cell y0;obtain⟨hA,hK1⟩:=spa_push HP.out.a (bel_tr (bel3 w _ _ _) (bel1 _ _)) hO hk (by rw[←HTP.out];exact push_log _ _ _) (by rw[←HTP.out];exact push_exp _ _ _) (lo:=w.heap.size+3) (by omega) (by simp)
 have HA:Hid (SpA (fun b=>K b∨w.heap.size+3≤b∧b<W.heap.size) L X W t ka2 kc2 la lc xa xn):=hA
 have HK1:Hid (Kept (fun b=>K b∨L b) w W):=hK1
 clear hO hk hA hK1 hy;unfold stV;go_wp2;refine bodyPost_ret (v:=stV t ka2 kc2 la lc xa xn xc) ?_ rfl ?_
 ·unfold stV
  simp[results,Tryz.f19,go_sem, *]
 ·rw[HT.out]
  exact do_end HA.out HP.out.a.lt (fun b hb=>hb.imp id And.left) (fun b hb=>.inl hb) (fun b hb=>.inl hb) HK1.out (Only.set (Only.set (Only.set (Only.set (Only.set (Only.set (Only.set (Only.set (Only.set (Only.set (Only.set (Only.refl _ _) _ _ _ ⟨by omega,by omega⟩) _ _ _ ⟨by omega,by omega⟩) _ _ _ ⟨by omega,by omega⟩) _ _ _ ⟨by omega,by omega⟩) _ _ _ ⟨by omega,by omega⟩) _ _ _ ⟨by omega,by omega⟩) _ _ _ ⟨by omega,by omega⟩) _ _ _ ⟨by omega,by omega⟩) _ _ _ ⟨by omega,by omega⟩) _ _ _ ⟨by omega,by omega⟩) _ _ _ ⟨by omega,by omega⟩)
set_option maxRecDepth 100000 in
set_option maxHeartbeats 16000000 in
theorem do_not(K L X Q Q':Nat→Prop)(s:MSt)(ka la xa:Option Addr)(kc lc xn xc:Nat)(ag to_:Int)(sa:Option Addr)(sn sc:Nat)(S:Nat→Int)(ia:Option Addr)(il ic:Nat)(I:Nat→Int)(most:Int)(w:World)(hP:Pre4 K L X w s ka kc la lc xa xn)(hS:Ints Q .i64 w sa sn S)(hI:Ints Q' .u8 w ia il I)(hB:Byt il I)(hsn:sn≤1048576)(hil:il≤1048576) :
  Calls Tryz.prog 19 #[stV s ka kc la lc xa xn xc,.agg #[.int .i64 4,.int .i64 ag,.int .i64 to_,.slice sa sn sc],.slice ia il ic,.int .i64 most] w (DoIs (s.act ⟨4,ag,to_,sn,S⟩ il I most) K L X w):=by
 obtain⟨n,hnn⟩:∃n,s.st.length=n:=⟨_,rfl⟩;obtain⟨ln,hll⟩:∃ln,s.log.length=ln:=⟨_,rfl⟩;have HN:Hid (s.st.length=n):=hnn;have HLL:Hid (s.log.length=ln):=hll;have HV:Hid (stV s ka kc la lc xa xn xc=.agg #[.int .i64 s.at_,.int .i64 (s.pos:Int),.slice ka n kc,.slice la ln lc,.int .i64 (s.far:Int),.slice xa xn xc,.int .i64 (s.steps:Int),.int .i64 (s.throws:Int),.bool s.done,.int .i64 s.code,.int .i64 s.label]):=by
  show _=_;unfold stV;rw[hnn,hll]
 rw[HV.out];have HP:Hid (Pre4 K L X w s ka kc la lc xa xn):=hP;have HS:Hid (Ints Q .i64 w sa sn S):=hS;have HI:Hid (Ints Q' .u8 w ia il I):=hI;have HBY:Hid (Byt il I):=hB;have at0:=hP.at0;have at1:=hP.at1;have thr:=hP.thr;have hn:=hP.len;rw[hnn]at hn;have hlg:=hP.logl;rw[hll]at hlg;clear hP hS hI hB hnn hll;have HT0:Hid (s.act ⟨4,ag,to_,sn,S⟩ il I most=({ s with at_:=s.at_+1 }).push ⟨1,to_,s.pos,ln⟩ most):=by show _=_;unfold MSt.act;rw[if_neg (by simp),if_neg (by simp),if_pos rfl];unfold MSt.hold;rw[HLL.out]
 go_enter Tryz.func19,Tryz.ntmps19;obtain⟨t,ht⟩:∃t,({ s with at_:=s.at_+1 }).push ⟨1,to_,s.pos,ln⟩ most=t:=⟨_,rfl⟩
 have HTP:Hid (({ s with at_:=s.at_+1 }).push ⟨1,to_,s.pos,ln⟩ most=t):=ht
 have HT:Hid (s.act ⟨4,ag,to_,sn,S⟩ il I most=t):=by show _=_;rw[HT0.out,ht]
 have HV2:Hid (stV ({ s with at_:=s.at_+1 }) ka kc la lc xa xn xc=.agg #[.int .i64 (s.at_+1),.int .i64 (s.pos:Int),.slice ka n kc,.slice la ln lc,.int .i64 (s.far:Int),.slice xa xn xc,.int .i64 (s.steps:Int),.int .i64 (s.throws:Int),.bool s.done,.int .i64 s.code,.int .i64 s.label]):=by
  show _=_;unfold stV;first|(simp only[HN.out,HLL.out];done)|(simp only[HN.out,HLL.out];rfl)
 go_wp2_with fail;have hc:=fun W h1 h2=>l4push_any K ({ s with at_:=s.at_+1 }) ⟨1,to_,s.pos,ln⟩ most ka la xa kc lc xn xc W h1 h2 HP.out.len
 simp only[ht,HV2.out]at hc;refine (hc _ (HP.out.a.st.on (fun b hb=>(bel_tr (bel3 w _ _ _) (bel1 _ _)).block b (HP.out.a.lt b (.inl hb)))) (fun b hb=>by have h1:=HP.out.a.lt b (.inl hb);simp;omega)).mono ?_
 clear hc ht;rintro e W ⟨ka2,kc2,rfl,hO,hk⟩;have hy:W.heap[w.heap.size+1+1]? = some (.cells #[.int .i64 0,.int .i64 0,.slice none 0 0,.slice none 0 0,.int .i64 0,.slice none 0 0,.int .i64 0,.int .i64 0,.bool false,.int .i64 0,.int .i64 0] 55):=(hk.block _ (by simp) (fun q=>by have:=HP.out.a.lt _ (.inl q);omega)).trans (blk_old (blk_new _ _ (w.heap.size+1+1) (by simp)) _)
 have y0:=blk_cell (j:=0) hy rfl;have y1:=blk_cell (j:=1) hy rfl;have y2:=blk_cell (j:=2) hy rfl;have y3:=blk_cell (j:=3) hy rfl;have y4:=blk_cell (j:=4) hy rfl;have y5:=blk_cell (j:=5) hy rfl;have y6:=blk_cell (j:=6) hy rfl;have y7:=blk_cell (j:=7) hy rfl;have y8:=blk_cell (j:=8) hy rfl;have y9:=blk_cell (j:=9) hy rfl;have y10:=blk_cell (j:=10) hy rfl;have q0:=blk_frz (j:=0) hy;have q1:=blk_frz (j:=1) hy;have q2:=blk_frz (j:=2) hy;have q3:=blk_frz (j:=3) hy;have q4:=blk_frz (j:=4) hy;have q5:=blk_frz (j:=5) hy;have q6:=blk_frz (j:=6) hy;have q7:=blk_frz (j:=7) hy;have q8:=blk_frz (j:=8) hy;have q9:=blk_frz (j:=9) hy;have q10:=blk_frz (j:=10) hy;have lw:w.heap.size+1+1<W.heap.size:=lt_of_cell y0;obtain⟨hA,hK1⟩:=spa_push HP.out.a (bel_tr (bel3 w _ _ _) (bel1 _ _)) hO hk (by rw[←HTP.out];exact push_log _ _ _) (by rw[←HTP.out];exact push_exp _ _ _) (lo:=w.heap.size+3) (by omega) (by simp)
 have HA:Hid (SpA (fun b=>K b∨w.heap.size+3≤b∧b<W.heap.size) L X W t ka2 kc2 la lc xa xn):=hA
 have HK1:Hid (Kept (fun b=>K b∨L b) w W):=hK1
 clear hO hk hA hK1 hy;unfold stV;go_wp2;refine bodyPost_ret (v:=stV t ka2 kc2 la lc xa xn xc) ?_ rfl ?_
 ·unfold stV
  simp[results,Tryz.f19,go_sem, *]
 ·rw[HT.out]
  exact do_end HA.out HP.out.a.lt (fun b hb=>hb.imp id And.left) (fun b hb=>.inl hb) (fun b hb=>.inl hb) HK1.out (Only.set (Only.set (Only.set (Only.set (Only.set (Only.set (Only.set (Only.set (Only.set (Only.set (Only.set (Only.refl _ _) _ _ _ ⟨by omega,by omega⟩) _ _ _ ⟨by omega,by omega⟩) _ _ _ ⟨by omega,by omega⟩) _ _ _ ⟨by omega,by omega⟩) _ _ _ ⟨by omega,by omega⟩) _ _ _ ⟨by omega,by omega⟩) _ _ _ ⟨by omega,by omega⟩) _ _ _ ⟨by omega,by omega⟩) _ _ _ ⟨by omega,by omega⟩) _ _ _ ⟨by omega,by omega⟩) _ _ _ ⟨by omega,by omega⟩)
set_option maxRecDepth 100000 in
set_option maxHeartbeats 16000000 in
theorem do_call(K L X Q Q':Nat→Prop)(s:MSt)(ka la xa:Option Addr)(kc lc xn xc:Nat)(ag to_:Int)(sa:Option Addr)(sn sc:Nat)(S:Nat→Int)(ia:Option Addr)(il ic:Nat)(I:Nat→Int)(most:Int)(w:World)(hP:Pre4 K L X w s ka kc la lc xa xn)(hS:Ints Q .i64 w sa sn S)(hI:Ints Q' .u8 w ia il I)(hB:Byt il I)(hsn:sn≤1048576)(hil:il≤1048576) :
  Calls Tryz.prog 19 #[stV s ka kc la lc xa xn xc,.agg #[.int .i64 6,.int .i64 ag,.int .i64 to_,.slice sa sn sc],.slice ia il ic,.int .i64 most] w (DoIs (s.act ⟨6,ag,to_,sn,S⟩ il I most) K L X w):=by
 obtain⟨n,hnn⟩:∃n,s.st.length=n:=⟨_,rfl⟩;obtain⟨ln,hll⟩:∃ln,s.log.length=ln:=⟨_,rfl⟩;have HN:Hid (s.st.length=n):=hnn;have HLL:Hid (s.log.length=ln):=hll;have HV:Hid (stV s ka kc la lc xa xn xc=.agg #[.int .i64 s.at_,.int .i64 (s.pos:Int),.slice ka n kc,.slice la ln lc,.int .i64 (s.far:Int),.slice xa xn xc,.int .i64 (s.steps:Int),.int .i64 (s.throws:Int),.bool s.done,.int .i64 s.code,.int .i64 s.label]):=by
  show _=_;unfold stV;rw[hnn,hll]
 rw[HV.out];have HP:Hid (Pre4 K L X w s ka kc la lc xa xn):=hP;have HS:Hid (Ints Q .i64 w sa sn S):=hS;have HI:Hid (Ints Q' .u8 w ia il I):=hI;have HBY:Hid (Byt il I):=hB;have at0:=hP.at0;have at1:=hP.at1;have thr:=hP.thr;have hn:=hP.len;rw[hnn]at hn;have hlg:=hP.logl;rw[hll]at hlg;clear hP hS hI hB hnn hll;have HT0:Hid (s.act ⟨6,ag,to_,sn,S⟩ il I most=({ s with at_:=to_ }).push ⟨2,s.at_+1,0,0⟩ most):=by show _=_;unfold MSt.act;rw[if_neg (by simp),if_neg (by simp),if_neg (by simp),if_pos rfl];rfl
 go_enter Tryz.func19,Tryz.ntmps19;obtain⟨t,ht⟩:∃t,({ s with at_:=to_ }).push ⟨2,s.at_+1,0,0⟩ most=t:=⟨_,rfl⟩
 have HTP:Hid (({ s with at_:=to_ }).push ⟨2,s.at_+1,0,0⟩ most=t):=ht
 have HT:Hid (s.act ⟨6,ag,to_,sn,S⟩ il I most=t):=by show _=_;rw[HT0.out,ht]
 have HV2:Hid (stV ({ s with at_:=to_ }) ka kc la lc xa xn xc=.agg #[.int .i64 to_,.int .i64 (s.pos:Int),.slice ka n kc,.slice la ln lc,.int .i64 (s.far:Int),.slice xa xn xc,.int .i64 (s.steps:Int),.int .i64 (s.throws:Int),.bool s.done,.int .i64 s.code,.int .i64 s.label]):=by
  show _=_;unfold stV;first|(simp only[HN.out,HLL.out];done)|(simp only[HN.out,HLL.out];rfl)
 go_wp2_with fail;have hc:=fun W h1 h2=>l4push_any K ({ s with at_:=to_ }) ⟨2,s.at_+1,0,0⟩ most ka la xa kc lc xn xc W h1 h2 HP.out.len
 simp only[ht,HV2.out]at hc;refine (hc _ (HP.out.a.st.on (fun b hb=>(bel3 w _ _ _).block b (HP.out.a.lt b (.inl hb)))) (fun b hb=>by have h1:=HP.out.a.lt b (.inl hb);simp;omega)).mono ?_
 clear hc ht;rintro e W ⟨ka2,kc2,rfl,hO,hk⟩;have hy:W.heap[w.heap.size+1+1]? = some (.cells #[.int .i64 0,.int .i64 0,.slice none 0 0,.slice none 0 0,.int .i64 0,.slice none 0 0,.int .i64 0,.int .i64 0,.bool false,.int .i64 0,.int .i64 0] 55):=(hk.block _ (by simp) (fun q=>by have:=HP.out.a.lt _ (.inl q);omega)).trans (blk_new _ _ (w.heap.size+1+1) (by simp))
 have y0:=blk_cell (j:=0) hy rfl;have y1:=blk_cell (j:=1) hy rfl;have y2:=blk_cell (j:=2) hy rfl;have y3:=blk_cell (j:=3) hy rfl;have y4:=blk_cell (j:=4) hy rfl;have y5:=blk_cell (j:=5) hy rfl;have y6:=blk_cell (j:=6) hy rfl;have y7:=blk_cell (j:=7) hy rfl;have y8:=blk_cell (j:=8) hy rfl;have y9:=blk_cell (j:=9) hy rfl;have y10:=blk_cell (j:=10) hy rfl;have q0:=blk_frz (j:=0) hy;have q1:=blk_frz (j:=1) hy;have q2:=blk_frz (j:=2) hy;have q3:=blk_frz (j:=3) hy;have q4:=blk_frz (j:=4) hy;have q5:=blk_frz (j:=5) hy;have q6:=blk_frz (j:=6) hy;have q7:=blk_frz (j:=7) hy;have q8:=blk_frz (j:=8) hy;have q9:=blk_frz (j:=9) hy;have q10:=blk_frz (j:=10) hy;have lw:w.heap.size+1+1<W.heap.size:=lt_of_cell y0;obtain⟨hA,hK1⟩:=spa_push HP.out.a (bel3 w _ _ _) hO hk (by rw[←HTP.out];exact push_log _ _ _) (by rw[←HTP.out];exact push_exp _ _ _) (lo:=w.heap.size+3) (by omega) (by simp)
 have HA:Hid (SpA (fun b=>K b∨w.heap.size+3≤b∧b<W.heap.size) L X W t ka2 kc2 la lc xa xn):=hA
 have HK1:Hid (Kept (fun b=>K b∨L b) w W):=hK1
 clear hO hk hA hK1 hy;unfold stV;go_wp2;refine bodyPost_ret (v:=stV t ka2 kc2 la lc xa xn xc) ?_ rfl ?_
 ·unfold stV
  simp[results,Tryz.f19,go_sem, *]
 ·rw[HT.out]
  exact do_end HA.out HP.out.a.lt (fun b hb=>hb.imp id And.left) (fun b hb=>.inl hb) (fun b hb=>.inl hb) HK1.out (Only.set (Only.set (Only.set (Only.set (Only.set (Only.set (Only.set (Only.set (Only.set (Only.set (Only.set (Only.refl _ _) _ _ _ ⟨by omega,by omega⟩) _ _ _ ⟨by omega,by omega⟩) _ _ _ ⟨by omega,by omega⟩) _ _ _ ⟨by omega,by omega⟩) _ _ _ ⟨by omega,by omega⟩) _ _ _ ⟨by omega,by omega⟩) _ _ _ ⟨by omega,by omega⟩) _ _ _ ⟨by omega,by omega⟩) _ _ _ ⟨by omega,by omega⟩) _ _ _ ⟨by omega,by omega⟩) _ _ _ ⟨by omega,by omega⟩)
end
end Go.Proofs.YtcbnnfnlilbjeaaGreat
