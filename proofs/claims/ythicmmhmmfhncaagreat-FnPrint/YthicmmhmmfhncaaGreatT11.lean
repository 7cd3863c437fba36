import Derived.Test.YthicmmhmmfhncaaGreatT09
import Derived.Test.YthicmmhmmfhncaaGreatT08
import Derived.Test.YthicmmhmmfhncaaGreatT10
set_option linter.unusedVariables false
set_option linter.unusedSimpArgs false
namespace Go.Proofs.YthicmmhmmfhncaaGreat
section
open Go.RowKit
open M (OpD uj Gr)
def jW(D:List OpD)(p:Nat)(f:OpD→OpD):List OpD:=D.set p (f (df D p))
def uan(t:Tp)(i:Nat)(D:List OpD):List OpD×Nat :=
 let k:=t.v i%10
 let p:=t.v (t.n i)%D.length
 let j:=t.n (t.n i)
 if k=0 then (jW D p (fun o=>{ o with kind:=8 }),j)
 else if k=1 then (jW D p (fun o=>{ o with kind:=-1 }),j)
 else if k=2 then (jW D p (fun o=>{ o with kind:=((t.v j%8:Nat):Int) }),t.n j)
 else if k=3 then (jW D p (fun o=>{ o with arg:=wrap64 (o.arg+1) }),j)
 else if k=4 then (jW D p (fun o=>{ o with arg:=-1 }),j)
 else if k=5 then (jW D p (fun o=>{ o with sl:=o.sl+1,set:=fun i=>if i=o.sl then 7 else o.set i }),j)
 else if k=6 then (jW D p (fun o=>{ o with sl:=4,set:=lf [5,6,7,9] }),j)
 else if k=7 then (D.take (D.length-1),j)
 else if k=8 then (D++[opd 4 0],j)
 else (D++[opd 0 0],j)
theorem Bod.put{P:Nat→Prop}{L:Nat→Nat}{w:World}{g n c p j:Nat}{l:List OC}{x y:OC}{u:Value}(h:Bod P L w (.slice (some ⟨g,0,none⟩) n c) l)(hx:l[p]? = some x)(hj:j<3)(hy:ocv y=(ocv x).set j u)(hs:OwnC (fun b=>P b∧L b=p+1) w (.slice y.a y.d.sl y.c) 1 y.d.sl (uz .i64 y.d.set y.d.sl)) :
  Bod P L (w.setCell ⟨g,p*3+j,none⟩ u) (.slice (some ⟨g,0,none⟩) n c) (l.set p y):=by
 have hp:=(List.getElem?_eq_some_iff.1 hx).1;have hg:P g∧L g=0:=by
  rcases h.own with⟨e,_⟩|⟨g',cap,e,hq,_⟩
  ·cases e
  ·cases e;exact hq
 have hn:n=l.length:=by
  rcases h.own with⟨e,_⟩|⟨g',cap,e,hq,_⟩
  ·cases e
  ·injection e
 have st:∀i,Stay (fun b=>P b∧L b=i+1) w (w.setCell ⟨g,p*3+j,none⟩ u):=fun i b hb=>Below.heap_setCell _ _ _ _ (fun e=>by have e':b=g:=e;have h1:=hb.2;rw[e',hg.2]at h1;omega)
 refine⟨?_,fun i z hz=>?_⟩
 ·have ho:=h.own
  rw[hn]at ho ⊢;have:=OwnC.put ho (j:=p*3+j) (by rw[xD];omega) u
  unfold uA at this;rw[kI ocv 3 jV l p j x y u hx hj hy]at this;rw[List.length_set];exact this
 ·rcases zgetElem?_set' hx hz with⟨rfl,rfl⟩|⟨_,q⟩
  ·exact hs.on (st _)
  ·exact (h.sets i z q).on (st i)
def udO(t:Tp)(R:Nat)(P:Nat→Prop)(p:List OpD×Nat)(w:World)(e:Ending)(w':World):Prop :=
 ∃a c,e=.returned (.slice a p.1.length c)∧BodP (fun b=>P b∨New w w' b) w' (.slice a p.1.length c) p.1∧RdA t R w' p.2∧Keep (fun b=>b=R∨P b) w w'
theorem ugM{l:List OC}{p:Nat}{x:OC}(f:OpD→OpD)(y:OC)(hx:l[p]? = some x)(hy:y.d=f x.d):(l.set p y).map (·.d)=jW (l.map (·.d)) p f:=by
 unfold jW;rw[List.map_set,ulW hx,hy]
theorem udP{t:Tp}{R i:Nat}{P:Nat→Prop}{L:Nat→Nat}{w W:World}{g n c p j:Nat}{l:List OC}{x y:OC}{u:Value}{D:List OpD}(f:OpD→OpD)(hon:RdOn t R i w W)(hP:∀b,P b→b<w.heap.size∧R<b)(h:Bod P L w (.slice (some ⟨g,0,none⟩) n c) l)(hD:l.map (·.d)=D)(hn:D.length=n)(hx:l[p]? = some x)(hj:j<3)(hy:ocv y=(ocv x).set j u)(hyd:y.d=f x.d)(hs:OwnC (fun b=>P b∧L b=p+1) W (.slice y.a y.d.sl y.c) 1 y.d.sl (uz .i64 y.d.set y.d.sl)) :
  udO t R P (jW D p f,i) w (.returned (.slice (some ⟨g,0,none⟩) n c)) (W.setCell ⟨g,p*3+j,none⟩ u):=by
 have hg:P g:=by
  rcases h.own with⟨e,_⟩|⟨g',cap,e,hq,_⟩
  ·cases e
  ·cases e;exact hq.1
 have hW:Bod P L W (.slice (some ⟨g,0,none⟩) n c) l:=h.on (fun b hb=>hon.2.block b (hP b hb).1 (fun e=>by have:=(hP b hb).2;omega))
 have hlen:(jW D p f).length=n:=by unfold jW;rw[List.length_set];exact hn
 refine⟨some ⟨g,0,none⟩,c,by rw[hlen],?_,hon.1.keep (Keep.setCell (C:=fun b=>b=g) _ _ _ rfl) (fun b e=>by have:=(hP g hg).2;omega),(hon.2.mono (fun b e=>.inl e)).trans (Keep.setCell _ _ _ (.inr hg))⟩
 rw[hlen];exact⟨L,_,(hW.put hx hj hy hs).wide (fun b hb=>⟨.inl hb,rfl⟩),by rw[ugM f y hx hyd,hD]⟩
theorem uiP{t:Tp}{R i:Nat}{P:Nat→Prop}{L:Nat→Nat}{w W W2 W4:World}{v v4:Value}{l:List OC}{D:List OpD}{n:Nat}(k:Int)(hon:RdOn t R i w W)(hP:∀b,P b→b<w.heap.size∧R<b)(h:Bod P L w v l)(hD:l.map (·.d)=D)(hn:l.length=n)(k2:Keep (fun _=>False) W W2)
  (own:OwnC (fun b=>(P b∧L b=0)∨W2.heap.size≤b) W4 v4 3 (n+1) (uA l++uA [⟨opd k 0,none,0⟩])) (g4:Grew (fun b=>P b∧L b=0) W2 W4):udO t R P (D++[opd k 0],i) w (.returned v4) W4:=by
 have hW:Bod P L W2 v l:=(h.on (fun b hb=>hon.2.block b (hP b hb).1 (fun e=>by have:=(hP b hb).2;omega))).on (fun b hb=>k2.block b (by have:=(hP b hb).1;have:=hon.2.size;omega) (fun q=>q))
 have hlen:(D++[opd k 0]).length=n+1:=by rw[←hD,←hn];simp
 have z1:=hon.2.size;have z2:=k2.size;have z4:=g4.size;obtain⟨a,c,rfl⟩:=um own;refine⟨a,c,by rw[hlen],?_,(hon.1.keep k2 (fun _ q=>q.elim)).keep g4.kept (fun b q=>(hP b q.1).2),?_⟩
 ·rw[hlen]
  refine⟨fun b=>if b<W2.heap.size then L b else 0,l++[⟨opd k 0,none,0⟩],⟨?_,fun j x hx=>?_⟩,by rw[List.map_append,hD];rfl⟩
  ·have e1:(l++[(⟨opd k 0,none,0⟩:OC)]).length=n+1:=by rw[←hn];simp
   have e2:uA (l++[⟨opd k 0,none,0⟩])=uA l++uA [⟨opd k 0,none,0⟩]:=by simp[uA]
   rw[e1,e2];rcases own with⟨_,q,_⟩|⟨g,cap,e,hq,h3,h4,h5,h6⟩
   ·omega
   refine .inr ⟨g,cap,e,?_,h3,h4,h5,h6⟩;have hg:g<W4.heap.size:=by
    have hlen:0<(uA l++uA [(⟨opd k 0,none,0⟩:OC)]).length:=by rw[h3];omega
    have h:=h5 0 hlen;rw[List.getElem?_eq_getElem hlen]at h;exact ub h
   rcases hq with q | q
   ·exact⟨.inl q.1,by simp only[if_pos (show g<W2.heap.size by have:=(hP g q.1).1;omega)];exact q.2⟩
   ·exact⟨.inr ⟨by omega,hg⟩,if_neg (by omega)⟩
  ·by_cases e:j<l.length
   ·rw[List.getElem?_append_left e]at hx
    refine uo ((hW.sets j x hx).on (fun b hb=>g4.block b (by have:=(hP b hb.1).1;omega) (fun q=>by have:=hb.2;have:=q.2;omega))) (fun b hb=>⟨.inl hb.1,?_⟩)
    simp only[if_pos (show b<W2.heap.size by have:=(hP b hb.1).1;omega)]
    exact hb.2
   ·rw[List.getElem?_append_right (by omega)]at hx
    have hj:j-l.length=0:=by
     have:=(List.getElem?_eq_some_iff.1 hx).1;simp at this;omega
    rw[hj]at hx;simp at hx;subst hx;exact .inl ⟨rfl,rfl,rfl⟩
 ·exact ((hon.2.mono (fun b e=>.inl e)).trans (k2.mono (fun _ q=>q.elim))).trans (g4.kept.mono (fun b q=>.inr q.1))
theorem ul4{t:Tp}{R i:Nat}{P:Nat→Prop}{L:Nat→Nat}{w W W4:World}{g n c p:Nat}{l:List OC}{x y:OC}{D:List OpD}(f:OpD→OpD)(hon:RdOn t R i w W)(hP:∀b,P b→b<w.heap.size∧R<b)(h:Bod P L w (.slice (some ⟨g,0,none⟩) n c) l)(hD:l.map (·.d)=D)(hn:D.length=n)(hx:l[p]? = some x)(hy:y.d.kind=x.d.kind∧y.d.arg=x.d.arg)(hyd:y.d=f x.d)
  (k:Keep (fun b=>P b∧L b=p+1) W W4) (own:OwnC (fun b=>(P b∧L b=p+1)∨(W.heap.size≤b∧b<W4.heap.size)) W4 (.slice y.a y.d.sl y.c) 1 y.d.sl (uz .i64 y.d.set y.d.sl)) :
  udO t R P (jW D p f,i) w (.returned (.slice (some ⟨g,0,none⟩) n c)) (W4.setCell ⟨g,p*3+1,none⟩ (.slice y.a y.d.sl y.c)):=by
 have hg:P g∧L g=0:=by
  rcases h.own with⟨e,_⟩|⟨g',cap,e,hq,_⟩
  ·cases e
  ·cases e;exact hq
 have z1:=hon.2.size;have z4:=k.size;have hW:Bod P L W (.slice (some ⟨g,0,none⟩) n c) l:=h.on (fun b hb=>hon.2.block b (hP b hb).1 (fun e=>by have:=(hP b hb).2;omega))
 have hlen:(jW D p f).length=n:=by unfold jW;rw[List.length_set];exact hn
 have hll:l.length=n:=by rw[←hn,←hD,List.length_map]
 have hp:=(List.getElem?_eq_some_iff.1 hx).1;have old:∀b,P b→b<W.heap.size:=fun b hb=>by have:=(hP b hb).1;omega
 have far:∀b,P b→L b≠p+1→W4.heap[b]? = W.heap[b]?:=fun b hb hl=>k.block b (old b hb) (fun q=>hl q.2)
 refine⟨some ⟨g,0,none⟩,c,by rw[hlen],?_,(hon.1.keep k (fun b q=>(hP b q.1).2)).keep (Keep.setCell (C:=fun b=>b=g) _ _ _ rfl) (fun b e=>by have:=(hP g hg.1).2;omega),((hon.2.mono (fun b e=>.inl e)).trans (k.mono (fun b q=>.inr q.1))).trans (Keep.setCell _ _ _ (.inr hg.1))⟩
 rw[hlen];refine⟨fun b=>if b<W.heap.size then L b else p+1,l.set p y,⟨?_,fun j z hz=>?_⟩,by rw[ugM f y hx hyd,hD]⟩
 ·have ho:=hW.own.on (w':=W4) (fun b hb=>far b hb.1 (by have:=hb.2;omega))
  rw[hll]at ho;have ho2:=OwnC.put ho (j:=p*3+1) (by rw[xD];omega) (.slice y.a y.d.sl y.c)
  unfold uA at ho2;rw[kI ocv 3 jV l p 1 x y _ hx (by omega) (by simp[ocv,hy.1,hy.2])]at ho2
  rw[List.length_set,hll];refine uo ho2 (fun b hb=>⟨.inl hb.1,?_⟩)
  simp only[if_pos (old b hb.1)];exact hb.2
 ·rcases zgetElem?_set' hx hz with⟨rfl,rfl⟩|⟨hne,q⟩
  ·refine uo (own.on (fun b hb=>Below.heap_setCell _ _ _ _ (fun e=>?_))) (fun b hb=>?_)
   ·have e':b=g:=e
    rcases hb with hb | hb
    ·have h1:=hb.2;rw[e',hg.2]at h1;omega
    ·have h1:=old g hg.1;omega
   ·rcases hb with hb | hb
    ·exact⟨.inl hb.1,by simp only[if_pos (old b hb.1)];exact hb.2⟩
    ·exact⟨.inr ⟨by omega,by rw[ul];exact hb.2⟩,if_neg (by omega)⟩
  ·refine uo (((hW.sets j z q).on (w':=W4) (fun b hb=>far b hb.1 (by have:=hb.2;omega))).on (fun b hb=>Below.heap_setCell _ _ _ _ (fun e=>?_))) (fun b hb=>⟨.inl hb.1,?_⟩)
   ·have e':b=g:=e
    have h1:=hb.2;rw[e',hg.2]at h1;omega
   ·simp only[if_pos (old b hb.1)]
    exact hb.2
theorem unx{t:Tp}{R i:Nat}{P:Nat→Prop}{L:Nat→Nat}{w W:World}{a:Option Addr}{n c m:Nat}{l:List OC}{D:List OpD}(hon:RdOn t R i w W)(hP:∀b,P b→b<w.heap.size∧R<b)(h:Bod P L w (.slice a n c) l)(hD:l.map (·.d)=D)(hn:D.length=n)(hm:m≤n):udO t R P (D.take m,i) w (.returned (.slice a m c)) W:=by
 have hll:l.length=n:=by rw[←hn,←hD,List.length_map]
 have hW:Bod P L W (.slice a n c) l:=h.on (fun b hb=>hon.2.block b (hP b hb).1 (fun e=>by have:=(hP b hb).2;omega))
 have hlen:(D.take m).length=m:=by rw[List.length_take,hn];omega
 refine⟨a,c,by rw[hlen],?_,hon.1,hon.2.mono (fun b e=>.inl e)⟩
 rw[hlen];refine⟨L,l.take m,⟨?_,fun j x hx=>?_⟩,by rw[List.map_take,hD]⟩
 ·have ho:=hW.own
  rw[hll]at ho;have h2:=ul7 ho hm;unfold uA at h2 ⊢;rw[←ue2 ocv 3 jV l m]at h2;rw[List.length_take,hll,Nat.min_eq_left hm];exact uo h2 (fun b hb=>⟨.inl hb.1,hb.2⟩)
 ·have hj:j<m:=by
   have:=(List.getElem?_eq_some_iff.1 hx).1;rw[List.length_take]at this;omega
  rw[List.getElem?_take_of_lt hj]at hx;exact uo (hW.sets j x hx) (fun b hb=>⟨.inl hb.1,hb.2⟩)
theorem uny{Q:Nat→Prop}{W W4:World}{v:Value}{m:Nat}{S:Nat→Int}{o:Obj}(h:OwnC (fun b=>Q b∨(W.alloc o).heap.size≤b) W4 v 1 m (uz .i64 S m))(hm:0<m):OwnC (fun b=>Q b∨(W.heap.size≤b∧b<W4.heap.size)) W4 v 1 m (uz .i64 S m):=by
 rcases h with⟨_,q,_⟩|⟨g,cap,e,hq,h3,h4,h5,h6⟩
 ·omega
 refine .inr ⟨g,cap,e,?_,h3,h4,h5,h6⟩;have hg:g<W4.heap.size:=by
  have hl:0<(uz .i64 S m).length:=by rw[xy];exact hm
  have h:=h5 0 hl;rw[List.getElem?_eq_getElem hl]at h;exact ub h
 rcases hq with q | q
 ·exact .inl q
 ·have:(W.alloc o).heap.size=W.heap.size+1:=by simp
  exact .inr ⟨by omega,hg⟩
theorem ul5(W:World){Q:Nat→Prop}:OwnC (fun b=>Q b∨(W.heap.size≤b∧b<(W.alloc (.cells #[.int .i64 5,.int .i64 6,.int .i64 7,.int .i64 9] 3)).heap.size)) (W.alloc (.cells #[.int .i64 5,.int .i64 6,.int .i64 7,.int .i64 9] 3)) (.slice (some ⟨W.heap.size,0,none⟩) 4 4) 1 4 (uz .i64 (lf [5,6,7,9]) 4):=by
 have hb:=World.alloc_heap_new W (.cells #[.int .i64 5,.int .i64 6,.int .i64 7,.int .i64 9] 3);refine .inr ⟨W.heap.size,4,rfl,.inr ⟨Nat.le_refl _,by simp⟩,rfl,Nat.le_refl _,fun j hj=>?_,fun j hj=>⟨?_,?_⟩⟩
 ·simp only[World.cell?,hb]
  match j,hj with
  |0,_=>rfl
  |1,_=>rfl
  |2,_=>rfl
  |3,_=>rfl
 ·simp only[World.cell?,hb]
  match j,hj with
  |0,_=>rfl
  |1,_=>rfl
  |2,_=>rfl
  |3,_=>rfl
 ·simp only[World.frozen?,hb]
  rfl
theorem ul6{Q:Nat→Prop}{w:World}{a:Option Addr}{n c:Nat}{S:Nat→Int}(h:OwnC Q w (.slice a n c) 1 n (uz .i64 S n)):uz .i64 S n++[.int .i64 7]=uz .i64 (fun i=>if i=n then 7 else S i) (n+1):=by
 unfold uz;rw[List.range_succ,List.map_append]
 congr 1
 ·apply List.map_congr_left
  intro i hi;have:=List.mem_range.1 hi;show _=Value.int .i64 (if i=n then 7 else S i)
  rw[if_neg (by omega)]
 ·simp
set_option maxRecDepth 100000 in
set_option maxHeartbeats 20000000 in
theorem ucU(t:Tp)(R i:Nat)(P:Nat→Prop)(a:Option Addr)(c:Nat)(D:List OpD)(w:World)(hr:RdA t R w i)(hB:BodP P w (.slice a D.length c) D)(hP:∀b,P b→b<w.heap.size∧R<b)(hne:0<D.length)(hlen:D.length≤1048576)(hsl:∀x∈D,x.sl≤1048576)(p:List OpD×Nat)(hp:uan t i D=p) :
  Calls Tryz.prog 64 #[.slice a D.length c,.pointer (some ⟨R,0,none⟩)] w (udO t R P p w):=by
 obtain⟨L,l,hbod,hD⟩:=hB;have hl:l.length=D.length:=by rw[←hD,List.length_map]
 have HB:Hid (Bod P L w (.slice a D.length c) l):=hbod;have HD:Hid (l.map (·.d)=D):=hD
 have HP:Hid (∀b,P b→b<w.heap.size∧R<b):=hP;have HL:Hid (l.length=D.length):=hl;have HSL:Hid (∀x∈D,x.sl≤1048576):=hsl;have hv:=t.v_le i;have hv2:=t.v_le (t.n i);have hlt:t.v (t.n i)%D.length<D.length:=Nat.mod_lt _ hne;unfold uan at hp;dsimp only at hp;have hg:=hbod.own.at_ (by omega)
 obtain⟨g,c',e,hq,hc,hcell⟩:=hg;obtain⟨rfl,rfl⟩:a=some ⟨g,0,none⟩∧c=c':=by injection e with e1 _ e3;exact⟨e1,e3⟩
 have HQ:Hid (P g∧L g=0):=hq;have HC:Hid (∀j,j<(uA l).length→w.cell? ⟨g,j,none⟩=(uA l)[j]?∧w.frozen? ⟨g,j,none⟩=false):=hcell;clear hbod hD hP hl hsl e hq hcell;generalize hn:D.length=n at *;have HN:Hid (D.length=n):=hn;clear hn;have hn0:¬(n:Int)=0:=by omega
 go_enter Tryz.func64,Tryz.ntmps64;go_wp2_with fail;refine (uN t R i w hr).mono ?_;rintro e w1 ⟨rfl,hon1⟩;have HR1:Hid (RdOn t R (t.n i) w w1):=hon1;clear hon1 hr;generalize t.v i=ki at *;go_wp2_with fail;refine (uN t R (t.n i) w1 HR1.out.1).mono ?_;rintro e w2 ⟨rfl,hon2⟩;have HR2:Hid (RdOn t R (t.n (t.n i)) w w2):=HR1.out.trans hon2;clear hon2;generalize t.v (t.n i)=kp at *;generalize t.n (t.n i)=j at *;obtain⟨q,hq⟩:∃q:Nat,ki%10=q:=⟨_,rfl⟩;have hq':(ki:Int)%10=(q:Int):=by omega
 have hql:q<10:=by omega
 obtain⟨o,ho⟩:∃o:Nat,kp%n=o:=⟨_,rfl⟩;have ho':(kp:Int)%(n:Int)=(o:Int):=by rw[←ho];omega
 rw[hq,ho]at hp;rw[ho]at hlt;clear hq ho;obtain⟨x,hx⟩:∃x,l[o]? = some x:=⟨_,List.getElem?_eq_getElem (by have:=HL.out;omega)⟩
 have HX:Hid (l[o]? = some x):=hx;have hbk:w2.heap[g]? = w.heap[g]?:=HR2.out.2.block g (HP.out g HQ.out.1).1 (fun e=>by have:=(HP.out g HQ.out.1).2;omega)
 have cc:∀m,m<3→w2.cell? ⟨g,o*3+m,none⟩=(ocv x)[m]?∧w2.frozen? ⟨g,o*3+m,none⟩=false:=fun m hm=>by
  have h1:=HC.out (o*3+m) (by rw[xD];have:=HL.out;omega)
  rw[World.cell?_of_block (a:=⟨g,o*3+m,none⟩) hbk,World.frozen?_of_block (a:=⟨g,o*3+m,none⟩) hbk];exact⟨h1.1.trans (vn ocv 3 jV l o m x hx hm),h1.2⟩
 have x0:w2.cell? ⟨g,o*3,none⟩=some (.int .i64 x.d.kind):=(cc 0 (by omega)).1
 have x1:w2.cell? ⟨g,o*3+1,none⟩=some (.slice x.a x.d.sl x.c):=(cc 1 (by omega)).1
 have x2:w2.cell? ⟨g,o*3+2,none⟩=some (.int .i64 x.d.arg):=(cc 2 (by omega)).1
 have f0:w2.frozen? ⟨g,o*3,none⟩=false:=(cc 0 (by omega)).2
 have f1:w2.frozen? ⟨g,o*3+1,none⟩=false:=(cc 1 (by omega)).2
 have f2:w2.frozen? ⟨g,o*3+2,none⟩=false:=(cc 2 (by omega)).2
 have HS:Hid (OwnC (fun b=>P b∧L b=o+1) w2 (.slice x.a x.d.sl x.c) 1 x.d.sl (uz .i64 x.d.set x.d.sl)):=(HB.out.sets o x hx).on (fun b hb=>HR2.out.2.block b (HP.out b hb.1).1 (fun e=>by have:=(HP.out b hb.1).2;omega))
 have hlt':(o:Int)<(n:Int):=by omega
 have hgl:g<w2.heap.size:=ub x0;clear cc hbk hx;by_cases q0:q=0
 ·rw[if_pos q0]at hp
  subst q0 hp;go_wp2;go_ret;exact udP (j:=0) (y:=⟨{ x.d with kind:=8 },x.a,x.c⟩) _ HR2.out HP.out HB.out HD.out HN.out HX.out (by omega) (by simp[ocv]) rfl HS.out
 have q0':¬(q:Int)=0:=by omega
 rw[if_neg q0]at hp;by_cases q1:q=1
 ·rw[if_pos q1]at hp
  subst q1 hp;go_wp2;go_ret;exact udP (j:=0) (y:=⟨{ x.d with kind:=-1 },x.a,x.c⟩) _ HR2.out HP.out HB.out HD.out HN.out HX.out (by omega) (by simp[ocv]) rfl HS.out
 have q1':¬(q:Int)=1:=by omega
 rw[if_neg q1]at hp;by_cases q2:q=2
 ·rw[if_pos q2]at hp
  have e3:((t.v j%8:Nat):Int)=(t.v j:Int)%8:=by omega
  rw[e3]at hp;clear e3;have hv3:=t.v_le j;have hnx:=uN t R j w2 HR2.out.1;obtain⟨k3,hk3⟩:∃x,t.v j=x:=⟨_,rfl⟩;rw[hk3]at hp hv3 hnx;subst q2 hp;clear hk3;have HNX:Hid (Calls Tryz.prog 27 #[.pointer (some ⟨R,0,none⟩)] w2 (fun e w'=>e=.returned (.int .i64 (k3:Int))∧RdOn t R (t.n j) w2 w')):=hnx
  clear hnx;go_wp2_with fail;refine Calls.mono HNX.out ?_;rintro e w3 ⟨rfl,hon3⟩;have HR3:Hid (RdOn t R (t.n j) w w3):=HR2.out.trans hon3;have hbk:w3.heap[g]? = w2.heap[g]?:=hon3.2.block g hgl (fun e=>by have:=(HP.out g HQ.out.1).2;omega)
  have y0:=(World.cell?_of_block (a:=⟨g,o*3,none⟩) hbk).trans x0;have yf0:=(World.frozen?_of_block (a:=⟨g,o*3,none⟩) hbk).trans f0;have HS3:Hid (OwnC (fun b=>P b∧L b=o+1) w3 (.slice x.a x.d.sl x.c) 1 x.d.sl (uz .i64 x.d.set x.d.sl)):=HS.out.on (fun b hb=>hon3.2.block b (by have:=(HP.out b hb.1).1;have:=HR2.out.2.size;omega) (fun e=>by have:=(HP.out b hb.1).2;omega))
  clear hon3 hbk x0 x1 x2 f0 f1 f2;go_wp2;go_ret;exact udP (j:=0) (y:=⟨{ x.d with kind:=(k3:Int)%8 },x.a,x.c⟩) _ HR3.out HP.out HB.out HD.out HN.out HX.out (by omega) (by simp[ocv]) rfl HS3.out
 have q2':¬(q:Int)=2:=by omega
 rw[if_neg q2]at hp;by_cases q3:q=3
 ·rw[if_pos q3]at hp
  subst q3 hp;go_wp2;go_ret;exact udP (j:=2) (y:=⟨{ x.d with arg:=wrap64 (x.d.arg+1) },x.a,x.c⟩) _ HR2.out HP.out HB.out HD.out HN.out HX.out (by omega) (by simp[ocv]) rfl HS.out
 have q3':¬(q:Int)=3:=by omega
 rw[if_neg q3]at hp;by_cases q4:q=4
 ·rw[if_pos q4]at hp
  subst q4 hp;go_wp2;go_ret;exact udP (j:=2) (y:=⟨{ x.d with arg:=-1 },x.a,x.c⟩) _ HR2.out HP.out HB.out HD.out HN.out HX.out (by omega) (by simp[ocv]) rfl HS.out
 have q4':¬(q:Int)=4:=by omega
 rw[if_neg q4]at hp;by_cases q5:q=5
 ·rw[if_pos q5]at hp
  subst q5 hp;have hxs:x.d.sl≤1048576:=HSL.out x.d (by rw[←HD.out];exact List.mem_map.2 ⟨x,List.mem_of_getElem? HX.out,rfl⟩)
  have HI:Hid (Src Tryz.prog 1 49 (.slice (some ⟨w2.heap.size,0,none⟩) 1 1) 1 [.int .i64 7] (w2.alloc (.cells #[.int .i64 7] 3))):=yH Tryz.underlying49 rfl (fun j u hu=>by
   have hb:=World.alloc_heap_new w2 (.cells #[.int .i64 7] 3);simp only[World.cell?,hb];rw[←hu];simp) (fun u hu=>by obtain rfl:=List.mem_singleton.1 hu;rfl)
  go_wp2_with (at_builtin;refine uai rfl _ _ 49 49 rfl rfl rfl ufl (Q:=fun b=>P b∧L b=o+1) (n:=x.d.sl) (cs:=uz .i64 x.d.set x.d.sl) (m:=1) (news:=[.int .i64 7]) (HS.out.on (fun b hb=>Below.heap_alloc w2 _ _ (by have:=(HP.out b hb.1).1;have:=HR2.out.2.size;omega))) HI.out (by omega) ?_;intro v4 W4 hown hgrew hsz;rw[ul6 HS.out]at hown;obtain⟨a4,c4,rfl⟩:=um hown;have z0:W4.heap[g]? = w2.heap[g]?:=(hgrew.block g (Nat.lt_of_lt_of_le hgl (up w2 _).size) (fun e=>by have h1:=e.2;rw[HQ.out.2]at h1;omega)).trans (Below.heap_alloc w2 _ _ hgl);have z1:=(World.cell?_of_block (a:=⟨g,o*3+1,none⟩) z0).trans x1;have z2:=(World.frozen?_of_block (a:=⟨g,o*3+1,none⟩) z0).trans f1;have HE:Hid (udO t R P (jW D o (fun o=>{ o with sl:=o.sl+1,set:=fun i=>if i=o.sl then 7 else o.set i }),j) w (.returned (.slice (some ⟨g,0,none⟩) n c)) (W4.setCell ⟨g,o*3+1,none⟩ (.slice a4 (x.d.sl+1) c4))):=ul4 (y:=⟨{ x.d with sl:=x.d.sl+1,set:=fun i=>if i=x.d.sl then 7 else x.d.set i },a4,c4⟩) _ HR2.out HP.out HB.out HD.out HN.out HX.out ⟨rfl,rfl⟩ rfl ((Keep.alloc _ _ _).trans hgrew.kept) (uny hown (Nat.succ_pos _));clear hown hgrew hsz z0)
  go_ret;exact HE.out
 have q5':¬(q:Int)=5:=by omega
 rw[if_neg q5]at hp;by_cases q6:q=6
 ·rw[if_pos q6]at hp
  subst q6 hp;have z0:(w2.alloc (.cells #[.int .i64 5,.int .i64 6,.int .i64 7,.int .i64 9] 3)).heap[g]? = w2.heap[g]?:=Below.heap_alloc w2 _ _ hgl;have z1:=(World.cell?_of_block (a:=⟨g,o*3+1,none⟩) z0).trans x1;have z2:=(World.frozen?_of_block (a:=⟨g,o*3+1,none⟩) z0).trans f1;have HE:Hid (udO t R P (jW D o (fun o=>{ o with sl:=4,set:=lf [5,6,7,9] }),j) w (.returned (.slice (some ⟨g,0,none⟩) n c)) ((w2.alloc (.cells #[.int .i64 5,.int .i64 6,.int .i64 7,.int .i64 9] 3)).setCell ⟨g,o*3+1,none⟩ (.slice (some ⟨w2.heap.size,0,none⟩) 4 4))):=ul4 (y:=⟨{ x.d with sl:=4,set:=lf [5,6,7,9] },some ⟨w2.heap.size,0,none⟩,4⟩) _ HR2.out HP.out HB.out HD.out HN.out HX.out ⟨rfl,rfl⟩ rfl (Keep.alloc _ _ _) (ul5 w2)
  have hcm:(w2.alloc (.cells #[.int .i64 5,.int .i64 6,.int .i64 7,.int .i64 9] 3)).setCell ⟨g,o*3+1,none⟩ (.slice (some ⟨w2.heap.size,0,none⟩) 4 4)=(w2.setCell ⟨g,o*3+1,none⟩ (.slice (some ⟨w2.heap.size,0,none⟩) 4 4)).alloc (.cells #[.int .i64 5,.int .i64 6,.int .i64 7,.int .i64 9] 3):=World.setCell_alloc_past _ _ _ _ hgl;rw[hcm]at HE;clear hcm;go_wp2;go_ret;exact HE.out
 have q6':¬(q:Int)=6:=by omega
 rw[if_neg q6]at hp;by_cases q7:q=7
 ·rw[if_pos q7]at hp
  subst q7 hp;have HE:Hid (udO t R P (D.take (n-1),j) w (.returned (.slice (some ⟨g,0,none⟩) (n-1) c)) w2):=unx HR2.out HP.out HB.out HD.out HN.out (by omega)
  have hn1:1≤(n:Int):=by omega
  have hnc:(n:Int)-1≤(c:Int):=by have:=HL.out;omega
  have hn2:((n:Int)-1).toNat=n-1:=by omega
  go_wp2;go_ret;exact HE.out
 have q7':¬(q:Int)=7:=by omega
 rw[if_neg q7]at hp;by_cases q8:q=8
 ·rw[if_pos q8]at hp
  subst q8 hp;go_wp2_with (at_builtin;refine uai rfl _ _ 37 37 rfl rfl rfl jk (Q:=fun b=>P b∧L b=0) (n:=n) (cs:=uA l) (news:=uA [⟨opd 4 0,none,0⟩]) (by have h:=HB.out.own;rw[HL.out]at h;exact (h.on (fun b hb=>HR2.out.2.block b (HP.out b hb.1).1 (fun e=>by have:=(HP.out b hb.1).2;omega))).on (fun b hb=>Below.heap_alloc w2 _ _ (by have:=(HP.out b hb.1).1;have:=HR2.out.2.size;omega))) (jQ (World.alloc_heap_new w2 _)) (by omega) ?_;intro v4 W4 hown hgrew hsz;have HE:Hid (udO t R P (D++[opd 4 0],j) w (.returned v4) W4):=uiP 4 HR2.out HP.out HB.out HD.out HL.out (Keep.alloc _ _ _) hown hgrew;clear hown hgrew hsz)
  go_ret;exact HE.out
 have q8':¬(q:Int)=8:=by omega
 rw[if_neg q8]at hp;subst hp;go_wp2_with (at_builtin;refine uai rfl _ _ 37 37 rfl rfl rfl jk (Q:=fun b=>P b∧L b=0) (n:=n) (cs:=uA l) (news:=uA [⟨opd 0 0,none,0⟩]) (by have h:=HB.out.own;rw[HL.out]at h;exact (h.on (fun b hb=>HR2.out.2.block b (HP.out b hb.1).1 (fun e=>by have:=(HP.out b hb.1).2;omega))).on (fun b hb=>Below.heap_alloc w2 _ _ (by have:=(HP.out b hb.1).1;have:=HR2.out.2.size;omega))) (jQ (World.alloc_heap_new w2 _)) (by omega) ?_;intro v4 W4 hown hgrew hsz;have HE:Hid (udO t R P (D++[opd 0 0],j) w (.returned v4) W4):=uiP 0 HR2.out HP.out HB.out HD.out HL.out (Keep.alloc _ _ _) hown hgrew;clear hown hgrew hsz)
 go_ret;exact HE.out
end
section
open Go.RowKit
open M (OpD uj Gr)
def ucb(t:Tp)(i:Nat)(rs ls:List zNL):(List zNL×List zNL)×Nat :=
 let k:=t.v i%12
 let a:=t.v (t.n i)%rs.length
 let j:=t.n (t.n i)
 if k<4 then ((uac rs a (uan t j (kW rs a).bd).1,ls),(uan t j (kW rs a).bd).2)
 else if k=4 then ((rs++[⟨[((115+a%8:Nat):Int)],true,uf 0 0⟩],ls),j)
 else if k=5 then ((rs.set a ⟨[49,97],(kW rs a).has,(kW rs a).bd⟩,ls),j)
 else if k=6 then ((rs.set a ⟨[],(kW rs a).has,(kW rs a).bd⟩,ls),j)
 else if k=7 then ((rs,ls++[⟨[97],true,uf 0 0⟩]),j)
 else if k=8 then ((rs,ls++[⟨[122,122],false,[]⟩]),j)
 else if k=9∧0<ls.length then ((rs,ls.set (a%ls.length) ⟨(kW ls (a%ls.length)).nm,!(kW ls (a%ls.length)).has,(kW ls (a%ls.length)).bd⟩),j)
 else if k=10 then (([],ls),j)
 else ((rs.set a ⟨[97,46,98],(kW rs a).has,(kW rs a).bd⟩,ls),j)
theorem zGrP.swapR{w0 W V:World}{G:Nat→Nat}{lv:Value}{rs ls:List zNC}{g n c a:Nat}{x y:zNC}{C:Nat→Prop}(h:zGrP w0 G W (.slice (some ⟨g,0,none⟩) n c) lv rs ls)(hz:w0.heap.size≤W.heap.size)(k:Keep C W V)(hC:∀b,C b→G b=3∨G b=4+2*a)(hx:rs[a]? = some x)(hg:zTg G W 0 g)(hy:vF y=(vF x).set 1 (.slice y.ba y.d.bd.length y.bc))(hn:y.na=x.na∧y.d.nm=x.d.nm)(hb:BodP (zTg (uK G W (4+2*a)) V (4+2*a)) V (.slice y.ba y.d.bd.length y.bc) y.d.bd) :
  zGrP w0 (uK G W (4+2*a)) (V.setCell ⟨g,a*2+1,none⟩ (.slice y.ba y.d.bd.length y.bc)) (.slice (some ⟨g,0,none⟩) n c) lv (rs.set a y) ls:=by
 have hi:=(List.getElem?_eq_some_iff.1 hx).1;have zz:=k.size;have st0:∀{t:Nat},t≠3→t≠4+2*a→Stay (zTg G W t) W V:=fun {t} h3 h4 b hb=>k.block b hb.1 (fun q=>by
  rcases hC b q with e | e
  ·exact h3 (hb.2.symm.trans e)
  ·exact h4 (hb.2.symm.trans e))
 have wd0:∀t b,zTg G W t b→zTg (uK G W (4+2*a)) V t b:=yq zz (fun b hb=>uD hb)
 have hg':zTg (uK G W (4+2*a)) V 0 g:=wd0 0 g hg;have st1:∀{t:Nat},t≠0→Stay (zTg (uK G W (4+2*a)) V t) V (V.setCell ⟨g,a*2+1,none⟩ (.slice y.ba y.d.bd.length y.bc)):=fun {t} ht b hb=>Below.heap_setCell _ _ _ _ (fun e=>ht (by rw[←hb.2,e];exact hg'.2))
 have wd1:∀t b,zTg (uK G W (4+2*a)) V t b→zTg (uK G W (4+2*a)) (V.setCell ⟨g,a*2+1,none⟩ (.slice y.ba y.d.bd.length y.bc)) t b:=yq (by rw[ul];exact Nat.le_refl _) (fun b hb=>rfl)
 have hn0:n=rs.length:=by
  rcases h.rules with⟨e,_⟩|⟨g',cap,e,_⟩
  ·cases e
  ·injection e
 have names:∀z:zNC,Ints (zTg G W 2) .u8 W z.na z.d.nm.length (lf z.d.nm)→Ints (zTg (uK G W (4+2*a)) (V.setCell ⟨g,a*2+1,none⟩ (.slice y.ba y.d.bd.length y.bc)) 2) .u8 (V.setCell ⟨g,a*2+1,none⟩ (.slice y.ba y.d.bd.length y.bc)) z.na z.d.nm.length (lf z.d.nm):=fun (z:zNC) hz=>((((hz.on (st0 (by omega) (by omega))).wide (wd0 2)).on (st1 (by omega))).wide (wd1 2))
 refine⟨?_,uo ((uo (h.labs.on (st0 (by omega) (by omega))) (wd0 1)).on (st1 (by omega))) (wd1 1),fun z hz=>?_,fun z hz=>names z (h.ln z hz),fun j z hz=>?_,fun j z hz=>((((h.lb j z hz).on (st0 (by omega) (by omega))).wide (wd0 _)).on (st1 (by omega))).wide (wd1 _),fun b hb=>?_⟩
 ·have hr:=uo (h.rules.on (st0 (by omega) (by omega))) (wd0 0)
  rw[hn0]at hr ⊢;have:=uo (OwnC.put hr (j:=a*2+1) (by rw[yA vF 2 kF];omega) (.slice y.ba y.d.bd.length y.bc)) (wd1 0)
  rw[kI vF 2 kF rs a 1 x y _ hx (by omega) hy]at this
  rw[List.length_set];exact this
 ·rcases jw hz with rfl | q
  ·have:=names x (h.rn x (List.mem_of_getElem? hx))
   rw[hn.1,hn.2];exact this
  ·exact names z (h.rn z q)
 ·rcases zgetElem?_set' hx hz with⟨rfl,rfl⟩|⟨hne,q⟩
  ·exact (hb.on (st1 (by omega))).wide (wd1 _)
  ·exact ((((h.rb j z q).on (st0 (by omega) (by omega))).wide (wd0 _)).on (st1 (by omega))).wide (wd1 _)
 ·by_cases e:b<W.heap.size
  ·rw[uD e]at hb;exact h.new b hb
  ·omega
theorem LpS.spoil{t:Tp}{R:Nat}{w0 w:World}{gb:Nat}{G:Nat→Nat}{W V:World}{g n c a:Nat}{lv:Value}{rs ls:List zNC}{i j:Nat}{x:zNC}{ba:Option Addr}{bc:Nat}{D:List OpD}(h:LpS t R w0 w gb G W (.slice (some ⟨g,0,none⟩) n c) lv rs ls i)(hR:R<w0.heap.size∧w0.heap.size≤gb)(k:Keep (fun b=>b=R∨zTg G W (4+2*a) b) W V)(hrd:RdA t R V j)(hb:BodP (fun b=>zTg G W (4+2*a) b∨New W V b) V (.slice ba D.length bc) D)(hx:rs[a]? = some x)(hg:zTg G W 0 g) :
  ∃G',LpS t R w0 w gb G' (V.setCell ⟨g,a*2+1,none⟩ (.slice ba D.length bc)) (.slice (some ⟨g,0,none⟩) n c) lv (rs.set a ⟨⟨x.d.nm,x.d.has,D⟩,x.na,x.nc,ba,bc⟩) ls j:=by
 have zz:=k.size;have hg0:w0.heap.size≤g:=h.gv.gr.new g (by rw[hg.2];omega)
 have hne:gb+1≠g:=fun e=>by have h3:=hg.2;rw[←e,h.tg]at h3;omega
 have hne':gb≠g:=fun e=>by have h3:=hg.2;rw[←e,h.gv.tg]at h3;omega
 have hlt1:gb+1<W.heap.size:=ub h.tw.1;have hs:Keep (fun b=>b=g) V (V.setCell ⟨g,a*2+1,none⟩ (.slice ba D.length bc)):=Keep.setCell _ _ _ rfl
 have nC:∀b,G b=3→b≠R→¬(b=R∨zTg G W (4+2*a) b):=fun b h3 hne q=>by
  rcases q with q | q
  ·exact hne q
  ·have:=q.2;omega
 have htw:=(h.tw.keep k (nC _ h.tg (by omega))).keep hs hne
 have hbg:=hs.block gb (by have:=h.gv.lt;omega) hne'
 have hbk:=hbg.trans (k.block gb h.gv.lt (nC _ h.gv.tg (by omega)))
 refine⟨uK G W (4+2*a),⟨(World.cell?_of_block (a:=⟨gb,0,none⟩) hbk).trans h.gv.c0,(World.cell?_of_block (a:=⟨gb,1,none⟩) hbk).trans h.gv.c1,(World.frozen?_of_block (a:=⟨gb,0,none⟩) hbk).trans h.gv.f0,(World.frozen?_of_block (a:=⟨gb,1,none⟩) hbk).trans h.gv.f1,?_,by rw[uD h.gv.lt];exact h.gv.tg,by rw[ul];have:=h.gv.lt;omega,by rw[ul];have:=h.gv.le;omega⟩,htw,by rw[uD hlt1];exact h.tg,hrd.keep hs (fun b e=>by omega),?_⟩
 ·refine h.gv.gr.swapR (y:=⟨⟨x.d.nm,x.d.has,D⟩,x.na,x.nc,ba,bc⟩) h.gv.le k (fun b q=>?_) hx hg (by simp[vF]) ⟨rfl,rfl⟩ (hb.wide (fun b q=>?_))
  ·rcases q with q | q
   ·exact .inl (by rw[q];exact h.gv.tagR hR.1)
   ·exact .inr q.2
  ·rcases q with q | q
   ·exact⟨by have:=q.1;omega,by rw[uD q.1];exact q.2⟩
   ·exact udF q
 ·refine (h.kp.trans (k.mono (fun b q=>?_))).trans (hs.mono (fun b e=>.inr (by omega)))
  rcases q with q | q
  ·exact .inl q
  ·exact .inr (h.gv.gr.new b (by rw[q.2];omega))
theorem LpS.addRule{t:Tp}{R:Nat}{w0 w:World}{gb:Nat}{G G2:Nat→Nat}{W W2 W4:World}{rv lv v4:Value}{rs ls:List zNC}{i:Nat}{x:zNC}(h:LpS t R w0 w gb G W rv lv rs ls i)(hR:R<w0.heap.size∧w0.heap.size≤gb)(k:Keep (fun _=>False) W W2)(hold:∀b,b<W.heap.size→G2 b=G b)(hg2:zGVar gb w0 G2 W2 rv lv rs ls)(hn:Ints (zTg G2 W2 2) .u8 W2 x.na x.d.nm.length (lf x.d.nm))(hb:BodP (zTg G2 W2 (4+2*rs.length)) W2 (.slice x.ba x.d.bd.length x.bc) x.d.bd)
  (own:OwnC (fun b=>zTg G2 W2 0 b∨W2.heap.size≤b) W4 v4 2 (rs.length+1) (rs.flatMap vF++vF x)) (g4:Grew (zTg G2 W2 0) W2 W4):∃G',LpS t R w0 w gb G' (W4.setCell ⟨gb,0,none⟩ v4) v4 lv (rs++[x]) ls i:=by
 obtain⟨c0,c1,f0,f1⟩:=vf hg2 (by omega) g4
 have hgr:=hg2.gr.addRule hg2.le hn hb own g4;have hlt:=hg2.lt;have z4:=g4.size;have hlt1:gb+1<W.heap.size:=ub h.tw.1;have zk:=k.size;have hg3:uK G2 W2 0 gb=3:=by rw[uD hlt];exact hg2.tg
 have hg31:G2 (gb+1)=3:=by rw[hold _ hlt1];exact h.tg
 have nr:¬zTg G2 W2 0 (gb+1):=fun q=>by have:=q.2;omega
 have hs:Keep (fun b=>b=gb) W4 (W4.setCell ⟨gb,0,none⟩ v4):=Keep.setCell _ _ _ rfl
 refine⟨uK G2 W2 0,⟨World.cell?_setCell_same' _ _ _ (by rw[c0];rfl),(World.cell?_setCell_other _ _ _ _ (by simp)).trans c1,by rw[World.frozen?_setCell];exact f0,by rw[World.frozen?_setCell];exact f1,hgr.set hg3,hg3,by rw[ul];omega,by rw[ul];have:=hg2.le;omega⟩,((h.tw.keep k (fun e=>e)).keep g4.kept nr).keep hs (by omega),by rw[uD (by omega)];exact hg31,((h.rd.keep k (fun _ e=>e.elim)).keep g4.kept (fun b q=>?_)).keep hs (fun b e=>by omega),((h.kp.trans (k.mono (fun _ e=>e.elim))).trans (g4.kept.mono (fun b q=>.inr ?_))).trans (hs.mono (fun b e=>.inr (by omega)))⟩
 ·have:=hg2.gr.new b (by rw[q.2];omega)
  omega
 ·exact hg2.gr.new b (by rw[q.2];omega)
theorem LpS.addLabel{t:Tp}{R:Nat}{w0 w:World}{gb:Nat}{G G2:Nat→Nat}{W W2 W4:World}{rv lv v4:Value}{rs ls:List zNC}{i:Nat}{x:zNC}(h:LpS t R w0 w gb G W rv lv rs ls i)(hR:R<w0.heap.size∧w0.heap.size≤gb)(k:Keep (fun _=>False) W W2)(hold:∀b,b<W.heap.size→G2 b=G b)(hg2:zGVar gb w0 G2 W2 rv lv rs ls)(hn:Ints (zTg G2 W2 2) .u8 W2 x.na x.d.nm.length (lf x.d.nm))(hb:BodP (zTg G2 W2 (5+2*ls.length)) W2 (.slice x.ba x.d.bd.length x.bc) x.d.bd)
  (own:OwnC (fun b=>zTg G2 W2 1 b∨W2.heap.size≤b) W4 v4 3 (ls.length+1) (ls.flatMap vC++vC x)) (g4:Grew (zTg G2 W2 1) W2 W4):∃G',LpS t R w0 w gb G' (W4.setCell ⟨gb,1,none⟩ v4) rv v4 rs (ls++[x]) i:=by
 obtain⟨c0,c1,f0,f1⟩:=vf hg2 (by omega) g4
 have hgr:=hg2.gr.addLabel hg2.le hn hb own g4;have hlt:=hg2.lt;have z4:=g4.size;have hlt1:gb+1<W.heap.size:=ub h.tw.1;have zk:=k.size;have hg3:uK G2 W2 1 gb=3:=by rw[uD hlt];exact hg2.tg
 have hg31:G2 (gb+1)=3:=by rw[hold _ hlt1];exact h.tg
 have nr:¬zTg G2 W2 1 (gb+1):=fun q=>by have:=q.2;omega
 have hs:Keep (fun b=>b=gb) W4 (W4.setCell ⟨gb,1,none⟩ v4):=Keep.setCell _ _ _ rfl
 refine⟨uK G2 W2 1,⟨(World.cell?_setCell_other _ _ _ _ (by simp)).trans c0,World.cell?_setCell_same' _ _ _ (by rw[c1];rfl),by rw[World.frozen?_setCell];exact f0,by rw[World.frozen?_setCell];exact f1,hgr.set hg3,hg3,by rw[ul];omega,by rw[ul];have:=hg2.le;omega⟩,((h.tw.keep k (fun e=>e)).keep g4.kept nr).keep hs (by omega),by rw[uD (by omega)];exact hg31,((h.rd.keep k (fun _ e=>e.elim)).keep g4.kept (fun b q=>?_)).keep hs (fun b e=>by omega),((h.kp.trans (k.mono (fun _ e=>e.elim))).trans (g4.kept.mono (fun b q=>.inr ?_))).trans (hs.mono (fun b e=>.inr (by omega)))⟩
 ·have:=hg2.gr.new b (by rw[q.2];omega)
  omega
 ·exact hg2.gr.new b (by rw[q.2];omega)
theorem xI{gb:Nat}{W0 w W2:World}{G:Nat→Nat}{rv lv v:Value}{rs ls:List zNC}{D:List OpD}{z:List Int}{na:Option Addr}{N B:Nat→Prop}(tag:Nat)(h:zGVar gb W0 G w rv lv rs ls)(k:Keep (fun _=>False) w W2)(hn:Ints N .u8 W2 na z.length (lf z))(hb:BodP B W2 v D)(hN:∀b,N b→New w W2 b)(hB:∀b,B b→New w W2 b)(hNB:∀b,N b→¬B b) :
  ∃G',(∀b,b<w.heap.size→G' b=G b)∧zGVar gb W0 G' W2 rv lv rs ls∧Ints (zTg G' W2 2) .u8 W2 na z.length (lf z)∧BodP (zTg G' W2 tag) W2 v D:=by
 classical
 let G':Nat→Nat:=fun b=>if b<w.heap.size then G b else if N b then 2 else if B b then tag else 3
 have old:∀b,b<w.heap.size→G' b=G b:=fun b hb=>if_pos hb
 have hbk:=k.block gb h.lt (fun q=>q)
 have zz:=k.size;have hlt:=h.lt;refine⟨G',old,⟨(World.cell?_of_block (a:=⟨gb,0,none⟩) hbk).trans h.c0,(World.cell?_of_block (a:=⟨gb,1,none⟩) hbk).trans h.c1,(World.frozen?_of_block (a:=⟨gb,0,none⟩) hbk).trans h.f0,(World.frozen?_of_block (a:=⟨gb,1,none⟩) hbk).trans h.f1,
  h.gr.on zz (fun b hb hg=>k.block b hb (fun q=>q)) old (fun b hb=>?_),by rw[old gb hlt];exact h.tg,by omega,Nat.le_trans h.le zz⟩,hn.wide (fun b q=>⟨(hN b q).2,?_⟩),hb.wide (fun b q=>⟨(hB b q).2,?_⟩)⟩
 ·by_cases e:b<w.heap.size
  ·rw[old b e]at hb;exact h.gr.new b hb
  ·have:=h.le;omega
 ·have h1:=(hN b q).1
  show (if b<w.heap.size then G b else if N b then 2 else if B b then tag else 3)=2
  rw[if_neg (by omega),if_pos q]
 ·have h1:=(hB b q).1
  show (if b<w.heap.size then G b else if N b then 2 else if B b then tag else 3)=tag
  rw[if_neg (by omega),if_neg (fun e=>hNB b e q),if_pos q]
theorem LpS.name{t:Tp}{R:Nat}{w0 w:World}{gb:Nat}{G:Nat→Nat}{W V:World}{g n c a:Nat}{lv:Value}{rs ls:List zNC}{i:Nat}{x:zNC}{na:Option Addr}{nc:Nat}{z:List Int}(h:LpS t R w0 w gb G W (.slice (some ⟨g,0,none⟩) n c) lv rs ls i)(hR:R<w0.heap.size∧w0.heap.size≤gb)(k:Keep (fun _=>False) W V)(hn:Ints (New W V) .u8 V na z.length (lf z))(hx:rs[a]? = some x)(hg:zTg G W 0 g) :
  ∃G',LpS t R w0 w gb G' (V.setCell ⟨g,a*2,none⟩ (.slice na z.length nc)) (.slice (some ⟨g,0,none⟩) n c) lv (rs.set a ⟨⟨z,x.d.has,x.d.bd⟩,na,nc,x.ba,x.bc⟩) ls i:=by
 have hV:LpS t R w0 w gb (uK G W 2) V (.slice (some ⟨g,0,none⟩) n c) lv rs ls i:=⟨h.gv.later k (fun _ e=>e.elim) 2,h.tw.keep k (fun e=>e),by rw[uD (ub h.tw.1)];exact h.tg,h.rd.keep k (fun _ e=>e.elim),h.kp.trans (k.mono (fun _ e=>e.elim))⟩
 have:=hV.putR (j:=0) (y:=⟨⟨z,x.d.has,x.d.bd⟩,na,nc,x.ba,x.bc⟩) (u:=.slice na z.length nc) hR hx ⟨by have:=hg.1;have:=k.size;omega,by rw[uD hg.1];exact hg.2⟩ (by omega) (by simp[vF]) (hn.wide (fun b q=>udF q)) (hV.gv.gr.rb a x hx)
 exact⟨_,this⟩
theorem LpS.none_{t:Tp}{R:Nat}{w0 w:World}{gb:Nat}{G:Nat→Nat}{W:World}{rv lv:Value}{rs ls:List zNC}{i:Nat}(h:LpS t R w0 w gb G W rv lv rs ls i)(hR:R<w0.heap.size∧w0.heap.size≤gb):LpS t R w0 w gb G (W.setCell ⟨gb,0,none⟩ (.slice none 0 0)) (.slice none 0 0) lv [] ls i:=by
 have hs:Keep (fun b=>b=gb) W (W.setCell ⟨gb,0,none⟩ (.slice none 0 0)):=Keep.setCell _ _ _ rfl
 have hgr:zGrP w0 G W (.slice none 0 0) lv [] ls:=⟨.inl ⟨rfl,rfl,rfl⟩,h.gv.gr.labs,fun x hx=>(by cases hx),h.gv.gr.ln,fun j x hx=>(by simp at hx),h.gv.gr.lb,h.gv.gr.new⟩
 exact⟨⟨World.cell?_setCell_same' _ _ _ (by rw[h.gv.c0];rfl),(World.cell?_setCell_other _ _ _ _ (by simp)).trans h.gv.c1,by rw[World.frozen?_setCell];exact h.gv.f0,by rw[World.frozen?_setCell];exact h.gv.f1,hgr.set h.gv.tg,h.gv.tg,by rw[ul];exact h.gv.lt,by rw[ul];exact h.gv.le⟩,h.tw.keep hs (by omega),h.tg,h.rd.keep hs (fun b e=>by omega),h.kp.trans (hs.mono (fun b e=>.inr (by omega)))⟩
end
end Go.Proofs.YthicmmhmmfhncaaGreat
