import Derived.Test.YtoihadcablknpaaGreatDoorT09
import Derived.Deep.DeepCutAuto
set_option linter.unusedVariables false
set_option linter.unusedSimpArgs false
set_option linter.defProp false
set_option maxHeartbeats 40000000
set_option maxRecDepth 100000
namespace Go.Proofs.YtoihadcablknpaaGreatDoor
open Go.RowKit
open Go.Proofs.Tryz
open M (OpD uh Gr)
def NW{Q w a b n c cs}(h:wC Q w (Sl a n c) b n cs):n<=c:=by
 rcases h with⟨e,d,_⟩|⟨g,cap,e,l,f,i,j,k⟩
 ·omega
 injection e with _ _ e3;omega
def NX{α:Type}(f:α->List Value)(k:Nat)(h:∀x,(f x).length=k):∀(l:List α) (j:Nat),(l.take j).flatMap f=(l.flatMap f).take (j*k)
 |[],j=>by simp
 |x::l,0=>by simp
 |x::l,j+1=>by
  rw[List.take_succ_cons,Dj,Dj,NX f k h l j,List.take_append,h x,show(j+1)*k-k=j*k by rw[Gx];omega,Jo (l:=f x) (by rw[h x,Gx];omega)]
def Vi{Q w a b n c cs}(h:wC Q w (Sl a n c) b n cs){j}(p:j<=n):wC Q w (Sl a j c) b j (cs.take (j*b)):=by
 rcases h with⟨e,d,f⟩|⟨g,cap,e,q,k,r,l,m⟩
 ·obtain rfl:j=0:=oM;subst d;exact .inl ⟨e,rfl,by rw[f];simp⟩
 obtain⟨rfl,rfl⟩:a=some (Ad g 0)/\c=cap:=by injection e with d f e3;exact⟨d,e3⟩
 have s:j*b<=n*b:=Lm _ p;refine .inr ⟨g,c,rfl,q,by rw[Fy,k];omega,oM,λi o=>?_,m⟩;rw[Fy]at o;rw[l i oM,List.getElem?_take_of_lt oM]
def uP{w:Wl}{b j:Nat}{c:Av}{t:TypeId}{v:Vl}(h:w.heap[b]?=some (Oc c t))(a:c[j]?=some v):w.cell? (Ad b j)=some v:=by
 simp only[World.cell?,h];exact a
def Qr{w:Wl}{b j:Nat}{c:Av}{t:TypeId}(h:w.heap[b]?=some (Oc c t)):w.frozen? (Ad b j)=false:=by
 simp only[World.frozen?,h];simp
def xq(w:Wl)(o:Obj)(b:Nat)(a:b=w.heap.size):(w.alloc o).heap[b]?=some o:=by subst a;exact Df w o
def Qs{w:Wl}{b:Nat}{c:Obj}(h:w.heap[b]?=some c)(o:Obj):(w.alloc o).heap[b]?=some c:=by
 rw[Hg w _ _ (by have:=(Cq.1 h).1;exact this)];exact h
def Xh{w:Wl}{b j:Nat}{c:Av}{t:TypeId}(v:Vl)(h:w.heap[b]?=some (Oc c t)):(w.setCell (Ad b j) v).heap[b]?=some (Oc (c.setIfInBounds j v) t):=by
 simp only[World.setCell,Om,h,if_true,Option.map_some];rfl
open M (uw EX ins)
def YE a:(vB a).length=a.length:=by simp[vB]
def YF a b:vB (a++b)=vB a++vB b:=by simp[vB]
def Fi(x:IC):Option Nat:=if x.d.sl=0 then none else x.a.map (λa=>a.block)
def Io(l:List IC):List Nat:=l.filterMap Fi
def GD l m:Io (l++m)=Io l++Io m:=by simp[Io]
def YG k a t:Fi (ic k a t)=none:=by simp[Fi,ic,ins]
def GE{S w l}(h:zW S w l){b}(d:b∈Io l):S b:=by
 obtain⟨x,g,a⟩:=List.mem_filterMap.1 d;unfold Fi at a;split at a
 ·cases a
 rename_i c;rcases h x g with q|⟨i,off,e,f,_⟩
 ·exact aB q c
 rw[e]at a;simp at a;rw[<-a];exact f
structure CP(w0:Wl)(cb:Nat)(u0 u1:Vl)(l e:List IC)(fl:LI)(w:Wl)(P F S:Np)(vp vf:Vl):Prop where
 g0:w.cell? (Ad cb 0)=some u0
 g1:w.cell? (Ad cb 1)=some u1
 p:w.cell? (Ad cb 2)=some vp
 f:w.cell? (Ad cb 3)=some vf
 s:∀j,w.frozen? (Ad cb j)=false
 r:wC P w vp 4 l.length (uY l)
 c:wC F w vf 1 fl.length (vB fl)
 h:zW S w (l++e)
 g:∀b j,S b->w.frozen? (Ad b j)=false
 rp:∀b,P b->w0.heap.size<=b/\b<w.heap.size/\b≠cb/\¬F b/\¬S b
 rf:∀b,F b->w0.heap.size<=b/\b<w.heap.size/\b≠cb/\¬S b
 rs:∀b,S b->w0.heap.size<=b/\b<w.heap.size/\b≠cb
 a:w0.heap.size<=cb/\cb<w.heap.size
 i:(Io (l++e)).Nodup
 u:Bw w0 w
def CS(w0:Wl)(a:Nat)(u0 u1:Vl)(l e:List IC)(b:LI)(w:Wl):Prop:=∃P F S d c,CP w0 a u0 u1 l e b w P F S d c
def GF{w w' b j}(h:w.frozen? (Ad b j)=false)(a:b<w.heap.size)(k:Bw w w'):w'.frozen? (Ad b j)=false:=(k.frozen (p:=(Ad b j)) a).trans h
def CP.q{w0 m u0 u1 l e n w w' P F S t o}(h:CP w0 m u0 u1 l e n w P F S t o)(k:Bw w w'):CP w0 m u0 u1 l e n w' P F S t o:=by
 have v:=k.size;exact⟨ue h.g0 k,ue h.g1 k,ue h.p k,ue h.f k,λj=>GF (h.s j) h.a.2 k,FT h.r (λb d=>(h.rp b d).2.1) k,FT h.c (λb d=>(h.rf b d).2.1) k,h.h.q k,
  λb j d=>GF (h.g b j d) (h.rs b d).2.1 k,λb d=>⟨(h.rp b d).1,by have:=(h.rp b d).2.1;omega,(h.rp b d).2.2⟩,λb d=>⟨(h.rf b d).1,by have:=(h.rf b d).2.1;omega,(h.rf b d).2.2⟩,λb d=>⟨(h.rs b d).1,by have:=(h.rs b d).2.1;omega,(h.rs b d).2.2⟩,
  ⟨h.a.1,by have:=h.a.2;omega⟩,h.i,h.u.trans (k.mono h.u.size)⟩
def CS.q{w0 a u0 u1 l e b w w'}(h:CS w0 a u0 u1 l e b w)(k:Bw w w'):CS w0 a u0 u1 l e b w':=let ⟨P,F,S,vp,vf,h⟩:=h;⟨P,F,S,vp,vf,h.q k⟩
def CS.u{w0 a u0 u1 l e b w}(h:CS w0 a u0 u1 l e b w):Bw w0 w:=let ⟨_,_,_,_,_,h⟩:=h;h.u
def CP.d{w0 b u0 u1 l e w P F S n m}(h:CP w0 b u0 u1 l [] e w P F S n m)k a t:CP w0 b u0 u1 l [ic k a t] e w P F S n m :=
 ⟨h.g0,h.g1,h.p,h.f,h.s,h.r,h.c,by
  have:=h.h;rw[Ca]at this;exact this.app (λx j=>by simp at j;subst j;exact .inl rfl),h.g,h.rp,h.rf,h.rs,h.a,by
  have:=h.i;rw[Ca]at this;rw[GD];simp[Io,YG];exact this,h.u⟩
def CS.d{w0 b u0 u1 l c w}(h:CS w0 b u0 u1 l [] c w)k a t:CS w0 b u0 u1 l [ic k a t] c w:=let ⟨P,F,S,vp,vf,h⟩:=h;⟨P,F,S,vp,vf,h.d k a t⟩
def CS.a{w0 t u0 u1 l v w w'}(h:CS w0 t u0 u1 l [] v w)(k:Bw w w')x(A:wB (wM w w') .i64 w' x.a x.d.sl x.d.set)(H:Bj w w'):CS w0 t u0 u1 l [x] v w':=by
 obtain⟨P,F,S,J,I,n⟩:=h;have h:=n.q k;have L:=n.u.size;refine⟨P,F,λb=>S b\/wM w w' b,J,I,h.g0,h.g1,h.p,h.f,h.s,h.r,h.c,?_,?_,?_,?_,?_,h.a,?_,h.u⟩
 ·have:=h.h;rw[Ca]at this;exact(this.g (λb q=>.inl q)).app (λy o=>by simp at o;subst o;exact A.g (λb q=>.inr q))
 ·rintro b j (q|q)
  ·exact h.g b j q
  exact H b j q.1 q.2
 ·intro b q;have m:=h.rp b q;have z:=(n.rp b q).2.1;exact⟨m.1,m.2.1,m.2.2.1,m.2.2.2.1,λr=>r.elim m.2.2.2.2 (λr=>oH r.1)⟩
 ·intro b q;have m:=h.rf b q;have z:=(n.rf b q).2.1;exact⟨m.1,m.2.1,m.2.2.1,λr=>r.elim m.2.2.2 (λr=>oH r.1)⟩
 ·rintro b (q|q)
  ·exact h.rs b q
  exact⟨by have:=q.1;omega,q.2,λe=>by have:=q.1;have:=n.a.2;omega⟩
 have B:=h.i;rw[Ca]at B;rw[GD];refine List.nodup_append.2 ⟨B,?_,?_⟩
 ·unfold Io;cases C:Fi x with
  |none=>simp[C]
  |some b=>simp[C]
 intro a E b G e;subst e;have m:=GE (by have:=n.h;rw[Ca]at this;exact this) E;have z:=(n.rs a m).2.1;have D:=GE (S:=wM w w') (w:=w') (l:=[x]) (λy o=>by simp at o;subst o;exact A) G;have:=D.1;omega
def CP.k{w0 n u0 u1 l x A w W P F S U I t}(h:CP w0 n u0 u1 l [x] A w P F S U I)(Q:wC (λb=>P b\/w.heap.size<=b) W t 4 (l.length+1) (uY l++Il x))(o:wS (λb=>P b) w W):CP w0 n u0 u1 (l++[x]) [] A (W.setCell (Ad n 2) t) (λb=>(P b\/w.heap.size<=b)/\b<W.heap.size/\b≠n) F S t I:=by
 have V:=o.h;have X:=h.u.size;have C:=o.d n h.a.2 (λq=>(h.rp n q).2.2.1 rfl);have y:(W.setCell (Ad n 2) t).heap.size=W.heap.size:=uj;have z:∀j v,w.cell? (Ad n j)=some v->W.cell? (Ad n j)=some v:=λj v T=>(zI (a:=(Ad n j)) C).trans T
 have st:wQ (λb=>F b\/S b) w (W.setCell (Ad n 2) t):=λb m=>by
  have D:b<w.heap.size/\b≠n:=by
   rcases m with q|q
   ·exact⟨(h.rf b q).2.1,(h.rf b q).2.2.1⟩
   exact⟨(h.rs b q).2.1,(h.rs b q).2.2⟩
  rw[zJ b D.2];exact o.d b D.1 (λq=>by
   rcases m with r|r
   ·exact(h.rp b q).2.2.2.1 r
   exact(h.rp b q).2.2.2.2 r)
 refine⟨?_,?_,?_,?_,?_,?_,?_,?_,?_,?_,?_,?_,?_,?_,?_⟩
 ·rw[ur oM];exact z 0 _ h.g0
 ·rw[ur oM];exact z 1 _ h.g1
 ·exact uu (z 2 _ h.p)
 ·rw[ur oM];exact z 3 _ h.f
 ·intro j;rw[Ff];exact(Ec (a:=(Ad n j)) C).trans (h.s j)
 ·rw[wK,XI];have e:uY [x]=Il x:=by simp[uY]
  rw[e];have J:wC (λb=>(P b\/w.heap.size<=b)/\b<W.heap.size/\b≠n) W t 4 (l.length+1) (uY l++Il x):=by
   rcases Q with q|⟨g,cap,e,E,L,N,O,B⟩
   ·exact .inl q
   refine .inr ⟨g,cap,e,⟨E,?_,?_⟩,L,N,O,B⟩
   ·obtain⟨u,R⟩:=Dt.1 (B 0 oM).1;exact ud R
   intro e;subst e;rcases E with q|q
   ·exact(h.rp _ q).2.2.1 rfl
   have:=h.a.2;omega
  exact J.on (λb m=>zJ b m.2.2)
 ·exact h.c.on (λb m=>st b (.inl m))
 ·rw[Ca];exact h.h.on (λb m=>st b (.inr m))
 ·intro b j m;have:=st b (.inr m);exact(Ec (a:=(Ad b j)) this).trans (h.g b j m)
 ·rintro b ⟨q,G,H⟩;rw[y];rcases q with q|q
  ·have:=h.rp b q;exact⟨this.1,G,H,this.2.2.2⟩
  exact⟨oM,G,H,λr=>by have:=(h.rf b r).2.1;omega,λr=>by have:=(h.rs b r).2.1;omega⟩
 ·intro b m;have:=h.rf b m;exact⟨this.1,by rw[y];omega,this.2.2⟩
 ·intro b m;have:=h.rs b m;exact⟨this.1,by rw[y];omega,this.2.2⟩
 ·exact⟨h.a.1,by rw[y];have:=h.a.2;omega⟩
 ·rw[Ca];exact h.i
 refine⟨o.os.trans h.u.os,o.g.trans h.u.tape,o.f.trans h.u.output,by rw[y];omega,λb m=>?_⟩;rw[zJ b (λe=>by have:=h.a.1;simp at e;omega)];exact(o.d b oM (λq=>oH ((h.rp b q).1))).trans (h.u.block b m)
def CP.m{w0 k u0 u1 l o z w W P F S H T t}(h:CP w0 k u0 u1 l [] o w P F S H T)(O:wC (λb=>F b\/w.heap.size<=b) W t 1 (o.length+1) (vB o++[Iv z]))(n:wS (λb=>F b) w W):CS w0 k u0 u1 l [] (o++[z]) (W.setCell (Ad k 3) t):=by
 have U:=n.h;have V:=h.u.size;have B:=n.d k h.a.2 (λq=>(h.rf k q).2.2.1 rfl);have x:(W.setCell (Ad k 3) t).heap.size=W.heap.size:=uj;have y:∀j v,w.cell? (Ad k j)=some v->W.cell? (Ad k j)=some v:=λj v R=>(zI (a:=(Ad k j)) B).trans R
 have st:wQ (λb=>P b\/S b) w (W.setCell (Ad k 3) t):=λb c=>by
  have C:b<w.heap.size/\b≠k:=by
   rcases c with q|q
   ·exact⟨(h.rp b q).2.1,(h.rp b q).2.2.1⟩
   exact⟨(h.rs b q).2.1,(h.rs b q).2.2⟩
  rw[zJ b C.2];exact n.d b C.1 (λq=>by
   rcases c with r|r
   ·exact(h.rp b r).2.2.2.1 q
   exact(h.rf b q).2.2.2 r)
 refine⟨P,λb=>(F b\/w.heap.size<=b)/\b<W.heap.size/\b≠k,S,H,t,?_,?_,?_,?_,?_,?_,?_,?_,?_,?_,?_,?_,?_,h.i,?_⟩
 ·rw[ur oM];exact y 0 _ h.g0
 ·rw[ur oM];exact y 1 _ h.g1
 ·rw[ur oM];exact y 2 _ h.p
 ·exact uu (y 3 _ h.f)
 ·intro j;rw[Ff];exact(Ec (a:=(Ad k j)) B).trans (h.s j)
 ·exact h.r.on (λb c=>st b (.inl c))
 ·rw[wK,YF];have I:wC (λb=>(F b\/w.heap.size<=b)/\b<W.heap.size/\b≠k) W t 1 (o.length+1) (vB o++[Iv z]):=by
   rcases O with q|⟨g,cap,e,D,J,L,N,A⟩
   ·exact .inl q
   refine .inr ⟨g,cap,e,⟨D,?_,?_⟩,J,L,N,A⟩
   ·obtain⟨u,Q⟩:=Dt.1 (A 0 oM).1;exact ud Q
   intro e;subst e;rcases D with q|q
   ·exact(h.rf _ q).2.2.1 rfl
   have:=h.a.2;omega
  exact I.on (λb c=>zJ b c.2.2)
 ·exact h.h.on (λb c=>st b (.inr c))
 ·intro b j c;have:=st b (.inr c);exact(Ec (a:=(Ad b j)) this).trans (h.g b j c)
 ·intro b c;have:=h.rp b c;refine⟨this.1,by rw[x];omega,this.2.2.1,λr=>?_,this.2.2.2.2⟩;rcases r.1 with q|q
  ·exact this.2.2.2.1 q
  omega
 ·rintro b ⟨q,E,G⟩;rw[x];rcases q with q|q
  ·have:=h.rf b q;exact⟨this.1,E,G,this.2.2.2⟩
  exact⟨oM,E,G,λr=>by have:=(h.rs b r).2.1;omega⟩
 ·intro b c;have:=h.rs b c;exact⟨this.1,by rw[x];omega,this.2.2⟩
 ·exact⟨h.a.1,by rw[x];have:=h.a.2;omega⟩
 refine⟨n.os.trans h.u.os,n.g.trans h.u.tape,n.f.trans h.u.output,by rw[x];omega,λb c=>?_⟩;rw[zJ b (λe=>by have:=h.a.1;simp at e;omega)];exact(n.d b oM (λq=>oH ((h.rf b q).1))).trans (h.u.block b c)
def Fb(x:IC)(t:Int):IC:=⟨⟨x.d.e,x.d.f,t,x.d.sl,x.d.set⟩,x.a,x.c⟩
def jB:∀(l:List IC) (i:Nat) (x:IC) (t:Int),l[i]?=some x->uY (l.set i (Fb x t))=(uY l).set (i*4+2) (Iv t)
 |[],i,x,t,h=>by simp at h
 |y::l,0,x,t,h=>by
  simp at h;subst h;simp[uY,Il,Fb]
 |y::l,i+1,x,t,h=>by
  simp at h;rw[List.set_cons_succ,uY,uY,jB l i x t h,show(i+1)*4+2=(Il y).length+(i*4+2) by rw[Qw];omega];rw[Qg _ _ oM];congr 2;omega
def GH:∀(l:List IC) (i:Nat) (x:IC) (t:Int),l[i]?=some x->Io (l.set i (Fb x t))=Io l
 |[],i,x,t,h=>by simp at h
 |y::l,0,x,t,h=>by
  simp at h;subst h;have e:Fi (Fb y t)=Fi y:=rfl;rw[List.set_cons_zero];unfold Io;rw[List.filterMap_cons,List.filterMap_cons,e]
 |y::l,i+1,x,t,h=>by
  simp at h;have:=GH l i x t h;rw[List.set_cons_succ];unfold Io at *;rw[List.filterMap_cons,List.filterMap_cons,this]
def YH{l:List IC}{i:Nat}{x y:IC}{t:Int}(h:l[i]?=some x)(a:y∈l.set i (Fb x t)):y∈l\/y=Fb x t:=by
 rcases List.mem_or_eq_of_mem_set a with q|q
 ·exact .inl q
 exact .inr q
def CP.n{w0 k u0 u1 l H w P F S L g n cap i x t}(h:CP w0 k u0 u1 l [] H w P F S (Sl (Sm g 0) n cap) L)(o:l[i]?=some x) :
  CP w0 k u0 u1 (l.set i (Fb x t)) [] H (w.setCell (Ad g (i*4+2)) (Iv t)) P F S (Sl (Sm g 0) n cap) L:=by
 obtain⟨I,W⟩:P g/\True:=by
  rcases h.r with⟨q,_⟩|⟨O,N,q,J,_⟩
  ·cases q
  cases q;exact⟨J,trivial⟩
 have B:=h.rp g I;have v:(w.setCell (Ad g (i*4+2)) (Iv t)).heap.size=w.heap.size:=uj;have V:=(zT.1 o).1;have C:∀b,b≠g->(w.setCell (Ad g (i*4+2)) (Iv t)).heap[b]?=w.heap[b]?:=λb d=>zJ b d
 have D:∀b j,b≠g->(w.setCell (Ad g (i*4+2)) (Iv t)).cell? (Ad b j)=w.cell? (Ad b j):=λb j d=>zI (a:=(Ad b j)) (C b d)
 have A:k≠g:=λe=>B.2.2.1 e.symm
 refine⟨by rw[D k 0 A];exact h.g0,by rw[D k 1 A];exact h.g1,by rw[D k 2 A];exact h.p,by rw[D k 3 A];exact h.f,λj=>by rw[Ff];exact h.s j,?_,h.c.on (λb d=>C b (λe=>by subst e;exact B.2.2.2.1 d)),?_,λb j d=>by rw[Ff];exact h.g b j d,λb d=>by rw[v];exact h.rp b d,λb d=>by rw[v];exact h.rf b d,λb d=>by rw[v];exact h.rs b d,by rw[v];exact h.a,?_,?_⟩
 ·rcases h.r with⟨q,_⟩|⟨O,N,q,J,Q,R,T,z⟩
  ·cases q
  cases q;rw[Kq];refine .inr ⟨g,cap,rfl,I,by rw[jB l i x t o,Kq];exact Q,R,λj m=>?_,λj m=>⟨?_,?_⟩⟩
  ·rw[jB l i x t o,Kq]at m;rw[jB l i x t o];by_cases e:j=i*4+2
   ·subst e;obtain⟨u,G⟩:=Dt.1 (z (i*4+2) oM).1;rw[uu G,Lz m]
   rw[ur oM,T j m,Ol oM]
  ·by_cases e:j=i*4+2
   ·subst e;obtain⟨u,G⟩:=Dt.1 (z (i*4+2) m).1;rw[uu G];rfl
   rw[ur oM];exact(z j m).1
  rw[Ff];exact(z j m).2
 ·rw[Ca];have E:=h.h;rw[Ca]at E;have hs':zW S w (l.set i (Fb x t)):=λy U=>by
   rcases YH o U with q|q
   ·exact E y q
   subst q;exact E x (Be o)
  exact hs'.on (λb d=>C b (λe=>by subst e;exact B.2.2.2.2 d))
 ·rw[Ca,GH l i x t o];have:=h.i;rw[Ca]at this;exact this
 exact⟨h.u.os,h.u.tape,h.u.output,by rw[v];exact h.u.size,λb d=>(C b (λe=>by subst e;have:=B.1;omega)).trans (h.u.block b d)⟩
def XB(X:Np)(w wc:Wl)(b:Nat):Prop:=(X b/\b<w.heap.size)\/(w.heap.size+2<=b/\b<wc.heap.size)
section
open M (OpD uh Gr uw)
def Hp(e:Au):List Value:=[Iv e.e,Iv e.f,Iv e.c]
def uS(l:List Au):List Value:=l.flatMap Hp
def uhO l e:uS (l++[e])=uS l++Hp e:=by simp[uS]
def uhP l j:uS (l.take j)=(uS l).take (j*3):=NX Hp 3 (λ_=>rfl) l j
structure Bk(P:Np)(w w':Wl):Prop where
 os:w'.os=w.os
 g:w'.tape=w.tape
 f:w'.output=w.output
 h:w'.heap.size=w.heap.size
 d:∀b,¬P b->w'.heap[b]?=w.heap[b]?
def Bk.e P w:Bk P w w:=⟨rfl,rfl,rfl,rfl,λ_ _=>rfl⟩
def Bk.set{P w w'}(h:Bk P w w')b o v(c:P b):Bk P w (w'.setCell (Ad b o) v) :=
 ⟨h.os,h.g,h.f,by rw[uj];exact h.h,λx a=>(zJ x (λe=>a (by simp at e;rw[e];exact c))).trans (h.d x a)⟩
def uvv{s:wD}{k:Int}(h:s.s k=true):∃m f,s.st.length=m+1/\s.st[m]?=some f/\s.st.getLast? = some f/\f.e=k:=by
 unfold wD.s at h;cases a:s.st.getLast? with
 |none=>rw[a]at h;cases h
 |some f =>
  rw[a]at h;have c:s.st.length≠0:=λe=>by rw[Hh e]at a;cases a
  obtain⟨m,b⟩:∃m,s.st.length=m+1:=⟨s.st.length-1,oM⟩;refine⟨m,f,b,?_,rfl,by simpa using h⟩;rw[List.getLast?_eq_getElem?,b]at a;simpa using a
def utB:(prog.info? 99).map (λi=>(i.zero,i.size,i.bytes))=some (some (.agg #[Iv 0,Iv 0,Iv 0]),3,24):=rR
def QN:vA 42 99 3 24:=⟨underlying42,⟨_,utB,rfl⟩,oM⟩
section
variable {K L X:Np} {w W W' Z:Wl} {s t:wD} {ka la xa:Oa} {kc lc xn xc n ln:Nat} {e:Ending}
end
end
def ujj{mO:Int}{s:wD}(x:uw)(il:Nat)(I:Nat->Int):(s.q x il I mO).d<=s.d+1:=by
 have g:∀s:wD,s.fail.d=s.d:=λs=>by unfold wD.fail;split<;>rfl
 have h:∀(s:wD) f,(s.n f mO).d=s.d:=λs f=>by unfold wD.n;split<;>rfl
 have i:∀(s:wD) n S,(s.m n S).d=s.d:=λs n S=>by unfold wD.m;split<;>(try split)<;>rfl
 have e:∀(c:Prop) [Decidable c] (a b:wD),a.d<=s.d+1->b.d<=s.d+1->(if c then a else b).d<=s.d+1:=λc _ a b j k=>by split<;>assumption
 unfold wD.q wD.u wD.w wD.v;repeat' (refine e _ _ _ ?_ ?_)
 all_goals first|exact Gw _|exact wF|(rw[h];exact Gw _)|(rw[h];exact wF)|(rw[g];exact Gw _)|(rw[g];refine e _ _ _ ?_ ?_;exact Gw _;rw[i];exact Gw _)
structure QP(n:Nat)(R:Nat->uw)(fU mO:Int):Prop where
 f0:0<=fU
 f1:fU<=50000
 m0:0<=mO
 m1:mO<=1000
 h:∀i,i<n->(R i).sl<=512
def s0:wD:=⟨0,0,[],[],0,λ_=>false,0,0,false,0,0⟩
def CR{Q w v x a l n m cs news t j e}ty(f:vA t e a l)(i:wC Q w v a n cs)(d:Src prog a j x m news w)(s:n+m<=16777216) :
  ∃k w',(Builtin.append_ #[t,j] ty #[v,x]).run prog w=.ok k w'/\wC (λb=>Q b\/w.heap.size<=b) w' k a (n+m) (cs++news)/\wS (λb=>Q b) w w'/\w'.heap.size<=w.heap.size+1:=by
 by_cases c:v=nS->0<m
 ·exact xd ty f i d s c
 have u:v=nS:=Classical.byContradiction (λh=>c (λq=>aB q h));obtain rfl:m=0:=by
  by_cases h:m=0
  ·exact h
  exact aB (λ_=>oM) c
 have z:=d.newsLen;obtain rfl:news = []:=Hh oM;subst u;have p:n=0/\cs = []:=by
  rcases i with⟨_,h,o⟩|⟨g,cap,h,_⟩
  ·exact⟨h,o⟩
  cases h
 obtain⟨rfl,rfl⟩:=p;exact⟨_,_,Tf ty f d,.inl ⟨rfl,rfl,rfl⟩,⟨rfl,rfl,rfl,wF,λ_ _ _=>rfl,λ_ _ _=>rfl,λ_ _ y r=>aB r oM⟩,oM⟩
def ujk l:∀u,u∈uS l->u.oneCell'=true:=λu b=>by
 obtain⟨e,_,a⟩:=Hi.1 b;simp[Hp]at a;rcases a with rfl|rfl|rfl<;>rfl
def uq6{L w a c l}(h:wC L w (Sl a l.length c) 3 l.length (uS l)):Src prog 3 42 (Sl a l.length c) l.length (uS l) w:=by
 rcases h with⟨e,f,i⟩|⟨g,cap,e,p,k,n,m,o⟩
 ·obtain rfl:a=none:=by injection e
  rw[f,i];exact Src.ofNil _ underlying42 c
 obtain rfl:a=some (Ad g 0):=by injection e
 refine Gj (P:=prog) _ underlying42 (Ad g 0) _ c (uS l) k (λj u d=>?_) (ujk l);have e':((Ad g 0):Addr).add j=(Ad g j):=by
  by_cases b:j=0
  ·subst b;simp[Addr.add]
  simp[Addr.add,b]
 rw[e',m j (zT.1 d).1];exact d
def QS:∀(l:List Au) (i j:Nat) (x:Au),l[i]?=some x->j<3->(uS l)[i*3+j]?=(Hp x)[j]?
 |[],i,j,x,h,_=>by simp at h
 |y::l,0,j,x,h,hj=>by
  simp at h;subst h;show(Hp y++uS l)[0*3+j]?=_;rw[Cr (by show 0*3+j<3;omega)];simp
 |y::l,i+1,j,x,h,hj=>by
  simp at h;show(Hp y++uS l)[(i+1)*3+j]?=_;have a:(Hp y).length=3:=rfl;rw[Di (by rw[a];omega),a,show(i+1)*3+j-3=i*3+j by omega];exact QS l i j x h hj
def QT{Q w a c l}(h:wC Q w (Sl a l.length c) 3 l.length (uS l)):CQ Q w a l.length (λi=>l.getD i ⟨0,0,0⟩):=by
 rcases h with⟨_,e,_⟩|⟨g,cap,e,m,q,p,f,n⟩
 ·exact .inl e
 obtain rfl:a=some (Ad g 0):=by injection e
 refine .inr ⟨g,rfl,m,λj d=>(n j oM).2,λi k=>?_⟩;have o:l[i]?=some (l.getD i ⟨0,0,0⟩):=by rw[Cx,zG k];rfl
 have b:∀j,j<3->w.cell? (Ad g (i*3+j))=(Hp (l.getD i ⟨0,0,0⟩))[j]?:=λj d=>by
  rw[f _ oM,QS l i j _ o d]
 exact⟨b 0 oM,b 1 oM,b 2 oM⟩
def uoR b:rg (λ_=>false) b = []:=by
 induction b with
 |zero=>rfl
 |succ b a=>rw[rg,a];rfl
def Ix:(rg s0.j 256).length=0:=by
 show(rg (λ_=>false) 256).length=0;rw[uoR];rfl
def zF.q{w w1 w':Wl}{v:Vl}{D:List OpD}{C:Np}(h:zF (wM w w1) w1 v D)(k:wA C w1 w')(c:∀b,C b->b<w.heap.size:=by intro b q;exact q.elim):zF (wM w w1) w' v D :=
 h.on (λb a=>k.d b a.2 (λq=>oG (c b q) a.1))
structure Ds(Q:Np)(t:wD)(cd ps lb fa:Int)(xa:Oa)(xn:Nat)(th:Int)(va:Oa)(vn:Nat)(w w':Wl):Prop where
 i:cd=t.i
 e:cd=0\/cd=1\/cd=2\/cd=3
 h:cd≠3->fa=(t.h:Int)/\th=(t.d:Int)/\Dw Q w' xa xn t.j
 ok:cd=0->ps=(t.c:Int)/\vn=t.a.length/\∃vc,wC Q w' (Sl va vn vc) 3 vn (uS t.a)
 d:cd=2->ps=(t.c:Int)/\lb=t.label
 u:Bw w w'
 lz:cd≠2->lb=0
def NR(Q:Wl->Nat->Prop)(t:wD)(w:Wl)(e:Ending)(w':Wl):Prop:=∃a ps lb b f g xc st th c d vc,e=Rt (.agg #[Iv a,Iv ps,Iv lb,Iv b,Sl f g xc,Iv st,Iv th,Sl c d vc])/\Ds (Q w') t a ps lb b f g th c d w w'
def NT(t:wD)(w:Wl):Ending->World->Prop:=NR (wM w) t w
def Ds.mv{Q Q' t a ps lb b m n th k l w0 w w' W}(h:Ds Q t a ps lb b m n th k l w w')(f:wQ Q w' W)(j:∀x,Q x->Q' x)(p:Bw w0 W):Ds Q' t a ps lb b m n th k l w0 W :=
 ⟨h.i,h.e,λc=>⟨(h.h c).1,(h.h c).2.1,((h.h c).2.2.on f).g j⟩,λc=>⟨(h.ok c).1,(h.ok c).2.1,let ⟨vc,o⟩:=(h.ok c).2.2;⟨vc,uA (o.on f) j⟩⟩,h.d,p,h.lz⟩
def Rq{Q w}:wQ Q w w:=λ_ _=>rfl
def wQ.j{Q w w'}(h:wQ Q w w'):wQ Q w w'.drew:=h
def wQ.k{Q w w'}(h:wQ Q w w')b o v(a:¬Q b):wQ Q w (w'.setCell (Ad b o) v):=h.c (GO _ _ _ a)
end Go.Proofs.YtoihadcablknpaaGreatDoor
