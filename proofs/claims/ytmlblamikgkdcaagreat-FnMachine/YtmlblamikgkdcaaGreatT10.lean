import Derived.Test.YtmlblamikgkdcaaGreatT06
set_option linter.unusedVariables false
set_option linter.unusedSimpArgs false
set_option linter.defProp false
set_option maxHeartbeats 40000000
set_option maxRecDepth 100000
namespace Go.Proofs.YtmlblamikgkdcaaGreat
open Go.RowKit
open Go.Proofs.Tryz
open M (OpD ug Gr TX b1)
def qY(g:Gr)(i:Nat):ByteArray:=str (g.a i).nl (g.a i).f
def qZ(g:Gr)(i:Nat):ByteArray:=str (g.d i).nl (g.d i).f
def jb{g}(a:M.Sound g){i}(b:i<g.nr):0<(qY g i).size/\(qY g i).size<=32:=by
 unfold qY;rw[qo];exact⟨(a.rn i b).2.2.1,(a.rn i b).1⟩
def jc{g}(a:M.Sound g){i}(b:i<g.nb):0<(qZ g i).size/\(qZ g i).size<=32:=by
 unfold qZ;rw[qo];exact⟨(a.ln i b).2.2.1,(a.ln i b).1⟩
def qN{g}(c:M.Sound g){k}(d:k<g.nr):(g.a k).bl<=2000:=by
 have b:=c.ol;unfold M.ops at b;have:=M.cQ (λi=>(g.a i).bl) d;omega
def Qg{g}(b:M.Sound g){k}(c:k<g.nb):(g.d k).bl<=2000:=by
 have a:=b.ol;unfold M.ops at a;have:=M.cQ (λi=>(g.d i).bl) c;omega
open M (uw EX ins)
def M0 a:(vL a).length=a.length:=by simp[vL]
def M1 a b:vL (a++b)=vL a++vL b:=by simp[vL]
def Gl(x:IC):Option Nat:=if x.d.sl=0 then none else x.a.map (λa=>a.block)
def Ja(l:List IC):List Nat:=l.filterMap Gl
def MM l m:Ja (l++m)=Ja l++Ja m:=by simp[Ja]
def M2 k a t:Gl (ic k a t)=none:=by simp[Gl,ic,ins]
def MN{S w l}(h:Cb S w l){b}(d:b∈Ja l):S b:=by
 let⟨x,g,a⟩:=List.mem_filterMap.1 d;unfold Gl at a;split at a
 .cases a
 rename_i c;rcases h x g with q|⟨i,off,e,f,_⟩
 .exact aB q c
 rw[e]at a;simp at a;rw[<-a];exact f
structure CP(w0:Wl)(cb:Nat)(u0 u1:Vl)(l e:List IC)(fl:LI)(w:Wl)(P F S:Np)(vp vf:Vl):Prop where
 g0:w.cell? (Ad cb 0)=some u0
 g1:w.cell? (Ad cb 1)=some u1
 p:w.cell? (Ad cb 2)=some vp
 f:w.cell? (Ad cb 3)=some vf
 r:∀j,w.frozen? (Ad cb j)=false
 k:zB P w vp 4 l.length (uQ l)
 d:zB F w vf 1 fl.length (vL fl)
 m:Cb S w (l++e)
 i:∀b j,S b->w.frozen? (Ad b j)=false
 rp:∀b,P b->w0.heap.size<=b/\b<w.heap.size/\b≠cb/\¬F b/\¬S b
 rf:∀b,F b->w0.heap.size<=b/\b<w.heap.size/\b≠cb/\¬S b
 rs:∀b,S b->w0.heap.size<=b/\b<w.heap.size/\b≠cb
 c:w0.heap.size<=cb/\cb<w.heap.size
 g:(Ja (l++e)).Nodup
 q:Bw w0 w
def CS(w0:Wl)(a:Nat)(u0 u1:Vl)(l e:List IC)(b:LI)(w:Wl):Prop:=∃P F S d c,CP w0 a u0 u1 l e b w P F S d c
def MO{w w' b j}(h:w.frozen? (Ad b j)=false)(a:b<w.heap.size)(k:Bw w w'):w'.frozen? (Ad b j)=false:=(k.frozen (p:=(Ad b j)) a).trans h
def CP.h{w0 n u0 u1 l e o w w' P F S t s}(h:CP w0 n u0 u1 l e o w P F S t s)(k:Bw w w'):CP w0 n u0 u1 l e o w' P F S t s:=by
 have u:=k.size;exact⟨ue h.g0 k,ue h.g1 k,ue h.p k,ue h.f k,λj=>MO (h.r j) h.c.2 k,Yh h.k (λb a=>(h.rp b a).2.1) k,Yh h.d (λb a=>(h.rf b a).2.1) k,h.m.h k,
  λb j a=>MO (h.i b j a) (h.rs b a).2.1 k,λb a=>⟨(h.rp b a).1,by have:=(h.rp b a).2.1;omega,(h.rp b a).2.2⟩,λb a=>⟨(h.rf b a).1,by have:=(h.rf b a).2.1;omega,(h.rf b a).2.2⟩,λb a=>⟨(h.rs b a).1,by have:=(h.rs b a).2.1;omega,(h.rs b a).2.2⟩,
  ⟨h.c.1,by have:=h.c.2;omega⟩,h.g,h.q.trans (k.mono h.q.size)⟩
def CS.h{w0 a u0 u1 l e b w w'}(h:CS w0 a u0 u1 l e b w)(k:Bw w w'):CS w0 a u0 u1 l e b w':=let⟨P,F,S,vp,vf,h⟩:=h;⟨P,F,S,vp,vf,h.h k⟩
def CS.q{w0 a u0 u1 l e b w}(h:CS w0 a u0 u1 l e b w):Bw w0 w:=let⟨_,_,_,_,_,h⟩:=h;h.q
def CP.a{w0 b u0 u1 l e w P F S o n}(h:CP w0 b u0 u1 l [] e w P F S o n)k a t:CP w0 b u0 u1 l [ic k a t] e w P F S o n :=
 ⟨h.g0,h.g1,h.p,h.f,h.r,h.k,h.d,by
  have:=h.m;rw[Dl]at this;exact this.app (λx j=>by simp at j;subst j;exact .inl rfl),h.i,h.rp,h.rf,h.rs,h.c,by
  have:=h.g;rw[Dl]at this;rw[MM];simp[Ja,M2];exact this,h.q⟩
def CS.a{w0 b u0 u1 l c w}(h:CS w0 b u0 u1 l [] c w)k a t:CS w0 b u0 u1 l [ic k a t] c w:=let⟨P,F,S,vp,vf,h⟩:=h;⟨P,F,S,vp,vf,h.a k a t⟩
def CS.c{w0 t u0 u1 l u w w'}(h:CS w0 t u0 u1 l [] u w)(k:Bw w w')x(z:Ints (zF w w') .i64 w' x.a x.d.sl x.d.set)(G:Dc w w'):CS w0 t u0 u1 l [x] u w':=by
 obtain⟨P,F,S,I,H,o⟩:=h;have h:=o.h k;have J:=o.q.size;refine⟨P,F,λb=>S b\/zF w w' b,I,H,h.g0,h.g1,h.p,h.f,h.r,h.k,h.d,?_,?_,?_,?_,?_,h.c,?_,h.q⟩
 .have:=h.m;rw[Dl]at this;exact(this.g (λb q=>.inl q)).app (λy s=>by simp at s;subst s;exact z.g (λb q=>.inr q))
 .rintro b j (q|q)
  .exact h.i b j q
  exact G b j q.1 q.2
 .intro b q;have n:=h.rp b q;have v:=(o.rp b q).2.1;exact⟨n.1,n.2.1,n.2.2.1,n.2.2.2.1,λr=>r.elim n.2.2.2.2 (λr=>oH r.1)⟩
 .intro b q;have n:=h.rf b q;have v:=(o.rf b q).2.1;exact⟨n.1,n.2.1,n.2.2.1,λr=>r.elim n.2.2.2 (λr=>oH r.1)⟩
 .rintro b (q|q)
  .exact h.rs b q
  exact⟨by have:=q.1;omega,q.2,λe=>by have:=q.1;have:=o.c.2;omega⟩
 have A:=h.g;rw[Dl]at A;rw[MM];refine List.nodup_append.2 ⟨A,?_,?_⟩
 .unfold Ja;cases B:Gl x with
  |none=>simp[B]
  |some b=>simp[B]
 intro a D b E e;subst e;have n:=MN (by have:=o.m;rw[Dl]at this;exact this) D;have v:=(o.rs a n).2.1;have C:=MN (S:=zF w w') (w:=w') (l:=[x]) (λy s=>by simp at s;subst s;exact z) E;have:=C.1;omega
def CP.n{w0 o u0 u1 l x z w W P F S I E u}(h:CP w0 o u0 u1 l [x] z w P F S I E)(G:zB (λb=>P b\/w.heap.size<=b) W u 4 (l.length+1) (uQ l++Iz x))(s:zT (λb=>P b) w W):CP w0 o u0 u1 (l++[x]) [] z (W.setCell (Ad o 2) u) (λb=>(P b\/w.heap.size<=b)/\b<W.heap.size/\b≠o) F S u E:=by
 have J:=s.l;have L:=h.q.size;have A:=s.d o h.c.2 (λq=>(h.rp o q).2.2.1 rfl);have t:(W.setCell (Ad o 2) u).heap.size=W.heap.size:=uh _ _ _;have y:∀j v,w.cell? (Ad o j)=some v->W.cell? (Ad o j)=some v:=λj v H=>(Bd (a:=(Ad o j)) A).trans H;have st:zS (λb=>F b\/S b) w (W.setCell (Ad o 2) u):=λb k=>by
  have B:b<w.heap.size/\b≠o:=by
   rcases k with q|q
   .exact⟨(h.rf b q).2.1,(h.rf b q).2.2.1⟩
   exact⟨(h.rs b q).2.1,(h.rs b q).2.2⟩
  rw[Gz b B.2];exact s.d b B.1 (λq=>by
   rcases k with r|r
   .exact(h.rp b q).2.2.2.1 r
   exact(h.rp b q).2.2.2.2 r)
 refine⟨?_,?_,?_,?_,?_,?_,?_,?_,?_,?_,?_,?_,?_,?_,?_⟩
 .rw[uu oM];exact y 0 _ h.g0
 .rw[uu oM];exact y 1 _ h.g1
 .exact uC (y 2 _ h.p)
 .rw[uu oM];exact y 3 _ h.f
 .intro j;rw[Et];exact(Dp (a:=(Ad o j)) A).trans (h.r j)
 .rw[zJ,MC];have e:uQ [x]=Iz x:=by simp[uQ]
  rw[e];exact(G.a oM (λb q k=>(⟨q,k,λe=>by subst e;exact q.elim (λq=>(h.rp _ q).2.2.1 rfl) (oH h.c.2)⟩:(P b\/w.heap.size<=b)/\b<W.heap.size/\b≠o))).on (λb k=>Gz b k.2.2)
 .exact h.d.on (λb k=>st b (.inl k))
 .rw[Dl];exact h.m.on (λb k=>st b (.inr k))
 .intro b j k;have:=st b (.inr k);exact(Dp (a:=(Ad b j)) this).trans (h.i b j k)
 .rintro b ⟨q,C,D⟩;rw[t];rcases q with q|q
  .have:=h.rp b q;exact⟨this.1,C,D,this.2.2.2⟩
  exact⟨oM,C,D,λr=>by have:=(h.rf b r).2.1;omega,λr=>by have:=(h.rs b r).2.1;omega⟩
 .intro b k;have:=h.rf b k;exact⟨this.1,by rw[t];omega,this.2.2⟩
 .intro b k;have:=h.rs b k;exact⟨this.1,by rw[t];omega,this.2.2⟩
 .exact⟨h.c.1,by rw[t];have:=h.c.2;omega⟩
 .rw[Dl];exact h.g
 refine⟨s.os.trans h.q.os,s.g.trans h.q.tape,s.f.trans h.q.output,by rw[t];omega,λb k=>?_⟩;rw[Gz b (λe=>by have:=h.c.1;simp at e;omega)];exact(s.d b oM (λq=>oH ((h.rp b q).1))).trans (h.q.block b k)
def CP.s{w0 o u0 u1 l A z w W P F S G J x}(h:CP w0 o u0 u1 l [] A w P F S G J)(H:zB (λb=>F b\/w.heap.size<=b) W x 1 (A.length+1) (vL A++[Iv z]))(t:zT (λb=>F b) w W):CS w0 o u0 u1 l [] (A++[z]) (W.setCell (Ad o 3) x):=by
 have L:=t.l;have N:=h.q.size;have B:=t.d o h.c.2 (λq=>(h.rf o q).2.2.1 rfl);have u:(W.setCell (Ad o 3) x).heap.size=W.heap.size:=uh _ _ _;have y:∀j v,w.cell? (Ad o j)=some v->W.cell? (Ad o j)=some v:=λj v I=>(Bd (a:=(Ad o j)) B).trans I;have st:zS (λb=>P b\/S b) w (W.setCell (Ad o 3) x):=λb n=>by
  have C:b<w.heap.size/\b≠o:=by
   rcases n with q|q
   .exact⟨(h.rp b q).2.1,(h.rp b q).2.2.1⟩
   exact⟨(h.rs b q).2.1,(h.rs b q).2.2⟩
  rw[Gz b C.2];exact t.d b C.1 (λq=>by
   rcases n with r|r
   .exact(h.rp b r).2.2.2.1 q
   exact(h.rf b q).2.2.2 r)
 refine⟨P,λb=>(F b\/w.heap.size<=b)/\b<W.heap.size/\b≠o,S,G,x,?_,?_,?_,?_,?_,?_,?_,?_,?_,?_,?_,?_,?_,h.g,?_⟩
 .rw[uu oM];exact y 0 _ h.g0
 .rw[uu oM];exact y 1 _ h.g1
 .rw[uu oM];exact y 2 _ h.p
 .exact uC (y 3 _ h.f)
 .intro j;rw[Et];exact(Dp (a:=(Ad o j)) B).trans (h.r j)
 .exact h.k.on (λb n=>st b (.inl n))
 .rw[zJ,M1];exact(H.a oM (λb q n=>(⟨q,n,λe=>by subst e;exact q.elim (λq=>(h.rf _ q).2.2.1 rfl) (oH h.c.2)⟩:(F b\/w.heap.size<=b)/\b<W.heap.size/\b≠o))).on (λb n=>Gz b n.2.2)
 .exact h.m.on (λb n=>st b (.inr n))
 .intro b j n;have:=st b (.inr n);exact(Dp (a:=(Ad b j)) this).trans (h.i b j n)
 .intro b n;have:=h.rp b n;refine⟨this.1,by rw[u];omega,this.2.2.1,λr=>?_,this.2.2.2.2⟩;rcases r.1 with q|q
  .exact this.2.2.2.1 q
  omega
 .rintro b ⟨q,D,E⟩;rw[u];rcases q with q|q
  .have:=h.rf b q;exact⟨this.1,D,E,this.2.2.2⟩
  exact⟨oM,D,E,λr=>by have:=(h.rs b r).2.1;omega⟩
 .intro b n;have:=h.rs b n;exact⟨this.1,by rw[u];omega,this.2.2⟩
 .exact⟨h.c.1,by rw[u];have:=h.c.2;omega⟩
 refine⟨t.os.trans h.q.os,t.g.trans h.q.tape,t.f.trans h.q.output,by rw[u];omega,λb n=>?_⟩;rw[Gz b (λe=>by have:=h.c.1;simp at e;omega)];exact(t.d b oM (λq=>oH ((h.rf b q).1))).trans (h.q.block b n)
def Gg(x:IC)(t:Int):IC:=⟨⟨x.d.e,x.d.f,t,x.d.sl,x.d.set⟩,x.a,x.c⟩
def qw:∀(l:List IC) (i:Nat) (x:IC) (t:Int),l[i]?=some x->uQ (l.set i (Gg x t))=(uQ l).set (i*4+2) (Iv t)
 |[],i,x,t,h=>by simp at h
 |y::l,0,x,t,h=>by
  simp at h;subst h;simp[uQ,Iz,Gg]
 |y::l,i+1,x,t,h=>by
  simp at h;rw[List.set_cons_succ,uQ,uQ,qw l i x t h,show(i+1)*4+2=(Iz y).length+(i*4+2) by rw[Vw];omega];rw[Ve _ _ oM];congr 2;omega
def MP:∀(l:List IC) (i:Nat) (x:IC) (t:Int),l[i]?=some x->Ja (l.set i (Gg x t))=Ja l
 |[],i,x,t,h=>by simp at h
 |y::l,0,x,t,h=>by
  simp at h;subst h;have e:Gl (Gg y t)=Gl y:=rfl;rw[List.set_cons_zero];unfold Ja;rw[List.filterMap_cons,List.filterMap_cons,e]
 |y::l,i+1,x,t,h=>by
  simp at h;have:=MP l i x t h;rw[List.set_cons_succ];unfold Ja at *;rw[List.filterMap_cons,List.filterMap_cons,this]
def M3{l:List IC}{i:Nat}{x y:IC}{t:Int}(h:l[i]?=some x)(a:y∈l.set i (Gg x t)):y∈l\/y=Gg x t:=by
 rcases Vg a with q|q
 .exact .inl q
 exact .inr q
def CP.t{w0 s u0 u1 l J w P F S O g n cap i x t}(h:CP w0 s u0 u1 l [] J w P F S (Sl (Sm g 0) n cap) O)(z:l[i]?=some x) :
  CP w0 s u0 u1 (l.set i (Gg x t)) [] J (w.setCell (Ad g (i*4+2)) (Iv t)) P F S (Sl (Sm g 0) n cap) O:=by
 obtain⟨L,Y⟩:P g/\True:=by
  rcases h.k with⟨q,_⟩|⟨R,Q,q,N,_⟩
  .cases q
  cases q;exact⟨N,trivial⟩
 have D:=h.rp g L;have A:(w.setCell (Ad g (i*4+2)) (Iv t)).heap.size=w.heap.size:=uh _ _ _;have X:=(Bz.1 z).1;have E:∀b,b≠g->(w.setCell (Ad g (i*4+2)) (Iv t)).heap[b]?=w.heap[b]?:=λb o=>Gz b o;have G:∀b j,b≠g->(w.setCell (Ad g (i*4+2)) (Iv t)).cell? (Ad b j)=w.cell? (Ad b j):=λb j o=>Bd (a:=(Ad b j)) (E b o);have C:s≠g:=λe=>D.2.2.1 e.symm;refine⟨by rw[G s 0 C];exact h.g0,by rw[G s 1 C];exact h.g1,by rw[G s 2 C];exact h.p,by rw[G s 3 C];exact h.f,λj=>by rw[Et];exact h.r j,?_,h.d.on (λb o=>E b (λe=>by subst e;exact D.2.2.2.1 o)),?_,λb j o=>by rw[Et];exact h.i b j o,λb o=>by rw[A];exact h.rp b o,λb o=>by rw[A];exact h.rf b o,λb o=>by rw[A];exact h.rs b o,by rw[A];exact h.c,?_,?_⟩
 .rcases h.k with⟨q,_⟩|⟨R,Q,q,N,T,U,V,B⟩
  .cases q
  cases q;rw[Hb];refine .inr ⟨g,cap,rfl,L,by rw[qw l i x t z,Hb];exact T,U,λj v=>?_,λj v=>⟨?_,?_⟩⟩
  .rw[qw l i x t z,Hb]at v;rw[qw l i x t z];by_cases e:j=i*4+2
   .subst e;let⟨u,I⟩:=Kc.1 (B (i*4+2) oM).1;rw[uC I,Ie v]
   rw[uu oM,V j v,Oz oM]
  .by_cases e:j=i*4+2
   .subst e;let⟨u,I⟩:=Kc.1 (B (i*4+2) v).1;rw[uC I];rfl
   rw[uu oM];exact(B j v).1
  rw[Et];exact(B j v).2
 .rw[Dl];have H:=h.m;rw[Dl]at H;have hs':Cb S w (l.set i (Gg x t)):=λy W=>by
   rcases M3 z W with q|q
   .exact H y q
   subst q;exact H x (Cn z)
  exact hs'.on (λb o=>E b (λe=>by subst e;exact D.2.2.2.2 o))
 .rw[Dl,MP l i x t z];have:=h.g;rw[Dl]at this;exact this
 exact⟨h.q.os,h.q.tape,h.q.output,by rw[A];exact h.q.size,λb o=>(E b (λe=>by subst e;have:=D.1;omega)).trans (h.q.block b o)⟩
def L8(w:Wl)(x:IC):Src prog 4 39 (Sl (Sm w.heap.size 0) 1 1) 1 (Iz x) (w.alloc (Oc #[Iv x.d.e,Iv x.d.f,Iv x.d.to,Sl x.a x.d.sl x.c] 102)):=qg underlying39 rfl rfl rfl
def L9(w0:Wl)(b:Nat)(u0 u1:Vl)(l:List IC)(c:LI)(F S:Np)(d:Vl)(n:Nat)(e:Ending)(w':Wl):Prop :=
 e=Rt (Iv (n:Int))/\∃a f,CP w0 b u0 u1 l [] c w' a F S f d
def DI w0 b u0 u1 l x j w P F S C o(h:CP w0 b u0 u1 l [x] j w P F S C o)(G:l.length<=200000) :
  Cs 42 #[.pointer (Sm b 0),.agg #[Iv x.d.e,Iv x.d.f,Iv x.d.to,Sl x.a x.d.sl x.c]] w (L9 w0 b u0 u1 (l++[x]) j F S o l.length):=by
 obtain⟨m,pc,rfl⟩:=uj h.k;have i:Hid (CP w0 b u0 u1 l [x] j (w.alloc (Oc #[Iv x.d.e,Iv x.d.f,Iv x.d.to,Sl x.a x.d.sl x.c] 102)) P F S (Sl m l.length pc) o):=h.h (zO w);have D:(w.alloc (Oc #[Iv x.d.e,Iv x.d.f,Iv x.d.to,Sl x.a x.d.sl x.c] 102)).cell? (Ad w.heap.size 0)=some (Iv x.d.e):=cN w.heap.size rfl rfl;have Q:(w.alloc (Oc #[Iv x.d.e,Iv x.d.f,Iv x.d.to,Sl x.a x.d.sl x.c] 102)).cell? (Ad w.heap.size 1)=some (Iv x.d.f):=cN w.heap.size rfl rfl;have R:(w.alloc (Oc #[Iv x.d.e,Iv x.d.f,Iv x.d.to,Sl x.a x.d.sl x.c] 102)).cell? (Ad w.heap.size 2)=some (Iv x.d.to):=cN w.heap.size rfl rfl;have T:(w.alloc (Oc #[Iv x.d.e,Iv x.d.f,Iv x.d.to,Sl x.a x.d.sl x.c] 102)).cell? (Ad w.heap.size 3)=some (Sl x.a x.d.sl x.c):=cN w.heap.size rfl rfl;clear h;go_enter func42,ntmps42;go_wp2;generalize w.alloc (Oc #[Iv x.d.e,Iv x.d.f,Iv x.d.to,Sl x.a x.d.sl x.c] 102)=X at *;have p2:=i.p;have J:=i.r 2;have H:=i.c.2;have I:=ud D;have g:Hid (CP w0 b u0 u1 l [x] j (X.drew.alloc (Oc #[Iv x.d.e,Iv x.d.f,Iv x.d.to,Sl x.a x.d.sl x.c] 102)) P F S (Sl m l.length pc) o):=i.o.h ((zH X).drew.trans (zO X.drew));have L:(X.alloc (Oc #[Iv x.d.e,Iv x.d.f,Iv x.d.to,Sl x.a x.d.sl x.c] 102)).cell? (Ad b 2)=some (Sl m l.length pc):=uG _ p2;go_region_law (first
  |(refine jN rfl (.tmp 9) (.tmp 11) 39 39 rfl (v:=Sl m l.length pc) (y:=Sl (Sm X.heap.size 0) 1 1) (by simp[Act.eval]) (by simp[Act.eval]) DH g.k (L8 X.drew x) oM ?_;intro O W4 u t B;obtain⟨E,c',rfl⟩:=uj u;have z:=g.n u t;have s:=t.d b g.c.2 (λq=>(g.rp b q).2.2.1 rfl);have r2:=(Bd (a:=(Ad b 2)) s).trans g.p;have N:=(Dp (a:=(Ad b 2)) s).trans (g.r 2);have A:=ua z;clear u t B z s))
 all_goals go_wp2
 all_goals go_ret
 all_goals exact⟨vk oM,_,_,A⟩
def Yk w0(a:Nat){u0}{u1}{l} b w(i:Nat)x(h:CS w0 a u0 u1 l [] b w)(f:l[i]?=some x)(C:l.length<=200000) :
  Cs 158 #[.pointer (Sm a 0),Iv (i:Int)] w λe w'=>(∃v,e=Rt v)/\CS w0 a u0 u1 (l.set i (Gg x (l.length:Int))) [] b w':=by
 obtain⟨P,F,S,s,r,h⟩:=h;have B:=(Bz.1 f).1;obtain⟨g,cap,rfl,d⟩:∃g cap,s=Sl (Sm g 0) l.length cap/\Wr w g (cap*4)/\l.length<=cap:=by
  rcases h.k with⟨_,q,_⟩|⟨g,cap,e,D,y,m,z,n⟩
  .omega
  exact⟨g,cap,e,n,m⟩
 have j:Hid (CP w0 a u0 u1 (l.set i (Gg x (l.length:Int))) [] b (w.drew.setCell (Ad g (i*4+2)) (Iv l.length)) P F S (Sl (Sm g 0) l.length cap) r):=(h.h (zH w).drew).t f;have p2:=h.p;have E:=h.c.2;let⟨u,o⟩:=Kc.1 (d.1 (i*4+2) oM).1;have A:=(d.1 (i*4+2) oM).2;have G:=ud o;have hi':(i:Int)<(l.length:Int):=oM;go_enter func158,ntmps158;go_wp2;go_region;all_goals go_wp2
 all_goals go_end0
 all_goals exact⟨⟨_,rfl⟩,_,_,_,_,_,j⟩
open M (uT uag)
def I3 b o n c T w Q(u:∀i,i<n->Em Q w b (o+i*3) (T i))(F:n<=1048576)(B:n<=c)s(G:s<n)(r:M.dep T s+1=M.dep T n)(t:∀j,s<j->j<=n->M.dep T n<=M.dep T j) :
  Cs 157 #[Sl (Sm b o) n c] w λp w'=>p=Rt (.tuple #[Sl (Sm b o) s c,Sl (Sm b (o+s*3)) (n-s) (c-s)])/\Bw w w':=by
 have l:=ua u;have g:=ua r;have h:=ua t;go_enter func157,ntmps157;go_wp2;go_loopw [5,4] (λd i wr=>ZZ w T s n d i wr) (λd i _=>(intOf i).toNat)
 .exact⟨n,oM,zD,xm oM,rfl,rfl⟩
 obtain⟨k,E,a,rfl,rfl,rfl⟩:=hrel;by_cases v:s<k
 .have C:=h k v a;have D:=ZY T k n a;obtain⟨q,rfl⟩:∃q,k=q+1:=⟨k-1,oM⟩;let⟨x,⟨sa,sc,y,H⟩,z⟩:=l q oM;have A:=M.cB (T q).e;have m:Hid (M.dep T (q+1)=M.dep T q+(1-M.ar (T q).e)):=rfl;have J:(0:Int)<((q+1:Nat):Int):=oM;have f:(0:Int)<1-M.dep T n+M.dep T (q+1):=oM;have L:((q+1:Nat):Int)-1=(q:Int):=oM;have N:(q:Int)<n:=oM;go_wp2_with (go_at_call 154;refine(jf).mono ?_;rintro e W ⟨rfl,I⟩;subst W);go_roundw
  .exact⟨q,oM,oM,xm (oH m.o),by first|rfl|go_num,by trivial⟩
  simp[intOf]<;>omega
 obtain rfl:k=s:=oM;have f:1-M.dep T n+M.dep T k=0:=oH g;have O:¬c=k:=oM;have P:k<=n:=oM;have R:k<=c:=oM;have S:¬c=0:=oM;have U:(k:Int)<=(n:Int):=oM;have V:=uB k oM;rw[f];go_wp2;go_region;all_goals go_wp2
 all_goals refine zL (by simp[results,f157,go_sem];rfl) rfl ?_
 all_goals exact⟨rfl,(zH _).drew⟩
def I4(w0:Wl)(a:Nat)(u0 u1:Vl)(L:List IC)(b:LI)(x:EX)(e:Ending)(w':Wl):Prop :=
 (∃v,e=Rt v)/\∃K:List IC,K.map IC.d=uT (λn=>(n:Int)) x L.length/\CS w0 a u0 u1 (L++K) [] b w'
def LY{K:List IC}{r:Nat->Int}{x:EX}{p:Nat}(h:K.map IC.d=uT r x p):K.length=x.c:=by
 rw[<-Bl (f:=IC.d),h,M.emit_len]
def LZ args w:(callFunc 101 args).run prog w=.ok (.enter 101 args) w:=by
 simp[callFunc,func101,f101,go_sem]
def DF args w:(callFunc 42 args).run prog w=.ok (.enter 42 args) w:=by
 simp[callFunc,func42,f42,go_sem]
def Vv w0 b u0 u1 l c w k a t(h:CS w0 b u0 u1 l [] c w)(i:l.length<=200000) :
  Cs 42 #[.pointer (Sm b 0),.agg #[Iv k,Iv a,Iv t,nS]] w λe w'=>e=Rt (Iv (l.length:Int))/\Hid (CS w0 b u0 u1 (l++[ic k a t]) [] c w'):=by
 let⟨P,F,S,j,d,h⟩:=h.a k a t;refine(DI w0 b u0 u1 l (ic k a t) c w P F S j d h i).mono ?_;rintro e w' ⟨rfl,f,m,g⟩;exact⟨rfl,f,F,S,m,d,g⟩
def I5 w0 b u0 u1 l g w x(h:CS w0 b u0 u1 l [x] g w)(m:l.length<=200000) :
  Cs 42 #[.pointer (Sm b 0),.agg #[Iv x.d.e,Iv x.d.f,Iv x.d.to,Sl x.a x.d.sl x.c]] w λe w'=>e=Rt (Iv (l.length:Int))/\Hid (CS w0 b u0 u1 (l++[x]) [] g w'):=by
 obtain⟨P,F,S,n,i,h⟩:=h;refine(DI w0 b u0 u1 l x g w P F S n i h m).mono ?_;rintro e w' ⟨rfl,j,o,k⟩;exact⟨rfl,j,F,S,o,i,k⟩
section
open M (OpD ug Gr uw EX ins uT uag)
def H8{L a b:List IC}{x y:IC}{n:Nat}(h:a.length=n):(L++x::(a++[y])++b)[L.length+1+n]?=some y:=by
 subst h;rw[Ce,Fb oM,show L.length+1+a.length-L.length=a.length+1 by omega];simp
def uri{L b c x n k a t d}(h:b.length=n):(L++x::(b++[ic k a t])++c).set (L.length+1+n) (Gg (ic k a t) d)=L++(x::(b++ic k a d::c)):=by
 subst h;rw[Ce,Ve _ _ oM,show L.length+1+b.length-L.length=b.length+1 by omega];congr 1;simp[Gg,ic,ins]
variable {w0 w:Wl} {cb:Nat} {Q:Np} {ra la:Oa} {rc lc:Nat} {g:Gr} {b:Nat} {u0 u1:Vl} {L:List IC} {fl:LI} {P:Ew} {x y:TR} {o:OpD}
def Md(x:EX)(n:Nat):List uw:=uT (λn=>(n:Int)) x n
def PX(w0:Wl)(e:Nat)(Q:Np)(ra la:Oa)(rc lc:Nat)(g:Gr)(b:Nat)(T:TR):Prop :=
 ∀(off c l n:Nat) (L:List IC) (f:LI) (w:Wl) (P:Ew),l=T.n->L.length=n->T.Ok (M.bB g.nr g.nb)->T.n<=c->T.n<=2000->TA Q w0 b T off->CS w0 e (Sl ra g.nr rc) (Sl la g.nb lc) L [] f w->n+(T.a (M.bA g.nr)).c<=100000 ->
  (∀v K W,K.map IC.d=Md (T.a (M.bA g.nr)) n->CS w0 e (Sl ra g.nr rc) (Sl la g.nb lc) (L++K) [] f W->P (Rt v) W)->Cs 108 #[.pointer (Sm e 0),Sl (Sm b off) l c] w P
def Vu{K:List IC}{x:EX}{p:Nat}(h:K.map IC.d=Md x p):K.length=x.c:=LY h
def Pm{n:Nat}(k a t:Int)(h:CS w0 cb u0 u1 L [] fl w)(c:L.length=n)(b:n<=200000)(d:∀W,CS w0 cb u0 u1 (L++[ic k a t]) [] fl W->P (Rt (Iv (n:Int))) W) :
  Cs 42 #[.pointer (Sm cb 0),.agg #[Iv k,Iv a,Iv t,nS]] w P:=by
 subst c;exact(Vv w0 cb u0 u1 L fl w k a t h b).mono (by rintro e W ⟨rfl,h⟩;exact d W h)
def LX{off c m:Nat}{E:OpD->Prop}(h:TA Q w b (.bn o x y) off)(l:(TR.bn o x y).Ok E)(p:x.n+y.n=m)(t:m<=2000)(k:m<=c) :
  Cs 157 #[Sl (Sm b off) m c] w λg w'=>g=Rt (.tuple #[Sl (Sm b off) x.n c,Sl (Sm b (off+x.n*3)) (m-x.n) (c-x.n)])/\Bw w w':=by
 subst p;let⟨f,a,q⟩:=Xx (.bn o x y) (TR.bn o x y).c 0 (λj s=>by rw[Bp]);let⟨d,e⟩:=Vc y _ l.2.2.2 a;rw[Bp]at d e;have u:=y.n0;exact I3 b off (x.n+y.n) c (TR.bn o x y).c w Q (λi r=>jL h i (by simp only[TR.n];omega)) oM k x.n oM d.symm (λj f a=>oH (e j f a))
def H9(ix:PX w0 cb Q ra la rc lc g b x)(iy:PX w0 cb Q ra la rc lc g b y):PX w0 cb Q ra la rc lc g b (.bn o x y):=by
 intro off c l n L s w P hl r J hc hn hT I hp aa;have NX:=ua aa;have T:=ua ix;have U:=ua iy;have HT:=ua hT;have G:=ua J;have d:=ua r;obtain⟨hx,hy,X⟩:=hT;let⟨H,⟨sa,sc,c1,ac⟩,c2⟩:=X.h I.q;have HX:=ua hx;have HY:=ua hy;have nx:=x.n0;have ny:=y.n0;simp only[TR.n]at hc hn hl;let⟨m,N⟩:=nm (x.n+y.n);rw[N]at H c1 c2 hc hn hl;have k:=ua N;subst hl;have x2:((m+1:Nat):Int)-1=(m:Int):=oM;have x3:(m:Int)<((m+1:Nat):Int):=oM;have x5:(m:Int)<=((m+1:Nat):Int):=oM;have z6:=uB m oM;have f1:m<c:=oM;have f2:m<=c:=oM;have f3:¬c=0:=oM;have ad:=ud H;have f:o.e=4\/o.e=5:=by have:=J.1;unfold M.ar at this;split at this<;>(try split at this)<;>omega
 let⟨i,A⟩:=nm (x.a (M.bA g.nr)).c;let⟨yl,z⟩:=nm (y.a (M.bA g.nr)).c;have u:=ua A;have S:=ua z;have JX:=ua λ(L:List IC) (n:Nat) (W:Wl) (P:Ew) (r:L.length=n) (C:CS w0 cb (Sl ra g.nr rc) (Sl la g.nb lc) L [] s W) (h:n+i<=100000)=>T off c x.n n L s W P rfl r G.2.2.1 (oH k) (oH k) HX C (oH u);have JY:=ua λ(L:List IC) (n:Nat) (W:Wl) (P:Ew) (r:L.length=n) (C:CS w0 cb (Sl ra g.nr rc) (Sl la g.nb lc) L [] s W) (h:n+yl<=100000)=>U (off+x.n*3) (c-x.n) (m-x.n) n L s W P (oH k) r G.2.2.2 (oH k) (oH k) HY C (oH S);have B:=ua (λo:Obj=>I.h ((zH w).drew.trans (uk w.drew o)));rcases f with f|f
 .have e:TR.a (M.bA g.nr) (.bn o x y)=.seq (x.a (M.bA g.nr)) (y.a (M.bA g.nr)):=by simp[TR.a,M.bA,f]
  have R:=ua e;rw[e,EX.c,A,z]at hp;rw[f]at H;clear f e hx hy X ac J I aa ix iy A z r N T U;go_enter func108,ntmps108;go_wp2;go_region;all_goals go_wp2_with fail
  all_goals
   refine(LX (HT.h (B _).q) G k oM f2).mono ?_;rintro e W1 ⟨rfl,v⟩;have D:=(B _).h v;clear v;go_wp2_with fail;refine JX L n W1 _ d D oM λv2 K2 W2 h2 E=>?_;have H2:=ua h2;clear h2;go_wp2_with fail;refine JY (L++K2) (n+i) W2 _ (by rw[zJ,d.o,Vu H2.o,u.o]) E oM λv3 p W3 t F=>?_;have O:=ua t;clear t;go_wp2;go_end0;exact NX _ (K2++p) _ (by rw[R.o,Md,uT,Dt,H2.o,O.o,u.o];rfl) (by rw[<-Ce];exact F)
 have e:TR.a (M.bA g.nr) (.bn o x y)=.alt (x.a (M.bA g.nr)) (y.a (M.bA g.nr)):=by simp[TR.a,M.bA,f]
 have R:=ua e;rw[e,EX.c,A,z]at hp;rw[f]at H;clear f e hx hy X ac J I aa ix iy A z r N T U;go_enter func108,ntmps108;go_wp2;go_region;all_goals go_wp2_with fail
 all_goals
  refine(LX (HT.h (B _).q) G k oM f2).mono ?_;rintro e W1 ⟨rfl,v⟩;have D:=(B _).h v;clear v;go_wp2_with fail;refine Pm 1 0 0 D d oM λW2 E=>?_;go_wp2_with fail;refine JX _ (n+1) W2 _ (by simp[d.o]) E oM λv3 p W3 t F=>?_;have O:=ua t;have j:=ua ((Vu t).trans u);clear t;go_wp2_with fail;refine Pm (n:=n+1+i) 2 0 0 F (by simp[d.o,j.o];omega) oM λW4 C4=>?_;go_wp2_with fail;refine(Yk w0 cb s W4 n (ic 1 0 0) C4 (by simp[d.o]) (by simp[d.o,j.o];omega)).mono ?_;rintro e W5 ⟨⟨v5,rfl⟩,Y⟩;rw[show(L++[ic 1 0 0]++p++[ic 2 0 0]).set n (Gg (ic 1 0 0) ((L++[ic 1 0 0]++p++[ic 2 0 0]).length:Int))=L++ic 1 0 ((n+i+2:Nat):Int)::(p++[ic 2 0 0]) by rw[show((L++[ic 1 0 0]++p++[ic 2 0 0]).length:Int)=((n+i+2:Nat):Int) by simp[d.o,j.o];omega,<-d.o];simp[Gg,ic,ins]]at Y;go_wp2_with fail;refine JY _ (n+i+2) W5 _ (by simp[d.o,j.o];omega) Y oM λv6 K6 W6 V C6=>?_;have H6:=ua V;have ab:=ua ((Vu V).trans S);clear V;go_wp2_with fail;refine(Yk w0 cb s W6 (n+1+i) (ic 2 0 0) C6 (by rw[<-d.o];exact H8 j) (by simp[d.o,j.o,ab.o];omega)).mono ?_;rintro e W7 ⟨⟨v7,rfl⟩,Z⟩;rw[show((L++ic 1 0 ((n+i+2:Nat):Int)::(p++[ic 2 0 0])++K6).length:Int)=((n+i+yl+2:Nat):Int) by simp[d.o,j.o,ab.o];omega,<-d.o,uri j.o,d.o]at Z;have C7:=ua Z;clear Y Z D E F C4 C6;go_wp2;go_end0;exact NX _ _ _ (by rw[R.o,Md,uT,Nr,Dt,Nr,O.o,H6.o,u.o,S.o];rfl) C7
def I0(T:PX w0 cb Q ra la rc lc g b x):PX w0 cb Q ra la rc lc g b (.un o x):=by
 intro off c l n L B w P R y E Z hn hT D hp U;have Y:=ua U;have N:=ua T;have HK:=ua E;have d:=ua y;obtain⟨S,O⟩:=hT;let⟨A,⟨sa,sc,c1,aa⟩,c2⟩:=O.h D.q;have HX:=ua S;simp only[TR.n]at Z hn R;let⟨m,F⟩:=nm x.n;rw[F]at A c1 c2 Z hn R;have J:=ua F;subst R;have x2:((m+1:Nat):Int)-1=(m:Int):=oM;have x3:(m:Int)<((m+1:Nat):Int):=oM;have x5:(m:Int)<=((m+1:Nat):Int):=oM;have z6:=uB m oM;have f1:m<c:=oM;have f2:m<=c:=oM;have f3:¬c=0:=oM;have ab:=ud A;have i:o.e=6\/o.e=7:=by have:=E.1;unfold M.ar at this;split at this<;>(try split at this)<;>omega
 let⟨r,z⟩:=nm (x.a (M.bA g.nr)).c;have v:=ua z;have X:=ua λ(L:List IC) (n:Nat) (W:Wl) (P:Ew) (y:L.length=n) (C:CS w0 cb (Sl ra g.nr rc) (Sl la g.nb lc) L [] B W) (h:n+r<=100000)=>N off c m n L B W P J.symm y HK.2.2 (oH J) (oH J) HX C (oH v);have V:=ua (λo:Obj=>D.h ((zH w).drew.trans (uk w.drew o)));rcases i with i|i
 .have e:TR.a (M.bA g.nr) (.un o x)=.star (x.a (M.bA g.nr)):=by simp[TR.a,M.bA,i]
  have I:=ua e;rw[e,EX.c,z]at hp;rw[i]at A;clear i e S O aa E D U T z y F N;go_enter func108,ntmps108;go_wp2;go_region;all_goals go_wp2_with fail
  all_goals
   refine Pm 1 0 0 (V _) d oM λW2 s=>?_;go_wp2_with fail;refine X _ (n+1) W2 _ (by simp[d.o]) s oM λv3 f W3 k t=>?_;have H:=ua k;have j:=ua ((Vu k).trans v);clear k;go_wp2_with fail;refine Pm (n:=n+1+r) 3 0 ((n:Int)+1) t (by simp[d.o,j.o];omega) oM λW4 u=>?_;go_wp2_with fail;refine(Yk w0 cb B W4 n (ic 1 0 0) u (by simp[d.o]) (by simp[d.o,j.o];omega)).mono ?_;rintro e W5 ⟨⟨v5,rfl⟩,p⟩;rw[show(L++[ic 1 0 0]++f++[ic 3 0 ((n:Int)+1)]).set n (Gg (ic 1 0 0) ((L++[ic 1 0 0]++f++[ic 3 0 ((n:Int)+1)]).length:Int))=L++ic 1 0 ((n+r+2:Nat):Int)::(f++[ic 3 0 ((n:Int)+1)]) by rw[show((L++[ic 1 0 0]++f++[ic 3 0 ((n:Int)+1)]).length:Int)=((n+r+2:Nat):Int) by simp[d.o,j.o];omega,<-d.o];simp[Gg,ic,ins]]at p;have G:=ua p;clear p s t u;go_wp2;go_end0;exact Y _ _ _ (by rw[I.o,Md,uT,Nr,Dt,H.o,v.o];rfl) G
 have e:TR.a (M.bA g.nr) (.un o x)=.not (x.a (M.bA g.nr)):=by simp[TR.a,M.bA,i]
 have I:=ua e;rw[e,EX.c,z]at hp;rw[i]at A;clear i e S O aa E D U T z y F N;go_enter func108,ntmps108;go_wp2;go_region;all_goals go_wp2_with fail
 all_goals
  refine Pm 4 0 0 (V _) d oM λW2 s=>?_;go_wp2_with fail;refine X _ (n+1) W2 _ (by simp[d.o]) s oM λv3 f W3 k t=>?_;have H:=ua k;have j:=ua ((Vu k).trans v);clear k;go_wp2_with fail;refine Pm (n:=n+1+r) 5 0 (0) t (by simp[d.o,j.o];omega) oM λW4 u=>?_;go_wp2_with fail;refine(Yk w0 cb B W4 n (ic 4 0 0) u (by simp[d.o]) (by simp[d.o,j.o];omega)).mono ?_;rintro e W5 ⟨⟨v5,rfl⟩,p⟩;rw[show(L++[ic 4 0 0]++f++[ic 5 0 (0)]).set n (Gg (ic 4 0 0) ((L++[ic 4 0 0]++f++[ic 5 0 (0)]).length:Int))=L++ic 4 0 ((n+r+2:Nat):Int)::(f++[ic 5 0 (0)]) by rw[show((L++[ic 4 0 0]++f++[ic 5 0 (0)]).length:Int)=((n+r+2:Nat):Int) by simp[d.o,j.o];omega,<-d.o];simp[Gg,ic,ins]]at p;have G:=ua p;clear p s t u;go_wp2;go_end0;exact Y _ _ _ (by rw[I.o,Md,uT,Nr,Dt,H.o,v.o];rfl) G
def I1(h1:g.nr<=100)(h2:g.nb<=100):PX w0 cb Q ra la rc lc g b (.lf o):=by
 intro off c l n L R w P hl hL hk hc hn hT E hp ac;have D:=ua ac;have J:=ua hL;simp only[TR.n]at hc hn hl;subst hl;let⟨B,⟨sa,sc,c1,ab⟩,c2⟩:=Em.h hT E.q;have HS:=ua ab;have HC:=ua E;have f1:=hc;have f3:¬c=0:=oM;have ag:=ud B;obtain⟨G,i⟩:=hk;have d:o.e=0\/o.e=1\/o.e=2\/o.e=3:=by have:=i.1;have:=i.2.1;unfold M.ar at G;split at G<;>(try split at G)<;>omega
 have k:=i.2.2.2.2.2;have H:=i.2.2.2.2.1;have ah:n<=100000:=oM;have Z:=ua (λo:Obj=>E.h ((zH w).drew.trans (uk w.drew o)));clear ab E G hT ac hL hp;rcases d with d|d|d|d
 .have s:Hid (TR.a (M.bA g.nr) (.lf o)=.empty):=by show _=_;simp[TR.a,M.bA,d]
  rw[d]at B;clear d k i;go_enter func108,ntmps108;go_wp2;go_region;all_goals go_wp2
  all_goals go_end0
  all_goals exact D _ [] _ (by rw[s.o];rfl) (by rw[Dl];exact Z _)
 .have s:Hid (TR.a (M.bA g.nr) (.lf o)=.set o.sl o.set):=by show _=_;simp[TR.a,M.bA,d]
  have ae:o.sl<=1048576:=oH (M.cA (i.2.2.1 d));rw[d]at B;clear d k i;go_enter func108,ntmps108;go_wp2;go_region;all_goals go_wp2_with fail
  all_goals
   refine(G8 Q sa o.sl sc o.set _ (HS.h ((zH w).drew.trans (zO w.drew))) ae).mono ?_;rintro e W1 ⟨⟨O,c',rfl,hI⟩,hb,aa⟩;have ad:=ua ((Z _).c hb ⟨⟨0,0,0,o.sl,o.set⟩,O,c'⟩ hI aa);clear hI hb aa;go_wp2_with fail;refine(I5 w0 cb _ _ L R W1 ⟨⟨0,0,0,o.sl,o.set⟩,O,c'⟩ ad.o (oH J.o)).mono ?_;rintro e W2 ⟨rfl,z⟩;go_wp2;go_end0;exact D _ [⟨⟨0,0,0,o.sl,o.set⟩,O,c'⟩] _ (by rw[s.o];rfl) z
 .let⟨j,m⟩:=qp i;let⟨p,v⟩:=nm (M.tg g.nr o);have N:=ua v;have C:o.f<=1048576:=by unfold M.bF at k;split at k<;>(try split at k)<;>omega
  have s:Hid (Md (TR.a (M.bA g.nr) (.lf o)) n = [ins 6 0 p]):=by
   show _=_;rw[<-v];simp[TR.a,M.bA,d,m,Md,uT,M.tg]
  have A:=ua (xG ra la sa g.nr rc g.nb lc sc o · H C oM);rw[d,m]at A;rw[d]at B;rw[m]at c2;clear d i m k H C v;go_enter func108,ntmps108;go_wp2;go_region;all_goals go_wp2_with fail
  all_goals
   generalize t:w.alloc _=X;have r:Hid (CS w0 cb (Sl ra g.nr rc) (Sl la g.nb lc) L [] R X):=t▸HC.h (zO w);have y:=t▸Eb w;clear t;have T:X.cell? (Ad cb 0)=some (Sl ra g.nr rc):=(by obtain⟨P,F,S,V,U,h⟩:=r;exact h.g0);have g1:X.cell? (Ad cb 1)=some (Sl la g.nb lc):=(by obtain⟨P,F,S,V,U,h⟩:=r;exact h.g1);have af:=ud T;have Y:=y.x.1 0;have xs:=y.x.1 1;have W:=y.x.1 2;have lx:=ud Y;go_region_law (first
    |(refine uF LZ rfl _ _ rfl (ys:=#[.agg #[Sl ra g.nr rc,Sl la g.nb lc],.agg #[Iv 2,Sl sa o.sl sc,Iv j]]) (by simp[Act.eval]) ((A.o X.drew.drew).mono ?_);rintro e W2 ⟨rfl,u⟩;rw[N.o];have z:=ua (r.h ((zH X).drew.drew.trans u));have u2:=ue W ((zH X).drew.drew.trans u);clear u;refine⟨_,rfl,?_⟩)
    |(refine uF DF rfl _ _ rfl (ys:=#[.pointer (Sm cb 0),.agg #[Iv 6,Iv 0,Iv p,nS]]) (by simp[Act.eval,Act.put]) (Pm 6 0 p z J oM λW3 I=>⟨_,rfl,?_⟩)))
   all_goals go_wp2
   all_goals go_end0
   all_goals exact D _ [ic 6 0 p] _ s.symm I
 let⟨j,m⟩:=qp i;let⟨p,v⟩:=nm (M.tg g.nr o);have N:=ua v;have C:o.f<=1048576:=by unfold M.bF at k;split at k<;>(try split at k)<;>omega
 have s:Hid (Md (TR.a (M.bA g.nr) (.lf o)) n = [ins 8 j p]):=by
  show _=_;rw[<-v];simp[TR.a,M.bA,d,m,Md,uT,M.tg]
 have A:=ua (xG ra la sa g.nr rc g.nb lc sc o · H C oM);rw[d,m]at A;rw[d]at B;rw[m]at c2;clear d i m k H C v;go_enter func108,ntmps108;go_wp2;go_region;all_goals go_wp2_with fail
 all_goals
  generalize t:w.alloc _=X;have r:Hid (CS w0 cb (Sl ra g.nr rc) (Sl la g.nb lc) L [] R X):=t▸HC.h (zO w);have y:=t▸Eb w;clear t;have T:X.cell? (Ad cb 0)=some (Sl ra g.nr rc):=by obtain⟨P,F,S,V,U,h⟩:=r;exact h.g0
  have g1:X.cell? (Ad cb 1)=some (Sl la g.nb lc):=by obtain⟨P,F,S,V,U,h⟩:=r;exact h.g1
  have af:=ud T;have Y:=y.x.1 0;have xs:=y.x.1 1;have W:=y.x.1 2;have lx:=ud Y;go_region_law (first
   |(refine uF LZ rfl _ _ rfl (ys:=#[.agg #[Sl ra g.nr rc,Sl la g.nb lc],.agg #[Iv 3,Sl sa o.sl sc,Iv j]]) (by simp[Act.eval]) ((A.o X.drew.drew).mono ?_);rintro e W2 ⟨rfl,u⟩;rw[N.o];have z:=ua (r.h ((zH X).drew.drew.trans u));have u2:=ue W ((zH X).drew.drew.trans u);clear u;refine⟨_,rfl,?_⟩)
   |(refine uF DF rfl _ _ rfl (ys:=#[.pointer (Sm cb 0),.agg #[Iv 8,Iv j,Iv p,nS]]) (by simp[Act.eval,Act.put]) (Pm 8 j p z J oM λW3 I=>⟨_,rfl,?_⟩)))
  all_goals go_wp2
  all_goals go_end0
  all_goals exact D _ [ic 8 j p] _ s.symm I
def I2(a:g.nr<=100)(c:g.nb<=100)(T:TR):PX w0 cb Q ra la rc lc g b T:=by
 induction T with
 |lf o=>exact I1 a c
 |un o x d=>exact I0 d
 |bn o x y e f=>exact H9 e f
end
def I6(w0:Wl)(d:Nat)(Q:Np)(ra la a:Oa)(rc lc n c:Nat)(g:Gr)(m:g.nr<=100)(o:g.nb<=100)(B:Nat->OpD)(t:n<=2000)(r:n<=c)(i:M.bC g.nr g.nb n B)(h:zM Q w0 a n B)(L:List IC)(f:LI)(w:Wl)
  (p:CS w0 d (Sl ra g.nr rc) (Sl la g.nb lc) L [] f w) (z:L.length<=50000) :
  Cs 108 #[.pointer (Sm d 0),Sl a n c] w (I4 w0 d (Sl ra g.nr rc) (Sl la g.nb lc) L f (M.bR g.nr n B)):=by
 have l:¬n=0:=λq=>by
  have:=i.2.2;rw[q,M.dep]at this;omega
 rcases h with q|⟨b,off,rfl,D,h⟩
 .exact aB q l
 have A:=KC i;have E:=M.cX B n;obtain⟨T,rfl,u,x,y⟩:=qT i;have k:=Ly (Q:=Q) (w:=w0) (A:=b) (off:=off) x (λj s=>by rw[Bp];exact h j s);rw[Gf,Dy]at k;rw[M.bR,y]at *;exact I2 m o T off c _ _ L f w _ rfl rfl u r t k p oM (λv K W e C=>⟨⟨v,rfl⟩,K,e,C⟩)
def MA(w:Wl)(z:Int):Src prog 1 25 (Sl (Sm w.heap.size 0) 1 1) 1 [Iv z] (w.alloc (Oc #[Iv z] 3)):=qg underlying25 rfl rfl rfl
def MB(w0:Wl)(b:Nat)(Q:Np)(ra la a:Oa)(rc lc n c:Nat)(g:Gr)(t:g.nr<=100)(l:g.nb<=100)(B:Nat->OpD)(hn:n<=2000)(hc:n<=c)(E:M.bC g.nr g.nb n B)(R:zM Q w0 a n B)(L:List IC)(i:LI)(k z:Int)(w:Wl)
  (u:CS w0 b (Sl ra g.nr rc) (Sl la g.nb lc) L [] i w) (hL:L.length<=40000) (ad:i.length<=40000) :
  Cs 43 #[.pointer (Sm b 0),.agg #[Iv k,Iv z,Iv 0,nS],Sl a n c] w λe w'=>(∃v,e=Rt v)/\∃K:List IC,K.map IC.d=M.nodeC (λn=>(n:Int)) (ins k z 0) (M.bR g.nr n B) L.length/\CS w0 b (Sl ra g.nr rc) (Sl la g.nb lc) (L++K) [] (i++[(L.length:Int)]) w':=by
 have ab:Hid (M.bC g.nr g.nb n B):=E;have HB:Hid (zM Q w0 a n B):=R;have HC:=ua u;have I:Hid ((M.bR g.nr n B).c<=4000):=by
  show _<=_;have:=M.cX B n;rw[KC E];omega
 have x0:(w.alloc (Oc #[Iv k,Iv z,Iv 0,nS] 102)).cell? (Ad w.heap.size 0)=some (Iv k):=cN w.heap.size rfl rfl;have x1:(w.alloc (Oc #[Iv k,Iv z,Iv 0,nS] 102)).cell? (Ad w.heap.size 1)=some (Iv z):=cN w.heap.size rfl rfl;have x2:(w.alloc (Oc #[Iv k,Iv z,Iv 0,nS] 102)).cell? (Ad w.heap.size 2)=some (Iv 0):=cN w.heap.size rfl rfl;have x3:(w.alloc (Oc #[Iv k,Iv z,Iv 0,nS] 102)).cell? (Ad w.heap.size 3)=some nS:=cN w.heap.size rfl rfl;let⟨P,F,S,vp,vf,x⟩:=(u.a k z 0).h (uk w (Oc #[Iv k,Iv z,Iv 0,nS] 102));obtain⟨N,O,rfl⟩:=uj x.d;have p:=ua x;clear E R u x;go_enter func43,ntmps43;go_wp2;generalize w.alloc (Oc #[Iv k,Iv z,Iv 0,nS] 102)=X at *;have f3:=p.f;have ae:=p.c.2;have lx:=ud x0;go_region_law (first
  |(refine uF DF rfl _ _ rfl (ys:=#[.pointer (Sm b 0),.agg #[Iv k,Iv z,Iv 0,nS]]) (by simp[Act.eval]) ((DI w0 b _ _ L (ic k z 0) i X.drew P F S vp (Sl N i.length O) (p.o.h (zH X).drew) oM).mono ?_);rintro e W2 ⟨rfl,P2,ag,l⟩;have m:=ua l;have u3:=l.f;have af:=l.c.2;clear l;refine⟨_,rfl,?_⟩)
  |(refine jN rfl (.tmp 10) (.tmp 14) 25 25 rfl (v:=Sl N i.length O) (y:=Sl (Sm W2.heap.size 0) 1 1) (by simp[Act.eval,Act.put]) (by simp[Act.eval,Act.put]) jE (m.o.h (uk W2 (Oc #[Iv (L.length:Int)] 3))).d (MA W2 (L.length:Int)) oM ?_;intro v' W4 G C ac;have U:=(m.h (uk W2 (Oc #[Iv L.length] 3))).s G C;have A:=C.d b (m.h (uk W2 (Oc #[Iv L.length] 3))).c.2 (λq=>((m.h (uk W2 (Oc #[Iv L.length] 3))).rf b q).2.2.1 rfl);have r2:=(Bd (a:=(Ad b 3)) A).trans (m.h (uk W2 (Oc #[Iv L.length] 3))).f;have r3:=(Dp (a:=(Ad b 3)) A).trans ((m.h (uk W2 (Oc #[Iv L.length] 3))).r 3);obtain⟨a4,c4,rfl⟩:=uj G;have V:Hid (CS w0 b (Sl ra g.nr rc) (Sl la g.nb lc) (L++[ic k z 0]) [] (i++[(L.length:Int)]) (W4.setCell (Ad b 3) (Sl a4 (i.length+1) c4))):=U;clear G C ac U A))
 all_goals (
  have o:Hid ((L++[ic k z 0]).length=L.length+1):=by show _=_;simp
  go_wp2_with fail;refine(I6 w0 b Q ra la a rc lc n c g t l B hn hc ab.o HB.o (L++[ic k z 0]) (i++[(L.length:Int)]) _ V.o (oH o.o)).mono ?_;rintro e J ⟨⟨v5,rfl⟩,j,D,T⟩;have aa:Hid (j.map IC.d=uT (λn=>(n:Int)) (M.bR g.nr n B) (L.length+1)):=o.o▸D;have H:Hid (j.length=(M.bR g.nr n B).c):=by show _=_;exact LY D
  have W:Hid (CS w0 b (Sl ra g.nr rc) (Sl la g.nb lc) (L++[ic k z 0]++j) [] (i++[(L.length:Int)]) J):=T;clear D T;go_wp2_with fail;refine(Vv w0 b _ _ (L++[ic k z 0]++j) _ J 11 0 0 W.o (by have t:=H.o;have l:=I.o;have h3:=o.o;rw[zJ];omega)).mono ?_;rintro e W6 ⟨rfl,Y⟩;go_wp2_with fail;refine(Vv w0 b _ _ (L++[ic k z 0]++j++[ic 11 0 0]) _ W6 7 0 0 Y.o (by have t:=H.o;have l:=I.o;have h3:=o.o;rw[zJ,zJ];show _+_+1<=_;omega)).mono ?_;rintro e W7 ⟨rfl,Z⟩;go_wp2;go_end0;refine⟨⟨_,rfl⟩,ic k z 0::(j++[ic 11 0 0,ic 7 0 0]),?_,?_⟩
  .rw[Nr,Dt,aa.o];rfl
  have e:L++ic k z 0::(j++[ic 11 0 0,ic 7 0 0])=L++[ic k z 0]++j++[ic 11 0 0]++[ic 7 0 0]:=sM;rw[e];exact Z)
open M (lk)
def Jp(f:Int->Int)(x:IC):IC:=⟨lk f x.d,x.a,x.c⟩
def Gk(f:Int->Int)(l:List IC)(k:Nat):List IC:=(l.take k).map (Jp f)++l.drop k
def I7 f l k:(Gk f l k).length=l.length:=by
 unfold Gk;rw[zJ,Bl,Fw,Td];omega
def url{f l k x}(h:l[k]?=some x):(Gk f l k)[k]?=some x:=by
 have a:=(Bz.1 h).1;unfold Gk;rw[Fb (by rw[Bl,Fw];omega),Bl,Fw,show k-min k l.length=0 by omega,List.getElem?_drop];simpa using h
def I8{f l k x}(h:l[k]?=some x):Gk f l (k+1)=(Gk f l k).set k (Jp f x):=by
 have a:=(Bz.1 h).1;have b:=(Bz.1 h).2;unfold Gk;rw[Ve _ _ (by rw[Bl,Fw];omega),Bl,Fw,show k-min k l.length=0 by omega,Tb a,List.set_cons_zero,List.take_succ_eq_append_getElem a,Dt,Ce,b];rfl
def I9{f x}(h:¬(x.d.e=6\/x.d.e=8)):Jp f x=x:=by
 unfold Jp lk;rw[Zn h]
def J0{f x}(h:x.d.e=6\/x.d.e=8):Jp f x=Gg x (f x.d.to):=by
 unfold Jp lk Gg;rw[Zp h]
def J1 f l:Gk f l l.length=l.map (Jp f):=by
 unfold Gk;simp
def J2 f l:Gk f l 0=l:=by simp[Gk]
def J3(w0:Wl)(a:Nat)(u0 u1:Vl)(l:List IC)(b:LI)(f:Int->Int)(P F S:Np)(e d:Vl)(c:Vl)(wr:Wl):Prop :=
 ∃k:Nat,k<=l.length/\c=Iv (k:Int)/\CP w0 a u0 u1 (Gk f l k) [] b wr P F S e d
def J4 w0 o u0 u1 l b f w(h:CS w0 o u0 u1 l [] b w)(aj:0<l.length)(hl:l.length<=200000)(ai:b.length<=200000)(Z:∀(i:Nat) (x:IC),l[i]?=some x->x.d.e=6\/x.d.e=8->∃n:Nat,x.d.to=(n:Int)/\b[n]?=some (f x.d.to)) :
  Cs 44 #[.pointer (Sm o 0)] w λe w'=>(∃v,e=Rt v)/\CS w0 o u0 u1 (l.map (Jp f)) [] b w':=by
 obtain⟨P,F,S,vp,C,h⟩:=h;obtain⟨g,cap,rfl,ah⟩:∃g cap,vp=Sl (Sm g 0) l.length cap/\l.length<=cap:=by
  rcases h.k with⟨_,q,_⟩|⟨g,cap,e,Y,U,H,A,I⟩
  .omega
  exact⟨g,cap,e,H⟩
 have ab:=ua Z;have HP:Hid (CP w0 o u0 u1 (Gk f l 0) [] b w P F S (Sl (Sm g 0) l.length cap) C):=by show CP _ _ _ _ _ _ _ _ _ _ _ _ _;rw[J2];exact h
 have p2:=h.p;have ak:=h.c.2;clear h Z;go_enter func44,ntmps44;go_wp2;go_loopw [9] (λN wr=>J3 w0 o u0 u1 l b f P F S (Sl (Sm g 0) l.length cap) C N wr) (λN _=>l.length-(intOf N).toNat)
 .exact⟨0,zK,rfl,HP⟩
 clear p2;obtain⟨k,hk,rfl,m⟩:=hrel;have D:Hid (CP w0 o u0 u1 (Gk f l k) [] b wr P F S (Sl (Sm g 0) l.length cap) C):=m;by_cases af:k<l.length
 .obtain⟨x,B⟩:∃x,l[k]?=some x:=⟨l[k],Bb af⟩;have L:=url (f:=f) B;have u:∀j,j<4->wr.cell? (Ad g (k*4+j))=(Iz x)[j]?/\wr.frozen? (Ad g (k*4+j))=false:=λj hj=>by
   rcases m.k with⟨q,_⟩|⟨g',ac,q,Y,U,H,A,I⟩
   .cases q
   obtain⟨rfl,rfl⟩:g=g'/\cap=ac:=by
    injection q with e1 e2 e3;injection e1 with e1;injection e1 with e1;exact⟨e1,e3⟩
   have W:=DG (Gk f l k);rw[I7]at W;exact⟨by rw[A _ (by rw[W];omega)];exact qv _ k j x L hj,(I _ oM).2⟩
  have c0:wr.cell? (Ad g (k*4))=some (Iv x.d.e):=(u 0 oM).1;have c1:wr.cell? (Ad g (k*4+1))=some (Iv x.d.f):=(u 1 oM).1;have c2:wr.cell? (Ad g (k*4+2))=some (Iv x.d.to):=(u 2 oM).1;have c3:wr.cell? (Ad g (k*4+3))=some (Sl x.a x.d.sl x.c):=(u 3 oM).1;have cf:=(u 2 oM).2;have lg:=ud c0;have q2:=m.p;have q3:=m.f;have al:=m.c.2;have HX:Hid (l[k]?=some x):=B;have E:Hid (Gk f l (k+1)=(Gk f l k).set k (Jp f x)):=I8 B;have Q:Hid ((Gk f l k)[k]?=some x):=L;have hk':(k:Int)<(l.length:Int):=oM;clear u L B;by_cases r:x.d.e=6\/x.d.e=8
  .let⟨n,X,J⟩:=ab.o k x HX.o r;have ag:n<b.length:=(Bz.1 J).1;obtain⟨s,y,rfl,V⟩:∃s y,C=Sl (Sm s 0) b.length y/\wr.cell? (Ad s n)=some (Iv (f x.d.to)):=by
    rcases m.d with⟨_,q,_⟩|⟨s,y,e,Y,U,H,A,I⟩
    .omega
    refine⟨s,y,e,?_⟩;rw[A n (by rw[M0];exact ag)];unfold vL;rw[Ev,J];rfl
   have G:Hid (Jp f x=Gg x (f x.d.to)):=J0 r;have am:=ud V;rw[X]at c2 V G;have hn':(n:Int)<(b.length:Int):=oM;have O:Hid (∀t:Int,CP w0 o u0 u1 ((Gk f l k).set k (Gg x t)) [] b ((wr.setCell (Ad g (k*4+2)) (Iv t)).alloc (Oc #[Iv x.d.e,Iv x.d.f,Iv n,Sl x.a x.d.sl x.c] 102)).drew P F S (Sl (Sm g 0) l.length cap) (Sl (Sm s 0) b.length y)):=λt=>(D.o.t Q.o).h Bi.drew;clear m J X;generalize f (n:Int)=T at *;by_cases z:x.d.e=6
   .have R:(x.d.e==6)=true:=(by simp[z]);clear z r;go_wp2;go_region;all_goals go_wp2
    all_goals go_roundw
    all_goals first
     |exact⟨k+1,oM,by go_num,by rw[E.o,G.o];exact O.o T⟩
     |(simp[intOf];omega)
   have R:(x.d.e==6)=false:=(by simp[z]);have f8:(x.d.e==8)=true:=sO;clear z r;go_wp2;go_region;all_goals go_wp2
   all_goals go_roundw
   all_goals first
    |exact⟨k+1,oM,by go_num,by rw[E.o,G.o];exact O.o T⟩
    |(simp[intOf];omega)
  have R:(x.d.e==6)=false:=sO;have f8:(x.d.e==8)=false:=sO;have aa:Hid (Gk f l (k+1)=Gk f l k):=by
   show _=_;rw[E.o,I9 r];let⟨ad,ae⟩:=Bz.1 Q.o;rw[<-ae];exact List.set_getElem_self ad
  clear m r;go_wp2;go_roundw
  .exact⟨k+1,oM,by go_num,by rw[aa.o];exact D.o.h (zO wr)⟩
  simp[intOf];omega
 obtain rfl:k=l.length:=oM;go_wp2;go_end0;exact⟨⟨_,rfl⟩,_,_,_,_,_,by rw[<-J1];exact D⟩
open M (vH ufB udo ucz setT grp)
def xf(s:ByteArray)(w:Wl)(e:Ending)(w':Wl):Prop:=e=Rt (.string s)/\Bw w w'
def utn{q}(h:0<=q/\q<=15)w:(Instr.slice 9 (.string WY) (some (Iv q)) (some (Iv (q+1))) none).run prog w=.ok (.string (b1 (ufB q))) w:=by
 rcases unQ h with h|h|h|h|h|h|h|h|h|h|h|h|h|h|h|h<;>subst h<;>kernel_rfl
def BS q{w}(h:0<=q/\q<=15):Cs 138 #[Iv q] w (xf (b1 (ufB q)) w):=by
 have a:=utn h;unfold WY at a;have b:=h.1;have c:=h.2;go_enter func138,ntmps138;go_wp2;go_ret;exact⟨rfl,zH _⟩
def Ss(w:Wl)(z:Int)(h:0<=z/\z<=255):(convert 22 9 (Sl (Sm w.heap.size 0) 1 1)).run prog (w.alloc (Oc #[Bv z] 5))=.ok (.string (b1 (UInt8.ofNat z.toNat))) (w.alloc (Oc #[Bv z] 5)):=by
 have a:Ints (λ_=>True) .u8 (w.alloc (Oc #[Bv z] 5)) (Sm w.heap.size 0) 1 (λ_=>z):=.inr ⟨w.heap.size,0,rfl,trivial,λi b=>by
  obtain rfl:i=0:=oM;exact cN w.heap.size rfl rfl⟩
 rw[vg (λ_=>True) _ 1 1 (λ_=>z) _ a];have e:str 1 (λ_=>z)=b1 (UInt8.ofNat z.toNat):=by
  apply ByteArray.ext;apply Array.toList_inj.1;rw[xV];rfl
 rw[e]
def yp b w(n:0<=b/\b<=255):Cs 84 #[Iv b] w (xf (vH b) w):=by
 have s:=n.1;have f:=n.2;have o:=ua n;have c:=Ss w b o;have y:=uxb o;by_cases g:b=10
 .subst g;go_enter func84,ntmps84;go_wp2;go_ret;exact⟨rfl,zH _⟩
 by_cases i:b=9
 .subst i;go_enter func84,ntmps84;go_wp2;go_ret;exact⟨rfl,zH _⟩
 by_cases h:b=13
 .subst h;go_enter func84,ntmps84;go_wp2;go_ret;exact⟨rfl,zH _⟩
 have z:(b==10)=false:=by simp[g]
 have B:(b==9)=false:=by simp[i]
 have A:(b==13)=false:=by simp[h]
 by_cases a:b=92\/b=34\/b=91\/b=93\/b=45\/b=94
 .clear c y;rcases a with rfl|rfl|rfl|rfl|rfl|rfl
  .have c:(convert 22 9 (Sl (Sm w.heap.size 0) 1 1)).run prog (w.alloc (Oc #[Bv 92] 5))=.ok (.string ⟨#[92]⟩) (w.alloc (Oc #[Bv 92] 5)):=Ss w 92 ⟨oM,oM⟩;go_enter func84,ntmps84;go_wp2;go_ret;exact⟨rfl,zO w⟩
  .have c:(convert 22 9 (Sl (Sm w.heap.size 0) 1 1)).run prog (w.alloc (Oc #[Bv 34] 5))=.ok (.string ⟨#[34]⟩) (w.alloc (Oc #[Bv 34] 5)):=Ss w 34 ⟨oM,oM⟩;go_enter func84,ntmps84;go_wp2;go_ret;exact⟨rfl,zO w⟩
  .have c:(convert 22 9 (Sl (Sm w.heap.size 0) 1 1)).run prog (w.alloc (Oc #[Bv 91] 5))=.ok (.string ⟨#[91]⟩) (w.alloc (Oc #[Bv 91] 5)):=Ss w 91 ⟨oM,oM⟩;go_enter func84,ntmps84;go_wp2;go_ret;exact⟨rfl,zO w⟩
  .have c:(convert 22 9 (Sl (Sm w.heap.size 0) 1 1)).run prog (w.alloc (Oc #[Bv 93] 5))=.ok (.string ⟨#[93]⟩) (w.alloc (Oc #[Bv 93] 5)):=Ss w 93 ⟨oM,oM⟩;go_enter func84,ntmps84;go_wp2;go_ret;exact⟨rfl,zO w⟩
  .have c:(convert 22 9 (Sl (Sm w.heap.size 0) 1 1)).run prog (w.alloc (Oc #[Bv 45] 5))=.ok (.string ⟨#[45]⟩) (w.alloc (Oc #[Bv 45] 5)):=Ss w 45 ⟨oM,oM⟩;go_enter func84,ntmps84;go_wp2;go_ret;exact⟨rfl,zO w⟩
  have c:(convert 22 9 (Sl (Sm w.heap.size 0) 1 1)).run prog (w.alloc (Oc #[Bv 94] 5))=.ok (.string ⟨#[94]⟩) (w.alloc (Oc #[Bv 94] 5)):=Ss w 94 ⟨oM,oM⟩;go_enter func84,ntmps84;go_wp2;go_ret;exact⟨rfl,zO w⟩
 have N:(b==92)=false:=by simp;exact λq=>a oM
 have I:(b==34)=false:=by simp;exact λq=>a oM
 have L:(b==91)=false:=by simp;exact λq=>a oM
 have O:(b==93)=false:=by simp;exact λq=>a oM
 have J:(b==45)=false:=by simp;exact λq=>a oM
 have P:(b==94)=false:=by simp;exact λq=>a oM
 by_cases d:32<=b/\b<=126
 .have k:Hid (vH b=b1 (UInt8.ofNat b.toNat)):=by
   unfold vH;rw[Zn g,Zn i,Zn h,Zn a,Zp d];rfl
  have C:=d.1;have D:=d.2;rw[<-k.o]at c;generalize vH b=u at *;go_enter func84,ntmps84;go_wp2;go_ret;exact⟨rfl,zO w⟩
 have k:Hid (vH b=⟨#[92,120]⟩++b1 (ufB (b / 16))++b1 (ufB (b%16))):=by
  unfold vH;rw[Zn g,Zn i,Zn h,Zn a,Zn d];rfl
 have F:b.tdiv 16=b / 16:=Int.tdiv_eq_ediv_of_nonneg s;have E:b.tmod 16=b%16:=Yc s;have G:IntKind.i64.wrap (b / 16)=b / 16:=by simp[IntKind.wrap,IntKind.bits,IntKind.signed];omega
 have H:IntKind.i64.wrap (b%16)=b%16:=by simp[IntKind.wrap,IntKind.bits,IntKind.signed];omega
 have p:Hid (0<=b / 16/\b / 16<=15):=⟨oM,oM⟩;have r:Hid (0<=b%16/\b%16<=15):=⟨oM,oM⟩;generalize b / 16=t at *;generalize b%16=v at *;by_cases x:32<=b
 .have e8':¬b<=126:=λq=>d ⟨x,q⟩;go_enter func84,ntmps84;go_wp2_with (first|(go_at_call 138;refine(BS t p).mono ?_;rintro e W1 ⟨rfl,f⟩;have l:Hid (Bw w W1):=f;clear f)|(go_at_call 138;refine(BS v r).mono ?_;rintro e W2 ⟨rfl,j⟩;have m:Hid (Bw w W2):=uf l j;clear j));go_ret;exact⟨by rw[k.o];rfl,m⟩
 clear g i h a d;go_enter func84,ntmps84;go_wp2_with (first|(go_at_call 138;refine(BS t p).mono ?_;rintro e W1 ⟨rfl,f⟩;have l:Hid (Bw w W1):=f;clear f)|(go_at_call 138;refine(BS v r).mono ?_;rintro e W2 ⟨rfl,j⟩;have m:Hid (Bw w W2):=uf l j;clear j));go_ret;exact⟨by rw[k.o];rfl,m⟩
def yL s c w(d:s.size<=16000000):Cs 117 #[.string s,.bool c] w (xf (grp c s) w):=by
 have a:¬9223372036854775807<1+s.size:=oM;have b:¬9223372036854775807<1+s.size+1:=oM;cases c with
 |true =>
  go_enter func117,ntmps117;go_wp2;go_ret;exact⟨rfl,zH _⟩
 |false =>
  go_enter func117,ntmps117;go_wp2;go_ret;exact⟨rfl,zH _⟩
def A6(S:Nat->Int)(n:Nat)(w:Wl)(b a:Vl)(wr:Wl):Prop :=
 ∃(k:Nat) (s:ByteArray),2*k<=n/\a=Iv ((2*k:Nat):Int)/\b=.string s/\s=b1 91++ucz S k/\Bw w wr
def xH Qs a n c S w(T:Ints Qs .i64 w a n S)(E:M.bH n S):Cs 30 #[Sl a n c] w (xf (setT n S) w):=by
 have HS:=ua T;have HC:=ua E;have hn:=M.cA E;have an:=E.1;let⟨X,Q⟩:=nm (decide (n=2/\S 0=0/\S 1=255));let⟨H,R⟩:=nm (decide (n=2/\S 0=S 1));have B:=ua Q;have J:=ua R;have N:Hid (setT n S=if X then b1 46 else if H then b1 34++vH (S 0)++b1 34 else b1 91++ucz S (n / 2)++b1 93):=by show _=_;rw[<-Q,<-R];unfold setT;simp only[decide_eq_true_eq]
 have O:Hid (n=2->∃g i,a=some (Ad g i)/\w.cell? (Ad g i)=some (Iv (S 0))/\w.cell? (Ad g (i+1))=some (Iv (S 1))):=λh=>by
  rcases T with q|⟨g,i,e,_,p⟩
  .omega
  exact⟨g,i,e,p 0 oM,p 1 oM⟩
 clear T E Q R;go_enter func30,ntmps30;go_upto_region 1 with fail;go_cut [19] (λv wc=>v=.bool X/\w=wc)
 case first =>
  by_cases z:n=2
  .subst z;obtain⟨g,i,rfl,m,C⟩:=O rfl;by_cases s0:S 0=0
   .rw[s0]at m;have f1:=ua s0;clear s0;by_cases r:S 1=255
    .rw[r]at C;have x:=ua r;clear r;go_wp2;go_meet;exact⟨by rw[<-B.o,f1.o,x.o];rfl,rfl⟩
    have f:(S 1==255)=false:=(by simp[r]);have x:=ua r;clear r;go_wp2;go_meet;exact⟨by rw[<-B.o];simp[x.o],rfl⟩
   have f:(S 0==0)=false:=(by simp[s0]);have x:=ua s0;clear s0;go_wp2;go_meet;exact⟨by rw[<-B.o];simp[x.o],rfl⟩
  have f:((n:Int)==2)=false:=sO;go_wp2;go_meet;exact⟨by rw[<-B.o];simp[z],rfl⟩
 case rest =>
 obtain⟨rfl,rfl⟩:=hcut;cases X with
 |true =>
  go_wp2;go_ret;exact⟨by rw[N.o];rfl,zH _⟩
 |false =>
 go_upto_region 3 with fail;go_cut [31] (λv wc=>v=.bool H/\Bw w wc)
 case first =>
  by_cases z:n=2
  .subst z;obtain⟨g,i,rfl,m,C⟩:=O rfl;have HF:Hid (H=(S 0==S 1)):=(by show _=_;rw[<-J.o,Ni];simp);go_region;all_goals
    go_wp2;go_meet;exact⟨by rw[HF.o],(zH w).drew⟩
  have f:((n:Int)==2)=false:=sO;go_region;all_goals
   go_wp2;go_meet;exact⟨by rw[<-J.o];simp[z],(zH w).drew⟩
 case rest =>
 obtain⟨rfl,D⟩:=hcut;have o:=ua D;cases H with
 |true =>
  obtain⟨rfl,ak⟩:=of_decide_eq_true J;obtain⟨g,i,rfl,m,C⟩:=O rfl;have P:=ue m D;have t1:=M.cE (S 0);have BT:=ua (yp (S 0) wc (WZ HC (k:=0) oM).1);have z1:¬9223372036854775807<1+(vH (S 0)).size:=oM;have z2:¬9223372036854775807<1+(vH (S 0)).size+1:=oM;clear D m C ak;go_wp2_with fail;refine BT.mono ?_;rintro e W2 ⟨rfl,b⟩;have BW:=ua (uf o b);clear b;go_wp2;go_ret;exact⟨by rw[N.o];rfl,BW⟩
 |false =>
 clear D;go_wp2;go_loopw [3,4] (λov W wr=>A6 S n w ov W wr) (λ_ W _=>n-(intOf W).toNat)
 .exact⟨0,b1 91,oM,rfl,rfl,by rw[ucz,CQ],o⟩
 obtain⟨k,s,hk,rfl,rfl,U,ad⟩:=hrel;have ab:=ua U;have o:=ua ad;have ap:s.size<=2000:=by
  have h3:=M.eE S k;rw[U,Dq,M.b1_size];omega
 clear U ad;by_cases al:2*k<n
 rotate_left
 .have ah:Hid (k=n / 2):=by show _=_;omega
  have z1:¬9223372036854775807<s.size+1:=oM;go_wp2;go_ret;exact⟨by rw[N.o,<-ah.o,<-ab.o];rfl,o⟩
 let⟨F,ac⟩:=WZ HC (k:=k) oM;rcases HS.o with q|⟨g,i,rfl,_,p⟩
 .omega
 have Z:=ua (p (2*k) al);have C1:=ua (p (2*k+1) oM);have m:=ue Z o;have t1:=M.cE (S (2*k));have t2:=M.cE (S (2*k+1));have ai:Hid (ucz S (k+1)=ucz S k++udo (S (2*k)) (S (2*k+1))):=rfl;have am:2*k+1<n:=oM;have af:=ua (λw=>yp (S (2*k)) w F);have ag:=ua (λw=>yp (S (2*k+1)) w ac);have k0:=F.1;have k1:=F.2;clear p F ac;generalize S (2*k)=lo at *;generalize S (2*k+1)=d at *;generalize ae:2*k=kk at *;have aa:=ua ae;clear ae;have z1:¬9223372036854775807<s.size+(vH lo).size:=oM;go_wp2_with fail;refine(af _).mono ?_;rintro e W2 ⟨rfl,b⟩;have I:=ua (uf o b);have P:=ue Z I;have d1:=ue C1 I;let⟨j,G⟩:=nm (if lo+1<d then b1 45 else ByteArray.empty);let⟨t,V⟩:=nm (if lo<d then vH d else ByteArray.empty);have HP:Hid (udo lo d=vH lo++j++t):=by rw[<-G,<-V];rfl
 have X1:=ua G;have X2:=ua V;have y1:j.size<=1:=by rw[<-G];split;exact Ya 1;exact zK
 generalize vH lo=u at *;clear b m G V;go_upto_region 10 with fail;go_region;go_upto_if 62 with fail;go_cut [3] (λv wc=>v=.string (s++u++j)/\W2.drew=wc)
 case first =>
  have z2:¬9223372036854775807<s.size+u.size+1:=oM;by_cases y:lo+1<d
  .have l:Hid (j=b1 45):=(by show _=_;rw[<-X1.o,Zp y]);go_wp2;go_meet;exact⟨by rw[l.o];rfl,rfl⟩
  have l:Hid (j=ByteArray.empty):=by show _=_;rw[<-X1.o,Zn y]
  go_wp2;go_meet;exact⟨by rw[l.o,CQ],rfl⟩
 case rest =>
 obtain⟨rfl,rfl⟩:=hcut;have e0:=ue P (zH W2).drew;have e1:=ue d1 (zH W2).drew;have Y:=ua I.drew;have ao:(s++u++j).size<=2010:=by rw[Dq,Dq];omega
 have aj:Hid (b1 91++ucz S (k+1)=s++u++j++t):=by show _=_;rw[ai.o,HP.o,ab.o];simp only[E2]
 clear P d1;generalize W2.drew=W3 at *;generalize s++u++j=A at *;go_upto_region 12 with fail;go_region;have z2:¬9223372036854775807<A.size+(vH d).size:=oM;have HN:Hid (∀v wr,v=.string (A++t)->Bw w wr->A6 S n w v (Iv ((kk:Int)+2)) wr):=λv wr hv b=>⟨k+1,A++t,by have:=aa.o;omega,by have:=aa.o;congr 1;omega,hv,aj.o.symm,b⟩;by_cases y:lo<d
 .have l:Hid (t=vH d):=by show _=_;rw[<-X2.o,Zp y]
  go_wp2_with fail;refine(ag _).mono ?_;rintro e W4 ⟨rfl,b⟩;have L:=ua (HN (.string (A++vH d)) W4 (by rw[l.o]) (uf Y.drew b));clear b;go_wp2;go_roundw
  .exact L
  simp[intOf];omega
 have l:Hid (t=ByteArray.empty):=by show _=_;rw[<-X2.o,Zn y]
 have L:=ua (HN (.string A) W3.drew (by rw[l.o,CQ]) Y.drew);go_wp2;go_roundw
 .exact L
 simp[intOf];omega
section
open M (OpD ug Gr TX b1 grp)
def CA{s:ByteArray}{ι:Type}{F:ι->World}{w}{f:FuncId}{args:Av}{n:ι}(a:Bw w (F n))(b:∀W,Bw w W->∃n,W=F n)(h:Cs f args (F n) (xf s (F n))):Cs f args (F n) λe c=>e=Rt (.string s)/\∃m,c=F m :=
 h.mono λe W q=>⟨q.1,b W (uf a q.2)⟩
def Va{a b}(h:a=b):Rt (.string a)=Rt (.string b):=by rw[h]
def Su(g:Gr)(T:TR)(s:ByteArray):Prop :=
 ∀(Q:Np) (ra la:Oa) (rc lc b off c l:Nat) (w:Wl),l=T.n->T.n<=c->TA Q w b T off->Ca Q w ra la g->Cs 56 #[.agg #[Sl ra g.nr rc,Sl la g.nb lc],Sl (Sm b off) l c] w (xf s w)
variable {g:Gr} {o:OpD} {x y:TR} {s u:ByteArray}
def A7(y:M.Sound g)(V:(TR.lf o).Ok (M.bB g.nr g.nb)):∃s,s.size<=1210/\Su g (.lf o) s:=by
 obtain⟨u,p⟩:=V;let⟨j,z⟩:=qp p;have i:o.e=0\/o.e=1\/o.e=2\/o.e=3:=by have:=p.1;have:=p.2.1;unfold M.ar at u;split at u<;>(try split at u)<;>omega
 have B:=p.2.2.2.2.2;unfold M.bF at B;rcases i with i|i|i|i
 .refine⟨⟨#[34,34]⟩,dC,λQ ra la rc lc b off c l w m v t q=>?_⟩;simp only[TR.n]at m v;obtain⟨k,⟨sa,sc,G,r⟩,A⟩:=t;have J:=ud k;have I:¬c=0:=oM;rw[i]at k;subst m;clear q r i B p u y;go_enter func56,ntmps56;go_wp2;go_ret;exact⟨rfl,Bm w⟩
 .have N:=ua (p.2.2.1 i);refine⟨M.setT o.sl o.set,zP (M.cP N) oM,λQ ra la rc lc b off c l w m v t q=>?_⟩;simp only[TR.n]at m v;obtain⟨k,⟨sa,sc,G,r⟩,A⟩:=t;have R:=ua r;have J:=ud k;have I:¬c=0:=oM;rw[i]at k;subst m;clear q r i B p u y;go_enter func56,ntmps56;go_wp2_with (go_at_call 30;refine(xH Q sa o.sl sc o.set _ (R.h (Bm w)) N).mono ?_;rintro e W ⟨rfl,O⟩;have S:=ua (uf (Bm w) O);clear O);go_ret;exact⟨rfl,S⟩
 .rw[Zn oM,Zp i,z]at B;have D:j<g.nr:=oM;refine⟨qY g j,zP (jb y D).2 oM,λQ ra la rc lc b off c l w m v t q=>?_⟩;simp only[TR.n]at m v;obtain⟨k,⟨sa,sc,G,r⟩,A⟩:=t;have J:=ud k;have I:¬c=0:=oM;rw[i]at k;rw[z]at A;subst m;have F:=(q.h (uS w (Oc #[Sl ra g.nr rc,Sl la g.nb lc] 34) (Oc #[Iv 2,Sl sa o.sl sc,Iv j] 185))).c;rcases F with T|⟨rb,Y,rfl,X,C⟩
  .omega
  obtain⟨⟨na,nc,H,E⟩,_⟩:=C j D;have L:=vg Q na (g.a j).nl nc (g.a j).f _ E;have x:Hid (qY g j=str (g.a j).nl (g.a j).f):=rfl;generalize str (g.a j).nl (g.a j).f=s at L x;have U:=ud H;clear C E i z q r p u y;go_enter func56,ntmps56;go_wp2;go_ret;exact⟨Va x.symm,Bm w⟩
 rw[Zp i,z]at B;have D:j<g.nb:=oM;have P:=(jc y D).2;refine⟨b1 94++qZ g j,by simp only[Dq,M.b1_size];omega,λQ ra la rc lc b off c l w m v t q=>?_⟩;simp only[TR.n]at m v;obtain⟨k,⟨sa,sc,G,r⟩,A⟩:=t;have J:=ud k;have I:¬c=0:=oM;rw[i]at k;rw[z]at A;subst m;have F:=(q.h (uS w (Oc #[Sl ra g.nr rc,Sl la g.nb lc] 34) (Oc #[Iv 3,Sl sa o.sl sc,Iv j] 185))).e;rcases F with T|⟨rb,Y,rfl,X,C⟩
 .omega
 obtain⟨⟨na,nc,H,E⟩,_⟩:=C j D;have L:=vg Q na (g.d j).nl nc (g.d j).f _ E;have x:Hid (qZ g j=str (g.d j).nl (g.d j).f):=rfl;rw[x.o]at P;generalize str (g.d j).nl (g.d j).f=s at L x P;have U:=ud H;have Z:¬9223372036854775807<1+s.size:=oM;clear C E i z q r p u y;go_enter func56,ntmps56;go_wp2;go_ret;exact⟨Va (by rw[x.o];rfl),Bm w⟩
def uv2(S:(TR.un o x).Ok (M.bB g.nr g.nb))(hn:x.n+1<=2000)(hs:s.size<=1210*x.n)(V:Su g x s):∃s,s.size<=1210*(x.n+1)/\Su g (.un o x) s:=by
 have ab:o.e=6\/o.e=7:=by have:=S.1;unfold M.ar at this;split at this<;>(try split at this)<;>omega
 have nx:=x.n0;let⟨u,T⟩:=nm (x.c (x.n-1)).e;have N:Hid (s.size<=16000000):=by show _<=_;omega
 let⟨J,af⟩:=nm (u==4);let⟨zt,I⟩:=nm (grp (if o.e=6 then decide (4<=u) else J||(u==5)) s);have aa:=M.bP (if o.e=6 then decide (4<=u) else J||(u==5)) s;rw[I]at aa;let⟨s1,G⟩:=nm (if o.e=6 then zt++b1 42 else b1 33++zt);have w1:¬9223372036854775807<zt.size+1:=oM;have w2:¬9223372036854775807<1+zt.size:=oM;refine⟨s1,by rw[<-G];split<;>simp only[Dq,M.b1_size]<;>omega,λQ ra la rc lc b off c l w E P hT O=>?_⟩;simp only[TR.n]at E P;obtain⟨H,i,⟨sa,sc,A,ac⟩,B⟩:=hT;let⟨r,_,_⟩:=jL H (x.n-1) oM;rw[T]at r;have z:=ua λ(W:Wl) (k:Bw w W)=>V Q ra la rc lc b off c _ W rfl oM (H.h k) (O.h k);let⟨m,U⟩:=nm x.n;rw[U]at i A B E P hn z r nx;let⟨j,R⟩:=nm (m-1);rw[R]at r;subst E;have x2:((m+1:Nat):Int)-1=(m:Int):=oM;have x3:(m:Int)<((m+1:Nat):Int):=oM;have x5:((m+1:Nat):Int)-2=(j:Int):=oM;have xa:(m:Int)+1-2=(j:Int):=oM;have xb:(m:Int)-1=(j:Int):=oM;have x6:(j:Int)<((m+1:Nat):Int):=oM;have z6:=uB m oM;have f1:m<c:=oM;have f2:m<=c:=oM;have f3:¬c=0:=oM;have ad:=ud i;have f:=ua G;have a:=ua I;clear H ac S O T R U hs V I G;rcases ab with q|q
 .rw[q]at i f a;rw[Zp rfl]at f a;go_enter func56,ntmps56;go_wp2_with fail;generalize d:(w.alloc _).alloc _=X;have p:Hid (Bw w X.drew):=d▸(Bm w).drew;let⟨y0,y1,y2⟩:=(d▸(Eb w).al _:zG X w.heap.size #[Sl ra g.nr rc,Sl la g.nb lc]).x;clear d i A B r;go_region_with (first|(go_at_call 56;refine(z _ p).mono ?_;rintro e W2 ⟨rfl,t⟩;have Z:=ua (uf p t);clear t)|(go_at_call 117;refine(yL s _ _ N).mono ?_;rintro e W3 ⟨rfl,t⟩;rw[a.o];have B3:=ua (uf Z t);clear t));go_wp2;go_ret;exact⟨Va f,B3⟩
 rw[q]at i f a;rw[Zn dC]at f a;cases J<;>simp only[Qz,Bool.true_or]at a;all_goals
  go_enter func56,ntmps56;go_wp2_with fail;generalize d:(w.alloc _).alloc _=X;have p:Hid (Bw w X):=d▸Bm w;have Y:=d▸(Eb w).al _;let⟨ι,ae,F,C,D⟩:=Vb X;have v:=λn=>(Y.on (C n)).x.1;have HC:=ua (D _ (zH X).drew);have y:=ua C;have L:=ua D;clear C D d i A B r Y;refine ye F rR rR HC ?_;repeat (go_big_quiet_step (first|(go_at_call 56;exact CA (y _) L (z _ (uf p (y _))))|(go_at_call 117;exact CA (y _) L (a.o▸yL s _ _ N))))
  refine wpQuiet_nil ?_;rintro _ ⟨nq,rfl⟩;go_wp2;go_ret;exact⟨Va f,uf p (y nq)⟩
def uv3(F:(TR.bn o x y).Ok (M.bB g.nr g.nb))(hn:x.n+y.n+1<=2000)(hs:s.size<=1210*x.n)(hu:u.size<=1210*y.n)(ix:Su g x s)(iy:Su g y u):∃s,s.size<=1210*(x.n+y.n+1)/\Su g (.bn o x y) s:=by
 have ae:o.e=4\/o.e=5:=by have:=F.1;unfold M.ar at this;split at this<;>(try split at this)<;>omega
 have nx:=x.n0;have ny:=y.n0;let⟨kx,ab⟩:=nm (x.c (x.n-1)).e;let⟨ky,ac⟩:=nm (y.c (y.n-1)).e;have ad:Hid (s.size<=16000000):=by show _<=_;omega
 have Y:Hid (u.size<=16000000):=by show _<=_;omega
 let⟨S,aj⟩:=nm (ky==5);let⟨st,N⟩:=nm (if o.e=4 then grp (kx==5) s else s);let⟨ut,O⟩:=nm (grp (if o.e=4 then S||(ky==4) else S) u);let⟨md,I⟩:=nm (if o.e=4 then b1 32 else ⟨#[32,47,32]⟩);have z1:st.size<=s.size+2:=by rw[<-N];split;exact M.bP _ s;omega
 have z2:=O▸M.bP _ u;have z3:md.size<=3:=by rw[<-I];split<;>decide
 let⟨s1,L⟩:=nm (st++md++ut);have w1:¬9223372036854775807<st.size+md.size:=oM;have w2:¬9223372036854775807<st.size+md.size+ut.size:=oM;refine⟨s1,by rw[<-L,Dq,Dq];omega,λQ ra la rc lc b off c l w G hc hT E=>?_⟩;simp only[TR.n]at G hc;have HT:=ua hT;have HK:=ua F;obtain⟨P,R,v,⟨sa,sc,c1,af⟩,c2⟩:=hT;let⟨C,_,_⟩:=jL R (y.n-1) oM;let⟨D,_,_⟩:=jL P (x.n-1) oM;rw[ac]at C;rw[ab]at D;have JX:=ua λ(W:Wl) (k:Bw w W)=>ix Q ra la rc lc b off c _ W rfl oM (P.h k) (E.h k);have B:=ua λ(W:Wl) (k:Bw w W)=>iy Q ra la rc lc b (off+x.n*3) (c-x.n) (x.n+y.n-x.n) W oM oM (R.h k) (E.h k);let⟨p,J⟩:=nm x.n;let⟨m,H⟩:=nm (x.n+y.n);have HI:=ua J;have HM:=ua H;let⟨j,hj⟩:=nm (m-1);let⟨i,hi⟩:=nm (p-1);rw[show off+x.n*3+(y.n-1)*3=off+j*3 by omega]at C;rw[show off+(x.n-1)*3=off+i*3 by omega]at D;have ak:p<m:=oM;rw[H]at v c1 c2 G hc hn B;rw[J]at JX B nx;subst G;have x2:((m+1:Nat):Int)-1=(m:Int):=oM;have x3:(m:Int)<((m+1:Nat):Int):=oM;have x5:((m+1:Nat):Int)-2=(j:Int):=oM;have xa:(m:Int)+1-2=(j:Int):=oM;have xb:(m:Int)-1=(j:Int):=oM;have x6:(j:Int)<((m+1:Nat):Int):=oM;have x8:(p:Int)-1=(i:Int):=oM;have x9:(i:Int)<((m+1:Nat):Int):=oM;have x7:(p:Int)<=(m:Int):=oM;have x4:(p:Int)<(m:Int):=oM;have z6:=uB m oM;have z7:=uB p oM;have f1:m<c:=oM;have f2:m<=c:=oM;have f3:¬c=0:=oM;have f4:¬c=p:=oM;have f5:p<=m:=oM;have f6:p<=c:=oM;have ai:=ud v;have HS:=ua L;have t:=ua N;have d:=ua O;have r:=ua I;clear P R af F E ab ac hi hj J H hs hu ix iy N O I L z1 z2 z3;rcases ae with q|q;all_goals
  have Z:=ua q;rw[q]at v;clear q;go_enter func56,ntmps56;go_wp2_with fail;refine(yM (HT.h (Bm w)) HK HM oM).mono ?_;rintro e W ⟨rfl,hw⟩;subst W;rw[HI.o];go_wp2_with fail;generalize z:(w.alloc _).alloc _=X;have V:Hid (Bw w X.drew):=z▸(Bm w).drew;have xg:=ua (z▸(Eb w).al _:zG X w.heap.size #[Sl ra g.nr rc,Sl la g.nb lc]);have xo:=ua (z▸uW _ _ _ (w.heap.size+1) sM:zG X (w.heap.size+1) _);let⟨y0,y1,y2⟩:=xg.x;clear z v c1 c2 C D;go_region_with (go_at_call 56;refine(JX _ V).mono ?_;rintro e W2 ⟨rfl,a⟩;have T:=ua (uf V a).drew;have a:=(zH X).drew.trans a;have ag:=ua (xg.on a);have ah:=ua (xo.on a);let⟨u0,u1,u2⟩:=ag.x;clear a);go_wp2_with fail;go_region_with (go_at_call 56;refine(B _ T).mono ?_;rintro e W3 ⟨rfl,a⟩;have U:=ua (uf T a);let⟨v0,v1,v2⟩:=(ah.on ((zH W2).drew.trans a)).x;clear a)
 .rw[Zp Z.o]at t d r;obtain rfl:=r;cases S<;>simp only[Qz,Bool.true_or]at d;all_goals
   go_wp2_with fail;refine(yL s _ _ ad).mono ?_;rintro e W4 ⟨rfl,aa⟩;have B4:=ua (uf U aa);clear aa;rw[t.o];go_wp2_with fail;refine(yL u _ _ Y).mono ?_;rintro e W5 ⟨rfl,f⟩;have A:=ua (uf B4 f);clear f;rw[d.o];go_wp2;go_ret;exact⟨Va HS,A⟩
 rw[Zn (by rw[Z.o];decide)]at t d r;obtain rfl:=r;obtain rfl:=t;go_wp2_with fail;refine(yL u _ _ Y).mono ?_;rintro e W5 ⟨rfl,f⟩;have A:=ua (uf U f);clear f;rw[d.o];go_wp2;go_ret;exact⟨Va HS,A⟩
def uxD(h:M.Sound g)(T:TR):T.Ok (M.bB g.nr g.nb)->T.n<=2000->∃s,s.size<=1210*T.n/\Su g T s:=by
 induction T with
 |lf o=>exact λa _=>A7 h a
 |un o x i=>intro a b;simp only[TR.n]at b;let⟨s,c,d⟩:=i a.2.2 oM;exact uv2 a b c d
 |bn o x y j k=>intro a b;simp only[TR.n]at b;let⟨s,c,d⟩:=j a.2.2.1 oM;let⟨u,e,f⟩:=k a.2.2.2 oM;exact uv3 a b c e d f
def KN(g:Gr)(n:Nat)(B:Nat->OpD)(s:ByteArray):Prop :=
 s.size<=1210*n/\∀(Q:Np) (ra la a:Oa) (rc lc c:Nat) (w:Wl),n<=c->zM Q w a n B->Ca Q w ra la g->Cs 56 #[.agg #[Sl ra g.nr rc,Sl la g.nb lc],Sl a n c] w (xf s w)
def uq5(m:M.Sound g){n:Nat}{B:Nat->OpD}(p:M.bC g.nr g.nb n B)(v:n<=2000):∃s,KN g n B s:=by
 let⟨T,e,r,k,_⟩:=qT p;let⟨s,f,h⟩:=uxD m T r oM;have x:=T.n0;refine⟨s,e▸f,λQ ra la a rc lc c w t d l=>?_⟩;rcases d with q|⟨b,o,rfl,y,d⟩
 .omega
 have:=Ly (off:=o) (i:=0) k (λj u=>by rw[Bp];exact d j oM);rw[Gf,Dy]at this;exact h Q ra la rc lc b o c n w e.symm oM this l
end
open Classical in
noncomputable def tbX (g:Gr) (n:Nat) (B:Nat->OpD):ByteArray:=if h:∃s,KN g n B s then h.choose else ByteArray.empty
def BZ{g}(a:M.Sound g){n B}(b:M.bC g.nr g.nb n B)(c:n<=2000):KN g n B (tbX g n B):=by
 have h:=uq5 a b c;unfold tbX;rw[dif_pos h];exact h.choose_spec
noncomputable def rulesT (g:Gr):Nat->ByteArray
 |0=>⟨#[]⟩
 |k+1=>rulesT g k++(qY g k++⟨#[32,61,32]⟩++tbX g (g.a k).bl (g.a k).e++⟨#[32,59,10]⟩)
noncomputable def labsT (g:Gr):Nat->ByteArray
 |0=>rulesT g g.nr
 |k+1=>if (g.d k).j then labsT g k++(⟨#[94]⟩++qZ g k++⟨#[32,61,32]⟩++tbX g (g.d k).bl (g.d k).e++⟨#[32,59,10]⟩) else labsT g k
def A0 a b c:(⟨#[a,b,c]⟩:ByteArray).size=3:=rfl
def KL{g}(b:M.Sound g):∀k,k<=g.nr->(rulesT g k).size<=40*k+1210*M.sum (λi=>(g.a i).bl) k
 |0,_=>zK
 |k+1,hk=>by
  have e:=KL b k oM;have c:=(jb b (show k<g.nr by omega)).2;have d:=(BZ b (b.rb k oM) (qN b (show k<g.nr by omega))).1;rw[rulesT,M.sum];simp only[Dq,A0];omega
def A1{g}(a:M.Sound g):∀k,k<=g.nb->(labsT g k).size<=(rulesT g g.nr).size+40*k+1210*M.sum (λi=>(g.d i).bl) k
 |0,_=>by rw[labsT,M.sum];omega
 |k+1,hk=>by
  have e:=A1 a k oM;rw[labsT,M.sum];split
  .rename_i h;have b:=(jc a (show k<g.nb by omega)).2;have c:=(BZ a (a.lb k oM h) (Qg a (show k<g.nb by omega))).1;simp only[Dq,A0,show(⟨#[94]⟩:ByteArray).size=1 from rfl];omega
  omega
def un6{g}(b:M.Sound g)k(c:k<=g.nr):(rulesT g k).size<=2600000:=by
 have e:=KL b k c;have f:=M.cF (λi=>(g.a i).bl) c;have d:=b.ol;have h:=b.r2;unfold M.ops at d;omega
def A2{g}(a:M.Sound g)k(b:k<=g.nb):(labsT g k).size<=2700000:=by
 have e:=A1 a k b;have f:=M.cF (λi=>(g.d i).bl) b;have h:=KL a g.nr zD;have c:=a.ol;have j:=a.r2;have l:=a.l2;unfold M.ops at c;omega
def KM(g:Gr)(s:ByteArray):Prop:=(M.Valid g/\s=labsT g g.nb)\/(¬M.Valid g/\s=ByteArray.empty)
def A3 g:∃s,KM g s/\s.size<=2700000:=by
 by_cases h:M.Valid g
 .exact⟨_,.inl ⟨h,rfl⟩,A2 h.a g.nb zD⟩
 exact⟨_,.inr ⟨h,rfl⟩,sM⟩
def A4(W1:Wl)(n:Nat)(f:Nat->ByteArray)(b a:Vl)(wr:Wl):Prop:=∃k:Nat,k<=n/\a=Iv (k:Int)/\b=.string (f k)/\Bw W1 wr
def uq3(s:ByteArray)(w:Wl)(e:Ending)(w':Wl):Prop:=∃a c,e=Rt (Sl a s.size c)/\Ints (zF w w') .u8 w' a s.size (bT s)/\Bw w w'/\s.size<=c
def Du.e{Q w b o d}(h:Du Q w b o d):∃na nc ba bc,w.cell? (Ad b o)=some (Sl na d.nl nc)/\Ints Q .u8 w na d.nl d.f/\w.cell? (Ad b (o+1))=some (Sl ba d.bl bc)/\zM Q w ba d.bl d.e/\d.bl<=bc:=by
 obtain⟨⟨⟨na,nc,g,k⟩,⟨l,m,a,i⟩⟩,⟨ba,bc,c,j⟩⟩:=h;rw[c]at a;simp at a;obtain⟨rfl,rfl⟩:=a;exact⟨na,nc,_,_,g,k,c,i,j⟩
def Fo.e{Q w b o d}(h:Fo Q w b o d):∃na nc ba bc,w.cell? (Ad b o)=some (Sl na d.nl nc)/\Ints Q .u8 w na d.nl d.f/\w.cell? (Ad b (o+1))=some (.bool d.j)/\w.cell? (Ad b (o+2))=some (Sl ba d.bl bc)/\zM Q w ba d.bl d.e/\d.bl<=bc:=by
 obtain⟨⟨⟨na,nc,g,m⟩,l,⟨n,p,a,i⟩⟩,⟨ba,bc,c,k⟩⟩:=h;rw[c]at a;simp at a;obtain⟨rfl,rfl⟩:=a;exact⟨na,nc,_,_,g,m,l,c,i,k⟩
def A5 Q ra la rc lc g s w(hG:zV Q w ra la g)(hs:vS g)(hT:KM g s) :
  Cs 18 #[.agg #[Sl ra g.nr rc,Sl la g.nb lc]] w (uq3 s w):=by
 have HG:=ua hG;have HS:=ua hs;have HT:=ua hT;clear hG hs hT;go_enter func18,ntmps18;go_wp2_with fail;refine(qS Q ra la rc lc g _ (HG.h (zO w)).a HS).mono ?_;rintro e W1 ⟨⟨r,rfl,E⟩,t⟩;have Z:=ue (a:=(Ad w.heap.size 0)) (v:=Sl ra g.nr rc) (cN w.heap.size rfl rfl) t;have g1:=ue (a:=(Ad w.heap.size 1)) (v:=Sl la g.nb lc) (cN w.heap.size rfl rfl) t;have G:=ua (uf (zO w) t);have am:=ud Z;clear t;cases r with
 |false =>
  have i:Hid (s=ByteArray.empty):=by
   rcases HT.o with⟨q,_⟩|⟨_,q⟩
   .exact aB (E.2 q) dC
   exact q
  clear E;go_wp2;go_ret;exact⟨none,0,by rw[i.o];rfl,.inl (by rw[i.o];rfl),G,by rw[i.o];exact zD⟩
 |true =>
  have i:=ua (E.1 rfl);have ae:Hid (s=labsT g g.nb):=by
   rcases HT.o with⟨_,q⟩|⟨q,_⟩
   .exact q
   exact aB (E.1 rfl) q
  clear E;have h1:=i.r2;have h2:=i.l2;have H:=ua (HG.h G);have G0:=ua Z;have G1:=ua g1;go_wp2;go_loopw [3,4] (λov y wr=>A4 W1 g.nr (rulesT g) ov y wr) (λ_ y _=>g.nr-(intOf y).toNat)
  .exact⟨0,zK,rfl,rfl,zH _⟩
  obtain⟨k,hk,rfl,rfl,u⟩:=hrel;have ab:=ua u;have y0:=ue G0 u;have y1:=ue G1 u;clear Z g1 u;by_cases m:k<g.nr
  .have hlt':(k:Int)<(g.nr:Int):=oM;rcases H.c with q|⟨b,off,rfl,hq,N⟩
   .omega
   let⟨na,nc,ba,bc,J,P,L,t,O⟩:=(N k m).e;let⟨ι,ag,F,p,A⟩:=Vb wr;have l:∀n,Bw W1 (F n):=λn=>uf ab (p n);have f0:∀n,(F n).cell? (Ad w.heap.size 0)=some (Sl (Sm b off) g.nr rc):=λn=>ue y0 (p n);have f1:∀n,(F n).cell? (Ad w.heap.size 1)=some (Sl la g.nb lc):=λn=>ue y1 (p n);have f2:∀n,(F n).cell? (Ad b (off+k*2))=some (Sl na (g.a k).nl nc):=λn=>ue J (l n);have f3:∀n,(F n).cell? (Ad b (off+k*2+1))=some (Sl ba (g.a k).bl bc):=λn=>ue L (l n);have af:∀n,(convert 22 9 (Sl na (g.a k).nl nc)).run prog (F n)=.ok (.string (qY g k)) (F n):=λn=>vg Q na (g.a k).nl nc (g.a k).f _ (P.h (l n));have R:=ua (A _ (zH wr).drew);have T:=ua p;have U:=ua A;have D:=ua l;have W:Hid (∀n,zM Q (F n) ba (g.a k).bl (g.a k).e):=λn=>t.h (l n);have V:Hid (∀n,Ca Q (F n) (Sm b off) la g):=λn=>(H.h (l n)).a;have S:=ua O;have ai:=(jb i.a m).2;have B:=BZ i.a (i.rb k m) (qN i.a m);have aj:=B.1;have ak:=un6 i.a k hk;have al:=qN i.a m;have X:Hid (rulesT g (k+1)=rulesT g k++(qY g k++⟨#[32,61,32]⟩++tbX g (g.a k).bl (g.a k).e++⟨#[32,59,10]⟩)):=(by show _=_;rw[rulesT]);have Y:Hid (∀n,Cs 56 #[.agg #[Sl (Sm b off) g.nr rc,Sl la g.nb lc],Sl ba (g.a k).bl bc] (F n) (xf (tbX g (g.a k).bl (g.a k).e) (F n))):=λn=>B.2 Q _ la ba rc lc bc (F n) S (W n) (V n);clear p A l N P t O J L hq B;generalize tbX g (g.a k).bl (g.a k).e=z at *;generalize qY g k=nm at *;generalize rulesT g k=rt at *;have w1:¬9223372036854775807<nm.size+3:=oM;have w2:¬9223372036854775807<nm.size+3+z.size:=oM;have w3:¬9223372036854775807<nm.size+3+z.size+3:=oM;have w4:¬9223372036854775807<rt.size+(nm.size+3+z.size+3):=oM;go_wp2_with fail;refine ye F rR rR R ?_;repeat (go_big_quiet_step (first|(go_at_call 56;exact CA (T _) U (Y _))))
   refine wpQuiet_nil ?_;rintro _ ⟨nq,rfl⟩;go_wp2;go_roundw
   .exact⟨k+1,oM,by go_num,by rw[X.o],D nq⟩
   simp[intOf];omega
  obtain rfl:k=g.nr:=oM;go_wp2;go_loopw [3,5] (λov y wr=>A4 W1 g.nb (labsT g) ov y wr) (λ_ y _=>g.nb-(intOf y).toNat)
  .exact⟨0,zK,rfl,rfl,ab⟩
  obtain⟨k,hk,rfl,rfl,u⟩:=hrel;have C:=ua u;have y0:=ue G0 u;have y1:=ue G1 u;by_cases m:k<g.nb
  .have hlt':(k:Int)<(g.nb:Int):=oM;rcases H.e with q|⟨b,off,rfl,hq,N⟩
   .omega
   let⟨na,nc,ba,bc,J,P,ch,L,t,O⟩:=(N k m).e;have I:Hid (labsT g (k+1)=if (g.d k).j then labsT g k++(⟨#[94]⟩++qZ g k++⟨#[32,61,32]⟩++tbX g (g.d k).bl (g.d k).e++⟨#[32,59,10]⟩) else labsT g k):=(by show _=_;rw[labsT]);have d0:=ue ch C;cases hh:(g.d k).j with
   |false =>
    rw[hh]at I d0;go_wp2;go_roundw
    .exact⟨k+1,oM,by go_num,by rw[I.o];rfl,C⟩
    simp[intOf];omega
   |true =>
    rw[hh]at I d0;let⟨ι,ag,F,p,A⟩:=Vb wr;have l:∀n,Bw W1 (F n):=λn=>uf C (p n);have f0:∀n,(F n).cell? (Ad w.heap.size 0)=some (Sl ra g.nr rc):=λn=>ue y0 (p n);have f1:∀n,(F n).cell? (Ad w.heap.size 1)=some (Sl (Sm b off) g.nb lc):=λn=>ue y1 (p n);have f2:∀n,(F n).cell? (Ad b (off+k*3))=some (Sl na (g.d k).nl nc):=λn=>ue J (l n);have f3:∀n,(F n).cell? (Ad b (off+k*3+2))=some (Sl ba (g.d k).bl bc):=λn=>ue L (l n);have af:∀n,(convert 22 9 (Sl na (g.d k).nl nc)).run prog (F n)=.ok (.string (qZ g k)) (F n):=λn=>vg Q na (g.d k).nl nc (g.d k).f _ (P.h (l n));have R:=ua (A _ (zH wr).drew);have T:=ua p;have U:=ua A;have D:=ua l;have W:Hid (∀n,zM Q (F n) ba (g.d k).bl (g.d k).e):=λn=>t.h (l n);have V:Hid (∀n,Ca Q (F n) ra (Sm b off) g):=λn=>(H.h (l n)).a;have S:=ua O;have ai:=(jc i.a m).2;have B:=BZ i.a (i.lb k m hh) (Qg i.a m);have aj:=B.1;have ak:=A2 i.a k hk;have al:=Qg i.a m;have X:=ua (I.o.trans (Zp rfl));have Y:Hid (∀n,Cs 56 #[.agg #[Sl ra g.nr rc,Sl (Sm b off) g.nb lc],Sl ba (g.d k).bl bc] (F n) (xf (tbX g (g.d k).bl (g.d k).e) (F n))):=λn=>B.2 Q ra _ ba rc lc bc (F n) S (W n) (V n);generalize tbX g (g.d k).bl (g.d k).e=z at *;generalize qZ g k=nm at *;generalize labsT g k=rt at *;have w0:¬9223372036854775807<1+nm.size:=oM;have w1:¬9223372036854775807<1+nm.size+3:=oM;have w2:¬9223372036854775807<1+nm.size+3+z.size:=oM;have w3:¬9223372036854775807<1+nm.size+3+z.size+3:=oM;have w4:¬9223372036854775807<rt.size+(1+nm.size+3+z.size+3):=oM;go_wp2_with fail;refine ye F rR rR R ?_;repeat (go_big_quiet_step (first|(go_at_call 56;exact CA (T _) U (Y _))))
    refine wpQuiet_nil ?_;rintro _ ⟨nq,rfl⟩;go_wp2;go_roundw
    .exact⟨k+1,oM,by go_num,by rw[X.o],D nq⟩
    simp[intOf];omega
  obtain rfl:k=g.nb:=oM;have ad:Hid (labsT g g.nb=s):=ae.symm;let⟨a,c,W',ah,hI,hB,aa⟩:=Yf wr (labsT g g.nb);rw[ad.o]at ah hI aa ⊢;have ac:=ua aa;clear aa;have HI:=ua hI;have D:=ua hB;go_wp2;go_ret;refine⟨a,c,rfl,?_,uf G (uf C D),ac.o⟩;rcases HI.o with q|⟨x,o,e1,rfl,hc⟩
  .exact .inl q
  by_cases e0:s.size=0
  .exact .inl e0
  exact .inr ⟨wr.heap.size,o,e1,⟨zP G.size C.size,ud (hc 0 oM)⟩,hc⟩
namespace Y
open M (OpD ug Gr uw)
def LOK(il ln:Nat)(st:List Cf):Prop:=(∀f,f∈st->f.c<=il/\f.a<=ln)/\st.Pairwise (λa b=>b.e≠2->a.a<=b.a)
structure TG(T:Nat->Nat)(A:Np)(n:Nat)(st:List Cf)(ka:Oa)(kc:Nat)(la:Oa)(ln lc:Nat)(xa:Oa)(xn:Nat)(W:Wl):Prop where
 k:zB (λb=>T b=1) W (Sl ka n kc) 4 n (xe st)
 l:∃cs,zB (λb=>T b=2) W (Sl la ln lc) 3 ln cs/\∀u∈cs,u.oneCell'=true
 x:∃S,Ints (λb=>T b=3) .i64 W xa xn S
 t:∀b,T b≠0->b<W.heap.size/\¬A b
structure SY(A:Np)(il m n:Nat)(st:List Cf)(ka:Oa)(kc:Nat)(la:Oa)(ln lc:Nat)(xa:Oa)(xn:Nat)(W:Wl):Prop where
 g:∃T,TG T A n st ka kc la ln lc xa xn W
 a:∀b,A b->b<W.heap.size
 nl:st.length=n
 xl:xn<=512
 lm:ln<=m
 sl:n<=1000
 lo:LOK il ln st
abbrev yv(a:Int)(p:Nat)(ka:Oa)(n kc:Nat)(la:Oa)(ln lc:Nat)(f:Int)(xa:Oa)(xn xc k:Nat)(t:Int)(d:Bool)(c l:Int):Array Value :=
 #[Iv a, Iv (p : Int), Sl ka n kc, Sl la ln lc, Iv f, Sl xa xn xc, Iv (k : Int), Iv t, .bool d, Iv c, Iv l]
def Nx(A:Np)(il m k:Nat)(w:Wl)(P:Ew):Prop :=
 ∀(a:Int) (p n:Nat) (f t:Int) (d:Bool) (c l:Int) (st:List Cf) (e:Oa) (g:Nat) (la:Oa) (ln lc:Nat) (h:Oa) (i xc:Nat) (W:Wl),p<=il->SY A il m n st e g la ln lc h i W->zA (λb=>¬A b) w W->P (Rt (.agg (yv a p e n g la ln lc f h i xc k t d c l))) W
def Bx(A:Np)(w:Wl)(j b:Nat):Prop:=A b\/w.heap.size<=b/\b<w.heap.size+j
section
variable {A A':Np} {il m n j k:Nat} {st:List Cf} {ka:Oa} {kc:Nat} {la:Oa} {ln lc:Nat} {xa:Oa} {xn xc:Nat} {w Y W W':Wl} {T:Nat->Nat}
def kA(h:Bw w W){C:Np}:zA C w W:=⟨h.os,h.tape,h.output,h.size,λb a _=>h.block b a⟩
def kG{Q:Np}(h:zT Q w W):zA Q w W:=⟨h.os,h.g,h.f,h.l,h.d⟩
def TG.y(h:TG T A n st ka kc la ln lc xa xn W)(k:zA A W W'):TG T A n st ka kc la ln lc xa xn W':=by
 have s:∀i,i≠0->zS (λb=>T b=i) W W':=λi e b a=>k.d b (h.t b oM).1 (h.t b oM).2;let⟨cs,c,l2⟩:=h.l;let⟨S,x⟩:=h.x;exact⟨h.k.on (s 1 oM),⟨cs,c.on (s 2 oM),l2⟩,⟨S,x.on (s 3 oM)⟩,λb a=>⟨Ba (h.t b a).1 k.l,(h.t b a).2⟩⟩
def SY.y(h:SY A il m n st ka kc la ln lc xa xn W)(k:zA A W W'):SY A il m n st ka kc la ln lc xa xn W':=let⟨T,g⟩:=h.g;⟨⟨T,g.y k⟩,λb c=>Ba (h.a b c) k.l,h.nl,h.xl,h.lm,h.sl,h.lo⟩
def SY.h(h:SY A' il m n st ka kc la ln lc xa xn W)(k:∀b,A b->A' b):SY A il m n st ka kc la ln lc xa xn W:=let⟨T,g⟩:=h.g;⟨⟨T,g.k,g.l,g.x,λb c=>⟨(g.t b c).1,λq=>(g.t b c).2 (k b q)⟩⟩,λb c=>h.a b (k b c),h.nl,h.xl,h.lm,h.sl,h.lo⟩
def SY.p(h:SY A il m n st ka kc la ln lc xa xn w)(k:Bw w W)(f:w.heap.size+j<=W.heap.size):SY (Bx A w j) il m n st ka kc la ln lc xa xn W:=by
 have e:=h.y (kA k);let⟨T,g⟩:=h.g;have d:=g.y (kA k);exact⟨⟨T,d.k,d.l,d.x,λb c=>⟨(d.t b c).1,λq=>q.elim (g.t b c).2 (λq=>oH ((g.t b c).1))⟩⟩,λb c=>c.elim (e.a b) (λq=>oM),h.nl,h.xl,h.lm,h.sl,h.lo⟩
def SY.up(h:SY A il m n st ka kc la ln lc xa xn W){b:Nat}(c:m<=b):SY A il b n st ka kc la ln lc xa xn W:=⟨h.g,h.a,h.nl,h.xl,zP h.lm c,h.sl,h.lo⟩
def SY.c(h:SY A il m n st ka kc la ln lc xa xn W)(i:j<=n){g:Nat}(d:g<=ln)(o:∀f,f∈st.take j->f.a<=g):SY A il m j (st.take j) ka kc la g lc xa xn W:=by
 let⟨T,q⟩:=h.g;let⟨cs,r,l2⟩:=q.l;have e:xe (st.take j)=(xe st).take (j*4):=IZ Kx 4 (λ_=>rfl) st j;exact⟨⟨T,e▸ja q.k i,⟨_,ja r d,λu p=>l2 u (Sz p)⟩,q.x,q.t⟩,h.a,by rw[Fw,h.nl];omega,h.xl,zP d h.lm,zP i h.sl,
  λf b=>⟨(h.lo.1 f (Sz b)).1,o f b⟩,h.lo.2.sublist (List.take_sublist _ _)⟩
def SY.u(h:SY A il m n st ka kc la ln lc xa xn W)(b:j<=n):SY A il m j (st.take j) ka kc la ln lc xa xn W:=h.c b zD (λf a=>(h.lo.1 f (Sz a)).2)
def SY.fr(h:SY A il m n st ka kc la ln lc xa xn W)(d:j<n):∃b f,ka=some (Ad b 0)/\st[j]?=some f/\ZJ W b (j*4) f/\f.c<=il/\f.a<=ln/\(f.e≠2->∀x,x∈st.take j->x.a<=f.a):=by
 let⟨T,q⟩:=h.g;have l:=q.k;rw[<-h.nl]at l d;have o:=Bb d;rcases uk8 l with e|⟨b,e,c⟩
 .omega
 have p:=Gi d;refine⟨b,_,e,o,c j _ o,(h.lo.1 _ p).1,(h.lo.1 _ p).2,λl x s=>?_⟩;obtain⟨i,r,rfl⟩:=List.mem_iff_getElem.1 s;rw[Fw]at r;rw[List.getElem_take];exact List.pairwise_iff_getElem.1 h.lo.2 i j oM d oM l
def Ow(T:Nat->Nat)(i:Nat)(Y W:Wl)(b:Nat):Nat:=if Y.heap.size<=b/\b<W.heap.size then i else T b
def LK(c:∀b,T b≠0->b<Y.heap.size/\¬A b)(d:∀b,A b->b<Y.heap.size)(e:Y.heap.size<=W.heap.size)(i:Nat):∀b,Ow T i Y W b≠0->b<W.heap.size/\¬A b:=λb a=>by
 unfold Ow at a;split at a
 .exact⟨oM,λq=>by have:=d b q;omega⟩
 exact⟨by have:=(c b a).1;omega,(c b a).2⟩
def eJ{i:Nat}{v:Vl}{c n:Nat}{cs:List Value}(k:∀b,T b≠0->b<Y.heap.size/\¬A b)(f:i≠0)(e:0<c)(j:0<n)(h:zB (λb=>T b=i\/Y.heap.size<=b) W v c n cs):zB (λb=>Ow T i Y W b=i) W v c n cs:=by
 refine h.a (Pi oM e) (λg d _=>?_);unfold Ow;split
 .rfl
 exact d.resolve_right (λq=>oM)
def cW{i q:Nat}(f:q≠0)(e:q≠i)(c:∀b,T b≠0->b<Y.heap.size/\¬A b)(k:zA (λb=>T b=i) Y W):zS (λb=>T b=q) Y W/\∀b,T b=q->Ow T i Y W b=q :=
 ⟨λb a=>k.d b (c b oM).1 oM,λb a=>by unfold Ow;rw[Zn (by have:=(c b oM).1;omega)];exact a⟩
def eI{i:Nat}(d:i≠0)(a:∀b,T b≠0->b<Y.heap.size/\¬A b)(k:zA (λb=>T b=i) Y W):zA (λb=>¬A b) Y W:=k.h (λb c=>(a b oM).2)
def SY.d{f:Cf}{y:Vl}(ty:TypeId)(h:SY A il m n st ka kc la ln lc xa xn Y)(u:n<1000)(o:f.c<=il/\f.a<=ln/\(f.e=2\/f.a=ln))(z:Src prog 4 216 y 1 (Kx f) Y) :
  ∃a c W,(Builtin.append_ #[216,216] ty #[Sl ka n kc,y]).run prog Y=.ok (Sl a (n+1) c) W/\SY A il m (n+1) (st++[f]) a c la ln lc xa xn W/\zA (λb=>¬A b) Y W:=by
 let⟨T,q⟩:=h.g;let⟨v,W,w,p,B,_⟩:=kE ty utj q.k z oM (λ_=>Nat.one_pos);obtain⟨a,c,rfl⟩:=uj p;have K:=kG B;let⟨D,F⟩:=cW (q:=2) oM oM q.t K;let⟨E,G⟩:=cW (q:=3) oM oM q.t K;let⟨cs,C,l2⟩:=q.l;let⟨S,x⟩:=q.x;refine⟨a,c,W,w,⟨⟨Ow T 1 Y W,(ujn st f)▸eJ q.t oM oM oM p,⟨cs,uA (C.on D) F,l2⟩,⟨S,(x.on E).g G⟩,LK q.t h.a K.l 1⟩,λb j=>Ba (h.a b j) K.l,by simp[h.nl],h.xl,h.lm,u,λx i=>?_,?_⟩,eI oM q.t K⟩
 .rcases By.1 i with i|i
  .exact h.lo.1 x i
  obtain rfl:=Bu.1 i;exact⟨o.1,o.2.1⟩
 refine Tc.2 ⟨h.lo.2,List.pairwise_singleton _ _,λa r b j s=>?_⟩;obtain rfl:=Bu.1 j;have:=(h.lo.1 a r).2;have:=o.2.2.resolve_left s;omega
def SY.f{y:Vl}{us:List Value}(ty:TypeId)(h:SY A il m n st ka kc la ln lc xa xn Y)(E:m<=100000)(e:Src prog 3 42 y 1 us Y) :
  ∃a c W,(Builtin.append_ #[42,42] ty #[Sl la ln lc,y]).run prog Y=.ok (Sl a (ln+1) c) W/\SY A il (m+1) n st ka kc a (ln+1) c xa xn W/\zA (λb=>¬A b) Y W:=by
 let⟨T,q⟩:=h.g;let⟨cs,s,l2⟩:=q.l;have D:=h.lm;let⟨v,W,o,i,r,_⟩:=kE ty BL s e oM (λ_=>Nat.one_pos);obtain⟨a,c,rfl⟩:=uj i;have K:=kG r;let⟨w,B⟩:=cW (q:=1) oM oM q.t K;let⟨z,C⟩:=cW (q:=3) oM oM q.t K;let⟨S,x⟩:=q.x;exact⟨a,c,W,o,⟨⟨Ow T 2 Y W,uA (q.k.on w) B,⟨_,eJ q.t oM oM oM i,λu p=>(By.1 p).elim (l2 u) (e.one u)⟩,⟨S,(x.on z).g C⟩,LK q.t h.a K.l 2⟩,λb j=>Ba (h.a b j) K.l,h.nl,h.xl,oM,h.sl,λf d=>⟨(h.lo.1 f d).1,by have:=(h.lo.1 f d).2;omega⟩,h.lo.2⟩,eI oM q.t K⟩
def SY.t(h:SY A il m n st ka kc la ln lc xa xn Y)(k:Bw Y W){a:Oa}{z:Nat}{S:Nat->Int}(d:z<=512)(e:Ints (zF Y W) .i64 W a z S):SY A il m n st ka kc la ln lc a z W:=by
 let⟨T,q⟩:=h.g;let⟨cs,f,l2⟩:=q.l;have K:zA (λb=>T b=3) Y W:=kA k;let⟨i,o⟩:=cW (q:=1) oM oM q.t K;let⟨j,p⟩:=cW (q:=2) oM oM q.t K;exact⟨⟨Ow T 3 Y W,uA (q.k.on i) o,⟨cs,uA (f.on j) p,l2⟩,⟨S,e.g (λb c=>Zp c)⟩,LK q.t h.a K.l 3⟩,λb c=>Ba (h.a b c) K.l,h.nl,d,h.lm,h.sl,h.lo⟩
end
end Y
end Go.Proofs.YtmlblamikgkdcaaGreat
