import Derived.Test.YtpghlcdkfldlpaaGreatT21
set_option linter.unusedVariables false
set_option linter.unusedSimpArgs false
set_option maxHeartbeats 40000000
set_option maxRecDepth 100000
namespace Go.Proofs.YtpghlcdkfldlpaaGreat
open Go.RowKit
open M (OpD ue Gr um EX ins)
theorem ukl a:(vM a).length=a.length:=by simp[vM]
theorem ukm a b:vM (a++b)=vM a++vM b:=by simp[vM]
def blk(x:IC):Option Nat:=if x.d.sl=0 then none else x.a.map (λa=>a.block)
def ubh(l:List IC):List Nat:=l.filterMap blk
theorem ugh l m:ubh (l++m)=ubh l++ubh m:=by simp[ubh]
theorem upU k a t:blk (ic k a t)=none:=by simp[blk,ic,ins]
theorem ujj{S w l}(h:SetsA S w l){b}(d:b∈ubh l):S b:=by
 obtain⟨x,g,a⟩:=List.mem_filterMap.1 d;unfold blk at a;split at a
 ·cases a
 rename_i c;rcases h x g with q|⟨i,off,e,f,_⟩
 ·exact absurd q c
 rw[e]at a;simp at a;rw[<-a];exact f
structure CP(w0:World)(cb:Nat)(u0 u1:Value)(l e:List IC)(fl:List Int)(w:World)(P F S:Nat->Prop)(vp vf:Value):Prop where
 g0:w.cell? ⟨cb,0,none⟩=some u0
 g1:w.cell? ⟨cb,1,none⟩=some u1
 p:w.cell? ⟨cb,2,none⟩=some vp
 f:w.cell? ⟨cb,3,none⟩=some vf
 soft:∀j,w.frozen? ⟨cb,j,none⟩=false
 own:OwnC P w vp 4 l.length (uH l)
 ownf:OwnC F w vf 1 fl.length (vM fl)
 sets:SetsA S w (l++e)
 softS:∀b j,S b->w.frozen? ⟨b,j,none⟩=false
 rp:∀b,P b->w0.heap.size<=b/\b<w.heap.size/\b≠cb/\¬F b/\¬S b
 rf:∀b,F b->w0.heap.size<=b/\b<w.heap.size/\b≠cb/\¬S b
 rs:∀b,S b->w0.heap.size<=b/\b<w.heap.size/\b≠cb
 cb0:w0.heap.size<=cb/\cb<w.heap.size
 nodup:(ubh (l++e)).Nodup
 bel:Below w0.heap.size w0 w
def CS(w0:World)(a:Nat)(u0 u1:Value)(l e:List IC)(b:List Int)(w:World):Prop:=∃P F S d c,CP w0 a u0 u1 l e b w P F S d c
theorem uev{w w' b j}(h:w.frozen? ⟨b,j,none⟩=false)(a:b<w.heap.size)(k:Below w.heap.size w w'):w'.frozen? ⟨b,j,none⟩=false:=(k.frozen (p:=⟨b,j,none⟩) a).trans h
theorem CP.later{w0 c u0 u1 l e d w w' P F S i g}(h:CP w0 c u0 u1 l e d w P F S i g)(k:Below w.heap.size w w'):CP w0 c u0 u1 l e d w' P F S i g:=by
 have m:=k.size;exact⟨uc h.g0 k,uc h.g1 k,uc h.p k,uc h.f k,λj=>uev (h.soft j) h.cb0.2 k,uah h.own (λb a=>(h.rp b a).2.1) k,uah h.ownf (λb a=>(h.rf b a).2.1) k,h.sets.later k,
  λb j a=>uev (h.softS b j a) (h.rs b a).2.1 k,λb a=>⟨(h.rp b a).1,by have:=(h.rp b a).2.1;omega,(h.rp b a).2.2⟩,λb a=>⟨(h.rf b a).1,by have:=(h.rf b a).2.1;omega,(h.rf b a).2.2⟩,λb a=>⟨(h.rs b a).1,by have:=(h.rs b a).2.1;omega,(h.rs b a).2.2⟩,
  ⟨h.cb0.1,by have:=h.cb0.2;omega⟩,h.nodup,h.bel.trans (k.mono h.bel.size)⟩
theorem CS.later{w0 a u0 u1 l e b w w'}(h:CS w0 a u0 u1 l e b w)(k:Below w.heap.size w w'):CS w0 a u0 u1 l e b w':=let ⟨P,F,S,vp,vf,h⟩:=h;⟨P,F,S,vp,vf,h.later k⟩
theorem CS.bel{w0 a u0 u1 l e b w}(h:CS w0 a u0 u1 l e b w):Below w0.heap.size w0 w:=let ⟨_,_,_,_,_,h⟩:=h;h.bel
theorem CP.plain{w0 b u0 u1 l c w P F S g e}(h:CP w0 b u0 u1 l [] c w P F S g e)k a t:CP w0 b u0 u1 l [ic k a t] c w P F S g e :=
 ⟨h.g0,h.g1,h.p,h.f,h.soft,h.own,h.ownf,by
  have:=h.sets;rw[List.append_nil]at this;exact this.app (λx d=>by simp at d;subst d;exact .inl rfl),h.softS,h.rp,h.rf,h.rs,h.cb0,by
  have:=h.nodup;rw[List.append_nil]at this;rw[ugh];simp[ubh,upU];exact this,h.bel⟩
theorem CS.plain{w0 b u0 u1 l c w}(h:CS w0 b u0 u1 l [] c w)k a t:CS w0 b u0 u1 l [ic k a t] c w:=let ⟨P,F,S,vp,vf,h⟩:=h;⟨P,F,S,vp,vf,h.plain k a t⟩
theorem CS.fresh{w0 m u0 u1 l n w w'}(h:CS w0 m u0 u1 l [] n w)(k:Below w.heap.size w w')x(s:Ints (New w w') .i64 w' x.a x.d.sl x.d.set)(B:Soft w w'):CS w0 m u0 u1 l [x] n w':=by
 obtain⟨P,F,S,D,C,g⟩:=h;have h:=g.later k;have E:=g.bel.size;refine⟨P,F,λb=>S b\/New w w' b,D,C,h.g0,h.g1,h.p,h.f,h.soft,h.own,h.ownf,?_,?_,?_,?_,?_,h.cb0,?_,h.bel⟩
 ·have:=h.sets;rw[List.append_nil]at this;exact(this.wide (λb q=>.inl q)).app (λy i=>by simp at i;subst i;exact s.wide (λb q=>.inr q))
 ·rintro b j (q|q)
  ·exact h.softS b j q
  exact B b j q.1 q.2
 ·intro b q;have c:=h.rp b q;have o:=(g.rp b q).2.1;exact⟨c.1,c.2.1,c.2.2.1,c.2.2.2.1,λr=>r.elim c.2.2.2.2 (λr=>by have:=r.1;omega)⟩
 ·intro b q;have c:=h.rf b q;have o:=(g.rf b q).2.1;exact⟨c.1,c.2.1,c.2.2.1,λr=>r.elim c.2.2.2 (λr=>by have:=r.1;omega)⟩
 ·rintro b (q|q)
  ·exact h.rs b q
  exact⟨by have:=q.1;omega,q.2,λe=>by have:=q.1;have:=g.cb0.2;omega⟩
 have t:=h.nodup;rw[List.append_nil]at t;rw[ugh];refine List.nodup_append.2 ⟨t,?_,?_⟩
 ·unfold ubh;cases u:blk x with
  |none=>simp[u]
  |some b=>simp[u]
 intro a z b A e;subst e;have c:=ujj (by have:=g.sets;rw[List.append_nil]at this;exact this) z;have o:=(g.rs a c).2.1;have v:=ujj (S:=New w w') (w:=w') (l:=[x]) (λy i=>by simp at i;subst i;exact s) A;have:=v.1;omega
theorem CP.put{w0 d u0 u1 l x o w W P F S N C k}(h:CP w0 d u0 u1 l [x] o w P F S N C)(I:OwnC (λb=>P b\/w.heap.size<=b) W k 4 (l.length+1) (uH l++icv x))(i:Grew (λb=>P b) w W):CP w0 d u0 u1 (l++[x]) [] o (W.setCell ⟨d,2,none⟩ k) (λb=>(P b\/w.heap.size<=b)/\b<W.heap.size/\b≠d) F S k C:=by
 have O:=i.size;have Q:=h.bel.size;have t:=i.block d h.cb0.2 (λq=>(h.rp d q).2.2.1 rfl);have m:(W.setCell ⟨d,2,none⟩ k).heap.size=W.heap.size:=uh _ _ _;have n:∀j v,w.cell? ⟨d,j,none⟩=some v->W.cell? ⟨d,j,none⟩=some v:=λj v L=>(World.cell?_of_block (a:=⟨d,j,none⟩) t).trans L
 have st:Stay (λb=>F b\/S b) w (W.setCell ⟨d,2,none⟩ k):=λb c=>by
  have y:b<w.heap.size/\b≠d:=by
   rcases c with q|q
   ·exact⟨(h.rf b q).2.1,(h.rf b q).2.2.1⟩
   exact⟨(h.rs b q).2.1,(h.rs b q).2.2⟩
  rw[Below.heap_setCell _ _ _ b y.2];exact i.block b y.1 (λq=>by
   rcases c with r|r
   ·exact(h.rp b q).2.2.2.1 r
   exact(h.rp b q).2.2.2.2 r)
 refine⟨?_,?_,?_,?_,?_,?_,?_,?_,?_,?_,?_,?_,?_,?_,?_⟩
 ·rw[uz (by omega)];exact n 0 _ h.g0
 ·rw[uz (by omega)];exact n 1 _ h.g1
 ·exact uA (n 2 _ h.p)
 ·rw[uz (by omega)];exact n 3 _ h.f
 ·intro j;rw[World.frozen?_setCell];exact(World.frozen?_of_block (a:=⟨d,j,none⟩) t).trans (h.soft j)
 ·rw[List.length_append,uc4];have e:uH [x]=icv x:=by simp[uH]
  rw[e];have D:OwnC (λb=>(P b\/w.heap.size<=b)/\b<W.heap.size/\b≠d) W k 4 (l.length+1) (uH l++icv x):=by
   rcases I with q|⟨g,cap,e,z,E,G,H,s⟩
   ·exact .inl q
   refine .inr ⟨g,cap,e,⟨z,?_,?_⟩,E,G,H,s⟩
   ·obtain⟨u,J⟩:=Option.isSome_iff_exists.1 (s 0 (by omega)).1;exact ub J
   intro e;subst e;rcases z with q|q
   ·exact(h.rp _ q).2.2.1 rfl
   have:=h.cb0.2;omega
  exact D.on (λb c=>Below.heap_setCell _ _ _ b c.2.2)
 ·exact h.ownf.on (λb c=>st b (.inl c))
 ·rw[List.append_nil];exact h.sets.on (λb c=>st b (.inr c))
 ·intro b j c;have:=st b (.inr c);exact(World.frozen?_of_block (a:=⟨b,j,none⟩) this).trans (h.softS b j c)
 ·rintro b ⟨q,A,B⟩;rw[m];rcases q with q|q
  ·have:=h.rp b q;exact⟨this.1,A,B,this.2.2.2⟩
  exact⟨by omega,A,B,λr=>by have:=(h.rf b r).2.1;omega,λr=>by have:=(h.rs b r).2.1;omega⟩
 ·intro b c;have:=h.rf b c;exact⟨this.1,by rw[m];omega,this.2.2⟩
 ·intro b c;have:=h.rs b c;exact⟨this.1,by rw[m];omega,this.2.2⟩
 ·exact⟨h.cb0.1,by rw[m];have:=h.cb0.2;omega⟩
 ·rw[List.append_nil];exact h.nodup
 refine⟨i.os.trans h.bel.os,i.tape.trans h.bel.tape,i.output.trans h.bel.output,by rw[m];omega,λb c=>?_⟩;rw[Below.heap_setCell _ _ _ b (λe=>by have:=h.cb0.1;simp at e;omega)];exact(i.block b (by omega) (λq=>by have:=(h.rp b q).1;omega)).trans (h.bel.block b c)
theorem CP.putF{w0 d u0 u1 l k z w W P F S C N m}(h:CP w0 d u0 u1 l [] k w P F S C N)(I:OwnC (λb=>F b\/w.heap.size<=b) W m 1 (k.length+1) (vM k++[.int .i64 z]))(i:Grew (λb=>F b) w W):CS w0 d u0 u1 l [] (k++[z]) (W.setCell ⟨d,3,none⟩ m):=by
 have O:=i.size;have Q:=h.bel.size;have t:=i.block d h.cb0.2 (λq=>(h.rf d q).2.2.1 rfl);have n:(W.setCell ⟨d,3,none⟩ m).heap.size=W.heap.size:=uh _ _ _;have o:∀j v,w.cell? ⟨d,j,none⟩=some v->W.cell? ⟨d,j,none⟩=some v:=λj v L=>(World.cell?_of_block (a:=⟨d,j,none⟩) t).trans L
 have st:Stay (λb=>P b\/S b) w (W.setCell ⟨d,3,none⟩ m):=λb c=>by
  have x:b<w.heap.size/\b≠d:=by
   rcases c with q|q
   ·exact⟨(h.rp b q).2.1,(h.rp b q).2.2.1⟩
   exact⟨(h.rs b q).2.1,(h.rs b q).2.2⟩
  rw[Below.heap_setCell _ _ _ b x.2];exact i.block b x.1 (λq=>by
   rcases c with r|r
   ·exact(h.rp b r).2.2.2.1 q
   exact(h.rf b q).2.2.2 r)
 refine⟨P,λb=>(F b\/w.heap.size<=b)/\b<W.heap.size/\b≠d,S,C,m,?_,?_,?_,?_,?_,?_,?_,?_,?_,?_,?_,?_,?_,h.nodup,?_⟩
 ·rw[uz (by omega)];exact o 0 _ h.g0
 ·rw[uz (by omega)];exact o 1 _ h.g1
 ·rw[uz (by omega)];exact o 2 _ h.p
 ·exact uA (o 3 _ h.f)
 ·intro j;rw[World.frozen?_setCell];exact(World.frozen?_of_block (a:=⟨d,j,none⟩) t).trans (h.soft j)
 ·exact h.own.on (λb c=>st b (.inl c))
 ·rw[List.length_append,ukm];have D:OwnC (λb=>(F b\/w.heap.size<=b)/\b<W.heap.size/\b≠d) W m 1 (k.length+1) (vM k++[.int .i64 z]):=by
   rcases I with q|⟨g,cap,e,y,E,G,H,s⟩
   ·exact .inl q
   refine .inr ⟨g,cap,e,⟨y,?_,?_⟩,E,G,H,s⟩
   ·obtain⟨u,J⟩:=Option.isSome_iff_exists.1 (s 0 (by omega)).1;exact ub J
   intro e;subst e;rcases y with q|q
   ·exact(h.rf _ q).2.2.1 rfl
   have:=h.cb0.2;omega
  exact D.on (λb c=>Below.heap_setCell _ _ _ b c.2.2)
 ·exact h.sets.on (λb c=>st b (.inr c))
 ·intro b j c;have:=st b (.inr c);exact(World.frozen?_of_block (a:=⟨b,j,none⟩) this).trans (h.softS b j c)
 ·intro b c;have:=h.rp b c;refine⟨this.1,by rw[n];omega,this.2.2.1,λr=>?_,this.2.2.2.2⟩;rcases r.1 with q|q
  ·exact this.2.2.2.1 q
  omega
 ·rintro b ⟨q,A,B⟩;rw[n];rcases q with q|q
  ·have:=h.rf b q;exact⟨this.1,A,B,this.2.2.2⟩
  exact⟨by omega,A,B,λr=>by have:=(h.rs b r).2.1;omega⟩
 ·intro b c;have:=h.rs b c;exact⟨this.1,by rw[n];omega,this.2.2⟩
 ·exact⟨h.cb0.1,by rw[n];have:=h.cb0.2;omega⟩
 refine⟨i.os.trans h.bel.os,i.tape.trans h.bel.tape,i.output.trans h.bel.output,by rw[n];omega,λb c=>?_⟩;rw[Below.heap_setCell _ _ _ b (λe=>by have:=h.cb0.1;simp at e;omega)];exact(i.block b (by omega) (λq=>by have:=(h.rf b q).1;omega)).trans (h.bel.block b c)
def toI(x:IC)(t:Int):IC:=⟨⟨x.d.kind,x.d.arg,t,x.d.sl,x.d.set⟩,x.a,x.c⟩
theorem qd:∀(l:List IC) (i:Nat) (x:IC) (t:Int),l[i]?=some x->uH (l.set i (toI x t))=(uH l).set (i*4+2) (.int .i64 t)
 |[],i,x,t,h=>by simp at h
 |y::l,0,x,t,h=>by
  simp at h;subst h;simp[uH,icv,toI]
 |y::l,i+1,x,t,h=>by
  simp at h;rw[List.set_cons_succ,uH,uH,qd l i x t h,show(i+1)*4+2=(icv y).length+(i*4+2) by rw[ubf];omega];rw[List.set_append_right _ _ (by omega)];congr 2;omega
theorem ugi:∀(l:List IC) (i:Nat) (x:IC) (t:Int),l[i]?=some x->ubh (l.set i (toI x t))=ubh l
 |[],i,x,t,h=>by simp at h
 |y::l,0,x,t,h=>by
  simp at h;subst h;have e:blk (toI y t)=blk y:=rfl;rw[List.set_cons_zero];unfold ubh;rw[List.filterMap_cons,List.filterMap_cons,e]
 |y::l,i+1,x,t,h=>by
  simp at h;have:=ugi l i x t h;rw[List.set_cons_succ];unfold ubh at *;rw[List.filterMap_cons,List.filterMap_cons,this]
theorem un3{l:List IC}{i:Nat}{x y:IC}{t:Int}(h:l[i]?=some x)(a:y∈l.set i (toI x t)):y∈l\/y=toI x t:=by
 rcases List.mem_or_eq_of_mem_set a with q|q
 ·exact .inl q
 exact .inr q
theorem CP.aim{w0 d u0 u1 l D w P F S H g n cap i x t}(h:CP w0 d u0 u1 l [] D w P F S (.slice (some ⟨g,0,none⟩) n cap) H)(m:l[i]?=some x) :
  CP w0 d u0 u1 (l.set i (toI x t)) [] D (w.setCell ⟨g,i*4+2,none⟩ (.int .i64 t)) P F S (.slice (some ⟨g,0,none⟩) n cap) H:=by
 obtain⟨E,T⟩:P g/\True:=by
  rcases h.own with⟨q,_⟩|⟨J,I,q,G,_⟩
  ·cases q
  cases q;exact⟨G,trivial⟩
 have v:=h.rp g E;have o:(w.setCell ⟨g,i*4+2,none⟩ (.int .i64 t)).heap.size=w.heap.size:=uh _ _ _;have R:=(List.getElem?_eq_some_iff.1 m).1;have z:∀b,b≠g->(w.setCell ⟨g,i*4+2,none⟩ (.int .i64 t)).heap[b]?=w.heap[b]?:=λb c=>Below.heap_setCell _ _ _ b c
 have A:∀b j,b≠g->(w.setCell ⟨g,i*4+2,none⟩ (.int .i64 t)).cell? ⟨b,j,none⟩=w.cell? ⟨b,j,none⟩:=λb j c=>World.cell?_of_block (a:=⟨b,j,none⟩) (z b c)
 have s:d≠g:=λe=>v.2.2.1 e.symm
 refine⟨by rw[A d 0 s];exact h.g0,by rw[A d 1 s];exact h.g1,by rw[A d 2 s];exact h.p,by rw[A d 3 s];exact h.f,λj=>by rw[World.frozen?_setCell];exact h.soft j,?_,h.ownf.on (λb c=>z b (λe=>by subst e;exact v.2.2.2.1 c)),?_,λb j c=>by rw[World.frozen?_setCell];exact h.softS b j c,λb c=>by rw[o];exact h.rp b c,λb c=>by rw[o];exact h.rf b c,λb c=>by rw[o];exact h.rs b c,by rw[o];exact h.cb0,?_,?_⟩
 ·rcases h.own with⟨q,_⟩|⟨J,I,q,G,L,N,O,r⟩
  ·cases q
  cases q;rw[List.length_set];refine .inr ⟨g,cap,rfl,E,by rw[qd l i x t m,List.length_set];exact L,N,λj k=>?_,λj k=>⟨?_,?_⟩⟩
  ·rw[qd l i x t m,List.length_set]at k;rw[qd l i x t m];by_cases e:j=i*4+2
   ·subst e;obtain⟨u,C⟩:=Option.isSome_iff_exists.1 (r (i*4+2) (by omega)).1;rw[uA C,List.getElem?_set_self k]
   rw[uz (by omega),O j k,List.getElem?_set_ne (by omega)]
  ·by_cases e:j=i*4+2
   ·subst e;obtain⟨u,C⟩:=Option.isSome_iff_exists.1 (r (i*4+2) k).1;rw[uA C];rfl
   rw[uz (by omega)];exact(r j k).1
  rw[World.frozen?_setCell];exact(r j k).2
 ·rw[List.append_nil];have B:=h.sets;rw[List.append_nil]at B;have hs':SetsA S w (l.set i (toI x t)):=λy Q=>by
   rcases un3 m Q with q|q
   ·exact B y q
   subst q;exact B x (List.mem_of_getElem? m)
  exact hs'.on (λb c=>z b (λe=>by subst e;exact v.2.2.2.2 c))
 ·rw[List.append_nil,ugi l i x t m];have:=h.nodup;rw[List.append_nil]at this;exact this
 exact⟨h.bel.os,h.bel.tape,h.bel.output,by rw[o];exact h.bel.size,λb c=>(z b (λe=>by subst e;have:=v.1;omega)).trans (h.bel.block b c)⟩
theorem un2 (w : World) (x : IC) : Src Tryz.prog 4 31 (.slice (some ⟨w.heap.size,0,none⟩) 1 1) 1 (icv x) (w.alloc (.cells #[.int .i64 x.d.kind,.int .i64 x.d.arg,.int .i64 x.d.to,.slice x.a x.d.sl x.c] 79)):=by
  refine Src.ofSlice (P:=Tryz.prog) _ Tryz.underlying31 ⟨w.heap.size,0,none⟩ 1 1 (icv x) rfl (fun j u b=>?_) (fun u b=>?_)
  · have e':(⟨w.heap.size,0,none⟩:Addr).add j=⟨w.heap.size,j,none⟩:=by
      by_cases e:j=0
      · subst e;simp [Addr.add]
      · simp [Addr.add,e]
    rw [e']
    match j,b with
    | 0,b=>exact cN w.heap.size rfl b
    | 1,b=>exact cN w.heap.size rfl b
    | 2,b=>exact cN w.heap.size rfl b
    | 3,b=>exact cN w.heap.size rfl b
    | j+4,b=>simp [icv] at b
  · simp [icv] at b
    rcases b with rfl | rfl | rfl | rfl <;> rfl
def urr (w0 : World) (b : Nat) (u0 u1 : Value) (l : List IC) (c : List Int) (F S : Nat->Prop) (d : Value) (n : Nat) (e : Ending) (w' : World) : Prop :=
  e = .returned (.int .i64 (n:Int))/\∃ a f,CP w0 b u0 u1 l [] c w' a F S f d
theorem uhT w0 b u0 u1 l x g w P F S u j(h : CP w0 b u0 u1 l [x] g w P F S u j)(C : l.length<=200000) :
    Calls Tryz.prog 33 #[.pointer (some ⟨b,0,none⟩),.agg #[.int .i64 x.d.kind,.int .i64 x.d.arg,.int .i64 x.d.to,.slice x.a x.d.sl x.c]] w (urr w0 b u0 u1 (l ++ [x]) g F S j l.length):=by
  obtain ⟨i,pc,rfl⟩:=ul h.own
  have f:Hid (CP w0 b u0 u1 l [x] g (w.alloc (.cells #[.int .i64 x.d.kind,.int .i64 x.d.arg,.int .i64 x.d.to,.slice x.a x.d.sl x.c] 79)) P F S (.slice i l.length pc) j):=h.later (uf w _)
  have z:(w.alloc (.cells #[.int .i64 x.d.kind,.int .i64 x.d.arg,.int .i64 x.d.to,.slice x.a x.d.sl x.c] 79)).cell? ⟨w.heap.size,0,none⟩=some (.int .i64 x.d.kind):=cN w.heap.size rfl rfl
  have L:(w.alloc (.cells #[.int .i64 x.d.kind,.int .i64 x.d.arg,.int .i64 x.d.to,.slice x.a x.d.sl x.c] 79)).cell? ⟨w.heap.size,1,none⟩=some (.int .i64 x.d.arg):=cN w.heap.size rfl rfl
  have N:(w.alloc (.cells #[.int .i64 x.d.kind,.int .i64 x.d.arg,.int .i64 x.d.to,.slice x.a x.d.sl x.c] 79)).cell? ⟨w.heap.size,2,none⟩=some (.int .i64 x.d.to):=cN w.heap.size rfl rfl
  have O:(w.alloc (.cells #[.int .i64 x.d.kind,.int .i64 x.d.arg,.int .i64 x.d.to,.slice x.a x.d.sl x.c] 79)).cell? ⟨w.heap.size,3,none⟩=some (.slice x.a x.d.sl x.c):=cN w.heap.size rfl rfl
  clear h
  go_enter Tryz.func33,Tryz.ntmps33
  go_wp2
  generalize w.alloc (.cells #[.int .i64 x.d.kind,.int .i64 x.d.arg,.int .i64 x.d.to,.slice x.a x.d.sl x.c] 79)=X at *
  have t:=f.p
  have G:=f.soft 2
  have D:=f.cb0.2
  have E:=ub z
  have e:Hid (CP w0 b u0 u1 l [x] g (X.drew.alloc (.cells #[.int .i64 x.d.kind,.int .i64 x.d.arg,.int .i64 x.d.to,.slice x.a x.d.sl x.c] 79)) P F S (.slice i l.length pc) j):=f.out.later ((Below.refl _ X).drew.trans (uf X.drew _))
  have H:(X.alloc (.cells #[.int .i64 x.d.kind,.int .i64 x.d.arg,.int .i64 x.d.to,.slice x.a x.d.sl x.c] 79)).cell? ⟨b,2,none⟩=some (.slice i l.length pc):=uv _ t
  go_region_law (first
    | (refine ulo rfl (.tmp 9) (.tmp 11) 31 31 rfl (v:=.slice i l.length pc) (y:=.slice (some ⟨X.heap.size,0,none⟩) 1 1) (by simp [Act.eval]) (by simp [Act.eval]) uhR e.own (un2 X.drew x) (by omega) (fun _=>Nat.one_pos) ?_
       intro J W4 n m s
       obtain ⟨A,B,rfl⟩:=ul n
       have o:=e.put n m
       have k:=m.block b e.cb0.2 (fun q=>(e.rp b q).2.2.1 rfl)
       have r2:=(World.cell?_of_block (a:=⟨b,2,none⟩) k).trans e.p
       have I:=(World.frozen?_of_block (a:=⟨b,2,none⟩) k).trans (e.soft 2)
       have r:=ua o
       clear n m s o k))
  all_goals go_goals
  all_goals go_wp2
  all_goals go_ret
  all_goals exact ⟨uC (by omega),_,_,r⟩
theorem ucO w0(a : Nat)u0 u1 l b w(i : Nat)x(h : CS w0 a u0 u1 l [] b w)(d : l[i]? = some x)(z : l.length<=200000) :
    Calls Tryz.prog 109 #[.pointer (some ⟨a,0,none⟩),.int .i64 (i:Int)] w fun e w'=>(∃ v,e = .returned v)/\CS w0 a u0 u1 (l.set i (toI x (l.length:Int))) [] b w':=by
  obtain ⟨P,F,S,o,n,h⟩:=h
  have y:=(List.getElem?_eq_some_iff.1 d).1
  obtain ⟨g,cap,rfl,c⟩:∃ g cap,o = .slice (some ⟨g,0,none⟩) l.length cap/\Wr w g (cap*4)/\l.length<=cap:=by
    rcases h.own with ⟨_,q,_⟩ | ⟨g,cap,e,A,r,j,s,k⟩
    · omega
    · exact ⟨g,cap,e,k,j⟩
  have f:Hid (CP w0 a u0 u1 (l.set i (toI x (l.length:Int))) [] b (w.drew.setCell ⟨g,i*4+2,none⟩ (.int .i64 (l.length:Int))) P F S (.slice (some ⟨g,0,none⟩) l.length cap) n):=(h.later (Below.refl _ w).drew).aim d
  have D:=h.p
  have B:=h.cb0.2
  obtain ⟨u,m⟩:=Option.isSome_iff_exists.1 (c.1 (i*4+2) (by omega)).1
  have t:=(c.1 (i*4+2) (by omega)).2
  have C:=ub m
  have hi':(i:Int)<(l.length:Int):=by omega
  go_enter Tryz.func109,Tryz.ntmps109
  go_wp2
  go_region
  all_goals go_wp2
  all_goals go_end0
  all_goals exact ⟨⟨_,rfl⟩,_,_,_,_,_,f⟩
open M (uG yN)
theorem ucE b o n c T w Q(u:∀i,i<n->OpC Q w b (o+i*3) (T i))(F:n<=1048576)(B:n<=c)s(G:s<n)(r:M.dep T s+1=M.dep T n)(t:∀j,s<j->j<=n->M.dep T n<=M.dep T j) :
  Calls Tryz.prog 108 #[.slice (some ⟨b,o,none⟩) n c] w λp w'=>p=.returned (.tuple #[.slice (some ⟨b,o,none⟩) s c,.slice (some ⟨b,o+s*3,none⟩) (n-s) (c-s)])/\Below w.heap.size w w':=by
 have l:=ua u;have g:=ua r;have h:=ua t;go_enter Tryz.func108,Tryz.ntmps108;go_wp2;go_loopw [5,4] (λd i wr=>unM w T s n d i wr) (λd i _=>(intOf i).toNat)
 case atStart=>exact⟨n,by omega,Nat.le_refl _,yL (by omega),rfl,rfl⟩
 case round =>
  obtain⟨k,E,a,rfl,rfl,rfl⟩:=hrel;by_cases v:s<k
  ·have C:=h k v a;have D:=uhA T k n a;obtain⟨q,rfl⟩:∃q,k=q+1:=⟨k-1,by omega⟩;obtain⟨x,⟨J,L,y,H⟩,z⟩:=l q (by omega);have A:=M.ar_bd (T q).kind;have m:Hid (M.dep T (q+1)=M.dep T q+(1-M.ar (T q).kind)):=rfl;have N:(0:Int)<((q+1:Nat):Int):=(by omega);have f:(0:Int)<1-M.dep T n+M.dep T (q+1):=(by omega);have O:((q+1:Nat):Int)-1=(q:Int):=(by omega);have P:(q:Int)<n:=(by omega);go_wp2_with (go_at_call 132;refine(kW _ _).mono ?_;rintro e W ⟨rfl,I⟩;subst W);go_roundw
   case rel=>exact⟨q,by omega,by omega,yL (by have:=m.out;omega),by first|rfl|go_num,by trivial⟩
   case measure=>simp[intOf]<;>omega
  obtain rfl:k=s:=by omega
  have f:1-M.dep T n+M.dep T k=0:=by have:=g;omega
  have R:¬c=k:=by omega
  have S:k<=n:=by omega
  have U:k<=c:=by omega
  have V:¬c=0:=by omega
  have X:(k:Int)<=(n:Int):=by omega
  have Y:=ux k (by omega);rw[f];go_wp2;go_region;all_goals go_wp2
  all_goals refine bodyPost_ret (by simp[results,Tryz.f108,go_sem];rfl) rfl ?_
  all_goals exact⟨rfl,(Below.refl _ _).drew⟩
def urq(w0:World)(a:Nat)(u0 u1:Value)(L:List IC)(b:List Int)(x:EX)(e:Ending)(w':World):Prop :=
 (∃v,e=.returned v)/\∃K:List IC,K.map IC.d=uG (λn=>(n:Int)) x L.length/\CS w0 a u0 u1 (L++K) [] b w'
theorem ujb{K:List IC}{r:Nat->Int}{x:EX}{p:Nat}(h:K.map IC.d=uG r x p):K.length=x.len:=by
 rw[<-List.length_map (f:=IC.d),h,M.emit_len]
theorem ugd args w:(callFunc 107 args).run Tryz.prog w=.ok (.enter 107 args) w:=by
 simp[callFunc,Tryz.func107,Tryz.f107,go_sem]
theorem ufm args w:(callFunc 33 args).run Tryz.prog w=.ok (.enter 33 args) w:=by
 simp[callFunc,Tryz.func33,Tryz.f33,go_sem]
theorem ube w0 b u0 u1 l c w k a t(h:CS w0 b u0 u1 l [] c w)(i:l.length<=200000) :
  Calls Tryz.prog 33 #[.pointer (some ⟨b,0,none⟩),.agg #[.int .i64 k,.int .i64 a,.int .i64 t,.slice none 0 0]] w λe w'=>e=.returned (.int .i64 (l.length:Int))/\Hid (CS w0 b u0 u1 (l++[ic k a t]) [] c w'):=by
 obtain⟨P,F,S,j,d,h⟩:=h.plain k a t;refine(uhT w0 b u0 u1 l (ic k a t) c w P F S j d h i).mono ?_;rintro e w' ⟨rfl,f,m,g⟩;exact⟨rfl,f,F,S,m,d,g⟩
theorem unY w0 b u0 u1 l f w x(h:CS w0 b u0 u1 l [x] f w)(k:l.length<=200000) :
  Calls Tryz.prog 33 #[.pointer (some ⟨b,0,none⟩),.agg #[.int .i64 x.d.kind,.int .i64 x.d.arg,.int .i64 x.d.to,.slice x.a x.d.sl x.c]] w λe w'=>e=.returned (.int .i64 (l.length:Int))/\Hid (CS w0 b u0 u1 (l++[x]) [] f w'):=by
 obtain⟨P,F,S,m,g,h⟩:=h;refine(uhT w0 b u0 u1 l x f w P F S m g h k).mono ?_;rintro e w' ⟨rfl,i,n,j⟩;exact⟨rfl,i,F,S,n,g,j⟩
end Go.Proofs.YtpghlcdkfldlpaaGreat
