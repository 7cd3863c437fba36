import Derived.Test.YtpghlcdkfldlpaaGreatT33
set_option linter.unusedVariables false
set_option linter.unusedSimpArgs false
set_option maxHeartbeats 40000000
set_option maxRecDepth 100000
namespace Go.Proofs.YtpghlcdkfldlpaaGreat
open Go.RowKit
open M (OpD ue Gr)
theorem uqq:vV 26 73 3 56:=⟨Tryz.underlying26,⟨_,ulB,rfl⟩,by omega⟩
structure GVo(gb:Nat)(w0:World)(G:Nat->Nat)(w:World)(rv lv:Value)(rs ls:List GC):Prop where
 v:GVar gb w0 G w rv lv rs ls
 old:∀b,b<gb->G b=2
theorem GVo.new{a w0 w G m k l j}(h:GVo a w0 G w m k l j){t}(f:t≠2)(g:t≠3){b}(i:Tg G w t b):a+1<=b:=by
 have c:=i.2;by_cases e:b<a
 ·rw[h.old b e]at c;exact absurd c.symm f
 by_cases d:b=a
 ·subst d;rw[h.v.tg]at c;exact absurd c.symm g
 omega
theorem GVo.later{a w0 w w' G g e f d}(h:GVo a w0 G w g e f d)(k:Keep (λ_=>False) w w')t:GVo a w0 (ja G w t) w' g e f d :=
 ⟨h.v.later k (λb q=>q.elim) t,λb c=>by rw[vS (Nat.lt_trans c h.v.lt)];exact h.old b c⟩
theorem GVo.putL{a g W2 W4 G l u v4 k f x}(h:GVo a g G W2 l u k f)(t:Ints (Tg G W2 2) .u8 W2 x.na x.d.nm.length (lf x.d.nm))(c:BodP (Tg G W2 (5+2*f.length)) W2 (.slice x.ba x.d.bd.length x.bc) x.d.bd)(own:OwnC (λb=>Tg G W2 1 b\/W2.heap.size<=b) W4 v4 3 (f.length+1) (f.flatMap ncL++ncL x))(g4:Grew (Tg G W2 1) W2 W4):∃m,GVo a g m (W4.setCell ⟨a,1,none⟩ v4) l v4 k (f++[x]):=by
 obtain⟨n,o,p,q⟩:=ubr h.v (by omega) g4;have j:=h.v.gr.addLabel h.v.le t c own g4;have s:=h.v.lt;have w:=h.v.le;have y:=g4.size;have i:ja G W2 1 a=3:=by rw[vS s];exact h.v.tg
 refine⟨ja G W2 1,⟨(World.cell?_setCell_other _ _ _ _ (by simp)).trans n,World.cell?_setCell_same' _ _ _ (by rw[o];rfl),by rw[World.frozen?_setCell];exact p,by rw[World.frozen?_setCell];exact q,
  j.on (by rw[uh];exact Nat.le_refl _) (λb c r=>Below.heap_setCell _ _ _ _ (λe=>r (by rw[show b=a from e];exact i))) (λb c=>rfl) j.new,i,by rw[uh];omega,by rw[uh];omega⟩,λb c=>by rw[vS (by omega)];exact h.old b c⟩
theorem GVo.putR{a g W2 W4 G u l v4 f k x}(h:GVo a g G W2 u l f k)(t:Ints (Tg G W2 2) .u8 W2 x.na x.d.nm.length (lf x.d.nm))(c:BodP (Tg G W2 (4+2*f.length)) W2 (.slice x.ba x.d.bd.length x.bc) x.d.bd)(own:OwnC (λb=>Tg G W2 0 b\/W2.heap.size<=b) W4 v4 2 (f.length+1) (f.flatMap ncR++ncR x))(g4:Grew (Tg G W2 0) W2 W4):∃m,GVo a g m (W4.setCell ⟨a,0,none⟩ v4) v4 l (f++[x]) k:=by
 obtain⟨n,o,p,q⟩:=ubr h.v (by omega) g4;have j:=h.v.gr.addRule h.v.le t c own g4;have s:=h.v.lt;have w:=h.v.le;have y:=g4.size;have i:ja G W2 0 a=3:=by rw[vS s];exact h.v.tg
 refine⟨ja G W2 0,⟨World.cell?_setCell_same' _ _ _ (by rw[n];rfl),(World.cell?_setCell_other _ _ _ _ (by simp)).trans o,by rw[World.frozen?_setCell];exact p,by rw[World.frozen?_setCell];exact q,
  j.on (by rw[uh];exact Nat.le_refl _) (λb c r=>Below.heap_setCell _ _ _ _ (λe=>r (by rw[show b=a from e];exact i))) (λb c=>rfl) j.new,i,by rw[uh];omega,by rw[uh];omega⟩,λb c=>by rw[vS (by omega)];exact h.old b c⟩
theorem GVo.mid{d l w W2 G t p v s o D z r N B}g(h:GVo d l G w t p s o)(k:Keep (λ_=>False) w W2)(C:Ints N .u8 W2 r z.length (lf z))(c:BodP B W2 v D)(n:∀b,N b->New w W2 b)(m:∀b,B b->New w W2 b)(y:∀b,N b->¬B b) :
  ∃f,GVo d l f W2 t p s o/\Ints (Tg f W2 2) .u8 W2 r z.length (lf z)/\BodP (Tg f W2 g) W2 v D:=by
 classical
 let f:Nat->Nat:=λb=>if b<w.heap.size then G b else if N b then 2 else if B b then g else 3
 have j:∀b,b<w.heap.size->f b=G b:=λb c=>if_pos c
 have i:=k.block d h.v.lt (λq=>q);have u:=k.size;have A:=h.v.lt;refine⟨f,⟨⟨(World.cell?_of_block (a:=⟨d,0,none⟩) i).trans h.v.c0,(World.cell?_of_block (a:=⟨d,1,none⟩) i).trans h.v.c1,(World.frozen?_of_block (a:=⟨d,0,none⟩) i).trans h.v.f0,(World.frozen?_of_block (a:=⟨d,1,none⟩) i).trans h.v.f1,
  h.v.gr.on u (λb c E=>k.block b c (λq=>q)) j (λb c=>?_),by rw[j d A];exact h.v.tg,by omega,Nat.le_trans h.v.le u⟩,λb c=>by rw[j b (by omega)];exact h.old b c⟩,C.wide (λb q=>⟨(n b q).2,?_⟩),c.wide (λb q=>⟨(m b q).2,?_⟩)⟩
 ·by_cases e:b<w.heap.size
  ·rw[j b e]at c;exact h.v.gr.new b c
  have:=h.v.le;omega
 ·have x:=(n b q).1;show(if b<w.heap.size then G b else if N b then 2 else if B b then g else 3)=2;rw[if_neg (by omega),if_pos q]
 have x:=(m b q).1;show(if b<w.heap.size then G b else if N b then 2 else if B b then g else 3)=g;rw[if_neg (by omega),if_neg (λe=>y b e q),if_pos q]
theorem GVo.start(w:World){t}(d:World)(e:d.heap.size=0):GVo w.heap.size d (λb=>if b=w.heap.size then 3 else 2) (w.alloc (.cells #[.slice none 0 0,.slice none 0 0] t)) (.slice none 0 0) (.slice none 0 0) [] []:=by
 have c:=World.alloc_heap_new w (.cells #[.slice none 0 0,.slice none 0 0] t);refine⟨⟨?_,?_,?_,?_,⟨.inl ⟨rfl,rfl,rfl⟩,.inl ⟨rfl,rfl,rfl⟩,(λx a=>by cases a),(λx a=>by cases a),(λi x a=>by simp at a),(λi x a=>by simp at a),λb c=>by omega⟩,by simp,by simp,by rw[e];exact Nat.zero_le _⟩,λb c=>by simp;omega⟩
 ·simp only[World.cell?,c];rfl
 ·simp only[World.cell?,c];rfl
 ·simp only[World.frozen?,c];rfl
 simp only[World.frozen?,c];rfl
theorem GVo.keep{a o t f d wr W2 W4 G s p v r n}(h:GVo a f G W2 s p r n)(g:t≠2)(i:t≠3)(u:d.heap.size=a+1)(m:Keep (λb=>b=a) d wr)(k:Keep (λ_=>False) wr W2)(g4:Grew (Tg G W2 t) W2 W4):Keep (λb=>b=a) d (W4.setCell ⟨a,o,none⟩ v):=by
 have c:=m.trans (k.mono (λb q=>q.elim));have l:Keep (λb=>b=a) d W4:=⟨g4.os.trans c.os,g4.tape.trans c.tape,g4.output.trans c.output,Nat.le_trans c.size g4.size,λb e j=>(g4.block b (Nat.lt_of_lt_of_le e c.size) (λq=>by have:=h.new g i q;omega)).trans (c.block b e j)⟩;exact l.trans (Keep.setCell _ _ _ rfl)
theorem GVo.setL{b w0 w G o m k g n c i j x y u}(h:GVo b w0 G w o (.slice (some ⟨g,0,none⟩) n c) m k)(t:k[i]?=some x)(q:j<3)(z:ncL y=(ncL x).set j u)(l:Tg G w 1 g)(r:Ints (Tg G w 2) .u8 w y.na y.d.nm.length (lf y.d.nm))(p:BodP (Tg G w (5+2*i)) w (.slice y.ba y.d.bd.length y.bc) y.d.bd) :
  GVo b w0 G (w.setCell ⟨g,i*3+j,none⟩ u) o (.slice (some ⟨g,0,none⟩) n c) m (k.set i y):=by
 have s:b≠g:=λe=>by have:=l.2;rw[<-e,h.v.tg]at this;omega
 have f:(w.setCell ⟨g,i*3+j,none⟩ u).heap[b]?=w.heap[b]?:=Below.heap_setCell _ _ _ _ (λe=>s e);exact⟨⟨(World.cell?_of_block (a:=⟨b,0,none⟩) f).trans h.v.c0,(World.cell?_of_block (a:=⟨b,1,none⟩) f).trans h.v.c1,(World.frozen?_of_block (a:=⟨b,0,none⟩) f).trans h.v.f0,(World.frozen?_of_block (a:=⟨b,1,none⟩) f).trans h.v.f1,
  h.v.gr.putL t q z l r p,h.v.tg,by rw[uh];exact h.v.lt,by rw[uh];exact h.v.le⟩,h.old⟩
theorem TksA.wide{Q d w a l}(h:TksA Q w a l)(t:∀b,Q b->d b):TksA d w a l:=by
 rcases h with h|⟨b,off,e,h⟩
 ·exact .inl h
 refine .inr ⟨b,off,e,λi x q=>?_⟩;obtain⟨j,k,⟨a,c,m,n⟩,⟨f,g,o,p⟩⟩:=h i x q;exact⟨j,k,⟨a,c,m,n.wide t⟩,⟨f,g,o,p.wide t⟩⟩
theorem NmsA.wide{Q c w a d}(h:NmsA Q w a d)(t:∀b,Q b->c b):NmsA c w a d:=by
 rcases h with h|⟨b,off,e,h⟩
 ·exact .inl h
 refine .inr ⟨b,off,e,λi z j=>?_⟩;obtain⟨k,l,f,g⟩:=h i z j;exact⟨k,l,f,g.wide t⟩
theorem uid{b a c q}(d:q.car=none)z:qB b a (c++[q]) z=qB b a c z:=by
 unfold qB;rw[List.find?_append];simp[d]
theorem ugP{b a c q z}(d:q.name.nm≠z):qB b a (c++[q]) z=qB b a c z:=by
 unfold qB;rw[List.find?_append];simp[d]
theorem uie{d c a q}(b:q.car.isSome=true)(f:∀s∈a,xP s q=false):qB d c (a++[q]) q.name.nm=⟨q.name.nm,true,q.body.ops d c⟩:=by
 unfold qB;have e:a.find? (λs=>s.car.isSome&&decide (s.name.nm=q.name.nm))=none:=by
  rw[List.find?_eq_none];intro s g;have:=f s g;unfold xP at this;rw[b]at this;simp at this ⊢;intro h;exact this h
 rw[List.find?_append,e];simp[b]
theorem ujx:∀{l:List (List Int)},Asc l->∀(i j:Nat) (z:List Int),l[i]?=some z->l[j]?=some z->i=j
 |[],_,i,j,z,hi,_=>by simp at hi
 |x::r,h,0,0,z,_,_=>rfl
 |x::r,h,0,j+1,z,hi,hj=>by
  simp at hi hj;subst hi;exact absurd (h.1 _ (List.mem_of_getElem? hj)) (xN _)
 |x::r,h,i+1,0,z,hi,hj=>by
  simp at hi hj;subst hj;exact absurd (h.1 _ (List.mem_of_getElem? hi)) (xN _)
 |x::r,h,i+1,j+1,z,hi,hj=>by
  simp at hi hj;rw[ujx h.2 i j z hi hj]
theorem ugQ{b a c q}(d:q.car=none):xm b a (c++[q])=xm b a c:=List.map_congr_left (λz _=>uid d z)
theorem uif{c a d q k}(f:Asc a)(b:a[k]?=some q.name.nm)(g:q.car.isSome=true)(l:∀s∈d,xP s q=false):xm c a (d++[q])=(xm c a d).set k ⟨q.name.nm,true,q.body.ops c a⟩:=by
 refine List.ext_getElem? (λi=>?_);unfold xm;have j:=(List.getElem?_eq_some_iff.1 b).1;by_cases e:i=k
 ·subst e;rw[List.getElem?_set_self (by rw[List.length_map];exact j),List.getElem?_map,b];show some _=some _;rw[uie g l]
 rw[List.getElem?_set_ne (by omega),List.getElem?_map,List.getElem?_map];cases h:a[i]? with
 |none=>rfl
 |some z =>
  show some _=some _;rw[ugP (λq=>e (ujx f i k _ h (by rw[b,q])))]
theorem ubs{b a c q}:xj b a (c++[q])=xj b a c++(if q.car.isSome then [] else [uiq b a q]):=by
 unfold xj;rw[List.filter_append,List.map_append];cases d:q.car<;>simp[d]
theorem GVo.keepS{c o t g f d wr G r p v q n}(h:GVo c f G wr r p q n)(i:t≠2)(j:t≠3)(s:d.heap.size=c+1)(a:Keep (λb=>b=c) d wr)(l:Tg G wr t g):Keep (λb=>b=c) d (wr.setCell ⟨g,o,none⟩ v) :=
 ⟨a.os,a.tape,a.output,by rw[uh];exact a.size,λb k m=>(Below.heap_setCell _ _ _ _ (λe=>by have e':b=g:=e;have:=h.new i j l;omega)).trans (a.block b k m)⟩
theorem ur3{ops:Array Oper}{o:Oper}{a:Act}{W W1:World}{K:Act->World->Prop}{r:Exit->Act->World->Prop}{E:Prop}{Q:Nat->Prop}(A:o.guard=none)(s x:Operand)(D:o.op=.call { callee:=.builtin .append,args:=#[s,x],argTypes:=#[22,22] })
  {ya:Option Addr} {yc:Nat} {z:List Int} (y:W1=W.alloc (.cells #[] 5)) (G:a.eval s=.slice (some ⟨W.heap.size,0,none⟩) 0 0) (H:a.eval x=.slice ya z.length yc) (w:Ints Q .u8 W ya z.length (lf z)) (I:z.length<=1048576)
  (h:∀f u c,Hid (Ints (New W c) .u8 c f z.length (lf z))->Hid (Keep (λ_=>False) W c)->K (a.put o.dst (.slice f z.length u)) c):if Region.wanted o (yielded ops a.tmps)=true then Oper.wp Tryz.prog o a W1 K r else E:=by
 subst y;refine ubi A s x 22 22 D G H qI (Q:=λb=>b=W.heap.size) (n:=0) (cs:=[]) (m:=z.length) (news:=uV .u8 (lf z) z.length) (.inr ⟨W.heap.size,0,rfl,rfl,rfl,Nat.le_refl _,(λj l=>by simp at l),(λj l=>by omega)⟩) (Ints.srcD Tryz.underlying22 (w.later (uf W _))) (by omega) ?_;intro L c d k J;rw[Nat.zero_add,List.nil_append]at d;obtain⟨t,v,rfl⟩:=ul d;have N:W.heap.size+1<=c.heap.size:=by have:=k.size;simpa using this
 have C:=yq (Keep.alloc _ _ _) k (λb q=>by rw[q];exact Nat.le_refl _);refine h t v c ?_ C;by_cases p:z.length=0
 ·exact .inl p
 have B:=xy d;rcases B with q|⟨g,off,e,F,i⟩
 ·exact absurd q p
 refine .inr ⟨g,off,e,⟨?_,ub (i 0 (by omega))⟩,i⟩;rcases F with q|q
 ·omega
 have q:W.heap.size+1<=g:=by simpa using q
 omega
theorem uds b a c z:(qB b a c z).nm=z:=by
 unfold qB;split<;>rfl
theorem GVo.recover{a w0 w V G A n z cs k x D ba bc}(h:GVo a w0 G w A n z cs)(s:Keep (λ_=>False) w V)(N:BodP (New w V) V (.slice ba D.length bc) D)(l:cs[k]?=some x) :
  ∃g c,n=.slice (some ⟨g,0,none⟩) cs.length c/\a≠g/\V.cell? ⟨g,k*3+1,none⟩=some (.bool x.d.has)/\V.frozen? ⟨g,k*3+1,none⟩=false/\V.cell? ⟨g,k*3+2,none⟩=some (.slice x.ba x.d.bd.length x.bc)/\V.frozen? ⟨g,k*3+2,none⟩=false /\
   (∃C,GVo a w0 C ((V.setCell ⟨g,k*3+1,none⟩ (.bool true)).setCell ⟨g,k*3+2,none⟩ (.slice ba D.length bc)) A n z (cs.set k ⟨⟨x.d.nm,true,D⟩,x.na,x.nc,ba,bc⟩)) /\
   ∀m,m.heap.size=a+1->Keep (λb=>b=a) m w->Keep (λb=>b=a) m ((V.setCell ⟨g,k*3+1,none⟩ (.bool true)).setCell ⟨g,k*3+2,none⟩ (.slice ba D.length bc)):=by
 have f:=h.later s (5+2*k);obtain⟨g,c,e,i,U,W,S,T,E,F⟩:=f.v.gr.labelAt l;subst e;have P:a≠g:=λe=>by have:=i.2;rw[<-e,f.v.tg]at this;omega
 have O:=(List.getElem?_eq_some_iff.1 l).1;have J:BodP (Tg (ja G w (5+2*k)) V (5+2*k)) V (.slice ba D.length bc) D:=N.wide (λb q=>uqp q);have Q:=List.mem_of_getElem? l;have o:=f.setL (j:=1) (y:=⟨⟨x.d.nm,true,x.d.bd⟩,x.na,x.nc,x.ba,x.bc⟩) (u:=.bool true) l (by omega) rfl i (f.v.gr.ln x Q) (f.v.gr.lb k x l);have r:Tg (ja G w (5+2*k)) (V.setCell ⟨g,k*3+1,none⟩ (.bool true)) 1 g:=⟨by rw[uh];exact i.1,i.2⟩;have t:(cs.set k ⟨⟨x.d.nm,true,x.d.bd⟩,x.na,x.nc,x.ba,x.bc⟩)[k]?=some ⟨⟨x.d.nm,true,x.d.bd⟩,x.na,x.nc,x.ba,x.bc⟩:=List.getElem?_set_self O;have L:BodP (Tg (ja G w (5+2*k)) (V.setCell ⟨g,k*3+1,none⟩ (.bool true)) (5+2*k)) (V.setCell ⟨g,k*3+1,none⟩ (.bool true)) (.slice ba D.length bc) D :=
  (J.on (λb q=>Below.heap_setCell _ _ _ _ (λe=>by have e':b=g:=e;have H:=q.2;have I:=i.2;rw[e',I]at H;omega))).wide (λb q=>⟨by rw[uh];exact q.1,q.2⟩)
 have B:=o.setL (j:=2) (y:=⟨⟨x.d.nm,true,D⟩,x.na,x.nc,ba,bc⟩) (u:=.slice ba D.length bc) t (by omega) rfl r (o.v.gr.ln ⟨⟨x.d.nm,true,x.d.bd⟩,x.na,x.nc,x.ba,x.bc⟩ (List.mem_of_getElem? t)) L;rw[List.set_set]at B;refine⟨g,c,rfl,P,S,E,T,F,⟨_,B⟩,λm p R=>?_⟩;exact o.keepS (by omega) (by omega) p (f.keepS (by omega) (by omega) p (R.trans (s.mono (λb q=>q.elim))) i) r
theorem umg{w R Q d k a n S}(f:w.heap[R]?=some (.cells #[.slice none 0 0,.slice none 0 0] 28))(h:Ints Q k w a n S)(t:∀b,Q b->b≠R->d b):Ints d k w a n S:=by
 rcases h with h|⟨b,off,e,i,h⟩
 ·exact .inl h
 by_cases g:n=0
 ·exact .inl g
 refine .inr ⟨b,off,e,t b i (λq=>?_),h⟩;subst q;have c:=h 0 (by omega);simp only[World.cell?,f]at c;match off,c with
 |0,c=>simp at c
 |1,c=>simp at c
 |off+2,c=>simp at c
theorem GrP.untag{w0 w G l j k g R}(h:GrP w0 G w l j k g)(p:w.heap[R]?=some (.cells #[.slice none 0 0,.slice none 0 0] 28))(s:∀t,t≠2->t≠3->¬Tg G w t R):GrP w0 (λb=>if b=R then 3 else G b) w l j k g:=by
 have f:∀t,t≠2->t≠3->∀b,Tg G w t b->Tg (λb=>if b=R then 3 else G b) w t b:=λt m o b c=>⟨c.1,by
  show(if b=R then 3 else G b)=t;rw[if_neg (λe:b=R=>s t m o (by rw[<-e];exact c))];exact c.2⟩
 have nm:∀{a:Option Addr} {n:Nat} {S:Nat->Int},Ints (Tg G w 2) .u8 w a n S->Ints (Tg (λb=>if b=R then 3 else G b) w 2) .u8 w a n S:=λr=>umg p r (λb c e=>⟨c.1,by
  show(if b=R then 3 else G b)=2;rw[if_neg e];exact c.2⟩)
 exact⟨uB h.rules (f 0 (by omega) (by omega)),uB h.labs (f 1 (by omega) (by omega)),λx d=>nm (h.rn x d),λx d=>nm (h.ln x d),λi x d=>(h.rb i x d).wide (f _ (by omega) (by omega)),λi x d=>(h.lb i x d).wide (f _ (by omega) (by omega)),λb c=>h.new b (λe=>c (by show(if b=R then 3 else G b)=3;by_cases q:b=R;rw[if_pos q];rw[if_neg q];exact e))⟩
theorem GVo.answer{i R w0 w W G n m u v g e}(h:GVo i w0 G w n m g e)(k:Keep (λ_=>False) w W)(y:W.heap[R]?=some (.cells #[.slice none 0 0,.slice none 0 0] 28))(B:R<i) :
  ∃a f la lc,n=.slice a g.length f/\m=.slice la e.length lc/\GramX (Of ((W.setCell ⟨R,0,none⟩ u).setCell ⟨R,1,none⟩ v)) ((W.setCell ⟨R,0,none⟩ u).setCell ⟨R,1,none⟩ v) a la (gram (g.map (·.d)) (e.map (·.d))):=by
 have j:=h.later k 3;have A:=j.v.gr.untag y (λt s x q=>by have:=j.new s x q;omega);have z:=(A.set (rb:=R) (o:=0) (u:=u) (by simp)).set (rb:=R) (o:=1) (u:=v) (by simp);obtain⟨a,f,la,lc,p,r,l⟩:=z.gram;exact⟨a,f,la,lc,p,r,l.rules.wide (λb c=>c.2),l.labs.wide (λb c=>c.2)⟩
def SmNL(x:NL):Prop:=x.nm.length<=1048576/\BytL x.nm/\SmD x.bd
theorem SmNL.node{x}(h:SmNL x):uc1 (node x):=⟨h.1,h.2.1.byt,h.2.2.small⟩
theorem uig{c b}(d:c.length<=1048576)(e:b.length<=1048576)(g:∀x∈c,SmNL x)(f:∀x∈b,SmNL x):vP (gram c b):=by
 have at_:∀(l:List NL) (i:Nat),i<l.length->(∀x∈l,SmNL x)->uc1 (node (l.getD i default)):=λl i a h=>by
  rw[List.getD_eq_getElem?_getD,List.getElem?_eq_getElem a];exact(h _ (List.getElem_mem a)).node
 exact⟨d,e,λi a=>at_ c i a g,λi a=>at_ b i a f⟩
theorem umh{a:List Rl}{q:Rl}(b:q∈a):wtT q.body.tk<=wtT (a.flatMap Rl.tk):=by
 obtain⟨c,l2,rfl⟩:=List.append_of_mem b;rw[List.flatMap_append,List.flatMap_cons,yJ,yJ];have e:wtT q.tk=wtT q.car.toList+(q.name.nm.length+1+(q.eq.nm.length+1+(wtT q.body.tk+wtT [q.semi]))):=by
  unfold Rl.tk;rw[yJ,wtT,wtT,yJ]
 omega
theorem ujy{n:Nat}{c:List Rl}{q:Rl}(b a:List (List Int))(f:q∈c)(e:q.ok)(k:wtT (c.flatMap Rl.tk)<=8000)(d:∀x∈q.body.tk,TokF n x)(j:n<=4000):SmD (q.body.ops b a):=by
 have h:=(ums b a q.body).2 e.2.2.2.1;have i:=umh f;exact⟨by omega,umt _ _ _ 1048576 (by omega) (λx g=>((d x g).ok (by omega)).2.2)⟩
theorem ufI{n c f}(i:∀q∈c,q.ok)(j:wtT (c.flatMap Rl.tk)<=8000)(d:∀q∈c,TokF n q.name/\∀x∈q.body.tk,TokF n x)(h:n<=4000)(e:c.length<=8000)(l:f.length<=8000)(g:∀z∈f,BytL z/\z.length<=1000000):vP (yA f c):=by
 refine uig ?_ ?_ (λx b=>?_) (λx b=>?_)
 ·unfold xj;rw[List.length_map];have:=List.length_filter_le (λq:Rl=>!q.car.isSome) c;omega
 ·unfold xm;rw[List.length_map];omega
 ·unfold xj at b;obtain⟨q,e,rfl⟩:=List.mem_map.1 b;have a:=(List.mem_filter.1 e).1;exact⟨by have:=(d q a).1.len;show q.name.nm.length<=_;omega,(d q a).1.byt,ujy _ _ a (i q a) j (d q a).2 h⟩
 unfold xm at b;obtain⟨z,k,rfl⟩:=List.mem_map.1 b;refine⟨by rw[uds];have:=(g z k).2;omega,by rw[uds];exact(g z k).1,?_⟩;unfold qB;split
 ·rename_i q e;have a:=List.mem_of_find?_eq_some e;exact ujy _ _ a (i q a) j (d q a).2 h
 exact⟨Nat.zero_le _,(λx b=>by cases b)⟩
end Go.Proofs.YtpghlcdkfldlpaaGreat
