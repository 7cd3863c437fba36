import Derived.Test.YtimfigongapdnaaGreatT33
set_option linter.unusedVariables false
set_option linter.unusedSimpArgs false
set_option maxHeartbeats 40000000
set_option maxRecDepth 100000
namespace Go.Proofs.YtimfigongapdnaaGreat
open Go.RowKit
open M (OpD ug Gr)
theorem urx:vG 26 70 3 56:=⟨Tryz.underlying26,⟨_,ul7,rfl⟩,by omega⟩
structure GVo(gb:Nat)(w0:World)(G:Nat->Nat)(w:World)(rv lv:Value)(rs ls:List GC):Prop where
 v:GVar gb w0 G w rv lv rs ls
 old:∀b,b<gb->G b=2
theorem GVo.new{a w0 w G m k l j}(h:GVo a w0 G w m k l j){t}(f:t≠2)(g:t≠3){b}(i:Tg G w t b):a+1<=b:=by
 have c:=i.2;by_cases e:b<a
 ·rw[h.old b e]at c;exact absurd c.symm f
 by_cases d:b=a
 ·subst d;rw[h.v.tg]at c;exact absurd c.symm g
 omega
theorem GVo.later{a w0 w w' G g e f d}(h:GVo a w0 G w g e f d)(k:Keep (λ_=>False) w w')t:GVo a w0 (qF G w t) w' g e f d :=
 ⟨h.v.later k (λb q=>q.elim) t,λb c=>by rw[vL (Nat.lt_trans c h.v.lt)];exact h.old b c⟩
theorem GVo.putL{a g W2 W4 G l u v4 k f x}(h:GVo a g G W2 l u k f)(t:Ints (Tg G W2 2) .u8 W2 x.na x.d.nm.length (lf x.d.nm))(c:BodP (Tg G W2 (5+2*f.length)) W2 (.slice x.ba x.d.bd.length x.bc) x.d.bd)(own:OwnC (λb=>Tg G W2 1 b\/W2.heap.size<=b) W4 v4 3 (f.length+1) (f.flatMap ncL++ncL x))(g4:Grew (Tg G W2 1) W2 W4):∃m,GVo a g m (W4.setCell ⟨a,1,none⟩ v4) l v4 k (f++[x]):=by
 obtain⟨n,o,p,q⟩:=ubr h.v (by omega) g4;have j:=h.v.gr.addLabel h.v.le t c own g4;have s:=h.v.lt;have w:=h.v.le;have y:=g4.size;have i:qF G W2 1 a=3:=by rw[vL s];exact h.v.tg
 refine⟨qF G W2 1,⟨(World.cell?_setCell_other _ _ _ _ (by simp)).trans n,World.cell?_setCell_same' _ _ _ (by rw[o];rfl),by rw[World.frozen?_setCell];exact p,by rw[World.frozen?_setCell];exact q,
  j.on (by rw[uj];exact Nat.le_refl _) (λb c r=>Below.heap_setCell _ _ _ _ (λe=>r (by rw[show b=a from e];exact i))) (λb c=>rfl) j.new,i,by rw[uj];omega,by rw[uj];omega⟩,λb c=>by rw[vL (by omega)];exact h.old b c⟩
theorem GVo.putR{a g W2 W4 G u l v4 f k x}(h:GVo a g G W2 u l f k)(t:Ints (Tg G W2 2) .u8 W2 x.na x.d.nm.length (lf x.d.nm))(c:BodP (Tg G W2 (4+2*f.length)) W2 (.slice x.ba x.d.bd.length x.bc) x.d.bd)(own:OwnC (λb=>Tg G W2 0 b\/W2.heap.size<=b) W4 v4 2 (f.length+1) (f.flatMap ncR++ncR x))(g4:Grew (Tg G W2 0) W2 W4):∃m,GVo a g m (W4.setCell ⟨a,0,none⟩ v4) v4 l (f++[x]) k:=by
 obtain⟨n,o,p,q⟩:=ubr h.v (by omega) g4;have j:=h.v.gr.addRule h.v.le t c own g4;have s:=h.v.lt;have w:=h.v.le;have y:=g4.size;have i:qF G W2 0 a=3:=by rw[vL s];exact h.v.tg
 refine⟨qF G W2 0,⟨World.cell?_setCell_same' _ _ _ (by rw[n];rfl),(World.cell?_setCell_other _ _ _ _ (by simp)).trans o,by rw[World.frozen?_setCell];exact p,by rw[World.frozen?_setCell];exact q,
  j.on (by rw[uj];exact Nat.le_refl _) (λb c r=>Below.heap_setCell _ _ _ _ (λe=>r (by rw[show b=a from e];exact i))) (λb c=>rfl) j.new,i,by rw[uj];omega,by rw[uj];omega⟩,λb c=>by rw[vL (by omega)];exact h.old b c⟩
theorem GVo.mid{d l w W2 G t p v s o D z r N B}g(h:GVo d l G w t p s o)(k:Keep (λ_=>False) w W2)(C:Ints N .u8 W2 r z.length (lf z))(c:BodP B W2 v D)(n:∀b,N b->New w W2 b)(m:∀b,B b->New w W2 b)(y:∀b,N b->¬B b) :
  ∃f,GVo d l f W2 t p s o/\Ints (Tg f W2 2) .u8 W2 r z.length (lf z)/\BodP (Tg f W2 g) W2 v D:=by
 classical
 let f:Nat->Nat:=λb=>if b<w.heap.size then G b else if N b then 2 else if B b then g else 3
 have j:∀b,b<w.heap.size->f b=G b:=λb c=>if_pos c
 have i:=k.block d h.v.lt (λq=>q);have u:=k.size;have A:=h.v.lt;refine⟨f,⟨⟨(World.cell?_of_block (a:=⟨d,0,none⟩) i).trans h.v.c0,(World.cell?_of_block (a:=⟨d,1,none⟩) i).trans h.v.c1,(World.frozen?_of_block (a:=⟨d,0,none⟩) i).trans h.v.f0,(World.frozen?_of_block (a:=⟨d,1,none⟩) i).trans h.v.f1,
  h.v.gr.on u (λb c E=>k.block b c (λq=>q)) j (λb c=>?_),by rw[j d A];exact h.v.tg,by omega,Nat.le_trans h.v.le u⟩,λb c=>by rw[j b (by omega)];exact h.old b c⟩,C.wide (λb q=>⟨(n b q).2,?_⟩),c.wide (λb q=>⟨(m b q).2,?_⟩)⟩
 ·by_cases e:b<w.heap.size
  ·rw[j b e]at c;exact h.v.gr.new b c
  have:=h.v.le;omega
 ·have x:=(n b q).1;show(if b<w.heap.size then G b else if N b then 2 else if B b then g else 3)=2;rw[if_neg (by omega),if_pos q]
 have x:=(m b q).1;show(if b<w.heap.size then G b else if N b then 2 else if B b then g else 3)=g;rw[if_neg (by omega),if_neg (λe=>y b e q),if_pos q]
theorem GVo.start(w:World){t}(d:World)(e:d.heap.size=0):GVo w.heap.size d (λb=>if b=w.heap.size then 3 else 2) (w.alloc (.cells #[.slice none 0 0,.slice none 0 0] t)) (.slice none 0 0) (.slice none 0 0) [] []:=by
 have c:=World.alloc_heap_new w (.cells #[.slice none 0 0,.slice none 0 0] t);refine⟨⟨?_,?_,?_,?_,⟨.inl ⟨rfl,rfl,rfl⟩,.inl ⟨rfl,rfl,rfl⟩,(λx a=>by cases a),(λx a=>by cases a),(λi x a=>by simp at a),(λi x a=>by simp at a),λb c=>by omega⟩,by simp,by simp,by rw[e];exact Nat.zero_le _⟩,λb c=>by simp;omega⟩
 ·simp only[World.cell?,c];rfl
 ·simp only[World.cell?,c];rfl
 ·simp only[World.frozen?,c];rfl
 simp only[World.frozen?,c];rfl
theorem GVo.keep{a o t f d wr W2 W4 G s p v r n}(h:GVo a f G W2 s p r n)(g:t≠2)(i:t≠3)(u:d.heap.size=a+1)(m:Keep (λb=>b=a) d wr)(k:Keep (λ_=>False) wr W2)(g4:Grew (Tg G W2 t) W2 W4):Keep (λb=>b=a) d (W4.setCell ⟨a,o,none⟩ v):=by
 have c:=m.trans (k.mono (λb q=>q.elim));have l:Keep (λb=>b=a) d W4:=⟨g4.os.trans c.os,g4.tape.trans c.tape,g4.output.trans c.output,Nat.le_trans c.size g4.size,λb e j=>(g4.block b (Nat.lt_of_lt_of_le e c.size) (λq=>by have:=h.new g i q;omega)).trans (c.block b e j)⟩;exact l.trans (Keep.setCell _ _ _ rfl)
theorem GVo.setL{b w0 w G o m k g n c i j x y u}(h:GVo b w0 G w o (.slice (some ⟨g,0,none⟩) n c) m k)(t:k[i]?=some x)(q:j<3)(z:ncL y=(ncL x).set j u)(l:Tg G w 1 g)(r:Ints (Tg G w 2) .u8 w y.na y.d.nm.length (lf y.d.nm))(p:BodP (Tg G w (5+2*i)) w (.slice y.ba y.d.bd.length y.bc) y.d.bd) :
  GVo b w0 G (w.setCell ⟨g,i*3+j,none⟩ u) o (.slice (some ⟨g,0,none⟩) n c) m (k.set i y):=by
 have s:b≠g:=λe=>by have:=l.2;rw[<-e,h.v.tg]at this;omega
 have f:(w.setCell ⟨g,i*3+j,none⟩ u).heap[b]?=w.heap[b]?:=Below.heap_setCell _ _ _ _ (λe=>s e);exact⟨⟨(World.cell?_of_block (a:=⟨b,0,none⟩) f).trans h.v.c0,(World.cell?_of_block (a:=⟨b,1,none⟩) f).trans h.v.c1,(World.frozen?_of_block (a:=⟨b,0,none⟩) f).trans h.v.f0,(World.frozen?_of_block (a:=⟨b,1,none⟩) f).trans h.v.f1,
  h.v.gr.putL t q z l r p,h.v.tg,by rw[uj];exact h.v.lt,by rw[uj];exact h.v.le⟩,h.old⟩
theorem TksA.wide{Q Q' w a l}(h:TksA Q w a l)(t:∀b,Q b->Q' b):TksA Q' w a l:=by
 rcases h with h|⟨b,off,e,h⟩
 ·exact .inl h
 refine .inr ⟨b,off,e,λi x p=>?_⟩;obtain⟨g,j,⟨a,c,k,m⟩,⟨d,f,n,o⟩⟩:=h i x p;exact⟨g,j,⟨a,c,k,m.wide t⟩,⟨d,f,n,o.wide t⟩⟩
theorem NmsA.wide{Q Q' w a c}(h:NmsA Q w a c)(t:∀b,Q b->Q' b):NmsA Q' w a c:=by
 rcases h with h|⟨b,off,e,h⟩
 ·exact .inl h
 refine .inr ⟨b,off,e,λi z g=>?_⟩;obtain⟨j,k,d,f⟩:=h i z g;exact⟨j,k,d,f.wide t⟩
theorem uis{b a c q}(d:q.car=none)z:qj b a (c++[q]) z=qj b a c z:=by
 unfold qj;rw[List.find?_append];simp[d]
theorem uhb{b a c q z}(d:q.name.nm≠z):qj b a (c++[q]) z=qj b a c z:=by
 unfold qj;rw[List.find?_append];simp[d]
theorem uit{d c a q}(b:q.car.isSome=true)(f:∀s∈a,qi s q=false):qj d c (a++[q]) q.name.nm=⟨q.name.nm,true,q.body.ops d c⟩:=by
 unfold qj;have e:a.find? (λs=>s.car.isSome&&decide (s.name.nm=q.name.nm))=none:=by
  rw[List.find?_eq_none];intro s g;have:=f s g;unfold qi at this;rw[b]at this;simp at this ⊢;intro h;exact this h
 rw[List.find?_append,e];simp[b]
theorem ujM:∀{l:List (List Int)},Asc l->∀(i j:Nat) (z:List Int),l[i]?=some z->l[j]?=some z->i=j
 |[],_,i,j,z,hi,_=>by simp at hi
 |x::r,h,0,0,z,_,_=>rfl
 |x::r,h,0,j+1,z,hi,hj=>by
  simp at hi hj;subst hi;exact absurd (h.1 _ (List.mem_of_getElem? hj)) (xx _)
 |x::r,h,i+1,0,z,hi,hj=>by
  simp at hi hj;subst hj;exact absurd (h.1 _ (List.mem_of_getElem? hi)) (xx _)
 |x::r,h,i+1,j+1,z,hi,hj=>by
  simp at hi hj;rw[ujM h.2 i j z hi hj]
theorem uhc{b a c q}(d:q.car=none):yN b a (c++[q])=yN b a c:=List.map_congr_left (λz _=>uis d z)
theorem uiu{c a d q k}(f:Asc a)(b:a[k]?=some q.name.nm)(g:q.car.isSome=true)(l:∀s∈d,qi s q=false):yN c a (d++[q])=(yN c a d).set k ⟨q.name.nm,true,q.body.ops c a⟩:=by
 refine List.ext_getElem? (λi=>?_);unfold yN;have j:=(List.getElem?_eq_some_iff.1 b).1;by_cases e:i=k
 ·subst e;rw[List.getElem?_set_self (by rw[List.length_map];exact j),List.getElem?_map,b];show some _=some _;rw[uit g l]
 rw[List.getElem?_set_ne (by omega),List.getElem?_map,List.getElem?_map];cases h:a[i]? with
 |none=>rfl
 |some z =>
  show some _=some _;rw[uhb (λq=>e (ujM f i k _ h (by rw[b,q])))]
theorem ubs{b a c q}:yD b a (c++[q])=yD b a c++(if q.car.isSome then [] else [uiE b a q]):=by
 unfold yD;rw[List.filter_append,List.map_append];cases d:q.car<;>simp[d]
theorem GVo.keepS{c o t g f d wr G r p v q n}(h:GVo c f G wr r p q n)(i:t≠2)(j:t≠3)(s:d.heap.size=c+1)(a:Keep (λb=>b=c) d wr)(l:Tg G wr t g):Keep (λb=>b=c) d (wr.setCell ⟨g,o,none⟩ v) :=
 ⟨a.os,a.tape,a.output,by rw[uj];exact a.size,λb k m=>(Below.heap_setCell _ _ _ _ (λe=>by have e':b=g:=e;have:=h.new i j l;omega)).trans (a.block b k m)⟩
theorem utk{ops:Array Oper}{o:Oper}{a:Act}{W W1:World}{K:Act->World->Prop}{r:Exit->Act->World->Prop}{E:Prop}{Q:Nat->Prop}(y:o.guard=none)(s x:Operand)(C:o.op=.call { callee:=.builtin .append,args:=#[s,x],argTypes:=#[22,22] })
  {ya:Option Addr} {yc:Nat} {z:List Int} (w:W1=W.alloc (.cells #[] 5)) (F:a.eval s=.slice (some ⟨W.heap.size,0,none⟩) 0 0) (G:a.eval x=.slice ya z.length yc) (v:Ints Q .u8 W ya z.length (lf z)) (H:z.length<=1048576)
  (h:∀f u c,Hid (Ints (New W c) .u8 c f z.length (lf z))->Hid (Keep (λ_=>False) W c)->K (a.put o.dst (.slice f z.length u)) c):if Region.wanted o (yielded ops a.tmps)=true then Oper.wp Tryz.prog o a W1 K r else E:=by
 subst w;refine ubi y s x 22 22 C F G qw (Q:=λb=>b=W.heap.size) (n:=0) (cs:=[]) (m:=z.length) (news:=uS .u8 (lf z) z.length) (.inr ⟨W.heap.size,0,rfl,rfl,rfl,Nat.le_refl _,(λj l=>by simp at l),(λj l=>by omega)⟩) (Ints.srcD Tryz.underlying22 (v.later (ui W _))) (by omega) ?_;intro J c d k I;rw[Nat.zero_add,List.nil_append]at d;obtain⟨t,c3,rfl⟩:=uk d;have L:W.heap.size+1<=c.heap.size:=by have:=k.size;simpa using this
 have B:=ye (Keep.alloc _ _ _) k (λb q=>by rw[q];exact Nat.le_refl _);refine h t c3 c ?_ B;by_cases p:z.length=0
 ·exact .inl p
 have A:=yZ d;rcases A with q|⟨g,off,e,D,i⟩
 ·exact absurd q p
 refine .inr ⟨g,off,e,⟨?_,ud (i 0 (by omega))⟩,i⟩;rcases D with q|q
 ·omega
 have q:W.heap.size+1<=g:=by simpa using q
 omega
theorem udt b a c z:(qj b a c z).nm=z:=by
 unfold qj;split<;>rfl
theorem GVo.recover{a w0 w V G A n z cs k x D ba bc}(h:GVo a w0 G w A n z cs)(s:Keep (λ_=>False) w V)(N:BodP (New w V) V (.slice ba D.length bc) D)(l:cs[k]?=some x) :
  ∃g c,n=.slice (some ⟨g,0,none⟩) cs.length c/\a≠g/\V.cell? ⟨g,k*3+1,none⟩=some (.bool x.d.has)/\V.frozen? ⟨g,k*3+1,none⟩=false/\V.cell? ⟨g,k*3+2,none⟩=some (.slice x.ba x.d.bd.length x.bc)/\V.frozen? ⟨g,k*3+2,none⟩=false /\
   (∃C,GVo a w0 C ((V.setCell ⟨g,k*3+1,none⟩ (.bool true)).setCell ⟨g,k*3+2,none⟩ (.slice ba D.length bc)) A n z (cs.set k ⟨⟨x.d.nm,true,D⟩,x.na,x.nc,ba,bc⟩)) /\
   ∀m,m.heap.size=a+1->Keep (λb=>b=a) m w->Keep (λb=>b=a) m ((V.setCell ⟨g,k*3+1,none⟩ (.bool true)).setCell ⟨g,k*3+2,none⟩ (.slice ba D.length bc)):=by
 have f:=h.later s (5+2*k);obtain⟨g,c,e,i,U,W,S,T,E,F⟩:=f.v.gr.labelAt l;subst e;have P:a≠g:=λe=>by have:=i.2;rw[<-e,f.v.tg]at this;omega
 have O:=(List.getElem?_eq_some_iff.1 l).1;have J:BodP (Tg (qF G w (5+2*k)) V (5+2*k)) V (.slice ba D.length bc) D:=N.wide (λb q=>urw q);have Q:=List.mem_of_getElem? l;have o:=f.setL (j:=1) (y:=⟨⟨x.d.nm,true,x.d.bd⟩,x.na,x.nc,x.ba,x.bc⟩) (u:=.bool true) l (by omega) rfl i (f.v.gr.ln x Q) (f.v.gr.lb k x l);have r:Tg (qF G w (5+2*k)) (V.setCell ⟨g,k*3+1,none⟩ (.bool true)) 1 g:=⟨by rw[uj];exact i.1,i.2⟩;have t:(cs.set k ⟨⟨x.d.nm,true,x.d.bd⟩,x.na,x.nc,x.ba,x.bc⟩)[k]?=some ⟨⟨x.d.nm,true,x.d.bd⟩,x.na,x.nc,x.ba,x.bc⟩:=List.getElem?_set_self O;have L:BodP (Tg (qF G w (5+2*k)) (V.setCell ⟨g,k*3+1,none⟩ (.bool true)) (5+2*k)) (V.setCell ⟨g,k*3+1,none⟩ (.bool true)) (.slice ba D.length bc) D :=
  (J.on (λb q=>Below.heap_setCell _ _ _ _ (λe=>by have e':b=g:=e;have H:=q.2;have I:=i.2;rw[e',I]at H;omega))).wide (λb q=>⟨by rw[uj];exact q.1,q.2⟩)
 have B:=o.setL (j:=2) (y:=⟨⟨x.d.nm,true,D⟩,x.na,x.nc,ba,bc⟩) (u:=.slice ba D.length bc) t (by omega) rfl r (o.v.gr.ln ⟨⟨x.d.nm,true,x.d.bd⟩,x.na,x.nc,x.ba,x.bc⟩ (List.mem_of_getElem? t)) L;rw[List.set_set]at B;refine⟨g,c,rfl,P,S,E,T,F,⟨_,B⟩,λm p R=>?_⟩;exact o.keepS (by omega) (by omega) p (f.keepS (by omega) (by omega) p (R.trans (s.mono (λb q=>q.elim))) i) r
theorem umP{i:TypeId}{w:World}{R:Nat}{Q Q':Nat->Prop}{k:IntKind}{a:Option Addr}{n:Nat}{S:Nat->Int}(d:w.heap[R]?=some (.cells #[.slice none 0 0,.slice none 0 0] i))(h:Ints Q k w a n S)(t:∀b,Q b->b≠R->Q' b):Ints Q' k w a n S:=by
 rcases h with h|⟨b,off,e,g,h⟩
 ·exact .inl h
 by_cases f:n=0
 ·exact .inl f
 refine .inr ⟨b,off,e,t b g (λq=>?_),h⟩;subst q;have c:=h 0 (by omega);simp only[World.cell?,d]at c;match off,c with
 |0,c=>simp at c
 |1,c=>simp at c
 |off+2,c=>simp at c
theorem GrP.untag{u:TypeId}{w0 w:World}{G:Nat->Nat}{l j:Value}{k g:List GC}{R:Nat}(h:GrP w0 G w l j k g)(p:w.heap[R]?=some (.cells #[.slice none 0 0,.slice none 0 0] u))(s:∀t,t≠2->t≠3->¬Tg G w t R):GrP w0 (λb=>if b=R then 3 else G b) w l j k g:=by
 have f:∀t,t≠2->t≠3->∀b,Tg G w t b->Tg (λb=>if b=R then 3 else G b) w t b:=λt m o b c=>⟨c.1,by
  show(if b=R then 3 else G b)=t;rw[if_neg (λe:b=R=>s t m o (by rw[<-e];exact c))];exact c.2⟩
 have nm:∀{a:Option Addr} {n:Nat} {S:Nat->Int},Ints (Tg G w 2) .u8 w a n S->Ints (Tg (λb=>if b=R then 3 else G b) w 2) .u8 w a n S:=λr=>umP p r (λb c e=>⟨c.1,by
  show(if b=R then 3 else G b)=2;rw[if_neg e];exact c.2⟩)
 exact⟨uC h.rules (f 0 (by omega) (by omega)),uC h.labs (f 1 (by omega) (by omega)),λx d=>nm (h.rn x d),λx d=>nm (h.ln x d),λi x d=>(h.rb i x d).wide (f _ (by omega) (by omega)),λi x d=>(h.lb i x d).wide (f _ (by omega) (by omega)),λb c=>h.new b (λe=>c (by show(if b=R then 3 else G b)=3;by_cases q:b=R;rw[if_pos q];rw[if_neg q];exact e))⟩
theorem GVo.answer{B:TypeId}{i R:Nat}{w0 w W:World}{G:Nat->Nat}{n m u v:Value}{g e:List GC}(h:GVo i w0 G w n m g e)(k:Keep (λ_=>False) w W)(y:W.heap[R]?=some (.cells #[.slice none 0 0,.slice none 0 0] B))(C:R<i) :
  ∃a f la lc,n=.slice a g.length f/\m=.slice la e.length lc/\GramX (Of ((W.setCell ⟨R,0,none⟩ u).setCell ⟨R,1,none⟩ v)) ((W.setCell ⟨R,0,none⟩ u).setCell ⟨R,1,none⟩ v) a la (gram (g.map (·.d)) (e.map (·.d))):=by
 have j:=h.later k 3;have A:=j.v.gr.untag y (λt s x q=>by have:=j.new s x q;omega);have z:=(A.set (rb:=R) (o:=0) (u:=u) (by simp)).set (rb:=R) (o:=1) (u:=v) (by simp);obtain⟨a,f,la,lc,p,r,l⟩:=z.gram;exact⟨a,f,la,lc,p,r,l.rules.wide (λb c=>c.2),l.labs.wide (λb c=>c.2)⟩
def SmNL(x:NL):Prop:=x.nm.length<=1048576/\BytL x.nm/\SmD x.bd
theorem SmNL.node{x}(h:SmNL x):uc2 (node x):=⟨h.1,h.2.1.byt,h.2.2.small⟩
theorem uiv{c b}(d:c.length<=1048576)(e:b.length<=1048576)(g:∀x∈c,SmNL x)(f:∀x∈b,SmNL x):vF (gram c b):=by
 have at_:∀(l:List NL) (i:Nat),i<l.length->(∀x∈l,SmNL x)->uc2 (node (l.getD i default)):=λl i a h=>by
  rw[List.getD_eq_getElem?_getD,List.getElem?_eq_getElem a];exact(h _ (List.getElem_mem a)).node
 exact⟨d,e,λi a=>at_ c i a g,λi a=>at_ b i a f⟩
theorem udu{a:List Rl}{q:Rl}(b:q∈a):wtT q.body.tk<=wtT (a.flatMap Rl.tk):=by
 obtain⟨c,l2,rfl⟩:=List.append_of_mem b;rw[List.flatMap_append,List.flatMap_cons,xN,xN];have e:wtT q.tk=wtT q.car.toList+(q.name.nm.length+1+(q.eq.nm.length+1+(wtT q.body.tk+wtT [q.semi]))):=by
  unfold Rl.tk;rw[xN,wtT,wtT,xN]
 omega
theorem ujN{n:Nat}{c:List Rl}{q:Rl}(b a:List (List Int))(f:q∈c)(e:q.ok)(k:wtT (c.flatMap Rl.tk)<=8000)(d:∀x∈q.body.tk,TokF n x)(j:n<=4000):SmD (q.body.ops b a):=by
 have h:=(um1 b a q.body).2 e.2.2.2.1;have i:=udu f;exact⟨by omega,um2 _ _ _ 1048576 (by omega) (λx g=>((d x g).ok (by omega)).2.2)⟩
theorem ufO{n c f}(i:∀q∈c,q.ok)(j:wtT (c.flatMap Rl.tk)<=8000)(d:∀q∈c,TokF n q.name/\∀x∈q.body.tk,TokF n x)(h:n<=4000)(e:c.length<=8000)(l:f.length<=8000)(g:∀z∈f,BytL z/\z.length<=1000000):vF (jd f c):=by
 refine uiv ?_ ?_ (λx b=>?_) (λx b=>?_)
 ·unfold yD;rw[List.length_map];have:=List.length_filter_le (λq:Rl=>!q.car.isSome) c;omega
 ·unfold yN;rw[List.length_map];omega
 ·unfold yD at b;obtain⟨q,e,rfl⟩:=List.mem_map.1 b;have a:=(List.mem_filter.1 e).1;exact⟨by have:=(d q a).1.len;show q.name.nm.length<=_;omega,(d q a).1.byt,ujN _ _ a (i q a) j (d q a).2 h⟩
 unfold yN at b;obtain⟨z,k,rfl⟩:=List.mem_map.1 b;refine⟨by rw[udt];have:=(g z k).2;omega,by rw[udt];exact(g z k).1,?_⟩;unfold qj;split
 ·rename_i q e;have a:=List.mem_of_find?_eq_some e;exact ujN _ _ a (i q a) j (d q a).2 h
 exact⟨Nat.zero_le _,(λx b=>by cases b)⟩
open Go.RowKit Go.Shelf
attribute [local go_sem] Oper.semAt_some
def uj6(S:Nat->Int)(p:Nat):Array Value:=#[.int .i64 (S (2*p)),.int .i64 (S (2*p+1))]
def uiT(a b n:Nat)(k:Nat):Prop:=k=a\/(k=b/\0<n)
def upP(w W:World)(n a b:Nat)(J:Nat->World->Prop)(i:Value)(wr:World):Prop :=
 ∃p:Nat,2*p<=n+1/\i=.int .i64 (2*(p:Int)+1)/\J p wr/\W.heap.size<=wr.heap.size/\∀k,uiT a b n k->wr.heap[k]?=w.heap[k]?
theorem ucr d a n c S b j w(hn:n<=1048576)(x:w.cell? ⟨d,0,none⟩=some (.slice a n c))(P:0<n->a=some ⟨b,j,none⟩)(N:∀i,i<n->w.cell? ⟨b,j+i,none⟩=some (.int .i64 (S i))) :
  unI Tryz.prog 163 #[.pointer (some ⟨d,0,none⟩)] (0:Nat) (λp=>2*p+1<n) (λp=>p+1) (uj6 S) (uiT d b n) w:=by
 intro l C J y W af B E aa F ab O A;have ac:Fence.wide.depth=none:=rfl;have m:=ua N;have R:=ud x;have ae:Tryz.prog.follows .mixedOrders=true:=by kernel_rfl
 refine callsIn_of_wp Tryz.func163 rfl trivial ?_ rfl;simp only[Tryz.ntmps163,List.size_toArray,List.length_cons,List.length_nil,Nat.reduceAdd,Nat.reduceSub,Array.replicate_succ,Array.replicate_zero,List.push_toArray,List.append_toArray,List.nil_append,List.cons_append]
 gi_wp2
 gi_loopw [3] (λi wr=>upP w W n d b J i wr) (λi _=>n+2-(intOf i).toNat)
 case atStart=>exact⟨0,by omega,rfl,A,Nat.le_refl _,B⟩
 case round =>
  obtain⟨p,hp,rfl,u,U,f⟩:=hrel;have ag:=(World.cell?_of_block (a:=⟨d,0,none⟩) (f d (.inl rfl))).trans x;by_cases r:2*p+1<n
  ·obtain rfl:=P (by omega);have Y:=(World.cell?_of_block (a:=⟨b,j+2*p,none⟩) (f b (.inr ⟨rfl,by omega⟩))).trans (m (2*p) (by omega));have Z:=(World.cell?_of_block (a:=⟨b,j+(2*p+1),none⟩) (f b (.inr ⟨rfl,by omega⟩))).trans (m (2*p+1) r);have hlt':2*(p:Int)+1<(n:Int):=(by omega);have ad:2*(p:Int)<(n:Int):=(by omega);have t1:(2*(p:Int)).toNat=2*p:=(by omega);have t2:(2*(p:Int)+1).toNat=2*p+1:=(by omega);have w1:IntKind.i64.wrap (2*(p:Int)+1-1)=2*(p:Int):=(by rw[show 2*(p:Int)+1-1=2*(p:Int) by omega,IntKind.wrap_i64];omega);have w2:IntKind.i64.wrap (2*(p:Int))=2*(p:Int):=(by rw[IntKind.wrap_i64];omega);have z1:(0:Int)<=2*(p:Int):=(by omega);have z2:(0:Int)<=2*(p:Int)+1:=(by omega);have H:=F p wr wr.drew u (Below.refl _ wr).drew;obtain⟨fn,tmps,X,body,V,L⟩:=O p _ H r;unfold uj6 at V;have hR':=L.mono (R':=λe z=>∃bv:Bool,e=.returned (.bool bv)/\Keep C wr.drew z/\((bv=true/\J (p+1) z)\/(bv=false/\y p z))) (by
    rintro e z (⟨rfl,o,q⟩|⟨rfl,o,q⟩)
    ·exact⟨true,rfl,q,.inl ⟨rfl,o⟩⟩
    exact⟨false,rfl,q,.inr ⟨rfl,o⟩⟩)
   have t:=ua f
   gi_wp2
   gi_region_with_o (refine hR'.mono ?_;rintro e z ⟨bv,rfl,s⟩)
   all_goals
    obtain⟨v,s⟩:=s;rcases s with⟨rfl,G⟩|⟨rfl,I⟩
    ·have D:∀k,uiT d b n k->z.heap[k]?=w.heap[k]?:=λk g=>by
      have Q:k<wr.heap.size:=by
       have e:=t k g;have:w.heap[k]?.isSome:=by
        rcases g with rfl|⟨rfl,T⟩
        ·simp[R]
        have:=ud (m 0 T);simp[this]
       rw[<-e]at this;rcases Nat.lt_or_ge k wr.heap.size with h|h
       ·exact h
       simp[h]at this
      exact(v.block k Q (E k g)).trans (t k g)
     gi_wp2
     go_roundw
     case rel=>exact⟨p+1,by omega,by go_num,G,Nat.le_trans U v.size,D⟩
     case measure=>simp[intOf];omega
    gi_wp2
    refine bodyPost_ret (results_none rfl _ _ _) rfl ?_;exact⟨⟨_,rfl⟩,.inr ⟨p,r,I⟩⟩
  have hlt':¬2*(p:Int)+1<(n:Int):=by omega
  gi_wp2
  go_end0;exact⟨⟨_,rfl⟩,.inl ⟨p,by omega,u⟩⟩
theorem uhz a n c w :
  CallsIn Fence.wide 0 Tryz.prog 159 #[.slice a n c] w λe w'=>e=.returned (.func (.func 163) #[] #[.pointer (some ⟨w.heap.size,0,none⟩)])/\w'=w.alloc (.cells #[.slice a n c] 36):=by
 refine callsIn_of_wp Tryz.func159 rfl trivial ?_ rfl;simp only[Tryz.ntmps159,List.size_toArray,List.length_cons,List.length_nil,Nat.reduceAdd,Nat.reduceSub,Array.replicate_succ,Array.replicate_zero,List.push_toArray,List.append_toArray,List.nil_append,List.cons_append]
 gi_wp2
 go_ret;exact⟨rfl,rfl⟩
structure HoOwn(w:World)(y:Nat)(b:Int)(x:World):Prop where
 byte:x.cell? ⟨y,0,none⟩=some (.int .i64 b)
 res:∃v,x.cell? ⟨y+1,0,none⟩=some v
 resf:x.frozen? ⟨y+1,0,none⟩=false
 bel:Below y w x
 size:y+3<=x.heap.size
theorem HoOwn.below{w y b x z}(h:HoOwn w y b x)(a:Below (y+3) x z):HoOwn w y b z :=
 ⟨(a.cell (p:=⟨y,0,none⟩) (by show y<y+3;omega)).trans h.byte,h.res.imp λ_ c=>(a.cell (p:=⟨y+1,0,none⟩) (by show y+1<y+3;omega)).trans c,
  (a.frozen (p:=⟨y+1,0,none⟩) (by show y+1<y+3;omega)).trans h.resf,h.bel.trans (a.mono (by omega)),Nat.le_trans h.size a.size⟩
theorem HoOwn.answer{w y b x}(h:HoOwn w y b x)r:Below y w (x.setCell ⟨y+1,0,none⟩ (.bool r))/\y+3<=(x.setCell ⟨y+1,0,none⟩ (.bool r)).heap.size/\(x.setCell ⟨y+1,0,none⟩ (.bool r)).cell? ⟨y+1,0,none⟩=some (.bool r) :=
 ⟨h.bel.setCell (p:=⟨y+1,0,none⟩) (by show y<=y+1;omega) _,by simpa[World.setCell] using h.size,by obtain⟨v,a⟩:=h.res;exact World.cell?_setCell_same' _ _ _ (by rw[a];rfl)⟩
def utq(w:World)(n:Nat)(S:Nat->Int)(b:Int)(p:Nat)(x:World):Prop:=HoOwn w w.heap.size b x/\2*p<=n+1/\yJ S b p=false
def utr(w:World)(n:Nat)(S:Nat->Int)(b:Int)(a:Code)(p:Nat)(x:World):Prop :=
 a=.ret/\Below w.heap.size w x/\w.heap.size+3<=x.heap.size/\x.cell? ⟨w.heap.size+1,0,none⟩=some (.bool true)/\2*p+1<n/\yJ S b (p+1)=true
theorem uhA a n c S b y C w(hn:n<=1048576)(ha:0<n->a=some ⟨y,C,none⟩)(W:∀i,i<n->w.cell? ⟨y,C+i,none⟩=some (.int .i64 (S i))) :
  CallsIn Fence.wide 0 Tryz.prog 146 #[.slice a n c,.int .i64 b] w (xI (yr n S b) w):=by
 have aj:Fence.wide.depth=none:=rfl;have HS:=ua W;have Z:0<n->y<w.heap.size:=λh=>ud (W 0 h)
 refine callsIn_of_wp_marks Tryz.func146 rfl trivial ?_ rfl;simp only[Tryz.ntmps146,List.size_toArray,List.length_cons,List.length_nil,Nat.reduceAdd,Nat.reduceSub,Array.replicate_succ,Array.replicate_zero,List.push_toArray,List.append_toArray,List.nil_append,List.cons_append]
 gi_wp2_with (refine⟨trivial,?_⟩;gi_at_call 159;refine(uhz _ _ _ _).mono ?_;rintro e w' ⟨rfl,rfl⟩)
 obtain⟨o,g⟩:=nm (((w.alloc (Obj.cells #[Value.int IntKind.i64 b] 3)).alloc (Obj.cells #[Value.bool false] 4)).alloc (Obj.cells #[Value.slice a n c] 36));have aq:o.heap.size=w.heap.size+3:=by rw[<-g];simp
 have V:Below w.heap.size w o:=by rw[<-g];exact(((Below.refl _ w).alloc (Nat.le_refl _) _).alloc (by simp) _).alloc (by simp;omega) _
 have X:=xy w (.int .i64 b) 3;have R:=xy (w.alloc (Obj.cells #[Value.int IntKind.i64 b] 3)) (.bool false) 4;have aa:=uan (w.alloc (Obj.cells #[Value.int IntKind.i64 b] 3)) (.bool false) 4;have T:=xy ((w.alloc (Obj.cells #[Value.int IntKind.i64 b] 3)).alloc (Obj.cells #[Value.bool false] 4)) (.slice a n c) 36;simp only[World.size_alloc]at X R aa T;rw[g]at T;have ai:HoOwn w w.heap.size b o:=⟨by rw[<-g];exact uA _ (uA _ X),⟨_,by rw[<-g];exact uA _ R⟩,by rw[<-g];exact qO _ R aa,V,by omega⟩;have sW:∀i,i<n->o.cell? ⟨y,C+i,none⟩=some (.int .i64 (S i)):=λi hi=>ue (HS i hi) V
 rw[g];refine uao (gf:=163) (lb:=#[.pointer (some ⟨w.heap.size+1+1,0,none⟩)]) rfl (enters_of Tryz.func163 (by kernel_rfl) rfl)
  (ucr (w.heap.size+1+1) a n c S y C o hn T ha sW) (λ_=>rfl) ?hD (λk=>k=w.heap.size+1) ?hCD ?hCw
  (utq w n S b) (utr w n S b) ?hI ?hIx ?h0 ?round ?done ?stop
 case hD =>
  rintro k (rfl|⟨rfl,P⟩)
  ·omega
  have:=Z P;omega
 case hCD =>
  rintro k (rfl|⟨rfl,P⟩) N
  ·omega
  have:=Z P;omega
 case hCw =>
  rintro k hk N;omega
 case hI =>
  rintro s A E ⟨f,Q⟩ r;exact⟨f.below (r.mono (by omega)),Q⟩
 case hIx =>
  rintro cd s A E ⟨rfl,L,hs,N,Q⟩ r;exact⟨rfl,L.trans (r.mono (by omega)),Nat.le_trans hs r.size,(r.cell (p:=⟨w.heap.size+1,0,none⟩) (by show w.heap.size+1<_;omega)).trans N,Q⟩
 case h0=>exact⟨ai,by omega,rfl⟩
 case round =>
  intro l' p x am an ab ad;unfold uj6
  gi_wp2
  refine⟨Keep.refl _ _,ab,?_⟩;rintro x2 al ao ⟨f,Y,j⟩;obtain⟨rv,k1⟩:=f.res;have k2:=f.resf;have k3:=f.byte;have U:=ua j;have D:=ua f;obtain⟨u,hu⟩:=nm (S (2*p));obtain⟨v,hv⟩:=nm (S (2*p+1));have F:=ua hu;have G:=ua hv;rw[hu,hv];have ae:=ad;by_cases q1:u<=b
  ·by_cases q2:b<=v
   ·have l:Hid (yJ S b (p+1)=true):=by show _=_;rw[yJ,F.out,G.out];simp[q1,q2]
    gi_wp2
    obtain⟨H,I,J⟩:=D.answer true;exact⟨Keep.setCell _ _ _ rfl,rfl,H,I,J,ae,l⟩
   have l:Hid (yJ S b (p+1)=false):=by show _=_;rw[yJ,F.out,G.out,U.out];simp[q2]
   gi_wp2
   exact⟨Keep.refl _ _,D,by omega,l⟩
  have l:Hid (yJ S b (p+1)=false):=by show _=_;rw[yJ,F.out,G.out,U.out];simp[q1]
  gi_wp2
  exact⟨Keep.refl _ _,D,by omega,l⟩
 case done =>
  rintro d p x hd ag ⟨f,Y,j⟩ z;obtain⟨rv,k1⟩:=f.res;have k2:=f.resf;have hnm':=ag
  gi_wp2
  have af:d≠w.heap.size+1:=by omega
  have hK':(x.setCell ⟨w.heap.size+1,0,none⟩ (.bool false)).heap[d]?=some (.deferred (some [])):=(Below.heap_setCell x ⟨w.heap.size+1,0,none⟩ _ d af).trans z;refine⟨by simp,.inl ⟨_,_,rfl,run_takeDeferred hK',?_⟩⟩;obtain⟨H,I,J⟩:=f.answer false;have t:=xE (B:=w.heap.size+3) (x.setCell ⟨w.heap.size+1,0,none⟩ (.bool false)) (.deferred none) (d:=d) (by omega) I;have O:=(t.cell (p:=⟨w.heap.size+1,0,none⟩) (by show w.heap.size+1<_;omega)).trans J;have hF:yr n S b=false:=by
   unfold yr;cases q:yJ S b (n / 2) with
   |false=>rfl
   |true=>rw[uat S b (by omega) q]at j;cases j
  refine⟨.bool false,?_,by rw[hF],H.trans (t.mono (by omega))⟩;simp[results,Tryz.f146,go_sem,O]
 case stop =>
  rintro d cd p x hd ap ⟨rfl,L,ah,ac,Y,j⟩ z
  gi_wp2
  refine⟨by simp,.inl ⟨_,_,rfl,run_takeDeferred z,?_⟩⟩;have ak:=(Array.getElem?_eq_some_iff.1 z).1;have t:=xE (B:=w.heap.size+3) x (.deferred none) (d:=d) (by omega) ah;have O:=(t.cell (p:=⟨w.heap.size+1,0,none⟩) (by show w.heap.size+1<_;omega)).trans ac;have hT:yr n S b=true:=uat S b (m:=p+1) (by omega) j;refine⟨.bool true,?_,by rw[hT],L.trans (t.mono (by omega))⟩;simp[results,Tryz.f146,go_sem,O]
theorem ull Q a n c S b w(e:n<=1048576)(d:Ints Q .i64 w a n S) :
  Calls Tryz.prog 146 #[.slice a n c,.int .i64 b] w (xI (yr n S b) w):=by
 rcases d with rfl|⟨f,g,rfl,j,d⟩
 ·exact callsIn_wide.1 (uhA a 0 c S b 0 0 w e (λh=>absurd h (by omega)) (λi h=>absurd h (by omega)))
 exact callsIn_wide.1 (uhA _ n c S b f g w e (λ_=>rfl) d)
end Go.Proofs.YtimfigongapdnaaGreat
