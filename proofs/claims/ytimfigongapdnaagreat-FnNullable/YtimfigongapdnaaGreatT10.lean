import Derived.Test.YtimfigongapdnaaGreatT09
import Derived.Deep.RegionHeld3
set_option linter.unusedVariables false
set_option linter.unusedSimpArgs false
set_option maxHeartbeats 40000000
set_option maxRecDepth 100000
namespace Go.Proofs.YtimfigongapdnaaGreat
open Go.RowKit
open M (OpD ug Gr)
def ucJ(k n c:Nat)(b:List OpD):List OpD:=if k=0/\c%3=1/\1<n then uI 4 b (uq 2 1) else b
def uc9(k c:Nat)(b:List OpD):List OpD:=if k=0/\c%4=1 then uI 4 b (unD 7 (uF [0,255])) else b
def uel(k m c:Nat)(b:List OpD):List OpD:=if k=0/\c%5=1/\0<m then uI 4 (uI 5 (uF (vz 97)) (uq 3 0)) b else b
def uZ(t:Tp)(n m a:Nat):Nat->List zNL×Nat
 |0=>([],a)
 |k+1 =>
  let p:=uZ t n m a k
  let b:=yh t k n m 5 false p.2
  (p.1++[⟨[((115+k%8:Nat):Int)],true,uel k m (t.v b.2) (uc9 k (t.v b.2) (ucJ k n (t.v b.2) b.1))⟩],t.n b.2)
structure zGVar(gb:Nat)(w0:World)(G:Nat->Nat)(w:World)(rv lv:Value)(rs ls:List zNC):Prop where
 c0:w.cell? ⟨gb,0,none⟩=some rv
 c1:w.cell? ⟨gb,1,none⟩=some lv
 f0:w.frozen? ⟨gb,0,none⟩=false
 f1:w.frozen? ⟨gb,1,none⟩=false
 gr:zGrP w0 G w rv lv rs ls
 tg:G gb=3
 lt:gb<w.heap.size
 le:w0.heap.size<=w.heap.size
theorem zGVar.tagR{a R w0 w G f c d b}(h:zGVar a w0 G w f c d b)(g:R<w0.heap.size):G R=3:=by
 by_cases e:G R=3
 ·exact e
 have:=h.gr.new R e;omega
theorem zGVar.later{c w0 w w' G j g i f C}(h:zGVar c w0 G w j g i f)(k:Keep C w w')(e:∀b,C b->b<w0.heap.size/\b≠c)t:zGVar c w0 (vH G w t) w' j g i f:=by
 have d:=k.block c h.lt (λq=>(e c q).2 rfl);exact⟨(World.cell?_of_block (a:=⟨c,0,none⟩) d).trans h.c0,(World.cell?_of_block (a:=⟨c,1,none⟩) d).trans h.c1,(World.frozen?_of_block (a:=⟨c,0,none⟩) d).trans h.f0,(World.frozen?_of_block (a:=⟨c,1,none⟩) d).trans h.f1,
  h.gr.later k (λb q=>h.tagR (e b q).1) t h.le,by rw[uR h.lt];exact h.tg,Nat.lt_of_lt_of_le h.lt k.size,Nat.le_trans h.le k.size⟩
theorem uoV(args:Array Value)(w:World):(callFunc 89 args).run Tryz.prog w=.ok (.enter 89 args) w:=by
 simp[callFunc,Tryz.func89,Tryz.f89,go_sem]
theorem jH args w:(callFunc 45 args).run Tryz.prog w=.ok (.enter 45 args) w:=by
 simp[callFunc,Tryz.func45,Tryz.f45,go_sem]
theorem ukK{W g}{x:zNC}{t}(b:W.heap[g]?=some (.cells #[.slice x.na x.d.nm.length x.nc,.slice x.ba x.d.bd.length x.bc] t)):Src Tryz.prog 2 25 (.slice (some ⟨g,0,none⟩) 1 1) 1 (yX x) W:=by
 refine yp Tryz.underlying25 rfl (λj u a=>?_) (λu a=>ume [x] u (by simpa using a));simp only[World.cell?,b];rw[<-a];simp[yX]
theorem uib{W g}{x:zNC}{t}(b:W.heap[g]?=some (.cells #[.slice x.na x.d.nm.length x.nc,.bool x.d.has,.slice x.ba x.d.bd.length x.bc] t)):Src Tryz.prog 3 26 (.slice (some ⟨g,0,none⟩) 1 1) 1 (yw x) W:=by
 refine yp Tryz.underlying26 rfl (λj u a=>?_) (λu a=>umf [x] u (by simpa using a));simp only[World.cell?,b];rw[<-a];simp[yw]
def dgI(t:Tp)(R c:Nat)(a:World)(n m e:Nat)(g:Value)(wr:World):Prop :=
 ∃(k:Nat) (G:Nat->Nat) (f:List zNC) (h:Value),k<=n/\g=.int .i64 (k:Int)/\zGVar c a G wr h (.slice none 0 0) f []/\f.map (·.d)=(uZ t n m e k).1/\RdA t R wr (uZ t n m e k).2/\Keep (λb=>b=R\/b=c) a wr
theorem ujA{c R j w W2 G u r v t p D z s N B}g(o:R<j.heap.size/\R≠c)(h:zGVar c j G w u r t p)(k:Keep (λb=>b=R) w W2)(F:Ints N .u8 W2 s z.length (lf z))(d:BodP B W2 v D)(n:∀b,N b->New w W2 b)(m:∀b,B b->New w W2 b)(A:∀b,N b->¬B b) :
  ∃f,zGVar c j f W2 u r t p/\Ints (zTg f W2 2) .u8 W2 s z.length (lf z)/\BodP (zTg f W2 g) W2 v D:=by
 classical
 let f:Nat->Nat:=λb=>if b<w.heap.size then G b else if N b then 2 else if B b then g else 3
 have l:∀b,b<w.heap.size->f b=G b:=λb d=>if_pos d
 have i:=k.block c h.lt (λq=>o.2 q.symm);have x:=k.size;have E:=h.lt;refine⟨f,⟨(World.cell?_of_block (a:=⟨c,0,none⟩) i).trans h.c0,(World.cell?_of_block (a:=⟨c,1,none⟩) i).trans h.c1,(World.frozen?_of_block (a:=⟨c,0,none⟩) i).trans h.f0,(World.frozen?_of_block (a:=⟨c,1,none⟩) i).trans h.f1,
  h.gr.on x (λb d C=>k.block b d (λq=>C (by rw[q];exact h.tagR o.1))) l (λb d=>?_),by rw[l c E];exact h.tg,by omega,Nat.le_trans h.le x⟩,F.wide (λb q=>⟨(n b q).2,?_⟩),d.wide (λb q=>⟨(m b q).2,?_⟩)⟩
 ·by_cases e:b<w.heap.size
  ·rw[l b e]at d;exact h.gr.new b d
  have:=h.le;omega
 ·have y:=(n b q).1;show(if b<w.heap.size then G b else if N b then 2 else if B b then g else 3)=2;rw[if_neg (by omega),if_pos q]
 have y:=(m b q).1;show(if b<w.heap.size then G b else if N b then 2 else if B b then g else 3)=g;rw[if_neg (by omega),if_neg (λe=>A b e q),if_pos q]
theorem uq5{a b c W2 W4 G g e f d}(h:zGVar a c G W2 g e f d)(i:b≠3)(g4:Grew (zTg G W2 b) W2 W4):W4.heap[a]?=W2.heap[a]? :=
 g4.block a h.lt (λq=>by have:=q.2;rw[h.tg]at this;omega)
theorem uac{b f g W2 W4 G e d k j}(h:zGVar b g G W2 e d k j)(i:f≠3)(g4:Grew (zTg G W2 f) W2 W4):W4.cell? ⟨b,0,none⟩=some e/\W4.cell? ⟨b,1,none⟩=some d/\W4.frozen? ⟨b,0,none⟩=false/\W4.frozen? ⟨b,1,none⟩=false:=by
 have c:=uq5 h i g4;exact⟨(World.cell?_of_block (a:=⟨b,0,none⟩) c).trans h.c0,(World.cell?_of_block (a:=⟨b,1,none⟩) c).trans h.c1,(World.frozen?_of_block (a:=⟨b,0,none⟩) c).trans h.f0,(World.frozen?_of_block (a:=⟨b,1,none⟩) c).trans h.f1⟩
theorem umg{a g W2 W4 G u l v4 c k}{x:zNC}(h:zGVar a g G W2 u l c k)(t:Ints (zTg G W2 2) .u8 W2 x.na x.d.nm.length (lf x.d.nm))(f:BodP (zTg G W2 (4+2*c.length)) W2 (.slice x.ba x.d.bd.length x.bc) x.d.bd)(own:OwnC (λb=>zTg G W2 0 b\/W2.heap.size<=b) W4 v4 2 (c.length+1) (c.flatMap yX++yX x))(g4:Grew (zTg G W2 0) W2 W4):∃m,zGVar a g m (W4.setCell ⟨a,0,none⟩ v4) v4 l (c++[x]) k:=by
 obtain⟨n,o,p,q⟩:=uac h (by omega) g4;have j:=h.gr.addRule h.le t f own g4;have s:=h.lt;have v:=h.le;have w:=g4.size;have i:vH G W2 0 a=3:=by rw[uR s];exact h.tg
 exact⟨vH G W2 0,World.cell?_setCell_same' _ _ _ (by rw[n];rfl),(World.cell?_setCell_other _ _ _ _ (by simp)).trans o,by rw[World.frozen?_setCell];exact p,by rw[World.frozen?_setCell];exact q,
  j.on (by rw[uj];exact Nat.le_refl _) (λb f r=>Below.heap_setCell _ _ _ _ (λe=>r (by rw[show b=a from e];exact i))) (λb f=>rfl) j.new,i,by rw[uj];omega,by rw[uj];omega⟩
theorem umh{a g W2 W4 G l u v4 k c}{x:zNC}(h:zGVar a g G W2 l u k c)(t:Ints (zTg G W2 2) .u8 W2 x.na x.d.nm.length (lf x.d.nm))(f:BodP (zTg G W2 (5+2*c.length)) W2 (.slice x.ba x.d.bd.length x.bc) x.d.bd)(own:OwnC (λb=>zTg G W2 1 b\/W2.heap.size<=b) W4 v4 3 (c.length+1) (c.flatMap yw++yw x))(g4:Grew (zTg G W2 1) W2 W4):∃m,zGVar a g m (W4.setCell ⟨a,1,none⟩ v4) l v4 k (c++[x]):=by
 obtain⟨n,o,p,q⟩:=uac h (by omega) g4;have j:=h.gr.addLabel h.le t f own g4;have s:=h.lt;have v:=h.le;have w:=g4.size;have i:vH G W2 1 a=3:=by rw[uR s];exact h.tg
 exact⟨vH G W2 1,(World.cell?_setCell_other _ _ _ _ (by simp)).trans n,World.cell?_setCell_same' _ _ _ (by rw[o];rfl),by rw[World.frozen?_setCell];exact p,by rw[World.frozen?_setCell];exact q,
  j.on (by rw[uj];exact Nat.le_refl _) (λb f r=>Below.heap_setCell _ _ _ _ (λe=>r (by rw[show b=a from e];exact i))) (λb f=>rfl) j.new,i,by rw[uj];omega,by rw[uj];omega⟩
theorem ujB{t a R i e o c wr W2 W4 G w s v u r}(x:R<a)(y:a<c.heap.size)(h:zGVar a c G W2 w s u r)(m:e≠3)(p:Keep (λb=>b=R\/b=a) c wr)(k:Keep (λb=>b=R) wr W2)(g4:Grew (zTg G W2 e) W2 W4)(l:RdA t R W2 i) :
  RdA t R (W4.setCell ⟨a,o,none⟩ v) i/\Keep (λb=>b=R\/b=a) c (W4.setCell ⟨a,o,none⟩ v):=by
 have g:∀b,zTg G W2 e b->c.heap.size<=b:=λb q=>h.gr.new b (by rw[q.2];exact m)
 have d:Keep (λb=>b=R\/b=a) c W2:=p.trans (k.mono (λb q=>.inl q));refine⟨(l.keep g4.kept (λb q=>by have:=g b q;omega)).keep (Keep.setCell (C:=λb=>b=a) _ _ _ rfl) (λb q=>by omega),?_⟩;have n:Keep (λb=>b=R\/b=a) c W4:=⟨g4.os.trans d.os,g4.tape.trans d.tape,g4.output.trans d.output,Nat.le_trans d.size g4.size,λb f j=>(g4.block b (Nat.lt_of_lt_of_le f d.size) (λq=>by have:=g b q;omega)).trans (d.block b f j)⟩;exact n.trans (Keep.setCell _ _ _ (.inr rfl))
theorem ueG(w:World){t}:zGVar w.heap.size (w.alloc (.cells #[.slice none 0 0,.slice none 0 0] t)) (λ_=>3) (w.alloc (.cells #[.slice none 0 0,.slice none 0 0] t)) (.slice none 0 0) (.slice none 0 0) [] []:=by
 have a:=World.alloc_heap_new w (.cells #[.slice none 0 0,.slice none 0 0] t);refine⟨?_,?_,?_,?_,zGrP.nil _,rfl,by simp,Nat.le_refl _⟩
 ·simp only[World.cell?,a];rfl
 ·simp only[World.cell?,a];rfl
 ·simp only[World.frozen?,a];rfl
 simp only[World.frozen?,a];rfl
theorem jI t n m a k:(uZ t n m a k).1.length=k:=by
 induction k with
 |zero=>rfl
 |succ k b=>rw[uZ];simp[b]
theorem umi{t R c b W n m g k h i p z E D s ba u bc v}(q:k<n)(r:i.map (·.d)=p)(f:uZ t n m g (k+1)=(p++[⟨z,true,E⟩],h))(l:E=D)(j:∃a,zGVar c b a W v (.slice none 0 0) (i++[⟨⟨z,true,D⟩,s,u,ba,bc⟩]) [])(e:RdA t R W h/\Keep (λx=>x=R\/x=c) b W):dgI t R c b n m g (.int .i64 ((k+1:Nat):Int)) W:=by
 obtain⟨a,o⟩:=j;refine⟨k+1,a,_,v,q,rfl,o,?_,?_,e.2⟩
 ·rw[f,List.map_append,r,l];rfl
 rw[f];exact e.1
structure Lb(lb:Nat)(w:World)(v0:Value)(hs:Bool)(v2:Value):Prop where
 c0:w.cell? ⟨lb,0,none⟩=some v0
 c1:w.cell? ⟨lb,1,none⟩=some (.bool hs)
 c2:w.cell? ⟨lb,2,none⟩=some v2
 f1:w.frozen? ⟨lb,1,none⟩=false
 f2:w.frozen? ⟨lb,2,none⟩=false
theorem Lb.keep{lb w w' d e c C}(h:Lb lb w d c e)(k:Keep C w w')(f:¬C lb):Lb lb w' d c e:=by
 have b:=k.block lb (ud h.c0) f;exact⟨(World.cell?_of_block (a:=⟨lb,0,none⟩) b).trans h.c0,(World.cell?_of_block (a:=⟨lb,1,none⟩) b).trans h.c1,(World.cell?_of_block (a:=⟨lb,2,none⟩) b).trans h.c2,(World.frozen?_of_block (a:=⟨lb,1,none⟩) b).trans h.f1,(World.frozen?_of_block (a:=⟨lb,2,none⟩) b).trans h.f2⟩
theorem Lb.set1{lb w a b c}(h:Lb lb w a c b)x:Lb lb (w.setCell ⟨lb,1,none⟩ (.bool x)) a x b :=
 ⟨(World.cell?_setCell_other _ _ _ _ (by simp)).trans h.c0,World.cell?_setCell_same' _ _ _ (by rw[h.c1];rfl),(World.cell?_setCell_other _ _ _ _ (by simp)).trans h.c2,by rw[World.frozen?_setCell];exact h.f1,by rw[World.frozen?_setCell];exact h.f2⟩
theorem Lb.set2{lb w b c a}(h:Lb lb w b a c)x:Lb lb (w.setCell ⟨lb,2,none⟩ x) b a x :=
 ⟨(World.cell?_setCell_other _ _ _ _ (by simp)).trans h.c0,(World.cell?_setCell_other _ _ _ _ (by simp)).trans h.c1,World.cell?_setCell_same' _ _ _ (by rw[h.c2];rfl),by rw[World.frozen?_setCell];exact h.f1,by rw[World.frozen?_setCell];exact h.f2⟩
theorem uda{C w W}(h:Keep C w W){b o v}(d:w.heap.size<=b):Keep C w (W.setCell ⟨b,o,none⟩ v) :=
 ⟨h.os,h.tape,h.output,by rw[uj];exact h.size,λx c a=>(Below.heap_setCell _ _ _ _ (λe=>by have e':x=b:=e;omega)).trans (h.block x c a)⟩
theorem RdOn.set{t R i w W}(h:RdOn t R i w W){b o v}(a:w.heap.size<=b)(c:R<b):RdOn t R i w (W.setCell ⟨b,o,none⟩ v) :=
 ⟨h.1.keep (Keep.setCell (C:=λx=>x=b) _ _ _ rfl) (λx e=>by omega),uda h.2 a⟩
theorem uq6(w:World)(b:Value){t}:Lb w.heap.size (w.alloc (.cells #[b,.bool false,.slice none 0 0] t)) b false (.slice none 0 0):=by
 have a:=World.alloc_heap_new w (.cells #[b,.bool false,.slice none 0 0] t);refine⟨?_,?_,?_,?_,?_⟩
 ·simp only[World.cell?,a];rfl
 ·simp only[World.cell?,a];rfl
 ·simp only[World.cell?,a];rfl
 ·simp only[World.frozen?,a];rfl
 simp only[World.frozen?,a];rfl
theorem ugJ P w:BodP P w (.slice none 0 0) []:=⟨λ_=>0,[],⟨.inl ⟨rfl,rfl,rfl⟩,λi x a=>by simp at a⟩,rfl⟩
def uaD(k:Nat):List Int:=if k=0 then [101,49] else if k=1 then [101,114,114] else [109,105,100,95,50]
def qz(t:Tp)(n i:Nat):(Bool×List OpD)×Nat :=
 if t.v i%8<6 then
  if t.v i%8<2 then ((true,unD 6 (uI 4 (unD 7 (uF (vY t (t.n i)).1)) (uF [0,255]))),(vY t (t.n i)).2)
  else if t.v i%8=2 then ((true,uq 0 0),t.n i)
  else if t.v i%8=3 then ((true,uF [0,255]),t.n i)
  else ((true,(yh t n n 0 3 false (t.n i)).1),(yh t n n 0 3 false (t.n i)).2)
 else ((false,[]),t.n i)
def vb(t:Tp)(n a:Nat):Nat->List zNL×Nat
 |0=>([],a)
 |k+1=>((vb t n a k).1++[⟨uaD k,(qz t n (vb t n a k).2).1.1,(qz t n (vb t n a k).2).1.2⟩],(qz t n (vb t n a k).2).2)
theorem jJ t n a k:(vb t n a k).1.length=k:=by
 induction k with
 |zero=>rfl
 |succ k b=>rw[vb];simp[b]
def kL(a:List OpD)(i:Nat):Bool:=a.any λo=>decide (o.kind=3)&&decide (o.arg=(i:Int))
theorem ugK b i:M.Throws b.length (df b) i↔kL b i=true:=by
 unfold kL;rw[List.any_eq_true];constructor
 ·rintro⟨j,a,c,d⟩;rw[uco (List.getElem?_eq_getElem a)]at c d;exact⟨b[j],List.getElem_mem a,by simp[c,d]⟩
 rintro⟨o,e,h⟩;obtain⟨j,a,rfl⟩:=List.getElem_of_mem e;simp at h;exact⟨j,a,by rw[uco (List.getElem?_eq_getElem a)];exact h.1,by rw[uco (List.getElem?_eq_getElem a)];exact h.2⟩
def ueH(a:List zNL)(i:Nat)(x:zNL):zNL:=if x.has then x else if a.any (λr=>kL r.bd i) then ⟨x.nm,false,[]⟩ else ⟨x.nm,true,uq 0 0⟩
def vD(b:List zNL)(a:List zNL)(k:Nat):List zNL:=a.mapIdx λi x=>if i<k then ueH b i x else x
def vy(t:Tp)(i:Nat):(List zNL×List zNL)×Nat :=
 let n:=1+t.v i%4
 let m:=t.v (t.n i)%4
 let p:=uZ t n m (t.n (t.n i)) n
 let q:=vb t n p.2 m
 ((p.1,vD p.1 q.1 m),q.2)
def DrG(t:Tp)(R:Nat)(g:(List zNL×List zNL)×Nat)(w:World)(e:Ending)(w':World):Prop :=
 ∃f b G c a,e=.returned (.agg #[f,b])/\zGrP w G w' f b c a/\c.map (·.d)=g.1.1/\a.map (·.d)=g.1.2/\RdOn t R g.2 w w'
theorem uq7{t R i lb wr d f g c a l s j k ba bc z D}(p:RdOn t R i wr a)(n:Lb lb c l j s)(o:Ints (New d f) .u8 c k z.length (lf z))(h:Keep (λb=>b=R) c a)(r:BodP (New c a) a (.slice ba D.length bc) D)(u:lb=f.heap.size)(v:g.heap.size=lb+1)(w:g.heap.size<=c.heap.size)(m:wr.heap.size<=lb)(x:R<wr.heap.size)(y:wr.heap.size<=d.heap.size) :
  Lb lb (a.setCell ⟨lb,2,none⟩ (.slice ba D.length bc)) l j (.slice ba D.length bc)/\BodP (New g (a.setCell ⟨lb,2,none⟩ (.slice ba D.length bc))) (a.setCell ⟨lb,2,none⟩ (.slice ba D.length bc)) (.slice ba D.length bc) D/\RdOn t R i wr (a.setCell ⟨lb,2,none⟩ (.slice ba D.length bc))/\Ints (New d f) .u8 (a.setCell ⟨lb,2,none⟩ (.slice ba D.length bc)) k z.length (lf z):=by
 refine⟨(n.keep h (λe=>by omega)).set2 _,(r.on (λb q=>Below.heap_setCell _ _ _ _ (λe=>by have e':b=lb:=e;have:=q.1;omega))).wide (λb q=>⟨by have:=q.1;omega,by rw[uj];exact q.2⟩),p.set m (by omega),?_⟩;exact(o.kept h (λb q e=>by have:=q.1;omega)).kept (Keep.setCell (C:=λb=>b=lb) _ _ _ rfl) (λb q e=>by have:=q.2;omega)
theorem ubm{R w X Y C}(h:Keep (λb=>b=R) w X)(k:Keep C X Y)(d:∀b,C b->b=R\/w.heap.size<=b):Keep (λb=>b=R) w Y :=
 ⟨k.os.trans h.os,k.tape.trans h.tape,k.output.trans h.output,Nat.le_trans h.size k.size,λb a c=>(k.block b (Nat.lt_of_lt_of_le a h.size) (λq=>by
  rcases d b q with e|e
  ·exact c e
  omega)).trans (h.block b a c)⟩
theorem zGrP.base{w0 w1 w G e c d a}(h:zGrP w0 G w e c d a)(g:w1.heap.size<=w0.heap.size):zGrP w1 G w e c d a :=
 ⟨h.rules,h.labs,h.rn,h.ln,h.rb,h.lb,λb f=>Nat.le_trans g (h.new b f)⟩
theorem zGrP.set{w0 w G f c u d a rb o}(h:zGrP w0 G w f c d a)(i:G rb=3):zGrP w0 G (w.setCell ⟨rb,o,none⟩ u) f c d a :=
 h.on (by rw[uj];exact Nat.le_refl _) (λb g j=>Below.heap_setCell _ _ _ _ (λe=>j (by rw[show b=rb from e];exact i))) (λb g=>rfl) h.new
theorem zGrP.tag{w0 w G f c d a}(h:zGrP w0 G w f c d a){b}(g:b<w0.heap.size):G b=3:=by
 by_cases e:G b=3
 ·exact e
 have:=h.new b e;omega
end Go.Proofs.YtimfigongapdnaaGreat
