import Derived.Test.YtimfigongapdnaaGreatT32
set_option linter.unusedVariables false
set_option linter.unusedSimpArgs false
set_option maxHeartbeats 40000000
set_option maxRecDepth 100000
namespace Go.Proofs.YtimfigongapdnaaGreat
open Go.RowKit
open M (OpD ug Gr)
structure NL where
 nm:List Int
 has:Bool
 bd:List OpD
instance:Inhabited NL:=⟨⟨[],false,[]⟩⟩
structure GC where
 d:NL
 na:Option Addr
 nc:Nat
 ba:Option Addr
 bc:Nat
def ncR(x:GC):List Value:=[.slice x.na x.d.nm.length x.nc,.slice x.ba x.d.bd.length x.bc]
def ncL(x:GC):List Value:=[.slice x.na x.d.nm.length x.nc,.bool x.d.has,.slice x.ba x.d.bd.length x.bc]
theorem ufN x:(ncR x).length=2:=rfl
theorem uag x:(ncL x).length=3:=rfl
theorem upf(l:List GC):∀u∈l.flatMap ncR,u.oneCell'=true:=λu a=>by
 obtain⟨x,_,h⟩:=List.mem_flatMap.1 a;simp[ncR]at h;rcases h with rfl|rfl<;>rfl
theorem upg(l:List GC):∀u∈l.flatMap ncL,u.oneCell'=true:=λu a=>by
 obtain⟨x,_,h⟩:=List.mem_flatMap.1 a;simp[ncL]at h;rcases h with rfl|rfl|rfl<;>rfl
def Tg(G:Nat->Nat)(w:World)(t:Nat):Nat->Prop:=λb=>b<w.heap.size/\G b=t
structure GrP(w0:World)(G:Nat->Nat)(w:World)(rv lv:Value)(rs ls:List GC):Prop where
 rules:OwnC (Tg G w 0) w rv 2 rs.length (rs.flatMap ncR)
 labs:OwnC (Tg G w 1) w lv 3 ls.length (ls.flatMap ncL)
 rn:∀x∈rs,Ints (Tg G w 2) .u8 w x.na x.d.nm.length (lf x.d.nm)
 ln:∀x∈ls,Ints (Tg G w 2) .u8 w x.na x.d.nm.length (lf x.d.nm)
 rb:∀i x,rs[i]?=some x->BodP (Tg G w (4+2*i)) w (.slice x.ba x.d.bd.length x.bc) x.d.bd
 lb:∀i x,ls[i]?=some x->BodP (Tg G w (5+2*i)) w (.slice x.ba x.d.bd.length x.bc) x.d.bd
 new:∀b,G b≠3->w0.heap.size<=b
theorem uah{G w w'}(c:∀b,b<w.heap.size->G b≠3->w'.heap[b]?=w.heap[b]?){t}(d:t≠3):Stay (Tg G w t) w w':=λb a=>c b a.1 (by rw[a.2];exact d)
theorem xw{G c w w'}(e:w.heap.size<=w'.heap.size)(d:∀b,b<w.heap.size->c b=G b)t:∀b,Tg G w t b->Tg c w' t b:=λb a=>⟨by have:=a.1;omega,(d b a.1).trans a.2⟩
theorem GrP.on{w0 w w' G f l j k g}(h:GrP w0 G w l j k g)(e:w.heap.size<=w'.heap.size)(d:∀b,b<w.heap.size->G b≠3->w'.heap[b]?=w.heap[b]?)(c:∀b,b<w.heap.size->f b=G b)(m:∀b,f b≠3->w0.heap.size<=b):GrP w0 f w' l j k g :=
 ⟨uC (h.rules.on (uah d (by omega))) (xw e c 0),uC (h.labs.on (uah d (by omega))) (xw e c 1),
  λx a=>((h.rn x a).on (uah d (by omega))).wide (xw e c 2),λx a=>((h.ln x a).on (uah d (by omega))).wide (xw e c 2),
  λi x a=>((h.rb i x a).on (uah d (by omega))).wide (xw e c _),λi x a=>((h.lb i x a).on (uah d (by omega))).wide (xw e c _),m⟩
def qF(G:Nat->Nat)(w:World)(t:Nat):Nat->Nat:=λb=>if b<w.heap.size then G b else t
theorem vL{G w t b}(h:b<w.heap.size):qF G w t b=G b:=if_pos h
theorem uds{G w t b}(h:w.heap.size<=b):qF G w t b=t:=if_neg (by omega)
theorem GrP.later{w0 w w' G g d f c C}(h:GrP w0 G w g d f c)(k:Keep C w w')(i:∀b,C b->G b=3)t(l:w0.heap.size<=w.heap.size):GrP w0 (qF G w t) w' g d f c :=
 h.on k.size (λb a j=>k.block b a (λq=>j (i b q))) (λb a=>vL a) (λb a=>by
  by_cases e:b<w.heap.size
  ·rw[vL e]at a;exact h.new b a
  omega)
theorem urw{G w w' t b}(h:New w w' b):Tg (qF G w t) w' t b:=⟨h.2,uds h.1⟩
theorem GrP.addRule{w0 W2 W4 G C v4 o c n x}(h:GrP w0 G W2 C o c n)(E:w0.heap.size<=W2.heap.size)(z:Ints (Tg G W2 2) .u8 W2 x.na x.d.nm.length (lf x.d.nm))(f:BodP (Tg G W2 (4+2*c.length)) W2 (.slice x.ba x.d.bd.length x.bc) x.d.bd)(own:OwnC (λb=>Tg G W2 0 b\/W2.heap.size<=b) W4 v4 2 (c.length+1) (c.flatMap ncR++ncR x))(g4:Grew (Tg G W2 0) W2 W4):GrP w0 (qF G W2 0) W4 v4 o (c++[x]) n:=by
 have D:=g4.size;have st:∀{t:Nat},t≠0->Stay (Tg G W2 t) W2 W4:=λ{t} B b f=>g4.block b f.1 (λq=>B (f.2.symm.trans q.2))
 have j:∀t b,Tg G W2 t b->Tg (qF G W2 0) W4 t b:=xw D (λb f=>vL f);refine⟨?_,uC (h.labs.on (st (by omega))) (j 1),λy a=>?_,λy a=>((h.ln y a).on (st (by omega))).wide (j 2),λi y a=>?_,λi y a=>((h.lb i y a).on (st (by omega))).wide (j _),λb f=>?_⟩
 ·have p:(c++[x]).length=c.length+1:=by simp
  have r:(c++[x]).flatMap ncR=c.flatMap ncR++ncR x:=by simp
  rw[p,r];rcases own with⟨_,q,_⟩|⟨g,cap,e,A,k,s,l,u⟩
  ·omega
  refine .inr ⟨g,cap,e,?_,k,s,l,u⟩;have v:g<W4.heap.size:=by
   have m:0<(c.flatMap ncR++ncR x).length:=(by rw[k];omega);have h:=l 0 m;rw[List.getElem?_eq_getElem m]at h;exact ud h
  rcases A with q|q
  ·exact j 0 g q
  exact⟨v,uds q⟩
 ·rcases List.mem_append.1 a with q|q
  ·exact((h.rn y q).on (st (by omega))).wide (j 2)
  obtain rfl:=List.mem_singleton.1 q;exact(z.on (st (by omega))).wide (j 2)
 ·by_cases e:i<c.length
  ·rw[List.getElem?_append_left e]at a;exact((h.rb i y a).on (st (by omega))).wide (j _)
  rw[List.getElem?_append_right (by omega)]at a;have w:i=c.length:=by
   have:=(List.getElem?_eq_some_iff.1 a).1;simp at this;omega
  subst w;simp at a;subst a;exact(f.on (st (by omega))).wide (j _)
 by_cases e:b<W2.heap.size
 ·rw[vL e]at f;exact h.new b f
 omega
theorem GrP.addLabel{w0 W2 W4 G o v4 C n c x}(h:GrP w0 G W2 o C n c)(E:w0.heap.size<=W2.heap.size)(z:Ints (Tg G W2 2) .u8 W2 x.na x.d.nm.length (lf x.d.nm))(f:BodP (Tg G W2 (5+2*c.length)) W2 (.slice x.ba x.d.bd.length x.bc) x.d.bd)(own:OwnC (λb=>Tg G W2 1 b\/W2.heap.size<=b) W4 v4 3 (c.length+1) (c.flatMap ncL++ncL x))(g4:Grew (Tg G W2 1) W2 W4):GrP w0 (qF G W2 1) W4 o v4 n (c++[x]):=by
 have D:=g4.size;have st:∀{t:Nat},t≠1->Stay (Tg G W2 t) W2 W4:=λ{t} B b f=>g4.block b f.1 (λq=>B (f.2.symm.trans q.2))
 have j:∀t b,Tg G W2 t b->Tg (qF G W2 1) W4 t b:=xw D (λb f=>vL f);refine⟨uC (h.rules.on (st (by omega))) (j 0),?_,λy a=>((h.rn y a).on (st (by omega))).wide (j 2),λy a=>?_,λi y a=>((h.rb i y a).on (st (by omega))).wide (j _),λi y a=>?_,λb f=>?_⟩
 ·have p:(c++[x]).length=c.length+1:=by simp
  have r:(c++[x]).flatMap ncL=c.flatMap ncL++ncL x:=by simp
  rw[p,r];rcases own with⟨_,q,_⟩|⟨g,cap,e,A,k,s,l,u⟩
  ·omega
  refine .inr ⟨g,cap,e,?_,k,s,l,u⟩;have v:g<W4.heap.size:=by
   have m:0<(c.flatMap ncL++ncL x).length:=(by rw[k];omega);have h:=l 0 m;rw[List.getElem?_eq_getElem m]at h;exact ud h
  rcases A with q|q
  ·exact j 1 g q
  exact⟨v,uds q⟩
 ·rcases List.mem_append.1 a with q|q
  ·exact((h.ln y q).on (st (by omega))).wide (j 2)
  obtain rfl:=List.mem_singleton.1 q;exact(z.on (st (by omega))).wide (j 2)
 ·by_cases e:i<c.length
  ·rw[List.getElem?_append_left e]at a;exact((h.lb i y a).on (st (by omega))).wide (j _)
  rw[List.getElem?_append_right (by omega)]at a;have w:i=c.length:=by
   have:=(List.getElem?_eq_some_iff.1 a).1;simp at this;omega
  subst w;simp at a;subst a;exact(f.on (st (by omega))).wide (j _)
 by_cases e:b<W2.heap.size
 ·rw[vL e]at f;exact h.new b f
 omega
theorem getElem?_set'{α:Type}{l:List α}{i j:Nat}{x y z:α}(b:l[i]?=some x)(h:(l.set i y)[j]?=some z):(j=i/\z=y)\/(j≠i/\l[j]?=some z):=by
 have a:=(List.getElem?_eq_some_iff.1 b).1;by_cases e:j=i
 ·subst e;rw[List.getElem?_set_self a]at h;exact .inl ⟨rfl,(Option.some.inj h).symm⟩
 rw[List.getElem?_set_ne (by omega)]at h;exact .inr ⟨e,h⟩
theorem umN{α:Type}{l:List α}{i:Nat}{y z:α}(h:z∈l.set i y):z=y\/z∈l:=(List.mem_or_eq_of_mem_set h).symm
theorem GrP.putL{w0 w G s r l g n c i j x y u}(h:GrP w0 G w s (.slice (some ⟨g,0,none⟩) n c) r l)(o:l[i]?=some x)(A:j<3)(E:ncL y=(ncL x).set j u)(v:Tg G w 1 g)(B:Ints (Tg G w 2) .u8 w y.na y.d.nm.length (lf y.d.nm))(m:BodP (Tg G w (5+2*i)) w (.slice y.ba y.d.bd.length y.bc) y.d.bd) :
  GrP w0 G (w.setCell ⟨g,i*3+j,none⟩ u) s (.slice (some ⟨g,0,none⟩) n c) r (l.set i y):=by
 have H:=(List.getElem?_eq_some_iff.1 o).1;have st:∀{t:Nat},t≠1->Stay (Tg G w t) w (w.setCell ⟨g,i*3+j,none⟩ u):=λ{t} D b m=>Below.heap_setCell _ _ _ _ (λe=>D (by rw[<-m.2,e];exact v.2))
 have a:∀t b,Tg G w t b->Tg G (w.setCell ⟨g,i*3+j,none⟩ u) t b:=xw (by rw[uj];exact Nat.le_refl _) (λb m=>rfl);have C:n=l.length:=by
  rcases h.labs with⟨e,_⟩|⟨F,cap,e,_⟩
  ·cases e
  injection e
 refine⟨uC (h.rules.on (st (by omega))) (a 0),?_,λz f=>((h.rn z f).on (st (by omega))).wide (a 2),λz f=>?_,λk z f=>((h.rb k z f).on (st (by omega))).wide (a _),λk z f=>?_,h.new⟩
 ·have p:=h.labs;rw[C]at p ⊢;have:=uC (OwnC.put p (j:=i*3+j) (by rw[yi ncL 3 uag];omega) u) (a 1);rw[ubo ncL 3 uag l i j x y u o A E]at this;rw[List.length_set];exact this
 ·rcases umN f with rfl|q
  ·exact(B.on (st (by omega))).wide (a 2)
  exact((h.ln z q).on (st (by omega))).wide (a 2)
 rcases getElem?_set' o f with⟨rfl,rfl⟩|⟨_,q⟩
 ·exact(m.on (st (by omega))).wide (a _)
 exact((h.lb k z q).on (st (by omega))).wide (a _)
theorem GrP.ruleAt{w0 w G l r a q}(h:GrP w0 G w l r a q){i x}(f:a[i]?=some x):∃g c,l=.slice (some ⟨g,0,none⟩) a.length c/\Tg G w 0 g/\a.length<=c/\w.cell? ⟨g,i*2,none⟩=some (.slice x.na x.d.nm.length x.nc)/\w.cell? ⟨g,i*2+1,none⟩=some (.slice x.ba x.d.bd.length x.bc)/\w.frozen? ⟨g,i*2,none⟩=false/\w.frozen? ⟨g,i*2+1,none⟩=false:=by
 have s:=(List.getElem?_eq_some_iff.1 f).1;obtain⟨g,c,e,p,o,b⟩:=h.rules.at_ (by omega);rw[yi ncR 2 ufN]at b;have j:=b (i*2) (by omega);have k:=b (i*2+1) (by omega);have m:=vw ncR 2 ufN a i 0 x f (by omega);have n:=vw ncR 2 ufN a i 1 x f (by omega);exact⟨g,c,e,p,o,j.1.trans m,k.1.trans n,j.2,k.2⟩
theorem GrP.labelAt{w0 w G t l s a}(h:GrP w0 G w t l s a){i x}(f:a[i]?=some x):∃g c,l=.slice (some ⟨g,0,none⟩) a.length c/\Tg G w 1 g/\a.length<=c/\w.cell? ⟨g,i*3,none⟩=some (.slice x.na x.d.nm.length x.nc)/\w.cell? ⟨g,i*3+1,none⟩=some (.bool x.d.has)/\w.cell? ⟨g,i*3+2,none⟩=some (.slice x.ba x.d.bd.length x.bc)/\w.frozen? ⟨g,i*3+1,none⟩=false/\w.frozen? ⟨g,i*3+2,none⟩=false:=by
 have u:=(List.getElem?_eq_some_iff.1 f).1;obtain⟨g,c,e,r,q,b⟩:=h.labs.at_ (by omega);rw[yi ncL 3 uag]at b;have p:=b (i*3) (by omega);have j:=b (i*3+1) (by omega);have k:=b (i*3+2) (by omega);have m:=vw ncL 3 uag a i 0 x f (by omega);have n:=vw ncL 3 uag a i 1 x f (by omega);have o:=vw ncL 3 uag a i 2 x f (by omega);exact⟨g,c,e,r,q,p.1.trans m,j.1.trans n,k.1.trans o,j.2,k.2⟩
def node(x:NL):ug:=⟨x.nm.length,lf x.nm,x.has,x.bd.length,df x.bd⟩
def gram(b a:List NL):Gr:=⟨b.length,λi=>node (b.getD i default),a.length,λi=>node (a.getD i default)⟩
theorem uha{l:List GC}{i:Nat}{x:GC}(h:l[i]?=some x):(l.map (·.d)).getD i default=x.d:=by rw[List.getD_eq_getElem?_getD,List.getElem?_map,h];rfl
theorem GrP.gram{w0 w G E C f a}(h:GrP w0 G w E C f a):∃o B la lc,E=.slice o f.length B/\C=.slice la a.length lc/\GramX (New w0 w) w o la (gram (f.map (·.d)) (a.map (·.d))):=by
 have m:∀{t:Nat},t≠3->∀b,Tg G w t b->New w0 w b:=λ{t} L b j=>⟨h.new b (by rw[j.2];exact L),j.1⟩
 obtain⟨o,B,s⟩:=uk h.rules;obtain⟨la,lc,q⟩:=uk h.labs;refine⟨o,B,la,lc,s,q,⟨?_,?_⟩⟩
 ·by_cases v:f.length=0
  ·exact .inl (by show(f.map (·.d)).length=0;rw[List.length_map];exact v)
  obtain⟨g,c,e,z,I,J⟩:=h.rules.at_ (by omega);rw[s]at e;obtain rfl:o=some ⟨g,0,none⟩:=by injection e
  refine .inr ⟨g,0,rfl,m (by omega) g z,λi y=>?_⟩;have hi':i<f.length:=by
   have:i<(f.map (·.d)).length:=y;rwa [List.length_map]at this
  have l:f[i]?=some f[i]:=List.getElem?_eq_getElem hi';have r:(Go.Proofs.YtimfigongapdnaaGreat.gram (f.map (·.d)) (a.map (·.d))).rule i=node f[i].d:=by show node _=_;rw[uha l]
  rw[r];obtain⟨u,F,n,_,_,A,p,_,_⟩:=h.ruleAt l;rw[s]at n;obtain rfl:u=g:=by injection n with e1;injection e1 with e1;injection e1 with e1;exact e1.symm
  have j:=h.rb i _ l;obtain⟨_,H,k,x⟩:=j.shape;injection k with _ _ k;rw[Nat.zero_add];exact⟨⟨⟨_,_,A,(h.rn _ (List.getElem_mem hi')).wide (m (by omega))⟩,⟨_,_,p,j.ops.wide (m (by omega))⟩⟩,⟨_,_,p,by rw[k];exact x⟩⟩
 by_cases v:a.length=0
 ·exact .inl (by show(a.map (·.d)).length=0;rw[List.length_map];exact v)
 obtain⟨g,c,e,z,I,J⟩:=h.labs.at_ (by omega);rw[q]at e;obtain rfl:la=some ⟨g,0,none⟩:=by injection e
 refine .inr ⟨g,0,rfl,m (by omega) g z,λi y=>?_⟩;have hi':i<a.length:=by
  have:i<(a.map (·.d)).length:=y;rwa [List.length_map]at this
 have l:a[i]?=some a[i]:=List.getElem?_eq_getElem hi';have r:(Go.Proofs.YtimfigongapdnaaGreat.gram (f.map (·.d)) (a.map (·.d))).lab i=node a[i].d:=by show node _=_;rw[uha l]
 rw[r];obtain⟨u,F,n,_,_,A,p,D,_,_⟩:=h.labelAt l;rw[q]at n;obtain rfl:u=g:=by injection n with e1;injection e1 with e1;injection e1 with e1;exact e1.symm
 have j:=h.lb i _ l;obtain⟨_,H,k,x⟩:=j.shape;injection k with _ _ k;rw[Nat.zero_add];exact⟨⟨⟨_,_,A,(h.ln _ (List.getElem_mem hi')).wide (m (by omega))⟩,p,⟨_,_,D,j.ops.wide (m (by omega))⟩⟩,⟨_,_,D,by rw[k];exact x⟩⟩
structure GVar(gb:Nat)(w0:World)(G:Nat->Nat)(w:World)(rv lv:Value)(rs ls:List GC):Prop where
 c0:w.cell? ⟨gb,0,none⟩=some rv
 c1:w.cell? ⟨gb,1,none⟩=some lv
 f0:w.frozen? ⟨gb,0,none⟩=false
 f1:w.frozen? ⟨gb,1,none⟩=false
 gr:GrP w0 G w rv lv rs ls
 tg:G gb=3
 lt:gb<w.heap.size
 le:w0.heap.size<=w.heap.size
theorem GVar.tagR{a R w0 w G f c d b}(h:GVar a w0 G w f c d b)(g:R<w0.heap.size):G R=3:=by
 by_cases e:G R=3
 ·exact e
 have:=h.gr.new R e;omega
theorem GVar.later{c w0 w w' G j g i f C}(h:GVar c w0 G w j g i f)(k:Keep C w w')(e:∀b,C b->b<w0.heap.size/\b≠c)t:GVar c w0 (qF G w t) w' j g i f:=by
 have d:=k.block c h.lt (λq=>(e c q).2 rfl);exact⟨(World.cell?_of_block (a:=⟨c,0,none⟩) d).trans h.c0,(World.cell?_of_block (a:=⟨c,1,none⟩) d).trans h.c1,(World.frozen?_of_block (a:=⟨c,0,none⟩) d).trans h.f0,(World.frozen?_of_block (a:=⟨c,1,none⟩) d).trans h.f1,
  h.gr.later k (λb q=>h.tagR (e b q).1) t h.le,by rw[vL h.lt];exact h.tg,Nat.lt_of_lt_of_le h.lt k.size,Nat.le_trans h.le k.size⟩
theorem umO{W g x t}(b:W.heap[g]?=some (.cells #[.slice x.na x.d.nm.length x.nc,.slice x.ba x.d.bd.length x.bc] t)):Src Tryz.prog 2 25 (.slice (some ⟨g,0,none⟩) 1 1) 1 (ncR x) W:=by
 refine yp Tryz.underlying25 rfl (λj u a=>?_) (λu a=>upf [x] u (by simpa using a));simp only[World.cell?,b];rw[<-a];simp[ncR]
theorem ukX{W g x t}(b:W.heap[g]?=some (.cells #[.slice x.na x.d.nm.length x.nc,.bool x.d.has,.slice x.ba x.d.bd.length x.bc] t)):Src Tryz.prog 3 26 (.slice (some ⟨g,0,none⟩) 1 1) 1 (ncL x) W:=by
 refine yp Tryz.underlying26 rfl (λj u a=>?_) (λu a=>upg [x] u (by simpa using a));simp only[World.cell?,b];rw[<-a];simp[ncL]
theorem usP{a b c W2 W4 G g e f d}(h:GVar a c G W2 g e f d)(i:b≠3)(g4:Grew (Tg G W2 b) W2 W4):W4.heap[a]?=W2.heap[a]? :=
 g4.block a h.lt (λq=>by have:=q.2;rw[h.tg]at this;omega)
theorem ubr{b f g W2 W4 G e d k j}(h:GVar b g G W2 e d k j)(i:f≠3)(g4:Grew (Tg G W2 f) W2 W4):W4.cell? ⟨b,0,none⟩=some e/\W4.cell? ⟨b,1,none⟩=some d/\W4.frozen? ⟨b,0,none⟩=false/\W4.frozen? ⟨b,1,none⟩=false:=by
 have c:=usP h i g4;exact⟨(World.cell?_of_block (a:=⟨b,0,none⟩) c).trans h.c0,(World.cell?_of_block (a:=⟨b,1,none⟩) c).trans h.c1,(World.frozen?_of_block (a:=⟨b,0,none⟩) c).trans h.f0,(World.frozen?_of_block (a:=⟨b,1,none⟩) c).trans h.f1⟩
theorem uph P w:BodP P w (.slice none 0 0) []:=⟨λ_=>0,[],⟨.inl ⟨rfl,rfl,rfl⟩,λi x a=>by simp at a⟩,rfl⟩
theorem GrP.set{w0 w G f c u d a rb o}(h:GrP w0 G w f c d a)(i:G rb=3):GrP w0 G (w.setCell ⟨rb,o,none⟩ u) f c d a :=
 h.on (by rw[uj];exact Nat.le_refl _) (λb g j=>Below.heap_setCell _ _ _ _ (λe=>j (by rw[show b=rb from e];exact i))) (λb g=>rfl) h.new
structure TokF(n:Nat)(x:Tok):Prop where
 byt:BytL x.nm
 len:x.nm.length<=n
 set:x.set = []\/∃M,x.set=rg M 256
 cls:x.kind=91->∃M,x.set=rg M 256
 name:x.kind=110->(∀y∈x.nm,kO y)/\∃y r,x.nm=y::r/\M.Letter y
theorem uhj t:∀(f j:Nat) (z:List Int),BytL z->(∀y∈z,kO y)->j<=t.n->BytL (yt t f j z).1/\(∀y∈(yt t f j z).1,kO y)/\(yt t f j z).1.length+j=z.length+(yt t f j z).2/\(∃r,(yt t f j z).1=z++r)
 |0,j,z,hb,hc,hj=>⟨hb,hc,rfl,[],by rw[List.append_nil];rfl⟩
 |f+1,j,z,hb,hc,hj=>by
  rw[yt];split
  ·rename_i h;have g:∀y∈z++[t.T j],kO y:=λy a=>by
    rcases List.mem_append.1 a with q|q
    ·exact hc y q
    rw[List.mem_singleton.1 q];exact h.2
   have i:BytL (z++[t.T j]):=λy a=>by
    rcases List.mem_append.1 a with q|q
    ·exact hb y q
    rw[List.mem_singleton.1 q];exact t.byt j
   obtain⟨b,c,d,r,e⟩:=uhj t f (j+1) _ i g h.1;refine⟨b,c,?_,t.T j::r,by rw[e];simp⟩;simp at d;omega
  exact⟨hb,hc,rfl,[],by rw[List.append_nil]⟩
theorem ujU t:∀(f j:Nat) (z:List Int) (r:List Int×Nat),BytL z->j<=t.n->udG t f j z=some r->BytL r.1/\r.1.length+j<=z.length+r.2
 |0,j,z,r,hb,hj,h=>by rw[udG]at h;cases h
 |f+1,j,z,r,hb,hj,h=>by
  rw[udG]at h;split at h
  ·injection h with h;subst h;exact⟨hb,by simp⟩
  split at h
  ·cases h
  rename_i e;have a:=jS t j false hj;obtain⟨b,c⟩:=ujU t f _ _ r (λy d=>by
   rcases List.mem_append.1 d with q|q
   ·exact hb y q
   rw[List.mem_singleton.1 q];exact⟨a.1,a.2.1⟩) a.2.2 h
  refine⟨b,?_⟩;simp at c;omega
theorem urD t{i}(a:i<t.n):TokF t.n (xM t i).1/\((xM t i).1.kind≠0->(xM t i).1.nm.length+i<=(xM t i).2)/\((xM t i).1.kind=0->(xM t i).1.nm = []):=by
 have c:BytL []:=λy b=>by cases b
 have l:TokF t.n (⟨0,i,[],[]⟩:Tok):=⟨c,Nat.zero_le _,.inl rfl,(λh=>absurd h (by show(0:Int)≠91;omega)),(λh=>absurd h (by show(0:Int)≠110;omega))⟩;unfold xM;split
 ·rename_i e;have m:t.n-i=(t.n-i-1)+1:=by omega
  rw[m,yt,if_pos ⟨a,.inl e⟩,List.nil_append];have f:BytL [t.T i]:=λy b=>by rw[List.mem_singleton.1 b];exact t.byt i
  have d:∀y∈[t.T i],kO y:=λy b=>by rw[List.mem_singleton.1 b];exact .inl e
  obtain⟨g,k,s,r,u⟩:=uhj t (t.n-i-1) (i+1) [t.T i] f d a;have x:=udH t (t.n-i-1) (i+1) [t.T i] a;simp only[List.length_singleton]at s;refine⟨⟨g,by first|(simp only;omega)|omega,.inl rfl,(λh=>absurd h (by show(110:Int)≠91;omega)),λ_=>⟨k,t.T i,r,by rw[u];rfl,e⟩⟩,(λ_=>by first|(simp only;omega)|omega),(λh=>absurd h (by show(110:Int)≠0;omega))⟩
 rename_i e;split
 ·rename_i p;cases h:uhm t i with
  |none=>exact⟨l,(λq=>absurd rfl q),(λ_=>rfl)⟩
  |some q =>
   obtain⟨z,j⟩:=q;have o:=ufS a h;obtain⟨g,k⟩:=ujU t _ _ _ _ c a h;simp only[List.length_nil,Nat.zero_add]at k o;simp only;exact⟨⟨g,by first|(simp only;omega)|omega,.inl rfl,(λh=>absurd h (by show(34:Int)≠91;omega)),(λh=>absurd h (by show(34:Int)≠110;omega))⟩,(λ_=>by first|(simp only;omega)|omega),(λh=>absurd h (by show(34:Int)≠0;omega))⟩
 split
 ·cases h:ucM t i with
  |none=>exact⟨l,(λq=>absurd rfl q),(λ_=>rfl)⟩
  |some q =>
   obtain⟨z,j⟩:=q;have o:=ufU a h;have f:∃M,z=rg M 256:=by
    unfold ucM at h;cases d:qE t (t.n+2-i) (ug7 t i) (λ_=>false) with
    |none=>rw[d]at h;cases h
    |some q=>rw[d]at h;injection h with h;injection h with m p;exact⟨_,m.symm⟩
   simp only at o ⊢;exact⟨⟨c,Nat.zero_le _,.inr f,(λ_=>f),(λh=>absurd h (by show(91:Int)≠110;omega))⟩,(λ_=>by simp;omega),(λh=>absurd h (by show(91:Int)≠0;omega))⟩
 split
 ·rename_i p v w;simp only;refine⟨⟨c,Nat.zero_le _,.inl rfl,(λh=>absurd h v),(λh=>?_)⟩,(λ_=>by simp),(λ_=>by trivial)⟩;have h:t.T i=110:=h;exact absurd w (by rw[h];decide)
 simp only;exact⟨l,(λq=>absurd rfl q),(λ_=>by trivial)⟩
def wtT:List Tok->Nat
 |[]=>0
 |x::r=>x.nm.length+1+wtT r
theorem xN a b:wtT (a++b)=wtT a+wtT b:=by
 induction a with
 |nil=>simp[wtT]
 |cons x a c=>rw[List.cons_append,wtT,wtT,c];omega
theorem ubw a:a.length<=wtT a:=by
 induction a with
 |nil=>simp[wtT]
 |cons x a b=>rw[wtT,List.length_cons];omega
theorem uhk t:∀f i,i<=t.n->(∀x∈qK t f i,TokF t.n x)/\wtT (qK t f i)<=2*(t.n-i)
 |0,i,hi=>⟨(λx a=>by cases a),Nat.zero_le _⟩
 |f+1,i,hi=>by
  rw[qK];split
  ·rename_i d;obtain⟨c,g,h⟩:=urD t d;split
   ·rename_i b;refine⟨λx a=>by rw[List.mem_singleton.1 a];exact c,?_⟩;have:=h b;simp[wtT,this];omega
   rename_i b;have j:=um9 t d b;have m:=ujW t (xM t i).2;have k:=ucZ t j.2;obtain⟨e,l⟩:=uhk t f (skip t (xM t i).2) k;have:=g b;refine⟨λx a=>?_,?_⟩
   ·rcases List.mem_cons.1 a with rfl|q
    ·exact c
    exact e x q
   rw[wtT];omega
  exact⟨(λx a=>by cases a),Nat.zero_le _⟩
theorem um0 t:(∀x∈kR t,TokF t.n x)/\wtT (kR t)<=2*t.n:=by
 have h:=uhk t (t.n+1) (skip t 0) (ucZ t (Nat.zero_le _));exact⟨h.1,Nat.le_trans h.2 (by omega)⟩
theorem TokF.ok{n x}(h:TokF n x)(a:n<=400000):uqG x:=by
 refine⟨h.byt,Nat.le_trans h.len a,?_⟩;rcases h.set with q|⟨M,q⟩
 ·rw[q];exact Nat.zero_le _
 rw[q];exact Nat.le_trans (ui9 M 256) (by omega)
theorem uk7 z:(ke z).length<=2*z.length+1:=by
 cases z with
 |nil=>simp[ke,uq]
 |cons x r=>rw[ke,jP];simp[uF];omega
theorem um1(j i:List (List Int))(e:PE):(∀l,l<=3->e.ok l->(e.ops j i).length+1<=4*wtT e.tk)/\(e.ok 5->(e.ops j i).length<=4*wtT e.tk+1):=by
 induction e with
 |ref t=>exact⟨λl f h=>by simp[PE.ops,PE.tk,uq,wtT];omega,λh=>by simp[PE.ops,PE.tk,uq,wtT]⟩
 |thr c t=>exact⟨λl f h=>by simp[PE.ops,PE.tk,uq,wtT];omega,λh=>by simp[PE.ops,PE.tk,uq,wtT]⟩
 |str t=>have:=uk7 t.nm;exact⟨λl f h=>by simp[PE.ops,PE.tk,wtT];omega,λh=>by simp[PE.ops,PE.tk,wtT];omega⟩
 |cls t=>exact⟨λl f h=>by simp[PE.ops,PE.tk,uF,wtT];omega,λh=>by simp[PE.ops,PE.tk,uF,wtT]⟩
 |dot t=>exact⟨λl f h=>by simp[PE.ops,PE.tk,uF,wtT];omega,λh=>by simp[PE.ops,PE.tk,uF,wtT]⟩
 |grp o e c g =>
  have d:e.ok 5->(e.ops j i).length+1<=4*wtT (PE.grp o e c).tk:=λh=>by have:=g.2 h;simp only[PE.tk,wtT,xN];omega
  exact⟨λl f h=>d h.2.2,λh=>by have:=d h.2.2;simp only[PE.ops];omega⟩
 |star e t g =>
  have d:e.ok 0->(unD 6 (e.ops j i)).length+1<=4*wtT (PE.star e t).tk:=λh=>by have:=g.1 0 (by omega) h;simp only[PE.tk,wtT,xN,unD,List.length_append,List.length_singleton];omega
  exact⟨λl f h=>d h.2.2,λh=>by have:=d h.2.2;simp only[PE.ops];omega⟩
 |opt e t g =>
  have d:e.ok 0->(uI 5 (e.ops j i) (uq 0 0)).length+1<=4*wtT (PE.opt e t).tk:=λh=>by have:=g.1 0 (by omega) h;simp only[PE.tk,wtT,xN,uI,uq,List.length_append,List.length_singleton];omega
  exact⟨λl f h=>d h.2.2,λh=>by have:=d h.2.2;simp only[PE.ops];omega⟩
 |not t e g =>
  have d:e.ok 2->(unD 7 (e.ops j i)).length+1<=4*wtT (PE.not t e).tk:=λh=>by have:=g.1 2 (by omega) h;simp only[PE.tk,wtT,unD,List.length_append,List.length_singleton];omega
  exact⟨λl f h=>d h.2.2,λh=>by have:=d h.2.2;simp only[PE.ops];omega⟩
 |amp t e g =>
  have d:e.ok 2->(unD 7 (unD 7 (e.ops j i))).length+1<=4*wtT (PE.amp t e).tk:=λh=>by have:=g.1 2 (by omega) h;simp only[PE.tk,wtT,unD,List.length_append,List.length_singleton];omega
  exact⟨λl f h=>d h.2.2,λh=>by have:=d h.2.2;simp only[PE.ops];omega⟩
 |emp=>exact⟨λl f h=>absurd (show 4<=l from h) (by omega),λ_=>by simp[PE.ops,uq]⟩
 |seq a b k m =>
  have d:a.ok 3->b.ok 2->(uI 4 (a.ops j i) (b.ops j i)).length+1<=4*wtT (PE.seq a b).tk:=λh n=>by have:=k.1 3 (by omega) h;have:=m.1 2 (by omega) n;simp only[PE.tk,xN,uI,List.length_append,List.length_singleton];omega
  exact⟨λl f h=>d h.2.1 h.2.2,λh=>by have:=d h.2.1 h.2.2;simp only[PE.ops];omega⟩
 |alt a t b k m =>
  refine⟨λl f h=>absurd h.1 (by omega),λh=>?_⟩;have:=k.2 h.2.2.1;have:=m.2 (PE.ok_mono b (by omega) h.2.2.2);simp only[PE.ops,PE.tk,wtT,xN,uI,List.length_append,List.length_singleton];omega
theorem uk8:∀z,∀x∈ke z,x.sl<=2:=by
 have c:∀(r:List Int) (D:List OpD),(∀x∈D,x.sl<=2)->∀x∈r.foldl (λd y=>d++uF (vz y)++[opd 4 0]) D,x.sl<=2:=by
  intro r;induction r with
  |nil=>exact λD h=>h
  |cons y r b =>
   intro D h;rw[List.foldl_cons];refine b _ (λx a=>?_);simp only[List.mem_append,List.mem_singleton]at a;rcases a with (q|q)|q
   ·exact h x q
   ·rw[uF]at q;rw[List.mem_singleton.1 q];exact Nat.le_refl _
   rw[q];exact Nat.zero_le _
 intro z;cases z with
 |nil=>intro x a;rw[ke,uq]at a;rw[List.mem_singleton.1 a];exact Nat.zero_le _
 |cons y r=>exact c r _ (λx a=>by rw[uF]at a;rw[List.mem_singleton.1 a];exact Nat.le_refl _)
theorem um2(r p:List (List Int))(e:PE)(N:Nat)(m:2<=N)(h:∀t∈e.tk,t.set.length<=N):∀x∈e.ops r p,x.sl<=N:=by
 have leaf:∀k a,∀x∈uq k a,x.sl<=N:=λk a x f=>by rw[uq]at f;rw[List.mem_singleton.1 f];exact Nat.zero_le _
 have un:∀k D,(∀x∈D,x.sl<=N)->∀x∈unD k D,x.sl<=N:=λk D h x f=>by
  rw[unD]at f;rcases List.mem_append.1 f with q|q
  ·exact h x q
  rw[List.mem_singleton.1 q];exact Nat.zero_le _
 have bin:∀k D i,(∀x∈D,x.sl<=N)->(∀x∈i,x.sl<=N)->∀x∈uI k D i,x.sl<=N:=λk D i h n x f=>by
  rw[uI]at f;simp only[List.mem_append,List.mem_singleton]at f;rcases f with (q|q)|q
  ·exact h x q
  ·exact n x q
  rw[q];exact Nat.zero_le _
 induction e with
 |ref t=>exact leaf _ _
 |thr c t=>exact leaf _ _
 |str t=>exact λx f=>Nat.le_trans (uk8 _ x f) m
 |cls t=>intro x f;rw[PE.ops,uF]at f;rw[List.mem_singleton.1 f];exact h t (by simp[PE.tk])
 |dot t=>intro x f;rw[PE.ops,uF]at f;rw[List.mem_singleton.1 f];exact m
 |grp o e c g=>exact g (λt d=>h t (by simp[PE.tk,d]))
 |star e t g=>exact un _ _ (g (λt d=>h t (by simp[PE.tk,d])))
 |opt e t g=>exact bin _ _ _ (g (λt d=>h t (by simp[PE.tk,d]))) (leaf _ _)
 |not t e g=>exact un _ _ (g (λt d=>h t (by simp[PE.tk,d])))
 |amp t e g=>exact un _ _ (un _ _ (g (λt d=>h t (by simp[PE.tk,d]))))
 |emp=>exact leaf _ _
 |seq a b j l=>exact bin _ _ _ (j (λt d=>h t (by simp[PE.tk,d]))) (l (λt d=>h t (by simp[PE.tk,d])))
 |alt a t b j l=>exact bin _ _ _ (j (λt d=>h t (by simp[PE.tk,d]))) (l (λt d=>h t (by simp[PE.tk,d])))
def qi(s q:Rl):Bool:=(s.car.isSome==q.car.isSome)&&decide (s.name.nm=q.name.nm)
def uO(a:List Rl):List (List Int):=(a.filter (λq=>!q.car.isSome)).map (λq=>q.name.nm)
def uiE(b a:List (List Int))(q:Rl):NL:=⟨q.name.nm,true,q.body.ops b a⟩
def yD(b a:List (List Int))(c:List Rl):List NL:=(c.filter (λq=>!q.car.isSome)).map (uiE b a)
def qj(b a:List (List Int))(c:List Rl)(z:List Int):NL :=
 match c.find? (λq=>q.car.isSome&&decide (q.name.nm=z)) with
 |some q=>⟨z,true,q.body.ops b a⟩
 |none=>⟨z,false,[]⟩
def yN(b a:List (List Int))(c:List Rl):List NL:=a.map (qj b a c)
def jd(b:List (List Int))(a:List Rl):Gr:=gram (yD (uO a) b a) (yN (uO a) b a)
def uqI:Gr:=gram [] []
end Go.Proofs.YtimfigongapdnaaGreat
