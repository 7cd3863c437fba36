import Derived.Test.YtmlblamikgkdcaaGreatT13
import Derived.Test.YtmlblamikgkdcaaGreatT15
import Derived.Test.YtmlblamikgkdcaaGreatT11
set_option linter.unusedVariables false
set_option linter.unusedSimpArgs false
set_option linter.defProp false
set_option maxHeartbeats 40000000
set_option maxRecDepth 100000
namespace Go.Proofs.YtmlblamikgkdcaaGreat
open Go.RowKit
open Go.Proofs.Tryz
section
open M (OpD ug Gr uw EX ins uT)
namespace M
def EX.b(m:Nat):EX->Prop
 |.empty=>True
 |.set n _=>n<=m
 |.ref _=>True
 |.thr _ _=>True
 |.seq x y=>x.b m/\y.b m
 |.alt x y=>x.b m/\y.b m
 |.star x=>x.b m
 |.not x=>x.b m
def dJ{nr m o}(c:o.sl<=m){x y}(a:x.b m)(d:y.b m):(bA nr o x y).b m:=by
 unfold bA;repeat' split
 all_goals first|exact c|exact⟨a,d⟩|exact a|trivial
def eO{nr m}B n(e:∀i,i<n->(B i).sl<=m):∀p,p∈stk (bA nr) B n->p.2.b m:=by
 induction n with
 |zero=>intro p a;simp[stk]at a
 |succ n f =>
  have ih':=f (λi g=>e i oM);have d:=e n oM;have c:=trivial;rw[stk];generalize stk (bA nr) B n=l at *;intro p a;unfold stp at a;split at a
  .match l,ih',a with
   |[],_,a=>simp at a
   |[_],_,a=>simp at a
   |(s2,y)::(s1,x)::r,ih',a =>
    rcases Dm.1 a with rfl|a
    .exact dJ d (ih' (s1,x) sM) (ih' (s2,y) sM)
    exact ih' p (by simp[a])
  split at a
  .match l,ih',a with
   |[],_,a=>simp at a
   |(s1,x)::r,ih',a =>
    rcases Dm.1 a with rfl|a
    .exact dJ d (ih' (s1,x) sM) c
    exact ih' p (by simp[a])
  rcases Dm.1 a with rfl|a
  .exact dJ d c c
  exact ih' p a
def eP{nr m n B}(a:∀i,i<n->(B i).sl<=m):(bR nr n B).b m:=by
 unfold bR;have:=eO (nr:=nr) B n a;generalize stk (bA nr) B n=l at *;match l,this with
 |[],_=>trivial
 |(s,t)::r,h=>exact h (s,t) sM
def eN r m t(f:t.b m):∀p d,d∈uT r t p->d.sl<=m:=by
 have e:∀k a z:Int,(ins k a z).sl<=m:=λk a z=>zK;induction t with
 |empty=>intro p d c;simp[uT]at c
 |set n S=>intro p d c;simp[uT]at c;subst c;exact f
 |ref n=>intro p d c;simp[uT]at c;subst c;exact e _ _ _
 |thr l n=>intro p d c;simp[uT]at c;subst c;exact e _ _ _
 |seq x y h i =>
  intro p d c;rw[uT]at c;rcases By.1 c with q|q
  .exact h f.1 _ d q
  exact i f.2 _ d q
 |alt x y h i =>
  intro p d c;rw[uT]at c;rcases Dm.1 c with rfl|q
  .exact e _ _ _
  rcases By.1 q with q|q
  .exact h f.1 _ d q
  rcases Dm.1 q with rfl|q
  .exact e _ _ _
  exact i f.2 _ d q
 |star x g =>
  intro p d c;rw[uT]at c;rcases Dm.1 c with rfl|q
  .exact e _ _ _
  rcases By.1 q with q|q
  .exact g f _ d q
  simp at q;subst q;exact e _ _ _
 |not x g =>
  intro p d c;rw[uT]at c;rcases Dm.1 c with rfl|q
  .exact e _ _ _
  rcases By.1 q with q|q
  .exact g f _ d q
  simp at q;subst q;exact e _ _ _
end M
def J9{g}(a:M.Sound g){p}(c:p<g.nr+g.nb):∀i,i<(nd g p).bl->M.bB g.nr g.nb ((nd g p).e i):=λi b =>
 (je a c).elim (λq=>oM) (λh=>h.1 i b)
def K0{nr c o}(h:M.bB nr c o):o.sl<=512:=by
 obtain⟨_,_,a,b,_⟩:=h;by_cases e:o.e=1
 .have:=M.cA (a e);omega
 have:=b e;omega
def K1{g}(f:M.Sound g)k(l:k<=g.nr+g.nb):∀d,d∈xh g k->d.sl<=512:=by
 have c:∀k a z:Int,(ins k a z).sl<=512:=λk a z=>zK;induction k with
 |zero =>
  intro d b;have hd':d=ins 6 0 (Ee g 0)\/d=ins 12 0 0:=by simpa[xh,M.bG] using b
  rcases hd' with rfl|rfl<;>exact c _ _ _
 |succ k e =>
  intro d b;by_cases h:0<(nd g k).bl
  .rw[KE g k h]at b;simp only[By,Bu]at b;rcases b with (((q|q)|q)|q)|q
   .exact e oM d q
   .subst q;unfold Hl;split<;>exact c _ _ _
   .exact M.eN _ _ _ (M.eP (λi j=>K0 (J9 f oM i j))) _ d q
   .subst q;exact c _ _ _
   subst q;exact c _ _ _
  rw[ZW g k h]at b;exact e oM d b
def Lc(l:List uw)(i:Nat):uw:=(l[i]?).getD (ins 0 0 0)
def MF{L:List IC}{i:Nat}(h:i<L.length):Lc (L.map IC.d) i=L[i].d:=by simp[Lc,h]
def K2{Q:Np}{w:Wl}{g:Nat}{L:List IC}(k:∀j,j<(uQ L).length->w.cell? (Ad g j)=(uQ L)[j]?){i:Nat}(h:i<L.length) :
  w.cell? (Ad g (i*4))=some (Iv (Lc (L.map IC.d) i).e)/\w.cell? (Ad g (i*4+1))=some (Iv (Lc (L.map IC.d) i).f)/\w.cell? (Ad g (i*4+2))=some (Iv (Lc (L.map IC.d) i).to)/\w.cell? (Ad g (i*4+3))=some (.slice L[i].a (Lc (L.map IC.d) i).sl L[i].c):=by
 have n:=Bb h;have m:=DG L;have b:∀j,j<4->w.cell? (Ad g (i*4+j))=(Iz L[i])[j]?:=λj l=>by
  rw[k _ (by rw[m];omega),qv L i j _ n l]
 rw[MF h];exact⟨b 0 oM,b 1 oM,b 2 oM,b 3 oM⟩
def K3{P S Q w a c L}(own:zB P w (Sl a L.length c) 4 L.length (uQ L))(q:Cb S w L)(m:∀b,P b->Q b)(n:∀b,S b->Q b):Dz Q w a L.length (Lc (L.map IC.d)):=by
 rcases own with⟨_,e,_⟩|⟨g,cap,e,p,s,r,o,t⟩
 .exact .inl e
 obtain rfl:a=some (Ad g 0):=by injection e
 refine .inr ⟨g,0,rfl,m g p,λi f=>?_⟩;let⟨h,j,k,l⟩:=K2 (Q:=Q) o f;rw[Bp];refine⟨h,j,k,_,_,l,?_⟩;rw[MF f];exact(q L[i] (Gi f)).g n
def Jq(g:Gr):Nat:=PL g (g.nr+g.nb)
def Me(g:Gr):Nat->uw:=Lc (xh g (g.nr+g.nb))
def K5{g}(a:M.Sound g):Jq g<=5000/\∀i,i<Jq g->(Me g i).sl<=512:=by
 refine⟨ZU a _ zD,λi c=>?_⟩;have b:i<(xh g (g.nr+g.nb)).length:=by rw[ql];exact c
 have e:Me g i=(xh g (g.nr+g.nb))[i]:=by simp[Me,Lc,b]
 rw[e];exact K1 a _ zD _ (Gi b)
def K4(g:Gr)(w:Wl)(e:Ending)(w':Wl):Prop:=∃a c,e=Rt (.tuple #[Sl a (Jq g) c,Iv 0])/\Dz (zF w w') w' a (Jq g) (Me g)/\Bw w w'
def K7 Q ra la rc lc g(o:M.Valid g)(q:vS g)w(l:zV Q w ra la g):Cs 9 #[.agg #[Sl ra g.nr rc,Sl la g.nb lc]] w (K4 g w):=by
 refine(H7 Q ra la rc lc g w l q o).mono ?_;rintro e W ⟨⟨a,n,c,L,P,S,rfl,i,f,h⟩,d⟩;have j:n=Jq g:=by rw[i];unfold Jq;rw[<-ql,<-f,Bl]
 refine⟨a,c,by rw[j],?_,d⟩;subst i;have:=K3 (Q:=zF w W) h.k h.m (λb d=>⟨(h.p b d).1.1,(h.p b d).1.2⟩) (λb d=>⟨(h.s b d).1,(h.s b d).2⟩);rw[f,j]at this;exact this
end
open M (OpD ug Gr)
def zd:vJ 32 69 3 56:=⟨underlying32,⟨_,DK,rfl⟩,oM⟩
structure Ed(gb:Nat)(w0:Wl)(G:Nat->Nat)(w:Wl)(rv lv:Vl)(rs ls:List GC):Prop where
 v:Ay gb w0 G w rv lv rs ls
 e:∀b,b<gb->G b=2
def Ed.a{c w0 w G l k rs ls}(h:Ed c w0 G w l k rs ls){t}(g:t≠2)(i:t≠3){b}(j:Tg G w t b):c+1<=b:=by
 have d:=j.2;by_cases e:b<c
 .rw[h.e b e]at d;exact aB d.symm g
 by_cases f:b=c
 .subst f;rw[h.v.tg]at d;exact aB d.symm i
 omega
def Ed.h{a w0 w w' G f d rs ls}(h:Ed a w0 G w f d rs ls)(k:Kf w w')t:Ed a w0 (vV G w t) w' f d rs ls :=
 ⟨h.v.h k (λb q=>q.elim) t,λb c=>by rw[uR (Nat.lt_trans c h.v.lt)];exact h.e b c⟩
def Ed.g{c i W2 W4 G m w v4 rs ls x}(h:Ed c i G W2 m w rs ls)(u:Ints (Tg G W2 2) .u8 W2 x.na x.d.nm.length (lf x.d.nm))(f:zQ (Tg G W2 (5+2*ls.length)) W2 (Sl x.ba x.d.bd.length x.bc) x.d.bd)(own:zB (λb=>Tg G W2 1 b\/W2.heap.size<=b) W4 v4 3 (ls.length+1) (ls.flatMap Ef++Ef x))(g4:zT (Tg G W2 1) W2 W4):∃n,Ed c i n (W4.setCell (Ad c 1) v4) m v4 rs (ls++[x]):=by
 let⟨o,p,q,r⟩:=xI h.v oM g4;have k:=h.v.gr.l h.v.le u f own g4;have t:=h.v.lt;have y:=h.v.le;have z:=g4.l;have j:vV G W2 1 c=3:=by rw[uR t];exact h.v.tg
 refine⟨vV G W2 1,⟨(La sM).trans o,Jm (by rw[p];rfl),by rw[Et];exact q,by rw[Et];exact r,
  k.on (by rw[uh];exact zD) (λb f s=>Bn (λe=>s (by rw[show b=c from e];exact j))) (λb f=>rfl) k.a,j,by rw[uh];omega,by rw[uh];omega⟩,λb f=>by rw[uR oM];exact h.e b f⟩
def Ed.m{c g W2 W4 G y k v4 rs ls x}(h:Ed c g G W2 y k rs ls)(w:Ints (Tg G W2 2) .u8 W2 x.na x.d.nm.length (lf x.d.nm))(f:zQ (Tg G W2 (4+2*rs.length)) W2 (Sl x.ba x.d.bd.length x.bc) x.d.bd)(own:zB (λb=>Tg G W2 0 b\/W2.heap.size<=b) W4 v4 2 (rs.length+1) (rs.flatMap Fu++Fu x))(g4:zT (Tg G W2 0) W2 W4):∃o,Ed c g o (W4.setCell (Ad c 0) v4) v4 k (rs++[x]) ls:=by
 let⟨p,q,r,s⟩:=xI h.v oM g4;have j:=h.v.gr.n h.v.le w f own g4;have u:=h.v.lt;have z:=h.v.le;have A:=g4.l;have i:vV G W2 0 c=3:=by rw[uR u];exact h.v.tg
 refine⟨vV G W2 0,⟨Jm (by rw[p];rfl),(La sM).trans q,by rw[Et];exact r,by rw[Et];exact s,
  j.on (by rw[uh];exact zD) (λb f t=>Bn (λe=>t (by rw[show b=c from e];exact i))) (λb f=>rfl) j.a,i,by rw[uh];omega,by rw[uh];omega⟩,λb f=>by rw[uR oM];exact h.e b f⟩
def Ed.k{f o w W2 G t s v rs ls D z na N B}j(h:Ed f o G w t s rs ls)(k:Kf w W2)(C:Ints N .u8 W2 na z.length (lf z))(c:zQ B W2 v D)(r:∀b,N b->zF w W2 b)(p:∀b,B b->zF w W2 b)(y:∀b,N b->¬B b) :
  ∃i,Ed f o i W2 t s rs ls/\Ints (Tg i W2 2) .u8 W2 na z.length (lf z)/\zQ (Tg i W2 j) W2 v D:=by
 classical
 let i:Nat->Nat:=λb=>if b<w.heap.size then G b else if N b then 2 else if B b then j else 3
 have n:∀b,b<w.heap.size->i b=G b:=λb c=>Zp c;have m:=k.d f h.v.lt (λq=>q);have u:=k.l;have A:=h.v.lt;refine⟨i,⟨⟨(Bd (a:=(Ad f 0)) m).trans h.v.c0,(Bd (a:=(Ad f 1)) m).trans h.v.c1,(Dp (a:=(Ad f 0)) m).trans h.v.f0,(Dp (a:=(Ad f 1)) m).trans h.v.f1,
  h.v.gr.on u (λb c E=>k.d b c (λq=>q)) n (λb c=>?_),by rw[n f A];exact h.v.tg,oM,zP h.v.le u⟩,λb c=>by rw[n b oM];exact h.e b c⟩,C.g (λb q=>⟨(r b q).2,?_⟩),c.g (λb q=>⟨(p b q).2,?_⟩)⟩
 .by_cases e:b<w.heap.size
  .rw[n b e]at c;exact h.v.gr.a b c
  have:=h.v.le;omega
 .have x:=(r b q).1;show(if b<w.heap.size then G b else if N b then 2 else if B b then j else 3)=2;rw[Zn oM,Zp q]
 have x:=(p b q).1;show(if b<w.heap.size then G b else if N b then 2 else if B b then j else 3)=j;rw[Zn oM,Zn (λe=>y b e q),Zp q]
def Ed.c(w:Wl){t}(e:Wl)(f:e.heap.size=0):Ed w.heap.size e (λb=>if b=w.heap.size then 3 else 2) (w.alloc (Oc #[nS,nS] t)) nS nS [] []:=by
 have d:=Eo w (Oc #[nS,nS] t);refine⟨⟨?_,?_,?_,?_,⟨.inl ⟨rfl,rfl,rfl⟩,.inl ⟨rfl,rfl,rfl⟩,(λx a=>by cases a),(λx a=>by cases a),(λi x a=>by simp at a),(λi x a=>by simp at a),λb d=>oM⟩,sM,sM,by rw[f];exact zK⟩,λb d=>sO⟩
 .simp only[World.cell?,d];rfl
 .simp only[World.cell?,d];rfl
 .simp only[World.frozen?,d];rfl
 simp only[World.frozen?,d];rfl
def Ed.y{e o t m i wr W2 W4 G x w v rs ls}(h:Ed e m G W2 x w rs ls)(n:t≠2)(p:t≠3)(z:i.heap.size=e+1)(u:zA (λb=>b=e) i wr)(k:Kf wr W2)(g4:zT (Tg G W2 t) W2 W4):zA (λb=>b=e) i (W4.setCell (Ad e o) v):=by
 have kk:=u.c (k.h (λb q=>q.elim));have s:zA (λb=>b=e) i W4:=⟨g4.os.trans kk.os,g4.g.trans kk.g,g4.f.trans kk.f,zP kk.l g4.l,λb j r=>(g4.d b (Ba j kk.l) (λq=>oH (h.a n p q))).trans (kk.d b j r)⟩;exact s.c (Dh rfl)
def Ed.j{b w0 w G l rs ls g n c i j x y u}(h:Ed b w0 G w l (Sl (Sm g 0) n c) rs ls)(r:ls[i]?=some x)(o:j<3)(s:Ef y=(Ef x).set j u)(k:Tg G w 1 g)(p:Ints (Tg G w 2) .u8 w y.na y.d.nm.length (lf y.d.nm))(m:zQ (Tg G w (5+2*i)) w (Sl y.ba y.d.bd.length y.bc) y.d.bd) :
  Ed b w0 G (w.setCell (Ad g (i*3+j)) u) l (Sl (Sm g 0) n c) rs (ls.set i y):=by
 have q:b≠g:=λe=>by have:=k.2;rw[<-e,h.v.tg]at this;omega
 have f:(w.setCell (Ad g (i*3+j)) u).heap[b]?=w.heap[b]?:=Bn (λe=>q e);exact⟨⟨(Bd (a:=(Ad b 0)) f).trans h.v.c0,(Bd (a:=(Ad b 1)) f).trans h.v.c1,(Dp (a:=(Ad b 0)) f).trans h.v.f0,(Dp (a:=(Ad b 1)) f).trans h.v.f1,
  h.v.gr.g r o s k p m,h.v.tg,by rw[uh];exact h.v.lt,by rw[uh];exact h.v.le⟩,h.e⟩
def Bh.g{Q Q' w a l}(h:Bh Q w a l)(t:∀b,Q b->Q' b):Bh Q' w a l:=by
 rcases h with h|⟨b,off,e,h⟩
 .exact .inl h
 refine .inr ⟨b,off,e,λi x p=>?_⟩;let⟨f,j,⟨a,c,k,m⟩,⟨d,c',n,o⟩⟩:=h i x p;exact⟨f,j,⟨a,c,k,m.g t⟩,⟨d,c',n,o.g t⟩⟩
def Ff.g{Q Q' w a c}(h:Ff Q w a c)(t:∀b,Q b->Q' b):Ff Q' w a c:=by
 rcases h with h|⟨b,off,e,h⟩
 .exact .inl h
 refine .inr ⟨b,off,e,λi z j=>?_⟩;let⟨na,nc,d,f⟩:=h i z j;exact⟨na,nc,d,f.g t⟩
def zf{b ls c q}(d:q.a=none)z:kR b ls (c++[q]) z=kR b ls c z:=by
 unfold kR;rw[List.find?_append];simp[d]
def zg{a ls b q z}(c:q.f.nm≠z):kR a ls (b++[q]) z=kR a ls b z:=by
 unfold kR;rw[List.find?_append];simp[c]
def zh{d ls b q}(c:q.a.isSome=true)(i:∀s∈b,jt s q=false):kR d ls (b++[q]) q.f.nm=⟨q.f.nm,true,q.e.e d ls⟩:=by
 unfold kR;have g:b.find? (λs=>s.a.isSome&&decide (s.f.nm=q.f.nm))=none:=by
  rw[List.find?_eq_none];intro s j;have:=i s j;unfold jt at this;rw[c]at this;simp at this ⊢;intro h;exact this h
 rw[List.find?_append,g];simp[c]
def QR:∀{l:List LI},Fg l->∀(i j:Nat) (z:LI),l[i]?=some z->l[j]?=some z->i=j
 |[],_,i,j,z,hi,_=>by simp at hi
 |x::r,h,0,0,z,_,_=>rfl
 |x::r,h,0,j+1,z,hi,hj=>by
  simp at hi hj;subst hi;exact aB (h.1 _ (Cn hj)) (xF _)
 |x::r,h,i+1,0,z,hi,hj=>by
  simp at hi hj;subst hj;exact aB (h.1 _ (Cn hi)) (xF _)
 |x::r,h,i+1,j+1,z,hi,hj=>by
  simp at hi hj;rw[QR h.2 i j z hi hj]
def QS{b ls c q}(d:q.a=none):vE b ls (c++[q])=vE b ls c:=Vi (λz _=>zf d z)
def QT{c ls d q k}(g:Fg ls)(b:ls[k]?=some q.f.nm)(h:q.a.isSome=true)(m:∀s∈d,jt s q=false):vE c ls (d++[q])=(vE c ls d).set k ⟨q.f.nm,true,q.e.e c ls⟩:=by
 refine Oy (λi=>?_);unfold vE;have l:=(Bz.1 b).1;by_cases e:i=k
 .subst e;rw[Ie (by rw[Bl];exact l),Ev,b];show some _=some _;rw[zh h m]
 rw[Oz oM,Ev,Ev];cases j:ls[i]? with
 |none=>rfl
 |some z =>
  show some _=some _;rw[zg (λq=>e (QR g i k _ j (by rw[b,q])))]
def kh{b ls c q}:vF b ls (c++[q])=vF b ls c++(if q.a.isSome then [] else [Zy b ls q]):=by
 unfold vF;rw[List.filter_append,Dt];cases d:q.a<;>simp[d]
def Ed.i{j o t g m k wr G w u v rs ls}(h:Ed j m G wr w u rs ls)(n:t≠2)(p:t≠3)(x:k.heap.size=j+1)(c:zA (λb=>b=j) k wr)(r:Tg G wr t g):zA (λb=>b=j) k (wr.setCell (Ad g o) v) :=
 ⟨c.os,c.g,c.f,by rw[uh];exact c.l,λb q s=>(Bn (λe=>by have e':b=g:=e;have:=h.a n p r;omega)).trans (c.d b q s)⟩
def zi{ops:Array Oper}{o:Oper}{a:Act}{W W1:Wl}{K:Act->World->Prop}{g:Exit->Act->World->Prop}{E:Prop}{Q:Np}(p:o.guard=none)(s x:Operand)(u:o.op=.call { callee:=.builtin .append,args:=#[s,x],argTypes:=#[22,22] })
  {ya:Oa} {yc:Nat} {z:LI} (l:W1=W.alloc (Oc #[] 5)) (w:a.eval s=Sl (Sm W.heap.size 0) 0 0) (y:a.eval x=Sl ya z.length yc) (k:Ints Q .u8 W ya z.length (lf z)) (A:z.length<=1048576)
  (h:∀e c' c,Hid (Ints (zF W c) .u8 c e z.length (lf z))->Hid (Kf W c)->K (a.put o.dst (Sl e z.length c')) c):if Region.wanted o (yielded ops a.tmps)=true then Oper.wp prog o a W1 K g else E:=by
 subst l;refine jN p s x 22 22 u w y jF (Q:=λb=>b=W.heap.size) (n:=0) (cs:=[]) (m:=z.length) (news:=uO .u8 (lf z) z.length) (.inr ⟨W.heap.size,0,rfl,rfl,rfl,zD,(λj f=>by simp at f),(λj f=>oM)⟩) (Ints.d underlying22 (k.h (zO W))) oM ?_;intro v3 c v q B;obtain⟨i,c3,rfl,r,t⟩:=RA v q;exact h i c3 c r t
def FU a ls b z:(kR a ls b z).nm=z:=by
 unfold kR;split<;>rfl
def Ed.f{a w0 w V G B p rs cs k x D ba bc}(h:Ed a w0 G w B p rs cs)(z:Kf w V)(O:zQ (zF w V) V (Sl ba D.length bc) D)(n:cs[k]?=some x) :
  ∃g c,p=Sl (Sm g 0) cs.length c/\a≠g/\V.cell? (Ad g (k*3+1))=some (.bool x.d.j)/\V.frozen? (Ad g (k*3+1))=false/\V.cell? (Ad g (k*3+2))=some (Sl x.ba x.d.bd.length x.bc)/\V.frozen? (Ad g (k*3+2))=false /\
   (∃E,Ed a w0 E ((V.setCell (Ad g (k*3+1)) Bt).setCell (Ad g (k*3+2)) (Sl ba D.length bc)) B p rs (cs.set k ⟨⟨x.d.nm,true,D⟩,x.na,x.nc,ba,bc⟩)) /\
   ∀o,o.heap.size=a+1->zA (λb=>b=a) o w->zA (λb=>b=a) o ((V.setCell (Ad g (k*3+1)) Bt).setCell (Ad g (k*3+2)) (Sl ba D.length bc)):=by
 have l:=h.h z (5+2*k);let⟨g,c,e,m,W,X,T,U,F,H⟩:=l.v.gr.f n;subst e;have Q:a≠g:=λe=>by have:=m.2;rw[<-e,l.v.tg]at this;omega
 have P:=(Bz.1 n).1;have L:zQ (Tg (vV G w (5+2*k)) V (5+2*k)) V (Sl ba D.length bc) D:=O.g (λb q=>Yp q);have R:=Cn n;have r:=l.j (j:=1) (y:=⟨⟨x.d.nm,true,x.d.bd⟩,x.na,x.nc,x.ba,x.bc⟩) (u:=Bt) n oM rfl m (l.v.gr.ln x R) (l.v.gr.lb k x n);have t:Tg (vV G w (5+2*k)) (V.setCell (Ad g (k*3+1)) Bt) 1 g:=⟨by rw[uh];exact m.1,m.2⟩;have A:(cs.set k ⟨⟨x.d.nm,true,x.d.bd⟩,x.na,x.nc,x.ba,x.bc⟩)[k]?=some ⟨⟨x.d.nm,true,x.d.bd⟩,x.na,x.nc,x.ba,x.bc⟩:=Ie P;have N:zQ (Tg (vV G w (5+2*k)) (V.setCell (Ad g (k*3+1)) Bt) (5+2*k)) (V.setCell (Ad g (k*3+1)) Bt) (Sl ba D.length bc) D :=
  (L.on (λb q=>Bn (λe=>by have e':b=g:=e;have I:=q.2;have J:=m.2;rw[e',J]at I;omega))).g (λb q=>⟨by rw[uh];exact q.1,q.2⟩)
 have C:=r.j (j:=2) (y:=⟨⟨x.d.nm,true,D⟩,x.na,x.nc,ba,bc⟩) (u:=Sl ba D.length bc) A oM rfl t (r.v.gr.ln ⟨⟨x.d.nm,true,x.d.bd⟩,x.na,x.nc,x.ba,x.bc⟩ (Cn A)) N;rw[List.set_set]at C;refine⟨g,c,rfl,Q,T,F,U,H,⟨_,C⟩,λo s S=>?_⟩;exact r.i oM oM s (l.i oM oM s (S.c (z.h (λb q=>q.elim))) m) t
def zj{i w R Q Q' k a n S}(d:w.heap[R]?=some (Oc #[nS,nS] i))(h:Ints Q k w a n S)(t:∀b,Q b->b≠R->Q' b):Ints Q' k w a n S:=by
 rcases h with h|⟨b,off,e,g,h⟩
 .exact .inl h
 by_cases f:n=0
 .exact .inl f
 refine .inr ⟨b,off,e,t b g (λq=>?_),h⟩;subst q;have c:=h 0 oM;simp only[World.cell?,d]at c;match off,c with
 |0,c=>simp at c
 |1,c=>simp at c
 |off+2,c=>simp at c
def Cp.q{u w0 w G l k rs ls R}(h:Cp w0 G w l k rs ls)(p:w.heap[R]?=some (Oc #[nS,nS] u))(s:∀t,t≠2->t≠3->¬Tg G w t R):Cp w0 (λb=>if b=R then 3 else G b) w l k rs ls:=by
 have j:∀t,t≠2->t≠3->∀b,Tg G w t b->Tg (λb=>if b=R then 3 else G b) w t b:=λt m o b d=>⟨d.1,by
  show(if b=R then 3 else G b)=t;rw[Zn (λe:b=R=>s t m o (by rw[<-e];exact d))];exact d.2⟩
 have nm:∀{a:Oa} {n:Nat} {S:Nat->Int},Ints (Tg G w 2) .u8 w a n S->Ints (Tg (λb=>if b=R then 3 else G b) w 2) .u8 w a n S:=λr=>zj p r (λb d e=>⟨d.1,by
  show(if b=R then 3 else G b)=2;rw[Zn e];exact d.2⟩)
 exact⟨uA h.c (j 0 oM oM),uA h.e (j 1 oM oM),λx f=>nm (h.rn x f),λx f=>nm (h.ln x f),λi x f=>(h.rb i x f).g (j _ oM oM),λi x f=>(h.lb i x f).g (j _ oM oM),λb d=>h.a b (λe=>d (by show(if b=R then 3 else G b)=3;by_cases q:b=R;rw[Zp q];rw[Zn q];exact e))⟩
def Ed.d{C i R w0 w W G p n u v rs ls}(h:Ed i w0 G w p n rs ls)(k:Kf w W)(z:W.heap[R]?=some (Oc #[nS,nS] C))(D:R<i) :
  ∃ra rc la lc,p=Sl ra rs.length rc/\n=Sl la ls.length lc/\zV (Of ((W.setCell (Ad R 0) u).setCell (Ad R 1) v)) ((W.setCell (Ad R 0) u).setCell (Ad R 1) v) ra la (gram (rs.map (·.d)) (ls.map (·.d))):=by
 have l:=h.h k 3;have B:=l.v.gr.q z (λt x y q=>oH (l.a x y q));have A:=(B.set (rb:=R) (o:=0) (u:=u) sM).set (rb:=R) (o:=1) (u:=v) sM;let⟨ra,rc,la,lc,r,s,m⟩:=A.j;exact⟨ra,rc,la,lc,r,s,m.c.g (λb f=>f.2),m.e.g (λb f=>f.2)⟩
def Lh(x:NL):Prop:=x.nm.length<=1048576/\zW x.nm/\Hf x.bd
def Lh.a{x}(h:Lh x):Vs (node x):=⟨h.1,h.2.1.h,h.2.2.c⟩
def zk{rs ls}(d:rs.length<=1048576)(e:ls.length<=1048576)(g:∀x∈rs,Lh x)(f:∀x∈ls,Lh x):vS (gram rs ls):=by
 have c:∀(l:List NL) (i:Nat),i<l.length->(∀x∈l,Lh x)->Vs (node (l.getD i default)):=λl i b h=>by
  rw[El,Bb b];exact(h _ (Gi b)).a
 exact⟨d,e,λi b=>c rs i b g,λi b=>c ls i b f⟩
def FV{b:List Rl}{q:Rl}(c:q∈b):Cy q.e.tk<=Cy (b.flatMap Rl.tk):=by
 obtain⟨d,l2,rfl⟩:=List.append_of_mem c;rw[List.flatMap_append,Eu,ko,ko];have e:Cy q.tk=Cy q.a.toList+(q.f.nm.length+1+(q.eq.nm.length+1+(Cy q.e.tk+Cy [q.g]))):=by
  unfold Rl.tk;rw[ko,Cy,Cy,ko]
 omega
def FW{n:Nat}{b:List Rl}{q:Rl}(a ls:List LI)(f:q∈b)(d:q.ok)(k:Cy (b.flatMap Rl.tk)<=8000)(c:∀x∈q.e.tk,Dg n x)(j:n<=4000):Hf (q.e.e a ls):=by
 have h:=(SA a ls q.e).2 d.2.2.2.1;have i:=FV f;exact⟨oM,SB 1048576 oM (λx g=>((c x g).ok oM).2.2)⟩
def zl{n g ls}(m:∀q∈g,q.ok)(o:Cy (g.flatMap Rl.tk)<=8000)(i:∀q∈g,Dg n q.f/\∀x∈q.e.tk,Dg n x)(l:n<=4000)(j:g.length<=8000)(r:ls.length<=8000)(k:∀z∈ls,zW z/\z.length<=1000000):vS (uZ ls g):=by
 refine zk ?_ ?_ (λx d=>?_) (λx d=>?_)
 .unfold vF;rw[Bl];have:=List.length_filter_le (λq:Rl=>!q.a.isSome) g;omega
 .unfold vE;rw[Bl];omega
 .unfold vF at d;obtain⟨q,j,rfl⟩:=Gj.1 d;have b:=(Th.1 j).1;exact⟨by have:=(i q b).1.c;show q.f.nm.length<=_;omega,(i q b).1.h,FW _ _ b (m q b) o (i q b).2 l⟩
 unfold vE at d;obtain⟨z,p,rfl⟩:=Gj.1 d;refine⟨by rw[FU];have:=(k z p).2;omega,by rw[FU];exact(k z p).1,?_⟩;unfold kR;split
 .rename_i q j;have b:=List.mem_of_find?_eq_some j;exact FW _ _ b (m q b) o (i q b).2 l
 exact⟨zK,(λx d=>by cases d)⟩
def PV(t:Tx)(g:Gr):Prop:=∃a ls,t.n<=4000/\yB t.n ((uY t).length+1) (uY t)=.inr a/\jk [] a=none/\xN (uq a) a=none/\uq a≠[]/\Fg ls/\(∀z,z∈ls↔z∈uH a)/\M.Valid (uZ ls a)/\g=uZ ls a
def PV.a{t g}(h:PV t g):M.Valid g:=by
 obtain⟨b,ls,_,_,_,_,_,_,_,h,rfl⟩:=h;exact h
def Kr(t:Tx)(a b:Int)(g:Gr):Prop:=(a=0/\b=0/\PV t g)\/5<=a
def SC:∀{l l':List LI},Fg l->Fg l'->(∀z,z∈l↔z∈l')->l=l'
 |[],[],_,_,_=>rfl
 |[],y::s,_,_,h=>absurd ((h y).2 (Qy ..)) sM
 |x::r,[],_,_,h=>absurd ((h x).1 (Qy ..)) sM
 |x::r,y::s,ha,hb,h=>by
  have e:x=y:=by
   rcases Zs x y with q|q|q
   .rcases Dm.1 ((h x).1 (Qy ..)) with z|z
    .exact z
    exact aB (Wv q (hb.1 x z)) (xF x)
   .exact q
   rcases Dm.1 ((h y).2 (Qy ..)) with z|z
   .exact z.symm
   exact aB (Wv q (ha.1 y z)) (xF y)
  subst e;rw[SC ha.2 hb.2 (λz=>?_)];constructor
  .intro a;rcases Dm.1 ((h z).1 (Ta _ a)) with q|q
   .rw[q]at a;exact aB (ha.1 _ a) (xF _)
   exact q
  intro a;rcases Dm.1 ((h z).2 (Ta _ a)) with q|q
  .rw[q]at a;exact aB (hb.1 _ a) (xF _)
  exact q
open M (b1 vH b1_size)
def Pr(s:ByteArray)(t:Tp)(R j:Nat)(w:Wl)(e:Ending)(w':Wl):Prop:=e=Rt (.string s)/\zE t R j w w'
def Ps w q:Kf w (w.drewN q):=zA.j (Be (Qt w.heap.size w) q) (λ_ h _=>h)
def yS{w w'}(h:Bw w w'):Kf w w':=zA.j h (λ_ h _=>h)
def zA.m{w w' R b o v}(k:zA (λx=>x=R) w w')(c:b≠R)(h:w.cell? (Ad b o)=some v):w'.cell? (Ad b o)=some v:=(Bd (a:=(Ad b o)) (k.d b (ud h) c)).trans h
def Ints.b{Q k w w' R a n S}(h:Ints Q k w a n S)(j:zA (λx=>x=R) w w')(d:∀b,Q b->b≠R):Ints Q k w' a n S:=by
 rcases h with e|⟨b,o,e,c,f⟩
 .exact .inl e
 exact .inr ⟨b,o,e,c,λi g=>j.m (d b c) (f i g)⟩
def Gm(k:Nat):ByteArray:=if k%12=0 then ⟨#[10]⟩ else if k%12=1 then ⟨#[32,35,32,120,32,61,32,34,10,9]⟩ else if k%12=2 then ⟨#[13,10,32]⟩ else ⟨#[32]⟩
def jU k:(Gm k).size<=12:=by unfold Gm;split;decide;split;decide;split<;>decide
def EK t R i w(h:Ch t R w i):Cs 68 #[.pointer (Sm R 0)] w (Pr (Gm (t.v i)) t R (t.n i) w):=by
 have g:=t.a i;go_enter func68,ntmps68;go_wp2_with fail;refine(uE t R i w h).mono ?_;rintro e w1 ⟨rfl,d⟩;generalize t.v i=k at *;have b:=ua (Gm.eq_1 k);have c:=ua d;rcases(by omega:k%12=0\/k%12=1\/k%12=2\/2<k%12) with q|q|q|q;all_goals (have f:=ua q;have q':(k:Int)%12=((k%12:Nat):Int):=by omega)
 all_goals simp only[q']
 all_goals (generalize k%12=m at *;go_wp2;go_ret;exact⟨by rw[b.o];first|(simp[q];done)|(rw[Zn oM,Zn oM,Zn oM];rfl),c⟩)
def EL:ByteArray:=⟨#[48,49,50,51,52,53,54,55,56,57,65,66,67,68,69,70]⟩
def Wb(q:Nat):ByteArray:=EL.extract q (q+1)
def yT(b:Nat)(k:Nat):ByteArray:=if k%6=1 then ⟨#[92,120]⟩++Wb (b / 16)++Wb (b%16) else vH b
def yD t(R i b:Nat)(l:b<=255)w(h:Ch t R w i):Cs 180 #[Iv (b:Int),.pointer (Sm R 0)] w (Pr (yT b (t.v i)) t R (t.n i) w):=by
 have m:=t.a i;go_enter func180,ntmps180;go_wp2_with fail;refine(uE t R i w h).mono ?_;rintro e w1 ⟨rfl,j⟩;generalize t.v i=k at *;have f:=ua j;by_cases q:k%6=1
 .have q':(k:Int)%6=1:=oM;have c:Hid (yT b k=⟨#[92,120]⟩++Wb (b / 16)++Wb (b%16)):=Zp q;go_wp2;go_quiet (fail);go_wp2;go_ret;exact⟨by rw[c.o];rfl,f.d (Ps _ _)⟩
 have q':¬(k:Int)%6=1:=oM;have c:Hid (yT b k=vH b):=Zn q;go_wp2_with fail;refine(yp b w1 oM).mono ?_;rintro e o ⟨rfl,g⟩;go_wp2;go_ret;exact⟨by rw[c.o];rfl,f.d (yS g)⟩
def yk b k:(yT b k).size<=4:=by
 unfold yT;split
 .simp only[Dq,Wb,ByteArray.size_extract];have:(⟨#[92,120]⟩:ByteArray).size=2:=rfl;omega
 exact M.cE b
def Cw(t:Tp)(S:Nat->Int)(n i:Nat):Nat->ByteArray×Nat
 |0=>(ByteArray.empty,i)
 |k+1=>((Cw t S n i k).1++yT (S (n-2-2*k)).toNat (t.v (Cw t S n i k).2)++b1 45++vH (S (n-1-2*k)),t.n (Cw t S n i k).2)
def qA t S n i:∀k,(Cw t S n i k).1.size<=9*k
 |0=>zD
 |k+1=>by
  have:=qA t S n i k;have a:=yk (S (n-2-2*k)).toNat (t.v (Cw t S n i k).2);have b:=M.cE (S (n-1-2*k));rw[Cw];simp only[Dq,b1_size];omega
def Q8(t:Tp)(R:Nat)(S:Nat->Int)(n i:Nat)(w:Wl)(b a:Vl)(wr:Wl):Prop :=
 ∃k:Nat,2*k+2<=n/\a=Iv ((n:Int)-2-2*k)/\b=.string (Cw t S n i k).1/\zE t R (Cw t S n i k).2 w wr
def Q9 t R i Q a n c S(B:M.bH n S)(h2:2<=n)(T:∀b,Q b->b≠R)w(U:Ints Q .i64 w a n S)(h:Ch t R w i) :
  Cs 183 #[Sl a n c,.pointer (Sm R 0)] w (Pr (Cw t S n i ((n-2) / 2)).1 t R (Cw t S n i ((n-2) / 2)).2 w):=by
 have hn:=M.cA B;obtain⟨b,off,rfl,Y,W⟩:∃b off,a=some (Ad b off)/\Q b/\∀k,k<n->w.cell? ⟨b,off+k,none⟩=some (Iv (S k)):=by
  rcases U with e|e
  .omega
  exact e
 have A:=ua W;have o:=ua B;have J:=ua h;have q:=T b Y;go_enter func183,ntmps183;go_wp2;go_loopw [5,6] (λI z wr=>Q8 t R S n i w I z wr) (λI z _=>(intOf z).toNat)
 .exact⟨0,oM,sM,rfl,zE.e J⟩
 obtain⟨k,hk,rfl,rfl,r⟩:=hrel;have j:=ua r;have Z:=qA t S n i k;have l:=ua (Cw.eq_2 t S n i k);by_cases ad:2*k+4<=n
 .have C:(2:Int)<=(n:Int)-2-2*k:=oM;have F:=o.2 (n-2-2*k) oM;have G:=o.2 (n-1-2*k) oM;have g:=A (n-2-2*k) oM;have f:=A (n-1-2*k) oM;replace g:=r.2.m q g;replace f:=r.2.m q f;have lb:=ud g;obtain⟨x,H⟩:∃x:Nat,S (n-2-2*k)=(x:Int):=⟨(S (n-2-2*k)).toNat,by have:=F.1;omega⟩;let⟨y,s⟩:=nm (S (n-1-2*k));have aa:x<=255:=oH F.2.1;have ab:0<=y/\y<=255:=by rw[<-s];exact⟨G.1,G.2.1⟩
  rw[H]at g;rw[s]at f;rw[H,s,Pj]at l;let⟨p,E⟩:=nm (Cw t S n i k);rw[E]at j l Z;let⟨m,X⟩:=nm (n-2-2*k);have O:(n:Int)-2-2*k=(m:Int):=oM;have P:n-1-2*k=m+1:=oM;rw[X]at g;rw[P]at f;have ae:(m:Int)<(n:Int):=oM;have af:(m:Int)+1<(n:Int):=oM;simp only[O,E]at C ⊢;go_wp2_with fail;refine(yD t R p.2 x aa wr j.1).mono ?_;rintro e w2 ⟨rfl,D⟩;have L:=ua (j.c D);have ag:=yk x (t.v p.2);replace f:=D.2.m q f;have ai:=ud f;generalize yT x (t.v p.2)=u at *;go_wp2_with fail;refine(yp y w2 ab).mono ?_;rintro e w3 ⟨rfl,V⟩;have ah:=M.cE y;have N:=ua (L.d (yS V));generalize vH y=v at *;go_wp2;go_roundw
  .exact⟨k+1,oM,by congr 1;omega,by rw[l.o];rfl,by rw[l.o];exact N⟩
  simp[intOf];omega
 have C:¬(2:Int)<=(n:Int)-2-2*k:=oM;have ac:=o.1;obtain rfl:(n-2) / 2=k:=oM;go_wp2;go_ret;exact⟨rfl,j⟩
def Tq(n:Nat)(S:Nat->Int):List Int:=rg (λb=>!vq n S b) 256
def OJ n S:M.bH (Tq n S).length (lf (Tq n S)):=ZS _
def R1{n S a w}(h:BP w a (λb=>!vq n S b)):Cs 182 #[Sl a 256 256] w (Sp (Tq n S) w):=qO a _ w h
def Ih(n:Nat)(S:Nat->Int):ByteArray:=M.setT (Tq n S).length (lf (Tq n S))
def R2 n S:0<(M.setT n S).size:=by
 unfold M.setT;split
 .decide
 split<;>simp only[Dq,b1_size]<;>omega
def Yu(u:ByteArray):Bool:=if h:0<u.size then ((u[0].toNat:Int)==91) else false
def qB(t:Tp)(n:Nat)(S:Nat->Int)(i:Nat):ByteArray×Nat :=
 if n=2/\S 0=S 1/\t.v i%5<3 then (b1 34++yT (S 0).toNat (t.v (t.n i))++b1 34,t.n (t.n i))
 else if t.v i%5=3/\Yu (Ih n S)=true then (⟨#[91,94]⟩++(Ih n S).extract 1 (Ih n S).size,t.n i)
 else if t.v i%5=4/\0<n then
  (b1 91++yT (S 0).toNat (t.v (t.n i))++b1 45++yT (S 1).toNat (t.v (t.n (t.n i)))++(Cw t S n (t.n (t.n (t.n i))) ((n-2) / 2)).1++b1 93,(Cw t S n (t.n (t.n (t.n i))) ((n-2) / 2)).2)
 else (M.setT n S,t.n i)
def R7 t R i Q a n c S(G:M.bH n S)(hR:∀b,Q b->b≠R)w(hS:Ints Q .i64 w a n S)(h:Ch t R w i) :
  Cs 129 #[Sl a n c,.pointer (Sm R 0)] w (Pr (qB t n S i).1 t R (qB t n S i).2 w):=by
 have hn:=M.cA G;have hv:=t.a i;let⟨p,O⟩:=nm (qB t n S i);have HP:=ua O;unfold qB at O;rw[HP.o];have ae:=ua (Ih.eq_1 n S);generalize Ih n S=u0 at O ae;have J:=ua G;have Z:=ua hR;have HS:=ua hS;go_enter func129,ntmps129;go_wp2_with fail;refine(uE t R i w h).mono ?_;rintro e w1 ⟨rfl,N⟩;generalize t.v i=k at *;generalize t.n i=j at *;let⟨d,hd⟩:=nm (k%5);have hd':(k:Int)%5=(d:Int):=oM;have a3:d<5:=oM;rw[hd]at O;have al:=ua O;have f:=ua N;have am:Hid (∀W,zE t R j w W->Ints Q .i64 W a n S):=λW h=>hS.b h.2 hR;let⟨one,ho⟩:=nm (decide (n=2/\S 0=S 1/\d<3));have L:=ua ho;clear G hR hS h O N ho hd HP;go_upto_region 2 with fail;simp only[hd'];go_cut [30] (λv wc=>v=.bool one/\zE t R j w wc)
 .by_cases q2:n=2
  .have b2:((n:Int)==2)=true:=(by simp[q2]);have n0:(0:Int)<n:=oM;have n1:(1:Int)<n:=oM;have n2:0<n:=oM;have n3:1<n:=oM;rcases am.o w1 f with q|⟨b,off,rfl,D,C⟩
   .omega
   have F:World.cell? _ (Ad b off)=_:=C 0 oM;have V:=C 1 oM;have lb:=ud F;have ag:=ua q2;clear C q2;generalize S 0=u at *;generalize S 1=v at *;by_cases s:u=v
   .have b3:(u==v)=true:=(by simp[s]);by_cases z:d<3
    .have U:decide ((d:Int)<3)=true:=sO;go_quiet (fail);go_wp2;go_meet;exact⟨by rw[<-L.o];simp[ag.o,s,z],f.o.d (Ps _ _)⟩
    have U:decide ((d:Int)<3)=false:=sO;go_quiet (fail);go_wp2;go_meet;exact⟨by rw[<-L.o];simp[ag.o,s,z],f.o.d (Ps _ _)⟩
   have b3:(u==v)=false:=(by simp[s]);go_quiet (fail);go_wp2;go_meet;exact⟨by rw[<-L.o];simp[ag.o,s],f.d (Ps _ _)⟩
  have b2:((n:Int)==2)=false:=sO;go_quiet (fail);go_wp2;go_meet;exact⟨by rw[<-L.o];simp[q2],f.d (Ps _ _)⟩
 obtain⟨rfl,N⟩:=hcut;have hI:=am.o wc N;replace f:=ua N;clear N;cases one with
 |true =>
  obtain⟨rfl,hs,B⟩:=of_decide_eq_true L.o;have g:Hid (p=(b1 34++yT (S 0).toNat (t.v j)++b1 34,t.n j)):=by show _=_;rw[<-al.o];exact Zp ⟨rfl,hs,B⟩
  rcases hI with q|⟨b,off,rfl,D,C⟩
  .cases q
  have F:World.cell? _ (Ad b off)=_:=C 0 oM;have H:=J.o.2 0 oM;obtain⟨x,I⟩:∃x:Nat,S 0=(x:Int):=⟨(S 0).toNat,by have:=H.1;omega⟩;have ai:x<=255:=oH H.2.1;rw[I]at F;rw[I,Pj]at g;have lb:=ud F;clear C H I hs;go_wp2_with fail;refine(yD t R j x ai wc f.o.1).mono ?_;rintro e Y ⟨rfl,ap⟩;have E:=ua (f.c ap);have az:=yk x (t.v j);generalize yT x (t.v j)=u at *;clear ap;go_wp2;go_ret;exact⟨by rw[g.o];rfl,by rw[g.o];exact E⟩
 |false =>
  have h1:=of_decide_eq_false L;have af:=ua ((Zn h1).symm.trans al);clear h1;have an:∀(W:Wl),Hid (zE t R j w W)->Hid (Ints Q .i64 W a n S)->Hid (p=(M.setT n S,j))->Cs 30 #[Sl a n c] W (λe w'=>e=Rt (.string p.1)/\zE t R p.2 w w'):=λW h1 o B =>
   (xH Q a n c S W o J).mono (λe w' q=>by rw[B.o];exact⟨q.1,h1.d (yS q.2)⟩)
  have ab:=ua an;have A:=ua hI;clear an hI;by_cases s:d=3
  .have b3:((d:Int)==3)=true:=(by simp[s]);have U:((d:Int)==4)=false:=(by simp[s]);have ao:=run_make_row' (P:=prog) 147 4 Bf 1 underlying147 Xr rfl .i64 .i64 256 oM oM;simp only[show((256:Nat):Int)=256 from rfl]at ao;have HA:Hid (Yu u0=true->p=(⟨#[91,94]⟩++u0.extract 1 u0.size,j)):=λD=>af.symm.trans (Zp ⟨s,D⟩);have HB:Hid (¬Yu u0=true->p=(M.setT n S,j)):=λD=>af.symm.trans ((Zn (λq=>D q.2)).trans (Zn (λq=>oM)));clear s;go_wp2;go_loopw [7] (λiv wr=>ZI wc (λb=>!vq n S b) iv wr) (λiv _=>256-(intOf iv).toNat)
   .exact⟨0,oM,rfl,(Kh wc _ 256 4).congr λi _=>by simp[Ql],(zH wc).alloc zD _,sM⟩
   obtain⟨m,hm,rfl,T,ah,X⟩:=hrel;clear ao;have ad:=ua ah;by_cases ay:m<256
   .have hlt':(m:Int)<256:=oM;have a1:=T.cell ay;have a4:=T.frozen m;have av:=ua (ZH T);have aw:=ua X;clear T ah X;go_wp2_with fail;refine(qj Q a n c S m (A.h ad) oM).mono ?_;rintro e W ⟨rfl,hW⟩;subst W;go_wp2;go_roundw
    .exact⟨m+1,oM,by go_num,av,uD ad zD,by rw[uh];exact aw⟩
    simp[intOf];omega
   obtain rfl:m=256:=oM;have au:Hid (BP wr (Sm wc.heap.size 0) (λb=>!vq n S b)):=⟨wc.heap.size,rfl,λi hi=>by rw[T.cell hi];simp[Ql,hi]⟩;clear T ah X;go_wp2_with fail;refine(R1 au).mono ?_;rintro e W ⟨a2,c2,rfl,hO⟩;have aq:=ua (uf ad hO.q);have HL:=ua (Uw hO);clear hO;have aj:=ua (OJ n S);generalize Tq n S=l at *;go_wp2_with fail;refine(xH _ a2 l.length c2 (lf l) W HL aj).mono ?_;rintro e W3 ⟨rfl,B⟩;rw[<-ae.o];have ac:=ua (uf aq B);clear B;have X:=M.cP aj;have aa:=R2 l.length (lf l);rw[<-ae.o]at X aa;have hps':(0:Int)<(u0.size:Int):=oM;have G:Yu u0=(((u0[0]'aa).toNat:Int)==91):=dif_pos aa;rw[G]at HA HB;cases hb:(((u0[0]'aa).toNat:Int)==91) with
   |true =>
    have g:=ua (HA hb);clear G;go_wp2;go_ret;exact⟨by rw[g.o];rfl,by rw[g.o];exact f.d (yS ac)⟩
   |false =>
    have g:=ua (HB (by rw[hb];simp));clear G;go_wp2_with fail;refine(ab W3 (f.d (yS ac)) (A.h ac) g).mono ?_;rintro e Y ⟨rfl,o⟩;have E:=ua o;clear o;go_wp2;go_ret;exact⟨rfl,E⟩
  have b3:((d:Int)==3)=false:=sO;have ak:=ua ((Zn (λq=>s q.1)).symm.trans af);by_cases z:d=4/\0<n
  .obtain⟨z,n0⟩:=z;have g:=ua ((Zp ⟨z,n0⟩).symm.trans ak);have U:((d:Int)==4)=true:=(by simp[z]);have n1:1<n:=oH J.1;have n0':(0:Int)<n:=oM;have n1':(1:Int)<n:=oM;have dn:decide ((n:Int) > 0)=true:=sO;have dn':decide ((0:Int)<n)=true:=sO;rcases A.o with q|⟨b,off,rfl,D,C⟩
   .omega
   have F:World.cell? _ (Ad b off)=_:=C 0 oM;have V:=C 1 oM;have H:=J.o.2 0 oM;have hw:=J.o.2 1 oM;obtain⟨x,I⟩:∃x:Nat,S 0=(x:Int):=⟨(S 0).toNat,by have:=H.1;omega⟩;obtain⟨y,hy⟩:∃y:Nat,S 1=(y:Int):=⟨(S 1).toNat,by have:=hw.1;omega⟩;have ai:x<=255:=oH H.2.1;have a0:y<=255:=oH hw.2.1;rw[I]at F;rw[hy]at V;rw[I,hy,Pj,Pj]at g;have lb:=ud F;have ax:=Z.o b D;clear C H hw I hy s z D;go_wp2_with fail;refine(yD t R j x ai wc f.o.1).mono ?_;rintro e Y ⟨rfl,o⟩;replace f:=ua (f.c o);replace V:=o.2.m ax V;replace A:=ua (A.b o.2 Z);have a7:=ud V;have az:=yk x (t.v j);generalize yT x (t.v j)=u at *;clear o;go_wp2_with fail;refine(yD t R _ y a0 Y f.1).mono ?_;rintro e w3 ⟨rfl,B⟩;replace f:=ua (f.c B);replace A:=ua (A.b B.2 Z);have a5:=yk y (t.v (t.n j));generalize yT y (t.v (t.n j))=v at *;clear B;go_wp2_with fail;refine(Q9 t R _ Q _ n c S J oM Z w3 A f.1).mono ?_;rintro e w4 ⟨rfl,h4⟩;replace f:=ua (f.c h4);have a6:=qA t S n (t.n (t.n j)) ((n-2) / 2);generalize Cw t S n (t.n (t.n j)) ((n-2) / 2)=r at *;clear h4;go_wp2;go_ret;exact⟨by rw[<-g.o];rfl,by rw[<-g.o];exact f⟩
  have g:=ua ((Zn z).symm.trans ak).symm;by_cases e4:d=4
  .have U:((d:Int)==4)=true:=(by simp[e4]);have n0:n=0:=oM;have dn:decide ((n:Int) > 0)=false:=sO;have nz:¬0<n:=oM;have nz':¬(0:Int)<n:=oM;clear z e4 n0 dn;go_wp2_with fail;refine(ab wc f A g).mono ?_;rintro e Y ⟨rfl,o⟩;have E:=ua o;clear o;go_wp2;go_ret;exact⟨rfl,E⟩
  have U:((d:Int)==4)=false:=sO;clear z e4;go_wp2_with fail;refine(ab wc f A g).mono ?_;rintro e Y ⟨rfl,o⟩;have E:=ua o;clear o;go_wp2;go_ret;exact⟨rfl,E⟩
def Nz{ops:Array Oper}{rest:List Oper}{o:Oper}{a:Act}{g:Exit->Act->World->Prop}{w0 W:Wl}(k:o.guard=none)(s x:Operand)(m:o.op=.call { callee:=.builtin .append,args:=#[s,x],argTypes:=#[22,22] }){z:LI}{v:Vl}{y:Int}
  (p:a.eval s=v) (q:a.eval x=Sl (Sm W.heap.size 0) 1 1) (i:Bk .u8 w0 z v W) (r:z.length<=16000000) (h:∀e c' c,Hid (Bk .u8 w0 (z++[y]) (Sl e (z.length+1) c') c)->wpList prog ops g rest (a.put o.dst (Sl e (z.length+1) c')) c) :
  wpList prog ops g (o::rest) a (W.alloc (Oc #[Bv y] 5)):=by
 refine jM k s x 22 22 m p q jF (i.1.on (λb j=>Jo j.2)) (qK W y) oM ?_;intro v5 c n l t;have f:=Bk.d i.2 zY n l;obtain⟨e,c',rfl⟩:=f.a;rw[zJ,Dd]at f ⊢;exact h e c' c f
def bL(t:ByteArray):List Int:=t.data.toList.map (λb=>(b.toNat:Int))
def EB t:(bL t).length=t.size:=by simp[bL]
def Ys k z:uO k (lf z) z.length=z.map (Value.int k):=by
 refine Oy λi=>?_;unfold uO;by_cases h:i<z.length
 .simp[lf,h]
 simp[h]
def P8 t:byteCells t=(bL t).map (Value.int .u8):=by simp[byteCells,bL]
def OD{ops:Array Oper}{rest:List Oper}{o:Oper}{a:Act}{i:Exit->Act->World->Prop}{w0 W:Wl}(r:o.guard=none)(s x:Operand)(y:o.op=.call { callee:=.builtin .append,args:=#[s,x],argTypes:=#[22,9] }){z:LI}{v:Vl}{t:ByteArray}
  (C:a.eval s=v) (E:a.eval x=.string t) (g:Bk .u8 w0 z v W) (N:0<t.size) (J:z.length+t.size<=16000000) (h:∀d c' c,Hid (Bk .u8 w0 (z++bL t) (Sl d (z.length+t.size) c') c)->wpList prog ops i rest (a.put o.dst (Sl d (z.length+t.size) c')) c) :
  wpList prog ops i (o::rest) a W:=by
 refine jM r s x 22 9 y C E jF g.1 (Src.ofString W underlying9 t) oM ?_;intro v5 c A w L;have j:(z++bL t).length=z.length+t.size:=by rw[zJ,EB]
 have I:=g.2.l;have f:Bk .u8 w0 (z++bL t) v5 c:=by
  refine⟨?_,yQ g.2 w (λb q=>q.1)⟩;rw[Ys,j,Dt,<-Ys,<-P8];rcases A with⟨m,n,p⟩|⟨b,cap,e,B,F,G,H,k⟩
  .exact .inl ⟨m,n,p⟩
  refine .inr ⟨b,cap,e,⟨B.elim (λq=>q.1) (λq=>oM),?_⟩,F,G,H,k⟩;let⟨u,D⟩:=Kc.1 (k 0 oM).1;exact ud D
 obtain⟨d,c',rfl⟩:=f.a;rw[j]at f ⊢;exact h d c' c f
def ED(z:LI)(w:Wl)(e:Ending)(w':Wl):Prop:=∃a c,e=Rt (Sl a z.length c)/\Bk .u8 w z (Sl a z.length c) w'
def P9(c:Int)(n:Nat)(w:Wl)(b a:Vl)(wr:Wl):Prop:=∃k:Nat,k<=n/\a=Iv (k:Int)/\Bk .u8 w (List.replicate k c) b wr
def EE(c:Int)(n:Nat)(q:n<=100000)w:Cs 16 #[Bv c,Iv (n:Int)] w (ED (List.replicate n c) w):=by
 go_enter func16,ntmps16;go_wp2;go_loopw [5,6] (λg b wr=>P9 c n w g b wr) (λg b _=>n-(intOf b).toNat)
 .exact⟨0,zK,rfl,Bk.nil Cc⟩
 obtain⟨k,o,rfl,f⟩:=hrel;obtain⟨a,i,rfl⟩:=f.a;have d:=ua f;rw[Ox]at *;by_cases p:k<n
 .have hlt':(k:Int)<(n:Int):=oM;go_wp2_with (at_builtin;refine Nz rfl _ _ rfl rfl rfl d.o sO ?_;intro l m j h);go_roundw
  .exact⟨k+1,oM,by go_num,by rw[List.replicate_succ'];have:=h.o;rw[Ox]at this;exact this⟩
  simp[intOf];omega
 obtain rfl:k=n:=oM;go_wp2;go_ret;exact⟨a,i,sM,by simpa using d.o⟩
def Oe(s:ByteArray)(m:Nat):Int:=if h:m<s.size then (s[m].toNat:Int) else 0
def EF{s m}(h:m<s.size):Oe s m=(s[m].toNat:Int):=dif_pos h
def EG{s}{m}:0<=Oe s m/\Oe s m<=255:=by
 unfold Oe;split
 .have:=UInt8.toNat_lt s[m];omega
 omega
def Tn(z:LI)(t:Tp)(R j:Nat)(w:Wl)(e:Ending)(w':Wl):Prop:=∃a c,e=Rt (Sl a z.length c)/\Ints (zF w w') .u8 w' a z.length (lf z)/\z.length<=c/\zE t R j w w'
def EH{z t R j w w1 w' a c}(f:zE t R j w w1)(e:Bk .u8 w1 z (Sl a z.length c) w'):Tn z t R j w (Rt (Sl a z.length c)) w' :=
 ⟨a,c,rfl,e.c.g (λb q=>⟨zP f.2.l q.1,q.2⟩),kC e.1,f.d e.2⟩
def Fp(k a:Nat)(c:Int)(S:Nat->Int):Nat->List Int
 |0=>[]
 |m+1=>Fp k a c S m++(if m=a then (if k=0 then [] else if k=2 then [c] else [c,S m]) else [S m])
def EI k a c S:∀m,(Fp k a c S m).length<=2*m
 |0=>zD
 |m+1=>by
  have:=EI k a c S m;rw[Fp,zJ];have:(if m=a then (if k=0 then [] else if k=2 then [c] else [c,S m]) else [S m]).length<=2:=by split;split;simp;split<;>simp;simp
  omega
def Hq:ByteArray:=⟨#[61,59,47,33,38,42,63,40,41,46,94,34,91,93,92,45,35,97,98,49,32,10]⟩
def Yt(t:Tp)(i n:Nat):Nat:=if n=0 then 0 else (t.v (t.n i)*256+1+t.v (t.n (t.n i)))%n
def Vz(t:Tp)(i n:Nat)(S:Nat->Int):List Int :=
 Fp (t.v i%5) (Yt t i n) (Oe Hq (t.v (t.n (t.n (t.n i)))%22)) S (if t.v i%5=1/\Yt t i n<n then Yt t i n else n)
def Q0(k a:Nat)(c:Int)(n:Nat)(S:Nat->Int)(w:Wl)(d b:Vl)(wr:Wl):Prop:=∃m:Nat,m<=n/\(k=1->a<n->m<=a)/\b=Iv (m:Int)/\Bk .u8 w (Fp k a c S m) d wr
def Q1 t R i Q a n cp S(hn:n<=5000000)(hR:∀b,Q b->b≠R)w(hS:Ints Q .u8 w a n S)(h:Ch t R w i) :
  Cs 60 #[Sl a n cp,.pointer (Sm R 0)] w (Tn (Vz t i n S) t R (t.n (t.n (t.n (t.n i)))) w):=by
 have v1:=t.a i;have v2:=t.a (t.n i);have v3:=t.a (t.n (t.n i));have v4:=t.a (t.n (t.n (t.n i)));let⟨z,p⟩:=nm (Vz t i n S);have B:=ua p;unfold Vz Yt at p;rw[B.o];have HS:=ua hS;have HR:=ua hR;clear hS hR;go_enter func60,ntmps60;go_wp2_with fail;refine(uE t R i w h).mono ?_;rintro e w1 ⟨rfl,I⟩;go_wp2_with fail;refine(uE t R _ w1 I.1).mono ?_;rintro e w2 ⟨rfl,J⟩;go_wp2_with fail;refine(uE t R _ w2 J.1).mono ?_;rintro e w3 ⟨rfl,N⟩;go_wp2_with fail;refine(uE t R _ w3 N.1).mono ?_;rintro e w4 ⟨rfl,h4⟩;have H:=ua (((I.c J).c N).c h4);have ab:=ua (HS.b H.2 HR);clear h I J N h4 B;generalize t.v i=k0 at *;generalize t.v (t.n i)=k1 at *;generalize t.v (t.n (t.n i))=k2 at *;generalize t.v (t.n (t.n (t.n i)))=k3 at *;let⟨k,hk⟩:=nm (k0%5);have hk':(k0:Int)%5=(k:Int):=oM;let⟨F,hm⟩:=nm (k3%22);have hm':(k3:Int)%22=(F:Int):=oM;rw[hk,hm]at p;have O:F<Hq.size:=by show F<22;omega
 rw[EF O]at p;have ad:Hq.size=22:=rfl;rw[show(({ data:=#[61,59,47,33,38,42,63,40,41,46,94,34,91,93,92,45,35,97,98,49,32,10] }:ByteArray))=Hq from rfl];go_upto_if 32 with fail;generalize (Hq[F]'O).toNat=l at *;let⟨f,A⟩:=nm (if n=0 then 0 else (k1*256+1+k2)%n);rw[A]at p;have B:=ua p;clear p;go_cut [9] (λv wc=>v=Iv f/\wc=w4)
 .by_cases Z:n=0
  .have h0':¬0<n:=oM;rw[Zp Z]at A;subst A;go_wp2;go_meet;exact⟨rfl,rfl⟩
  have h0':0<n:=oM;rw[Zn Z]at A;have e1:((k1:Int)*256+1+k2)%(n:Int)=(f:Int):=by rw[<-A];norm_cast
  have p:¬(n:Int)=0:=oM;go_wp2;go_meet;exact⟨by rw[<-e1],rfl⟩
 obtain⟨rfl,hw⟩:=hcut;subst hw;clear A hm' hm ad O hk hk';go_wp2;go_loopw [10,11] (λov P wr=>Q0 k f l n S wc ov P wr) (λov P _=>n-(intOf P).toNat)
 .exact⟨0,zK,λ_ _=>zK,rfl,Bk.nil Cc⟩
 obtain⟨m,af,o,rfl,C⟩:=hrel;have y:=ua C;obtain⟨oa,oc,rfl⟩:=C.a;have hl:=EI k f l S m;have d:=Fp.eq_2 k f l S m;have T:Hid (∀j,m=j->Fp k f l S m=Fp k f l S j):=λj e=>by rw[e]
 generalize Fp k f l S m=L at *;by_cases ae:m<n
 .have hlt':(m:Int)<(n:Int):=oM;rcases ab.o with q|⟨b,off,rfl,hq,hc⟩
  .omega
  have E:=hc m ae;have aa:=ua E;replace E:=ue E C.2.q;have lb:=ud E;clear hc C;by_cases g:m=f
  .have b1:((m:Int)==(f:Int))=true:=(by simp[g]);rw[Zp g]at d;by_cases u:k=0
   .have b2:((k:Int)==0)=true:=(by simp[u]);rw[Zp u,Dl]at d;have s:=ua d;have D:Hid (¬k=1):=(by show ¬_;omega);clear g u d o;go_wp2;go_roundw
    .exact⟨m+1,oM,λq=>aB q D,by go_num,by rw[s.o];exact y⟩
    simp[intOf];omega
   have b2:((k:Int)==0)=false:=sO;rw[Zn u]at d;by_cases r:k=1
   .have b3:((k:Int)==1)=true:=(by simp[r]);have G:Hid (L=z):=(by show _=_;rw[<-B.o,Zp ⟨r,oM⟩];exact T _ g);clear g u r d o;go_wp2;go_ret;exact G.o▸EH H.o y
   have b3:((k:Int)==1)=false:=sO;have D:=ua r;by_cases x:k=2
   .have b4:((k:Int)==2)=true:=(by simp[x]);rw[Zp x]at d;have s:=ua d;clear g u r x d o;go_wp2_with (at_builtin;refine Nz rfl _ _ rfl rfl rfl y.o oM ?_;intro V W U X);go_roundw
    .exact⟨m+1,oM,λq=>aB q D.o,by go_num,by rw[s.o];exact X.o⟩
    simp[intOf];omega
   have b4:((k:Int)==2)=false:=sO;rw[Zn x]at d;have s:Hid (Fp k f l S (m+1)=L++[(l:Int)]++[S m]):=(by show _=_;rw[Ce];exact d);clear g u r x d o;go_upto_if 65 with (at_builtin;refine Nz rfl _ _ rfl rfl rfl y.o oM ?_;intro V W U X;have c5:=ue aa X.2.q;have l5:=ud c5);have hX:(L++[(l:Int)]).length=L.length+1:=sM;go_wp2_with (at_builtin;refine Nz rfl _ _ rfl rfl rfl X.o oM ?_;intro Ya Yc W6 Y);go_roundw
   .exact⟨m+1,oM,λq=>aB q D.o,by go_num,by rw[s.o];have:=Y.o;rw[hX]at this;exact this⟩
   simp[intOf];omega
  have b1:((m:Int)==(f:Int))=false:=sO;rw[Zn g]at d;have s:=ua d;have ac:=ua o;have HA:=ua g;clear g d o;go_wp2_with (at_builtin;refine Nz rfl _ _ rfl rfl rfl y.o oM ?_;intro V W U X);go_roundw
  .exact⟨m+1,oM,λr x=>by have:=ac.o r x;have:=HA.o;omega,by go_num,by rw[s.o];exact X.o⟩
  simp[intOf];omega
 obtain rfl:m=n:=oM;have G:Hid (L=z):=by show _=_;rw[<-B.o,Zn (λq=>oH (o q.1 q.2))];exact T _ rfl
 clear C d o;go_wp2;go_ret;exact G.o▸EH H y
def W1 w z c n(b:c=(z.map (Value.int .u8)).toArray)(d:n=z.length)(e:0<n):Bk .u8 w z (Sl (Sm w.heap.size 0) n n) (Jt w c):=by
 subst d b;refine⟨.inr ⟨w.heap.size,z.length,rfl,⟨zD,by rw[OH];omega⟩,by rw[yH,Pb],zD,λj a=>?_,λj a=>?_⟩,Q5 _ _⟩
 .rw[OI,Ys];simp
 rw[Pb]at a;refine⟨?_,Q6 _ _ _ (by simpa using a)⟩;rw[OI];simp[a]
def Oi{ops:Array Oper}{rest o a b W}z{cs n}(f:o.guard=none)x(i:o.op=.convert 22 22 x)(j:a.eval x=Sl (Sm W.heap.size 0) n n)(d:cs=(z.map (Value.int .u8)).toArray)(g:n=z.length)(c:0<n)(h:∀W',Hid (Bk .u8 W z (Sl (Sm W.heap.size 0) n n) W')->wpList prog ops b rest (a.put o.dst (Sl (Sm W.heap.size 0) n n)) W'):wpList prog ops b (o::rest) a (W.alloc (Oc cs 5)) :=
 Q7 f x i j (λw' e=>h w' (e▸W1 W z cs n d g c))
def Zb{z y t R j w w1 w' a n c}(d:zE t R j w w1)(b:Bk .u8 w1 z (Sl a n c) w')(e:z=y):Tn y t R j w (Rt (Sl a n c)) w':=by
 subst e;let⟨f,c',q⟩:=b.a;injection q with q1 q2 q3;subst q1 q2 q3;exact EH d b
def Eg:Nat->List Int
 |0=>[]
 |k+1=>Eg k++bL (⟨#[114]⟩++⟨(xJ k).toArray⟩++⟨#[61,59]⟩)
def PW u:(⟨(xJ u).toArray⟩:ByteArray).size<=u+1:=Wg u
def FG:∀j,j<=101->(Eg j).length<=110*j
 |0,_=>zD
 |j+1,h=>by
  have a:=FG j oM;have b:=PW j;have c:(⟨#[114]⟩:ByteArray).size=1:=rfl;have d:(⟨#[61,59]⟩:ByteArray).size=2:=rfl;rw[Eg,zJ,EB];simp only[Dq];omega
def Ro(k d:Nat):List Int :=
 if k=0 then [115,32,61,32,46,59,35]++List.replicate (3992+d) 61
 else if k=1 then [115,32,61,32]++List.replicate (998+d) 47++[59]
 else if k=2 then Eg (99+d)
 else [115,32,61,32,94,110]++List.replicate (30+d) 48++bL ⟨#[32,59]⟩
def W2(w:Wl)(z:LI)(c:Int)(n:Nat)(a:Vl)(wr:Wl):Prop:=∃k:Nat,k<=n/\Bk .u8 w (z++List.replicate k c) a wr
def PY:Vl->Nat
 |.slice _ n _=>n
 |_=>0
def FH z(k:Nat)(c:Int):z++List.replicate k c++[c]=z++List.replicate (k+1) c:=by rw[List.replicate_succ',Ce]
def W7 t R i w(h:Ch t R w i):Cs 57 #[.pointer (Sm R 0)] w (Tn (Ro (t.v i%4) (t.v (t.n i)%3)) t R (t.n (t.n i)) w):=by
 have v1:=t.a i;have v2:=t.a (t.n i);go_enter func57,ntmps57;go_wp2_with fail;refine(uE t R i w h).mono ?_;rintro e w1 ⟨rfl,J⟩;go_wp2_with fail;refine(uE t R _ w1 J.1).mono ?_;rintro e u ⟨rfl,V⟩;have G:=ua (J.c V);clear h J V;generalize t.v i=P at *;generalize t.v (t.n i)=Q at *;let⟨k,E⟩:=nm (P%4);have hk':(P:Int)%4=(k:Int):=oM;let⟨d,D⟩:=nm (Q%3);have hd':(Q:Int)%3=(d:Int):=oM;have aa:d<=2:=oM;let⟨z,g⟩:=nm (Ro (P%4) (Q%3));have I:=ua g.symm;rw[E,D]at g;unfold Ro at g;by_cases s:k=0
 .have b0:((k:Int)==0)=true:=by simp[s]
  rw[Zp s]at g;have q:=ua g;clear g s E D;go_wp2_with (refine Oi [115,32,61,32,46,59,35] rfl _ rfl rfl rfl rfl oM ?_;intro S y);generalize (some (Ad u.heap.size 0):Oa)=T at *;go_loopw [5] (λm wr=>W2 u [115,32,61,32,46,59,35] 61 (3992+d) m wr) (λm _=>4000+d-PY m)
  .exact⟨0,zK,y.o⟩
  obtain⟨j,N,b⟩:=hrel;obtain⟨a,c,rfl⟩:=b.a;have l:([115,32,61,32,46,59,35]++List.replicate j (61:Int)).length=7+j:=sO;simp only[l]at b ⊢;have o:=ua b;have f:=ua l;clear l;clear b;by_cases O:j<3992+d
  .have r:((7+j:Nat):Int)<4000+((d:Int)-1):=oM;go_wp2_with (at_builtin;refine Nz rfl _ _ rfl rfl rfl o.o (by rw[f.o];omega) ?_;intro B C A X;rw[f.o,FH]at X;rw[f.o]);go_roundw
   .exact⟨j+1,oM,X.o⟩
   simp[PY];omega
  have r:¬((7+j:Nat):Int)<4000+((d:Int)-1):=oM;obtain rfl:j=3992+d:=oM;go_wp2;go_ret;exact Zb G o (q.trans I)
 have b0:((k:Int)==0)=false:=sO;rw[Zn s]at g;by_cases x:k=1
 .have b1:((k:Int)==1)=true:=by simp[x]
  rw[Zp x]at g;have q:=ua g;clear g s x E D;go_wp2_with (refine Oi [115,32,61,32] rfl _ rfl rfl rfl rfl oM ?_;intro S y);generalize (some (Ad u.heap.size 0):Oa)=T at *;go_loopw [6,7] (λm p wr=>(∃j:Nat,j<=998+d/\p=Iv ((0+j:Nat):Int)/\Bk .u8 u ([115,32,61,32]++List.replicate j 47) m wr)) (λm p _=>998+d+0-(intOf p).toNat)
  .exact⟨0,zK,rfl,y.o⟩
  obtain⟨j,N,rfl,b⟩:=hrel;obtain⟨a,c,rfl⟩:=b.a;have l:([115,32,61,32]++List.replicate j (47:Int)).length=4+j:=sO;simp only[l]at b ⊢;have o:=ua b;have f:=ua l;clear l b;by_cases O:j<998+d
  .have r:((0+j:Nat):Int)<999+((d:Int)-1):=oM;go_wp2_with (at_builtin;refine Nz rfl _ _ rfl rfl rfl o.o (by rw[f.o];omega) ?_;intro B C A X;rw[f.o,FH]at X;rw[f.o]);go_roundw
   .exact⟨j+1,oM,by first|rfl|(congr 1;omega),X.o⟩
   simp[intOf];omega
  have r:¬((0+j:Nat):Int)<999+((d:Int)-1):=oM;obtain rfl:j=998+d:=oM;go_wp2_with (at_builtin;refine Nz rfl _ _ rfl rfl rfl o.o (by rw[f.o];omega) ?_;intro B C A X;rw[f.o]at X;rw[f.o]);go_ret;exact Zb G X (q.trans I)
 have b1:((k:Int)==1)=false:=sO;rw[Zn x]at g;by_cases F:k=2
 .have b2:((k:Int)==2)=true:=by simp[F]
  rw[Zp F]at g;have q:=ua g;clear g s x F E D;go_wp2;simp only[hd'];clear hd' hk';go_loopw [8,9] (λm p wr=>(∃j:Nat,j<=99+d/\p=Iv j/\Bk .u8 u (Eg j) m wr)) (λm p _=>99+d-(intOf p).toNat)
  .exact⟨0,zK,rfl,Bk.nil Cc⟩
  obtain⟨j,N,rfl,b⟩:=hrel;obtain⟨a,c,rfl⟩:=b.a;have Z:=ua (Eg.eq_2 j);have l:=FG j oM;have Y:Hid (∀i,j=i->Eg j=Eg i):=λi e=>by rw[e]
  generalize Eg j=L at *;have o:=ua b;clear b;by_cases O:j<99+d
  .have r:(j:Int)<100+((d:Int)-1):=oM;go_wp2_with fail;refine(ET j oM wr).mono ?_;rintro e W ⟨rfl,hW⟩;subst hW;have hs:=PW j;generalize (⟨(xJ j).toArray⟩:ByteArray)=U at *;have H:Hid (((⟨#[114]⟩:ByteArray)++U++⟨#[61,59]⟩).size=U.size+3):=(by show _=_;simp only[Dq];show 1+_+2=_;omega);go_wp2_with (at_builtin;refine OD rfl _ _ rfl rfl rfl o (by rw[H.o];omega) (by rw[H.o];omega) ?_;intro B C A X;rw[H.o]at X;rw[H.o]);go_roundw
   .exact⟨j+1,oM,by go_num,by rw[Z.o];exact X⟩
   simp[intOf];omega
  have r:¬(j:Int)<100+((d:Int)-1):=oM;obtain rfl:j=99+d:=oM;go_wp2;go_ret;exact Zb G o ((Y _ rfl).trans (q.trans I))
 have b2:((k:Int)==2)=false:=sO;rw[Zn F]at g;have q:=ua g;clear g s x F E D;go_wp2_with (refine Oi [115,32,61,32,94,110] rfl _ rfl rfl rfl rfl oM ?_;intro S y);generalize (some (Ad u.heap.size 0):Oa)=T at *;go_loopw [10,11] (λm p wr=>(∃j:Nat,j<=30+d/\p=Iv ((1+j:Nat):Int)/\Bk .u8 u ([115,32,61,32,94,110]++List.replicate j 48) m wr)) (λm p _=>30+d+1-(intOf p).toNat)
 .exact⟨0,zK,rfl,y.o⟩
 obtain⟨j,N,rfl,b⟩:=hrel;obtain⟨a,c,rfl⟩:=b.a;have l:([115,32,61,32,94,110]++List.replicate j (48:Int)).length=6+j:=sO;simp only[l]at b ⊢;have o:=ua b;have f:=ua l;clear l b;by_cases O:j<30+d
 .have r:((1+j:Nat):Int)<32+((d:Int)-1):=oM;go_wp2_with (at_builtin;refine Nz rfl _ _ rfl rfl rfl o.o (by rw[f.o];omega) ?_;intro B C A X;rw[f.o,FH]at X;rw[f.o]);go_roundw
  .exact⟨j+1,oM,by first|rfl|(congr 1;omega),X.o⟩
  simp[intOf];omega
 have r:¬((1+j:Nat):Int)<32+((d:Int)-1):=oM;obtain rfl:j=30+d:=oM;go_wp2_with (at_builtin;refine OD rfl _ _ rfl rfl rfl o dC (by rw[f.o];show _+2<=_;omega) ?_;intro B C A X;rw[f.o]at X;rw[f.o]);go_ret;exact Zb G X (q.trans I)
section
open M (OpD ug Gr TX b1 grp b1_size)
def zG.b{w w' b R c}(h:zG w b c)(k:zA (λx=>x=R) w w')(e:b≠R):zG w' b c:=h.a (k.d b h.x.2.2 e)
def S3 n S:(Ih n S).size<=1200:=M.cP (OJ n S)
def S4 t{n S}(h:M.bH n S)i:(qB t n S i).1.size<=1250:=by
 have a:=M.cA h;have b:=yk (S 0).toNat (t.v (t.n i));have c:=yk (S 1).toNat (t.v (t.n (t.n i)));have d:=S3 n S;have e:=qA t S n (t.n (t.n (t.n i))) ((n-2) / 2);have f:=M.cP h;have g:(⟨#[91,94]⟩:ByteArray).size=2:=rfl;unfold qB;generalize Ih n S=u at *;split
 .simp only[Dq,b1_size];omega
 split
 .simp only[Dq,ByteArray.size_extract];omega
 split
 .simp only[Dq,b1_size];omega
 show(M.setT n S).size<=_;omega
def EO args w:(callFunc 67 args).run prog w=.ok (.enter 67 args) w:=by
 simp[callFunc,func67,f67,go_sem]
structure LM(Q:Np)(ra la:Oa)(g:Gr)(b off N H:Nat)(B:Nat->OpD)(w:Wl):Prop where
 e:∀i,i<N->Em Q w b (off+i*3) (B i)
 gr:Ca Q w ra la g
 sz:H<=w.heap.size
section
variable (t:Tp) (g:Gr) (N:Nat) (B:Nat->OpD)
def Lf(lo m i:Nat)(s:ByteArray)(j:Nat):Prop :=
 s.size<=1300*(m-lo)/\∀(R:Nat) (Q:Np) (ra la:Oa) (rc lc b off H:Nat),Q b->(∀b,Q b->b≠R/\b<H)->∀(l o c:Nat) (w:Wl),l+lo=m->o=off+lo*3->l<=c->LM Q ra la g b off N H B w->Ch t R w i ->
  Cs 67 #[.agg #[Sl ra g.nr rc,Sl la g.nb lc],Sl (Sm b o) l c,.pointer (Sm R 0)] w (Pr s t R j w)
def S5(lo m:Nat)(s:ByteArray):Prop :=
 ∀(Q:Np) (ra la:Oa) (rc lc b off H l o c:Nat) (w:Wl),l+lo=m->o=off+lo*3->l<=c->LM Q ra la g b off N H B w ->
  Cs 56 #[.agg #[Sl ra g.nr rc,Sl la g.nb lc],Sl (Sm b o) l c] w (xf s w)
def ON(lo q s:Nat)(i a b:Nat)(x y:ByteArray):Prop :=
 lo<s/\s<q/\M.dep B s+1=M.dep B q/\(∀j,s<j->j<=q->M.dep B q<=M.dep B j)/\Lf t g N B lo s i x a/\Lf t g N B s q a y b
inductive Kd(q lo i:Nat)(s0:ByteArray)(j0:Nat):Prop
 |set:(B q).e=1->(s0,j0)=qB t (B q).sl (B q).set i->Kd q lo i s0 j0
 |leaf:(B q).e≠1->(B q).e<4->S5 g N B lo (q+1) s0->j0=i->Kd q lo i s0 j0
 |star (s:ByteArray):(B q).e=6->lo<q->Lf t g N B lo q i s j0->s0=grp (decide (4<=(B (q-1)).e)) s++b1 42->Kd q lo i s0 j0
 |and (s:ByteArray):(B q).e=7->lo<q-1->(B (q-1)).e=7->Lf t g N B lo (q-1) i s j0->s0=b1 38++grp ((B (q-2)).e==4||(B (q-2)).e==5) s->Kd q lo i s0 j0
 |not (s:ByteArray):(B q).e=7->lo<q->(B (q-1)).e≠7->Lf t g N B lo q i s j0->s0=b1 33++grp ((B (q-1)).e==4||(B (q-1)).e==5) s->Kd q lo i s0 j0
 |bin (s jx jy:Nat) (x y:ByteArray):ON t g N B lo q s i jx jy x y ->
   ((B q).e=4/\s0=grp ((B (s-1)).e==5) x++Gm (t.v jy)++grp ((B (q-1)).e==5||(B (q-1)).e==4) y/\j0=t.n jy) \/
   ((B q).e=5/\(B (q-1)).e=0/\(B (s-1)).e<4/\s0=b1 40++x++⟨#[41,63]⟩/\j0=jy) \/
   ((B q).e=5/\¬((B (q-1)).e=0/\(B (s-1)).e<4)/\s0=x++Gm (t.v jy)++b1 47++grp ((B (q-1)).e==5) (if (y.toList == [34,34])=true then ⟨#[]⟩ else y)/\j0=t.n jy)->Kd q lo i s0 j0
end
variable {t:Tp} {R:Nat} {Q:Np} {ra la:Oa} {rc lc:Nat} {g:Gr} {b off N H:Nat} {B:Nat->OpD}
def LM.y{w w':Wl}(h:LM Q ra la g b off N H B w)(k:zA (λx=>x=R) w w')(d:Q b)(a:∀b,Q b->b≠R/\b<H):LM Q ra la g b off N H B w':=by
 have st:=k.r (λb q=>⟨by have:=a b q;have:=h.sz;omega,(a b q).1⟩);exact⟨λi f=>(h.e i f).on d st,⟨h.gr.c.on st,h.gr.e.on st⟩,zP h.sz k.l⟩
def Ts s c(b:s.size<=16000000):∃u,grp c s=u/\u.size<=s.size+2/\Hid (∀c',c'=c->∀W (P:Ew),(∀W',Hid (Kf W W')->P (Rt (.string u)) W')->Cs 117 #[.string s,.bool c'] W P) :=
 ⟨_,rfl,M.bP c s,λc' e W P h=>e▸(yL s c W b).mono λd W' q=>by obtain⟨rfl,a⟩:=q;exact h W' (yS a)⟩
def EP(k a b:Int):Hid (((k==a)=true/\true=(k==a||k==b))\/((k==a)=false/\(k==b)=(k==a||k==b))):=by
 show _\/_;cases k==a<;>simp
def We{lo m i j:Nat}{s:ByteArray}{f W:Wl}{ops:Array Oper}{p:Oper}{a:Act}{K:Act->World->Prop}{w:Exit->Act->World->Prop}{E:Prop}(rc lc l o c:Nat)(x:Lf t g N B lo m i s j)(u:Q b)(r:∀b,Q b->b≠R/\b<H)(F:l+lo=m)(G:o=off+lo*3)(C:l<=c)(z:LM Q ra la g b off N H B f)(A:zE t R i f W)(D:p.guard=none)(n:Array Operand)(v:Array TypeId)
  (J:p.op=.call { callee:=.value (.func 67),args:=n,argTypes:=v }) (L:n.map a.eval=#[.agg #[Sl ra g.nr rc,Sl la g.nb lc],Sl (Sm b o) l c,.pointer (Sm R 0)]) (h:∀W2,Hid (zE t R j f W2)->K (a.put p.dst (.string s)) W2) :
  if Region.wanted p (yielded ops a.tmps)=true then Oper.wp prog p a W.drew K w else E :=
 have k:=A.d (zA.i (λ_=>False) W)
 uF EO D n v J L ((x.2 R Q ra la rc lc b off H u r l o c W.drew F G C (z.y k.2 u r) k.1).mono λe W2 q=>by obtain⟨rfl,I⟩:=q;exact⟨_,rfl,h W2 (k.c I)⟩)
def S6(V:M.Sound g)(Y:∀i,i<N->M.bB g.nr g.nb (B i))(hN:N<=2000)(q lo i:Nat)(x:Unit)(hq:q+1<=N)(r:M.Fed B (q+1))(C:M.stk (λ_ _ _=>()) B (q+1)=(lo,x)::M.stk (λ_ _ _=>()) B lo)(ac:lo<q+1)
  (A:∀m,m<q+1->∀lo i (x:Unit),m<=N->M.Fed B m->M.stk (λ_ _ _=>()) B m=(lo,x)::M.stk (λ_ _ _=>()) B lo->∃s j,Lf t g N B lo m i s j) :
  ∃s j,s.size+2<=1300*(q+1-lo)/\Kd t g N B q lo i s j:=by
 have E:=Y q oM;have k0:=E.1;have k7:=E.2.1;have un:M.ar (B q).e=1->lo<q/\∃z,M.stk (λ_ _ _=>()) B q=(lo,z)::M.stk (λ_ _ _=>()) B lo:=λh=>by
  let⟨z,n,a,_⟩:=CE _ B q lo x r h C;exact⟨n,z,a⟩
 have bin:M.ar (B q).e=2->∃s k d x y,ON t g N B lo q s i k d x y:=λh=>by
  let⟨s,y,z,X,Z,aa,ab,hx,R,S⟩:=KT _ B q lo x r h C;let⟨sx,k,n⟩:=A s oM lo i z oM (r.h oM) ab;let⟨sy,d,a⟩:=A q oM s k y oM (r.h oM) aa;exact⟨s,k,d,sx,sy,X,Z,R,S,n,a⟩
 rcases(by omega:(B q).e=1\/((B q).e≠1/\(B q).e<4)\/(B q).e=6\/(B q).e=7\/(B q).e=4\/(B q).e=5) with e|e|e|e|e|e
 .exact⟨(qB t (B q).sl (B q).set i).1,(qB t (B q).sl (B q).set i).2,by have:=S4 t (E.2.2.1 e) i;omega,.set e rfl⟩
 .have I:M.ar (B q).e=0:=by unfold M.ar;rw[Zn oM,Zn oM]
  let⟨s,hs,U⟩:=A7 V (o:=B q) ⟨I,E⟩;have W:q=lo:=by rw[M.stk]at C;simp[M.stp,I]at C;exact C.1
  refine⟨s,i,oM,.leaf e.1 e.2 (λQ ra la rc lc b off H l o c w n a f D=>?_) rfl⟩;exact U Q ra la rc lc b o c l w (by show l=1;omega) (by show 1<=c;omega) (by rw[a,<-W];exact D.e q oM) D.gr
 .let⟨n,z,a⟩:=un (by simp[M.ar,e]);let⟨s,j,f⟩:=A q oM lo i z oM (r.h oM) a;refine⟨_,_,?_,.star s e n f rfl⟩;have:=M.bP (decide (4<=(B (q-1)).e)) s;have:=f.1;simp only[Dq,b1_size];omega
 .let⟨n,z,a⟩:=un (by simp[M.ar,e]);by_cases F:(B (q-1)).e=7
  .obtain⟨p,rfl⟩:∃p,q=p+1:=⟨q-1,oM⟩;let⟨z2,D,T,_⟩:=CE _ B p lo z (r.h oM) (by simp[M.ar,show(B p).e=7 from F]) a;let⟨s,j,f⟩:=A p oM lo i z2 oM (r.h oM) T;refine⟨_,_,?_,.and s e D F f rfl⟩;have:=M.bP ((B (p+1-2)).e==4||(B (p+1-2)).e==5) s;have:=f.1;simp only[Dq,b1_size];omega
  let⟨s,j,f⟩:=A q oM lo i z oM (r.h oM) a;refine⟨_,_,?_,.not s e n F f rfl⟩;have:=M.bP ((B (q-1)).e==4||(B (q-1)).e==5) s;have:=f.1;simp only[Dq,b1_size];omega
 .let⟨s,k,d,x,y,u⟩:=bin (by simp[M.ar,e]);refine⟨_,_,?_,.bin s k d x y u (.inl ⟨e,rfl,rfl⟩)⟩;have:=M.bP ((B (s-1)).e==5) x;have:=M.bP ((B (q-1)).e==5||(B (q-1)).e==4) y;have:=jU (t.v d);obtain⟨J,L,_,_,⟨O,_⟩,P,_⟩:=u;simp only[Dq];omega
 let⟨s,k,d,x,y,u⟩:=bin (by simp[M.ar,e]);by_cases G:(B (q-1)).e=0/\(B (s-1)).e<4
 .refine⟨_,_,?_,.bin s k d x y u (.inr (.inl ⟨e,G.1,G.2,rfl,rfl⟩))⟩;obtain⟨J,L,_,_,⟨O,_⟩,P,_⟩:=u;have:(⟨#[41,63]⟩:ByteArray).size=2:=rfl;simp only[Dq,b1_size];omega
 refine⟨_,_,?_,.bin s k d x y u (.inr (.inr ⟨e,G,rfl,rfl⟩))⟩;have:=M.bP ((B (q-1)).e==5) (if (y.toList == [34,34])=true then ⟨#[]⟩ else y);have:(if (y.toList == [34,34])=true then (⟨#[]⟩:ByteArray) else y).size<=y.size:=by split;exact zK;exact zD
 have:=jU (t.v d);obtain⟨J,L,_,_,⟨O,_⟩,P,_⟩:=u;simp only[Dq,b1_size];omega
def S7(Z:Q b)(hQ:∀b,Q b->b≠R/\b<H)(hN:N<=2000)(ap:∀i,i<N->M.bB g.nr g.nb (B i))(q lo i:Nat)(hq:q+1<=N)(s0:ByteArray)(j0:Nat)(aq:s0.size+2<=1300*(q+1-lo))(hk:Kd t g N B q lo (t.n i) s0 j0)
  (l o c:Nat) (w:Wl) (hl:l+lo=q+1) (bg:lo<q+1) (ho:o=off+lo*3) (hc:l<=c) (hM:LM Q ra la g b off N H B w) (hR:Ch t R w i) :
  Cs 67 #[.agg #[Sl ra g.nr rc,Sl la g.nb lc],Sl (Sm b o) l c,.pointer (Sm R 0)] w (Pr (if t.v i%14=1 then b1 40++s0++b1 41 else s0) t R j0 w):=by
 let⟨s1,ac⟩:=nm (if t.v i%14=1 then b1 40++s0++b1 41 else s0);rw[ac];have ag:=ua ac;clear ac;have hv:=t.a i;have bc:=hR.lt;obtain⟨n,rfl⟩:∃n,l=n+1:=⟨l-1,oM⟩;let⟨c0,⟨sa,sc,c1,au⟩,c2⟩:=hM.e q oM;rw[show off+q*3=o+n*3 by omega]at c0 c1 c2;have bd:=ud c0;have x2:((n+1:Nat):Int)-1=(n:Int):=oM;have x3:(n:Int)<((n+1:Nat):Int):=oM;have bi:n<=2000:=oM;have F:=ua hM;have HK:=ua hk;have az:=ua ap;have T:=ua hQ;have HS:=ua aq;have r:Hid (n+lo=q/\o=off+lo*3):=⟨oM,ho⟩;have K0:=ua (((zA.a (λ_=>False) w (Oc #[Sl ra g.nr rc,Sl la g.nb lc] 34))).c (Gh _ (Oc #[Iv (B q).e,Sl sa (B q).sl sc,Iv (B q).f] 185)));have BG:=ua ((um w #[Sl ra g.nr rc,Sl la g.nb lc] 34).al (Oc #[Iv (B q).e,Sl sa (B q).sl sc,Iv (B q).f] 185));have BO:=ua (uW (w.alloc (Oc #[Sl ra g.nr rc,Sl la g.nb lc] 34)) #[Iv (B q).e,Sl sa (B q).sl sc,Iv (B q).f] 185 (w.heap.size+1) sM);have ah:=ua au;clear hM hk ap hQ aq hl ho au;go_enter func67,ntmps67;go_upto_region 3 with fail;generalize (w.alloc (Oc #[Sl ra g.nr rc,Sl la g.nb lc] 34)).alloc _=W0 at *;go_wp2_with fail;refine(uE t R i W0 (hR.y K0 (λ_ e=>e.elim))).mono ?_;rintro e W1 ⟨rfl,D⟩;have C:Hid (zE t R (t.n i) w W1):=⟨D.1,(K0.h (λ_ e=>e.elim)).c D.2⟩;replace BG:=ua (BG.b D.2 oM);replace BO:=ua (BO.b D.2 oM);replace F:=ua (F.y C.2 Z T);replace ah:=ua (ah.b C.2 (λb q=>(T b q).1));clear D K0 c0 c1 c2 hR;let⟨z,p,lz⟩:=BG.x;let⟨yy,rr,ly⟩:=BO.x;have a9:w.heap.size≠R:=oM;have ba:w.heap.size+1≠R:=oM;have HR:=ua (zE.e C.1);generalize t.v i=k at *;generalize t.n i=i1 at *;let⟨d,hd⟩:=nm (k%14);have hd':(k:Int)%14=(d:Int):=oM;rw[hd]at ag;go_upto_if 32 with fail;simp only[hd'];clear hd hd' hv;go_cut [10] (λv wc=>v=.string s0/\zE t R j0 w wc)
 .have Y:=az q oM;have a2:=HK;clear HK;cases a2 with
  |set e A =>
   have f1:((B q).e==1)=true:=(by simp[e]);have V:=ua (Y.2.2.1 e);have I:=ua A;clear Y e A;go_wp2_with fail;refine(R7 t R i1 Q sa (B q).sl sc (B q).set V (λb q=>(T b q).1) W1 ah C.1).mono ?_;rintro e W2 ⟨rfl,D⟩;have J:=ua (C.c D);clear D;rw[<-I.o]at J ⊢;go_wp2;go_meet;exact⟨rfl,J⟩
  |leaf h1 h4 hT hj =>
   subst hj;have f1:((B q).e==1)=false:=(by simp[h1]);have HT:=ua hT;clear Y hT h1;go_wp2_with fail;refine(HT.o Q ra la rc lc b off H (n+1) o c W1 (oH r.o) r.o.2 hc F.o).mono ?_;rintro e W2 ⟨rfl,E⟩;have J:=ua (C.d (yS E));clear E;go_wp2;go_meet;exact⟨rfl,J⟩
  |star s e ao L A =>
   have f1:((B q).e==1)=false:=(by simp[e]);have f4:¬(B q).e<4:=oM;have f6:((B q).e==6)=true:=(by simp[e]);let⟨u,S,av,HG⟩:=Ts s (decide (4<=(B (q-1)).e)) (oH L.1);rw[S]at A;have V:=ua L;have I:=ua A;have z6:=uB n oM;have hcj':n<=c:=oM;have am:n<c:=oM;have an:¬c=0:=oM;have G:=(F.e (q-1) oM).e;obtain⟨m,hm⟩:∃m,n=m+1:=⟨n-1,by have:=r.o;omega⟩;rw[show off+(q-1)*3=o+m*3 by have:=r.o;omega]at G;have D0:=ua G;have x5:(n:Int)+1-2=(m:Int):=oM;have x6:(m:Int)<(n:Int)+1:=oM;have hz:=L.1;clear Y L e A G hm S;go_wp2_with fail;go_region_law (refine We rc lc n o c V.o Z T.o r.o.1 r.o.2 hcj' F.o HR.o rfl _ _ rfl (by simp[Act.eval]) λW2 J=>?_);have G:=J.o.2.m (T b Z).1 D0;have lb:=ud G;go_wp2_with fail;refine HG.o _ rfl W2 _ λW3 E=>?_;have X:=ua (C.o.c (J.o.d E.o));go_wp2;go_meet;exact⟨by rw[I.o];rfl,X⟩
  |and s e ao e7 L A =>
   have f1:((B q).e==1)=false:=(by simp[e]);have f4:¬(B q).e<4:=oM;have f6:((B q).e==6)=false:=(by simp[e]);have f7:((B q).e==7)=true:=(by simp[e]);have V:=ua L;have G:=(F.e (q-1) oM).e;have d1:=(F.e (q-2) oM).e;obtain⟨m,hm⟩:∃m,n=m+2:=⟨n-2,by have:=r.o;omega⟩;let⟨U,a5⟩:=nm (m+1);rw[show off+(q-1)*3=o+U*3 by have:=r.o;omega,e7]at G;rw[show off+(q-2)*3=o+m*3 by have:=r.o;omega]at d1;have z6:=uB U oM;have hcj':U<=c:=oM;have am:U<c:=oM;have an:¬c=0:=oM;have lb:=ud G;have x4:(2:Int)<(n:Int)+1:=oM;have x5:(n:Int)+1-2=(U:Int):=oM;have x6:(U:Int)<(n:Int)+1:=oM;have x7:(n:Int)+1-3=(m:Int):=oM;have x8:(m:Int)<(n:Int)+1:=oM;have hz:=L.1;let⟨u,S,av,HG⟩:=Ts s ((B (q-2)).e==4||(B (q-2)).e==5) oM;rw[S]at A;have af:=EP (B (q-2)).e 4 5;generalize (B (q-2)).e=P at *;have I:=ua A;have ay:Hid (U+lo=q-1):=(by show _=_;have:=r.o;omega);clear Y L e A e7 hm a5 S;go_wp2_with fail;go_region_law (refine We rc lc U o c V.o Z T.o ay.o r.o.2 hcj' F.o HR.o rfl _ _ rfl (by simp[Act.eval]) λW2 J=>?_);rcases af.o with⟨g4,O⟩|⟨g4,O⟩;all_goals
    have HP:=ua O;clear O;go_wp2_with fail;refine HG.o _ HP.o W2 _ λW3 E=>?_;have X:=ua (C.o.c (J.o.d E.o));go_wp2;go_meet;exact⟨by rw[I.o];rfl,X⟩
  |not s e ao e7 L A =>
   have f1:((B q).e==1)=false:=(by simp[e]);have f4:¬(B q).e<4:=oM;have f6:((B q).e==6)=false:=(by simp[e]);have f7:((B q).e==7)=true:=(by simp[e]);have V:=ua L;have z6:=uB n oM;have hcj':n<=c:=oM;have am:n<c:=oM;have an:¬c=0:=oM;have G:=(F.e (q-1) oM).e;obtain⟨m,hm⟩:∃m,n=m+1:=⟨n-1,by have:=r.o;omega⟩;rw[show off+(q-1)*3=o+m*3 by have:=r.o;omega]at G;have lb:=ud G;have x5:(n:Int)+1-2=(m:Int):=oM;have x6:(m:Int)<(n:Int)+1:=oM;have hz:=L.1;let⟨u,S,av,HG⟩:=Ts s ((B (q-1)).e==4||(B (q-1)).e==5) oM;rw[S]at A;have af:=EP (B (q-1)).e 4 5;generalize (B (q-1)).e=P at *;have g7:(P==7)=false:=(by simp[e7]);have I:=ua A;clear Y L e A e7 hm S;rcases(by omega:(2:Int)<(n:Int)+1\/¬(2:Int)<(n:Int)+1) with a6|a6;all_goals
    go_wp2_with fail;go_region_law (refine We rc lc n o c V.o Z T.o r.o.1 r.o.2 hcj' F.o HR.o rfl _ _ rfl (by simp[Act.eval]) λW2 J=>?_);rcases af.o with⟨g4,O⟩|⟨g4,O⟩;all_goals
     have HP:=ua O;clear O;go_wp2_with fail;refine HG.o _ HP.o W2 _ λW3 E=>?_;have X:=ua (C.o.c (J.o.d E.o));go_wp2;go_meet;exact⟨by rw[I.o];rfl,X⟩
  |bin s jx jy x y E hs =>
   have f1:((B q).e==1)=false:=by rcases hs with h|h|h<;>simp[h.1]
   have f4:¬(B q).e<4:=by rcases hs with h|h|h<;>simp[h.1]
   have f6:((B q).e==6)=false:=by rcases hs with h|h|h<;>simp[h.1]
   have f7:((B q).e==7)=false:=by rcases hs with h|h|h<;>simp[h.1]
   obtain⟨bh,bm,a1,ak,hX,hY⟩:=E;obtain⟨u,S⟩:∃u,s=lo+u+1:=⟨s-lo-1,oM⟩;let⟨p1,a7⟩:=nm (u+1);have bo:=hX.1;have bp:=hY.1;have HX:=ua hX;have HY:=ua hY;have G:=(F.e (q-1) oM).e;have d1:=(F.e (s-1) oM).e;obtain⟨m,hm⟩:∃m,n=m+1:=⟨n-1,by have:=r.o;omega⟩;rw[show off+(q-1)*3=o+m*3 by have:=r.o;omega]at G;rw[show off+(s-1)*3=o+u*3 by have:=r.o;omega]at d1;have HT:=ua (KK b o (n+1) c (λi=>B (lo+i)) W1 Q (λi hi=>by have:=F.o.e (lo+i) (by have:=r.o;omega);rwa [show off+(lo+i)*3=o+i*3 by have:=r.o;omega]at this) oM n p1 oM (oH r.o)
    (by rw[BX,BX,show lo+p1=s by omega,show lo+n=q by have:=r.o;omega];omega) (λj h1 h2=>by rw[BX,BX,show lo+n=q by have:=r.o;omega];have:=ak (lo+j) oM (oH r.o);omega))
   have bj:p1<n:=oH r.o;have hpn':(p1:Int)<(n:Int):=oM;have bk:(p1:Int)<=(n:Int):=oM;have bl:p1<=n:=oM;have z5:=uB p1 oM;have z6:=uB n oM;have a3:p1<=c:=oM;have be:n<=c:=oM;have bf:¬c=p1:=oM;have lb:=ud G;have x4:(p1:Int)-1=(u:Int):=oM;have x5:(n:Int)+1-2=(m:Int):=oM;have x6:(m:Int)<(n:Int)+1:=oM;have x8:(u:Int)<(n:Int)+1:=oM;generalize (B (q-1)).e=P at *;generalize (B (s-1)).e=kx at *;have HH:=ua hs;have ab:Hid (p1+lo=s/\n-p1+s=q/\o+p1*3=off+s*3/\n-p1<=c-p1):=(by have:=r.o;exact⟨oM,oM,oM,oM⟩);clear Y hX hY hs hm S a7 a1 ak;go_wp2_with fail;refine HT.mono ?_;rintro e W ⟨rfl,hw⟩;subst hw;go_wp2_with fail;go_region_law (refine We rc lc p1 o c HX.o Z T.o ab.o.1 r.o.2 a3 F.o HR.o rfl _ _ rfl (by simp[Act.eval]) λW2 aj=>?_);let⟨z2,p2,l2⟩:=(BG.o.b aj.o.2 a9).x;clear z p lz yy rr ly G d1 lb;go_wp2_with fail;go_region_law (refine We rc lc (n-p1) (o+p1*3) (c-p1) HY.o Z T.o ab.o.2.1 ab.o.2.2.1 ab.o.2.2.2 F.o aj.o rfl _ _ rfl (by simp[Act.eval]) λW3 ai=>?_);let⟨z3,p3,l3⟩:=(BO.o.b ai.o.2 ba).x;clear z2 p2 l2;replace C:=ua (C.o.c ai.o);have bb:=jU (t.v jy);have a4:=HH.o;clear HH ai;rcases a4 with⟨e4,A,ej⟩|⟨e5,e0,ek,A,ej⟩|⟨e5,e0,A,ej⟩
   .have f5:((B q).e==4)=true:=(by simp[e4]);let⟨ux,aw,ac,ax⟩:=Ts x (kx==5) oM;let⟨uy,aa,a8,ae⟩:=Ts y (P==5||P==4) oM;rw[aw,aa]at A;have I:=ua A;subst ej;clear A e4 aw aa;go_wp2_with fail;refine(EK t R jy W3 C.1).mono ?_;rintro e W4 ⟨rfl,D⟩;replace C:=ua (C.c D);clear D;generalize Gm (t.v jy)=gp at *;go_wp2_with fail;refine ax.o _ rfl W4 _ λW5 E=>?_;replace C:=ua (C.o.d E.o);rcases(EP P 5 4).o with⟨g4,O⟩|⟨g4,O⟩;all_goals
     have HP:=ua O;clear O;go_wp2_with fail;refine ae.o _ HP.o W5 _ λW6 E=>?_;have X:=ua (C.o.d E.o);go_wp2;go_meet;exact⟨by rw[I.o],X⟩
   .have f5:((B q).e==4)=false:=(by simp[e5]);have g0:(P==0)=true:=(by simp[e0]);subst ej;have I:=ua A;clear A e5 e0;go_wp2;go_meet;exact⟨by rw[I.o];rfl,C⟩
   have f5:((B q).e==4)=false:=(by simp[e5]);let⟨y',ad⟩:=nm (if (y.toList == [34,34])=true then (⟨#[]⟩:ByteArray) else y);rw[ad]at A;have bn:y'.size<=y.size:=(by rw[<-ad];split;exact zK;exact zD);let⟨uy,aa,a8,ae⟩:=Ts y' (P==5) oM;rw[aa]at A;have I:=ua A;have HY':=ua ad;subst ej;have h0:((P==0)=false\/(P==0)=true/\¬kx<4):=(by by_cases e:P=0;exact .inr ⟨by simp[e],oM⟩;exact .inl (by simp[e]));clear A e5 ad e0 aa;rcases h0 with g0|⟨g0,gx⟩;all_goals
    go_upto_if 181 with fail;go_cut [17] (λv wc=>v=.string y'/\wc=W3)
    .go_wp2;all_goals rename_i h
     all_goals go_meet
     all_goals exact⟨by rw[<-HY'.o,h];rfl,rfl⟩
    obtain⟨rfl,hw⟩:=hcut;subst hw;go_wp2_with fail;refine(EK t R jy _ C.1).mono ?_;rintro e W4 ⟨rfl,D⟩;replace C:=ua (C.c D);clear D;generalize Gm (t.v jy)=gp at *;go_wp2_with fail;refine ae.o _ rfl W4 _ λW5 E=>?_;replace C:=ua (C.o.d E.o);go_wp2;go_meet;exact⟨by rw[I.o];rfl,C.o⟩
 obtain⟨rfl,D⟩:=hcut;have J:=ua D;have hs:=HS.o;clear D;rcases(by by_cases e:d=1<;>simp[e]<;>omega:(((d:Int)==1)=true/\d=1)\/(((d:Int)==1)=false/\¬d=1)) with⟨b1,e⟩|⟨b1,e⟩;all_goals
  simp only[e,if_true,if_false]at ag;clear e;go_wp2;go_ret;exact⟨by rw[<-ag.o];rfl,J⟩
def S8(A:M.Sound g)(h:∀i,i<N->M.bB g.nr g.nb (B i))(d:N<=2000)(m:Nat):∀lo i (x:Unit),m<=N->M.Fed B m->M.stk (λ_ _ _=>()) B m=(lo,x)::M.stk (λ_ _ _=>()) B lo->∃s j,Lf t g N B lo m i s j:=by
 induction m using Nat.strongRecOn with
 |_ m I =>
  intro lo i x f a k;let⟨e,_,_⟩:=M.cC _ B m a lo x _ k;obtain⟨q,rfl⟩:∃q,m=q+1:=⟨m-1,oM⟩;let⟨s0,p,G,D⟩:=S6 A h d q lo (t.n i) x f a k e I;refine⟨if t.v i%14=1 then b1 40++s0++b1 41 else s0,p,?_,λR Q ra la rc lc b off H y u l o c w E F C r z=>S7 y u d h q lo i f s0 p G D l o c w E e F C r z⟩;split
  .simp only[Dq,b1_size];omega
  omega
end
namespace Y
open M (OpD ug Gr uw)
section
variable {A:Np} {il m n j k:Nat} {st:List Cf} {ka:Oa} {kc:Nat} {la:Oa} {ln lc:Nat} {xa:Oa} {xn xc:Nat} {w W W' Z:Wl} {a f t c l:Int} {p:Nat} {d:Bool} {P:Ew}
def uxM{ops:Array Oper}{rest:List Oper}{o:Oper}{f:Act}{g:Exit->Act->World->Prop}(r:o.guard=none)(s x:Operand)(u:o.op=.call { callee:=.builtin .append,args:=#[s,x],argTypes:=#[216,216] }){y:Vl}{fr:Cf}
  (z:f.eval s=Sl ka n kc) (B:f.eval x=y) (h:R A w j il m n st ka kc la ln lc xa xn Z) (t:n<1000) (q:fr.c<=il/\fr.a<=ln/\(fr.e=2\/fr.a=ln)) (C:Src prog 4 216 y 1 (Kx fr) Z)
  (k:∀a c W,R A w j il m (n+1) (st++[fr]) a c la ln lc xa xn W->zA (λb=>¬Bx A w j b) Z W->wpList prog ops g rest (f.put o.dst (Sl a (n+1) c)) W):wpList prog ops g (o::rest) f Z:=by
 refine wpList_plain r λK p=>?_;let⟨a,c,W,v,l,i⟩:=h.y.d o.type t q C;exact yO u z B v (p _ _ (k a c W (h.nx l i) i))
def uyp{ops:Array Oper}{rest:List Oper}{o:Oper}{d:Act}{e:Exit->Act->World->Prop}(p:o.guard=none)(s x:Operand)(r:o.op=.call { callee:=.builtin .append,args:=#[s,x],argTypes:=#[42,42] }){y:Vl}{us:List Value}
  (u:d.eval s=Sl la ln lc) (v:d.eval x=y) (h:R A w j il m n st ka kc la ln lc xa xn Z) (q:m<=100000) (z:Src prog 3 42 y 1 us Z)
  (k:∀a c W,R A w j il (m+1) n st ka kc a (ln+1) c xa xn W->zA (λb=>¬Bx A w j b) Z W->wpList prog ops e rest (d.put o.dst (Sl a (ln+1) c)) W):wpList prog ops e (o::rest) d Z:=by
 refine wpList_plain p λK l=>?_;let⟨a,c,W,t,i,g⟩:=h.y.f o.type q z;exact yO r u v t (l _ _ (k a c W (h.nx i g) g))
def cY(i:Nat)(b:Int)(h:SY A il m n st ka kc la ln lc xa xn w)(e:p<=il)(q:Bw w Z)(g:zG Z (w.heap.size+i) Fl)(r:Xz A w i il m k P):Cs 124 #[.agg (yv a p ka n kc la ln lc f xa xn xc k t d c l),Iv b] Z P :=
 let⟨h1,h2⟩:=R.d h q g r;dE b h1 e λW o j=>h2 _ _ _ _ _ _ _ _ _ _ _ _ _ _ _ _ _ _ e o j
def eF(i:Nat)(h:SY A il m n st ka kc la ln lc xa xn w)(e:p<=il)(g:Bw w Z)(b:zG Z (w.heap.size+i) Fl)(j:Xz A w i il m k P):Cs 178 #[.agg (yv a p ka n kc la ln lc f xa xn xc k t d c l)] Z P :=
 let⟨h1,h2⟩:=R.d h g b j;eG h1 e h2
def uwh(e o:Int)(g b:Nat)(mO:Int)(h:SY A il m n st ka kc la ln lc xa xn w)(s:p<=il)(I:g<=il/\b<=ln/\(e=2\/b=ln))(Q:mO<=1000)(J:Nx A il m k w P) :
  Cs 176 #[.agg (yv a p ka n kc la ln lc f xa xn xc k t d c l),.agg #[Iv e,Iv o,Iv (g:Int),Iv (b:Int)],Iv mO] w P:=by
 have G:=ua J;have H:=ua h;have L:=ua I;have S:=h.sl;clear h J I;unfold yv;by_cases T:mO<=(n:Int)
 .go_enter func176,ntmps176;go_wp2_with fail;refine cY 2 3 H s (Lk w _ _ _) (uW _ Fl 218 _ sM) λa p n f t d c l st ka kc la ln lc xa xn xc W s i r=>?_;have r:=r;let⟨y,q,O⟩:=r.x;have C:=ua i;clear i r;unfold Fl at y;unfold yv;go_wp2;refine zL (v:=.agg (yv a p ka n kc la ln lc f xa xn xc k t d c l)) ?_ rfl ?_
  .simp[results,f176,go_sem, *]
  refine R.l (j:=3) (st:=st) ?_ G s;repeat with_reducible first|exact C.o|refine Lz ?_ oM oM
 go_enter func176,ntmps176;go_wp2_with (at_builtin;refine uxM (fr:=⟨e,o,g,b⟩) (w:=w) (j:=3) rfl _ _ rfl rfl rfl ((R.c H (Lk w _ _ _) sM).q Bi) oM L (uvW ⟨e,o,g,b⟩ (w.heap.size+1+1+1) sM) ?_;intro N c' W4 i D;have C:=ua i;let⟨z,U,lz⟩:=(zG.own ((((um w _ 218).al _).al _).al _) D oM oM).x;let⟨y,q,O⟩:=(zG.own ((uW ((w.alloc _).alloc _) _ 218 (w.heap.size+1+1) sM).al _) D oM oM).x;clear i D);refine zL (v:=.agg (yv a p N (n+1) c' la ln lc f xa xn xc k t d c l)) ?_ rfl ?_
 .simp[results,f176,go_sem, *]
 refine R.l (j:=3) (st:=st++[⟨e,o,g,b⟩]) ?_ G s;repeat with_reducible first|exact C.o|refine Lz ?_ oM oM
def dD(i:Nat)(e j:Int)(g b:Nat)(mO:Int)(h:SY A il m n st ka kc la ln lc xa xn w)(s:p<=il)(q:g<=il/\b<=ln/\(e=2\/b=ln))(r:mO<=1000)(u:Bw w Z)(o:zG Z (w.heap.size+i) Fl)(v:Xz A w i il m k P) :
  Cs 176 #[.agg (yv a p ka n kc la ln lc f xa xn xc k t d c l),.agg #[Iv e,Iv j,Iv (g:Int),Iv (b:Int)],Iv mO] Z P :=
 let⟨h1,h2⟩:=R.d h u o v;uwh e j g b mO h1 s q r h2
def E0(A:Np)(w:Wl)(il m n:Nat)(st:List Cf)(a:Int)(p:Nat)(b:Oa)(e:Nat)(la:Oa)(ln lc k:Nat)(t:Int)(d:Bool)(c l:Int)(wc:Wl):Prop :=
 ∃f g h xc,zG wc w.heap.size (yv a p b n e la ln lc f g h xc k t d c l)/\R A w 2 il m n st b e la ln lc g h wc/\zG wc (w.heap.size+1) Fl/\Bw w wc
def uwi{Q Q':Np}{sa:Oa}{sn sc:Nat}{S:Nat->Int}{ia:Oa}{ic:Nat}{I:Nat->Int}(h:SY A il m n st ka kc la ln lc xa xn w)(hp:p<=il)(hS:Ints Q .i64 w sa sn S)(O:Ints Q' .u8 w ia il I)(hB:Cz il I)(ai:sn<=512)(ah:il<=1048576)(ha:0<=a/\a<=2000000)(ac:Nx A il m k w P) :
  Cs 175 #[.agg (yv a p ka n kc la ln lc f xa xn xc k t d c l),Sl sa sn sc,Sl ia il ic] w P:=by
 have HN:=ua ac;have H:=ua h;have HS:=ua hS;have HI:=ua O;have ae:=ua hB;clear h ac hS O hB;unfold yv;go_enter func175,ntmps175;go_upto_region 1 with fail;generalize T:(w.alloc _).alloc _=Y;have s:Hid (zG Y w.heap.size (yv a p ka n kc la ln lc f xa xn xc k t d c l)):=T▸(um w _ 218).al _;have F:Hid (zG Y (w.heap.size+1) Fl):=T▸uW _ Fl 218 _ sM;have b:Hid (Bw w Y):=T▸Bm w;have u:=ua (R.c (j:=2) H b F.x.2.2);let⟨z,X,lz⟩:=s.x;let⟨y,q2,ly⟩:=F.x;clear T;unfold yv at z;unfold Fl at y;go_cut [21] (λv wc=>(∃q:Bool,v=.bool q/\Hid (q=true->p<il))/\wc=Y)
 .by_cases V:p<il
  .rcases HI.o with h0|⟨ib,ak,rfl,hq,O⟩
   .omega
   have hi:=O p V;have C:=ae p V;generalize I p=x at hi C;replace hi:=ue hi b;have am:=ud hi;have hp':(p:Int)<(il:Int):=oM;clear O;go_wp2_with fail;refine(qj Q sa sn sc S x (HS.h b) oM).mono ?_;rintro e W ⟨rfl,T⟩;subst W;go_wp2;go_meet;exact⟨⟨_,rfl,λ_=>V⟩,rfl⟩
  have hp':¬(p:Int)<(il:Int):=oM;go_wp2;go_meet;exact⟨⟨_,rfl,λe=>by simp at e⟩,rfl⟩
 obtain⟨⟨af,rfl,hh⟩,hw⟩:=hcut;subst hw;cases af with
 |true =>
  have V:=hh rfl;go_wp2;refine zL (v:=.agg (yv (a+1) (p+1) ka n kc la ln lc f xa xn xc k t d c l)) ?_ rfl ?_
  .simp[results,f175,go_sem, *]
  refine R.l (j:=2) (st:=st) ?_ HN V;repeat with_reducible first|exact u.o|refine Lz ?_ oM oM
 |false =>
  go_wp2_with fail;refine eH u.y λq W1 U _=>?_;replace s:=ua (s.on U);replace F:=ua (F.on U);replace b:=ua (uf b U);replace u:=ua (u.q U);let⟨z,X,lz⟩:=s.x;let⟨y,q2,ly⟩:=F.x;clear U;unfold yv at z;unfold Fl at y;go_upto_if 33 with fail;go_cut [] (λwc=>E0 A w il m n st a p ka kc la ln lc k t d c l wc)
  .have DN:Hid (∀(W Z:Wl) (f:Int) (G:Oa) (L J:Nat) (S2:Nat->Int) (g:Av),Bw W Z->L<=512->Ints (zF W Z) .i64 Z G L S2->R A w 2 il m n st ka kc la ln lc xa xn W->zG W w.heap.size g->zG W (w.heap.size+1) Fl->Bw w W->g.setIfInBounds 5 (Sl G L J)=yv a p ka n kc la ln lc f G L J k t d c l->E0 A w il m n st a p ka kc la ln lc k t d c l (Z.setCell (Ad w.heap.size 5) (Sl G L J))):=λW Z f G L J S2 g C hl hx N h0 h1 hw he=>by
    have ag:R A w 2 il m n st ka kc la ln lc G L Z:=⟨N.y.t C hl hx,N.k.c (kA C),zP N.z C.size⟩;exact⟨f,G,L,J,he▸(h0.on C).set 5 _,ag.set _ _ _ zD oM,(h1.on C).i _ _ _ oM,uD (uf hw C) zD⟩
   cases q with
   |true =>
    go_wp2;go_meet;exact⟨f,xa,xn,xc,s,u,F,b⟩
   |false =>
    by_cases h1:f<(p:Int)
    .go_wp2_with fail;refine(jB Q (λ_=>False) sa none sn 0 sc 0 S (λ_=>0) (HS.h (uD b oM)) (.inl rfl) oM oM).mono ?_;rintro e W2 ⟨G,J,rfl,B⟩;have HT:=ua (DN _ _ p _ _ J _ _ B.q (Uu _ _) (Uw B) (u.set w.heap.size 4 (Iv p) zD oM) (s.set 4 (Iv p)) (F.i w.heap.size 4 (Iv p) oM) (uD b oM) rfl);let⟨z,X,lz⟩:=((s.set 4 (Iv p)).on B.q).x;clear B;go_wp2;go_meet;exact HT
    cases B:((p:Int)==f) with
    |true =>
     obtain⟨S3,ab⟩:∃S,Ints (λ_=>True) .i64 W1 xa xn S:=let⟨_,g⟩:=u.y.g;let⟨S,x⟩:=g.x;⟨S,x.g (λ_ _=>trivial)⟩
     have aj:=u.y.xl;go_wp2_with fail;refine(jB Q _ sa xa sn xn sc xc S S3 (HS.h b) ab oM oM).mono ?_;rintro e W2 ⟨G,J,rfl,B⟩;have HT:=ua (DN _ _ f _ _ J _ _ B.q (Uu _ _) (Uw B) u s F b rfl);let⟨z,X,lz⟩:=(s.on B.q).x;clear B ab;go_wp2;go_meet;exact HT
    |false =>
     go_wp2;go_meet;exact⟨f,xa,xn,xc,s,u,F,b⟩
  obtain⟨f,xa,xn,xc,b0,N,b1,C⟩:=hcut;have aa:=ua N;have ad:=ua b1;let⟨z,X,lz⟩:=b0.x;clear b0 N b1 C y q2 ly;unfold yv at z;go_wp2_with fail;refine eG aa.y hp λa p n f t d c l st ka kc la ln lc xa xn xc W hp hy hk=>?_;have HZ:=ua (aa.nx hy hk);let⟨y,q2,ly⟩:=(zG.own ad hk oM oM).x;clear hy hk z X lz;unfold Fl at y;unfold yv;go_wp2;refine zL (v:=.agg (yv a p ka n kc la ln lc f xa xn xc k t d c l)) ?_ rfl ?_
  .simp[results,f175,go_sem, *]
  refine R.l (j:=2) (st:=st) ?_ HN hp;repeat with_reducible first|exact HZ.o|refine Lz ?_ oM oM
def uwj{Q Q':Np}{sa:Oa}{sn sc:Nat}{S:Nat->Int}{b:Oa}{ic:Nat}{I:Nat->Int}(i:Nat)(h:SY A il m n st ka kc la ln lc xa xn w)(s:p<=il)(j:Ints Q .i64 Z sa sn S)(g:Ints Q' .u8 Z b il I)(e:Cz il I)(u:sn<=512)(r:il<=1048576)(o:0<=a/\a<=2000000)(v:Bw w Z)(q:zG Z (w.heap.size+i) Fl)(x:Xz A w i il m k P) :
  Cs 175 #[.agg (yv a p ka n kc la ln lc f xa xn xc k t d c l),Sl sa sn sc,Sl b il ic] Z P :=
 let⟨h1,h2⟩:=R.d h v q x;uwi h1 s j g e u r o h2
end
end Y
namespace Y
open M (OpD ug Gr uw)
variable {A:Np} {il m n j k:Nat} {st:List Cf} {ka:Oa} {kc:Nat} {la:Oa} {ln lc:Nat} {xa:Oa} {xn xc:Nat} {w W W' Z:Wl} {a f t c l:Int} {p:Nat} {d:Bool} {P:Ew}
def uyq{Q Q':Np}{sa:Oa}{sn sc:Nat}{S:Nat->Int}{ia:Oa}{ic:Nat}{I:Nat->Int}(kd ag T mO:Int)(h:SY A il m n st ka kc la ln lc xa xn w)(g:p<=il)(hm:m<=100000)(hS:Ints Q .i64 w sa sn S)(hI:Ints Q' .u8 w ia il I)(hB:Cz il I)(ae:sn<=512)(ad:il<=1048576)(ha:0<=a/\a<=2000000)(Z:mO<=1000)(aa:Nx A il (m+1) k w P) :
  Cs 125 #[.agg (yv a p ka n kc la ln lc f xa xn xc k t d c l),.agg #[Iv kd,Iv ag,Iv T,Sl sa sn sc],Sl ia il ic,Iv mO] w P:=by
 have V:=ua aa;have H0:=ua h;have H:=ua (h.up (Gx m));have HS:=ua hS;have HI:=ua hI;have ab:=ua hB;have hn:=h.sl;have ah:=h.lm;have af:=h.r;clear h aa hS hI hB;unfold yv;go_enter func125,ntmps125;go_upto_region 1 with fail;generalize J:((w.alloc _).alloc _).alloc _=G;have F:Hid (zG G w.heap.size (yv a p ka n kc la ln lc f xa xn xc k t d c l)):=J▸((um w _ 218).al _).al _;have U:Hid (zG G (w.heap.size+1) #[Iv kd,Iv ag,Iv T,Sl sa sn sc]):=J▸(uW _ _ 102 _ sM).al _;have D:Hid (zG G (w.heap.size+1+1) Fl):=J▸uW _ Fl 218 _ sM;have o:Hid (Bw w G):=J▸Lk w _ _ _;let⟨z4,p4,l4⟩:=F.x;let⟨z5,p5,l5⟩:=U.x;let⟨z8,p8,l8⟩:=D.x;unfold yv at z4;unfold Fl at z8;clear J;have E:(kd=9\/kd=10\/kd=11)\/kd=0\/kd=1\/kd=4\/kd=6\/kd=12\/¬(0<=kd/\kd<=12)\/kd=8\/kd=2\/kd=3\/kd=5\/kd=7:=oM;rcases E with h|rfl|rfl|rfl|rfl|rfl|h|rfl|rfl|rfl|rfl|rfl
 .have X:=ua (R.c (j:=3) H0 o l8);rcases h with rfl|rfl|rfl;all_goals
   go_wp2_with (at_builtin;refine uyp rfl _ _ rfl rfl rfl (X.q Bi) oM (uvV G _ ag (p:Int) _ rfl) ?_;intro a4 c4 W4 N E;have ac:=ua N;let⟨z,q,lz⟩:=(zG.own (F.al _) E oM oM).x;let⟨y,q8,ly⟩:=(zG.own (D.al _) E oM oM).x;unfold yv at z;unfold Fl at y;clear N E);refine zL (v:=.agg (yv (a+1) p ka n kc a4 (ln+1) c4 f xa xn xc k t d c l)) ?_ rfl ?_
   .simp[results,f125,go_sem, *]
   refine R.l (j:=3) (st:=st) ?_ V g;repeat with_reducible first|exact ac.o|refine Lz ?_ oM oM
 focus go_wp2_with fail
 refine uwj 2 H g (HS.h o) (HI.h o) ab ae ad ha ?_ ?_ ?_
 rotate_left 3
 iterate 2
  focus go_wp2_with fail
  refine dD 2 _ T p ln mO H g ⟨g,zD,.inr rfl⟩ Z ?_ ?_ ?_
  rotate_left 3
 focus go_wp2_with fail
 refine dD 2 2 _ 0 0 mO H g ⟨zK,zK,.inl rfl⟩ Z ?_ ?_ ?_
 rotate_left 3
 let⟨q1,hq⟩:=nm (n==0);have h0:((n:Int)==0)=q1:=by rw[<-hq];cases n<;>simp;omega
 clear hq;cases q1
 iterate 2
  focus go_wp2_with fail
  refine cY 2 _ H g ?_ ?_ ?_
  rotate_left 3
 have E:∀c:Int,0<=c->c<=12->(kd==c)=false:=λc h1 h2=>by simp;omega
 focus go_wp2_with fail
 refine cY 2 _ H g ?_ ?_ ?_
 rotate_left 3
 focus go_wp2_with fail
 refine eH (H.q o) ?_
 rotate_left
 iterate 4
  focus go_wp2_with fail
  refine uxN _ (H.q o) ?_
  rotate_left
 rotate_right 5
 iterate 5
  intro tb W1 L ht;replace F:=ua (F.on L);replace U:=ua (U.on L);replace D:=ua (D.on L);replace o:=ua (uf o L);let⟨z4,p4,l4⟩:=F.x;let⟨z5,p5,l5⟩:=U.x;let⟨z8,p8,l8⟩:=D.x;unfold yv at z4;unfold Fl at z8;clear L
  rotate_left
 rotate_right 5
 cases tb;by_cases hz:T<0
 focus go_wp2_with fail
 refine cY 2 _ H g ?_ ?_ ?_
 rotate_left 3
 focus go_wp2_with fail
 refine dD 2 2 _ 0 0 mO H g ⟨zK,zK,.inl rfl⟩ Z ?_ ?_ ?_
 rotate_left 3
 focus go_wp2_with fail
 refine eF 2 H g ?_ ?_ ?_
 rotate_left 3
 iterate 4
  cases tb
  focus go_wp2_with fail
  refine cY 2 _ H g ?_ ?_ ?_
  rotate_left 3
  obtain⟨i,rfl⟩:∃i,n=i+1:=⟨n-1,by have:=ht rfl;omega⟩;have HP:=ua (H.u (Gx i));have X:=ua (R.c (j:=3) HP o l8);obtain⟨b,fr,rfl,_,⟨c0,c1,c2,c3⟩,_⟩:=SY.fr (H.q o) (Iy i);have lb:=ud c0;have ai:(i:Int)<((i+1:Nat):Int):=oM;have e1:((i+1:Nat):Int)-1=(i:Int):=oM
  rotate_left
 rotate_right 16
 rotate_left 3
 .go_wp2;refine zL (v:=.agg (yv T p (Sm b 0) i kc la ln lc f xa xn xc k t d c l)) ?_ rfl ?_
  .simp[results,f125,go_sem, *]
  refine R.l (j:=3) (st:=st.take i) ?_ V g;repeat with_reducible first|exact X.o|refine Lz ?_ oM oM
 rotate_left 3
 focus go_wp2_with fail
 refine dD 2 fr.e fr.to p ln mO HP g ⟨g,zD,.inr rfl⟩ Z ?_ ?_ ?_
 rotate_left 3
 rotate_left 3
 focus go_wp2_with fail
 refine eF 2 HP g ?_ ?_ ?_
 rotate_left 3
 rotate_left 3
 .go_wp2;refine zL (v:=.agg (yv fr.to p (Sm b 0) i kc la ln lc f xa xn xc k t d c l)) ?_ rfl ?_
  .simp[results,f125,go_sem, *]
  refine R.l (j:=3) (st:=st.take i) ?_ V g;repeat with_reducible first|exact X.o|refine Lz ?_ oM oM
 all_goals try (repeat with_reducible first|exact o.o|refine uD ?_ oM|refine uf ?_ Bi);done
 all_goals try (repeat with_reducible first|exact D.o|refine zG.i ?_ _ _ _ oM|refine zG.al ?_ _);done
 all_goals
  intro a p n f t d c l st ka kc la ln lc xa xn xc W g N Y;have Y:=Y;let⟨y,q,ly⟩:=Y.x;have HZ:=ua N;clear N Y;unfold Fl at y;unfold yv;go_wp2;refine zL (v:=.agg (yv a p ka n kc la ln lc f xa xn xc k t d c l)) ?_ rfl ?_
  .simp[results,f125,go_sem, *]
  refine R.l (j:=3) (st:=st) ?_ V g;repeat with_reducible first|exact HZ.o|refine Lz ?_ oM oM
end Y
def Jz(L:List Cm)(i:Nat):Cm:=L.getD i ⟨0,0,0⟩
def Sw{L i}(h:i<L.length):Jz L i=L[i]:=by simp[Jz,h]
def Ir:List Cm->Int
 |[]=>0
 |e::l=>(if e.e=2 then -1 else 1)+Ir l
def Xw a b:Ir (a++b)=Ir a+Ir b:=by
 induction a with
 |nil=>simp[Ir]
 |cons e l c=>simp only[Fc,Ir,c];omega
def KX L:∀k,k<=L.length->Az (Jz L) k=Ir (L.take k)
 |0,_=>rfl
 |k+1,h=>by
  rw[Az,KX L k oM,List.take_succ_eq_append_getElem oM,Xw];unfold cls;rw[Sw oM];by_cases e:(L[k]' oM).e=2
  .simp[e,Ir];omega
  simp[e,Ir]
structure CI(nb p q:Nat)(L:List Cm):Prop where
 le:p<=q
 c:Ir L=0
 g:∀a b,L=a++b->0<=Ir a
 f:∀e,e∈L->0<=e.e/\e.e<=2/\(p:Int)<=e.c/\e.c<=q/\(e.e=1->0<=e.f/\e.f<nb)
 r:L.Pairwise λa b=>a.c<=b.c
def Nst.a{C p q L}(h:Nst C p q L):CI C p q L:=by
 induction h with
 |nil h=>exact⟨h,rfl,λa b e=>by rw[(List.append_eq_nil_iff.1 e.symm).1];exact Ft _,λe h=>(by cases h),.nil⟩
 |@one p q L k a _ F d =>
  have B:(if k=2 then (-1:Int) else 1)=1:=Zn oM;refine⟨d.le,by simp[Xw,Ir,d.c,B],λx y e=>?_,λe i=>?_,?_⟩
  .rcases x with _|⟨z,x⟩
   .exact Ft _
   obtain⟨rfl,E⟩:=List.cons.inj (show(⟨k,a,p⟩:Cm)::(L++[⟨2,0,q⟩])=z::(x++y) by simpa using e);show 0<=(if k=2 then (-1:Int) else 1)+Ir x;rw[B];rcases List.append_eq_append_iff.1 E with⟨s,l,n⟩|⟨c',l,n⟩
   .rw[l,Xw,d.c];rcases s with _|⟨I,s⟩
    .simp[Ir]
    obtain⟨rfl,D⟩:=List.cons.inj n;rw[(List.append_eq_nil_iff.1 D.symm).1];simp[Ir]
   have:=d.g x c' l;omega
  .have:=d.le;rcases By.1 i with i|i
   .rcases By.1 i with i|i
    .obtain rfl:=Bu.1 i;exact⟨by show 0<=k;omega,by show k<=2;omega,Ft _,by show(p:Int)<=q;omega,λe=>by have e:k=1:=e;exact(F.resolve_left oM).2⟩
    exact d.f e i
   obtain rfl:=Bu.1 i;exact⟨show(0:Int)<=2 by decide,show(2:Int)<=2 by decide,by show(p:Int)<=q;omega,Ft _,λe=>aB (show(2:Int)=1 from e) dC⟩
  refine Tc.2 ⟨Tc.2 ⟨List.pairwise_singleton _ _,d.r,λx j y o=>?_⟩,List.pairwise_singleton _ _,λx j y o=>?_⟩
  .obtain rfl:=Bu.1 j;exact(d.f y o).2.2.1
  obtain rfl:=Bu.1 o;rcases By.1 j with j|j
  .obtain rfl:=Bu.1 j;have:=d.le;show(p:Int)<=q;omega
  exact(d.f x j).2.2.2.1
 |@app p q r L M _ _ d m =>
  have G:=d.le;have H:=m.le;refine⟨oM,by rw[Xw,d.c,m.c];rfl,λx y e=>?_,λe i=>?_,Tc.2 ⟨d.r,m.r,λx j y o=>?_⟩⟩
  .rcases List.append_eq_append_iff.1 e with⟨s,l,n⟩|⟨c',l,n⟩
   .rw[l,Xw,d.c];have:=m.g s y n;omega
   exact d.g x c' l
  .rcases By.1 i with i|i
   .let⟨t,u,w,A,v⟩:=d.f e i;exact⟨t,u,w,oM,v⟩
   let⟨t,u,w,A,v⟩:=m.f e i;exact⟨t,u,oM,A,v⟩
  have:=(d.f x j).2.2.2.1;have:=(m.f y o).2.2.1;omega
def CI.d{i p q L}(h:CI i p q L):Sx (Jz L) L.length:=by
 refine⟨λj a=>?_,by rw[KX L _ zD,Pa];exact h.c⟩;let⟨b,e,k,_,_⟩:=h.f L[j] (Gi a);refine⟨by rw[Sw a];exact b,by rw[Sw a];exact e,by rw[Sw a];omega,λl=>?_,?_⟩
 .rw[Sw a,Sw oM];exact List.pairwise_iff_getElem.1 h.r _ _ oM a oM
 rw[KX L _ oM];exact h.g _ _ (List.take_append_drop _ _).symm
section
open M (OpD ug Gr)
def jz(L:List Cm):List Ka:=(ops (Jz L) L.length).map (Qr (Jz L) L.length)
def VH L:It (Jz L) L.length L.length=(jz L).flatMap Fi:=by unfold It jz;rw[List.flatMap_map]
def AQ L:(jz L).length=num (Jz L) L.length:=by unfold jz num;rw[Bl]
def Uj(fU mO:Int):Prop:=0<=fU/\fU<=50000/\0<=mO/\mO<=1000
def unK{t a g}(h:Kr t 0 a g):PV t g/\a=0:=by
 rcases h with⟨_,h,k⟩|h
 .exact⟨k,h⟩
 omega
def up7{g b}(h:Vp g 0 b):b=0:=by
 rcases h with⟨_,h,_⟩|h
 .exact h
 omega
def VI{x}(h:M.bD x\/M.bK x):0<=x/\x<=255:=by unfold M.bD M.bK at h;omega
def VJ{g}(h:M.Valid g):vS g:=by
 have m:=h.a;have f:∀{n:Nat} {B:Nat->OpD},n<=2000->(∀i,i<n->M.bB g.nr g.nb (B i))->xx n B:=λ{n B} r q=>⟨oM,λi b=>by
  let⟨_,_,o,p,_⟩:=q i b;by_cases k:(B i).e=1
  .have:=M.cA (o k);omega
  rw[p k];omega⟩
 have r2:=h.r2;have l2:=h.l2;refine⟨oM,oM,λi b=>⟨by have:=(h.rn i b).1;omega,λj c=>VI ((h.rn i b).2.1 j c),f (qN m b) (h.rb i b).1⟩,λi b=>⟨by have:=(h.ln i b).1;omega,λj c=>VI ((h.ln i b).2.1 j c),?_⟩⟩;cases l:(g.d i).j with
 |true=>exact f (Qg m b) (h.lb i b l).1
 |false=>rw[h.lz i b l];exact⟨oM,λi b=>oM⟩
section
variable {Q P:Np} {W:Wl}
def VK{g:Gr}{la:Oa}{j:Nat}(h:Dj Q W la g.nb g.d)(i:j<g.nb):∃b off na nc,la=some (Ad b off)/\W.cell? (Ad b (off+j*3))=some (Sl na (g.d j).nl nc)/\Ints Q .u8 W na (g.d j).nl (g.d j).f:=by
 rcases h with h|⟨b,off,rfl,_,h⟩
 .omega
 let⟨na,nc,a,e⟩:=(h j i).c.f;exact⟨b,off,na,nc,rfl,a,e⟩
def IN{na:Oa}{nc i:Nat}{L:List Ka}(h:zB P W (Sl na L.length nc) 5 L.length (L.flatMap Fi)){d:Ka}(a:L[i]?=some d):∃b,na=some (Ad b 0)/\P b/\∀j,j<5->W.cell? (Ad b (i*5+j))=(Fi d)[j]?:=by
 have q:=(Bz.1 a).1;rcases h with⟨_,n,_⟩|⟨g,cap,e,k,c,o,f,p⟩
 .omega
 refine⟨g,by injection e,k,λj s=>?_⟩;have t:=c;rw[f _ oM];have m:∀(L:List Ka) (i:Nat),L[i]?=some d->(L.flatMap Fi)[i*5+j]?=(Fi d)[j]?:=by
  intro L;induction L with
  |nil=>intro i h;simp at h
  |cons x r l =>
   intro i h;rw[Eu];cases i with
   |zero=>simp at h;subst h;rw[Gf,Bp,Es (by simp[Fi];omega)]
   |succ i=>rw[Fb (by simp[Fi];omega)];simp only[CN];rw[show(i+1)*5+j-5=i*5+j by omega];exact l i (by simpa using h)
 exact m L i a
end
def usJ{g p q:Nat}{a}(h:CI g p q a){d}{i:Nat}(k:(jz a)[i]?=some d)(b:d.e=1):0<=d.f/\d.f<g:=by
 obtain⟨j,l,rfl⟩:=Gj.1 (Cn k);have c:=(C9 _ l).1;have e:Jz a j=a[j]:=Sw c;have:=(h.f a[j] (Gi c)).2.2.2.2;unfold Qr at b ⊢;rw[e]at b ⊢;exact this b
end
section
def Bo(N n:Nat)(v:Vl)(W:Wl):Prop:=∃cs,zB (λb=>N<=b) W v 1 n cs/\∀u∈cs,u.oneCell'=true
def uaA(w0:Wl)(n:Nat)(v:Vl)(W:Wl):Prop:=Bo w0.heap.size n v W/\Kf w0 W
section
variable {w0 W W':Wl} {N n m:Nat} {v y:Vl} {tx:TypeId} {news:List Value}
def Bo.a(h:Bo N n v W):∃a c,v=Sl a n c:=let⟨_,h,_⟩:=h;uj h
def Bo.nil:Bo N 0 nS W:=⟨[],.inl ⟨rfl,rfl,rfl⟩,λ_ h=>by cases h⟩
def uaA.nil(k:Kf w0 W):uaA w0 0 nS W:=⟨.nil,k⟩
def Bo.on(h:Bo N n v W)(k:∀b,N<=b->b<W.heap.size->W'.heap[b]?=W.heap[b]?):Bo N n v W':=by
 obtain⟨cs,l,m⟩:=h;refine⟨cs,?_,m⟩;rcases l with h|⟨g,cap,e,i,p,q,r,f⟩
 .exact .inl h
 refine .inr ⟨g,cap,e,i,p,q,?_⟩;by_cases s:0<cap
 .let⟨u,o⟩:=Kc.1 (f 0 oM).1;have d:=k g i (ud o);exact⟨λj c=>(Bd (a:=(Ad g j)) d).trans (r j c),λj c=>by rw[Bd (a:=(Ad g j)) d];refine⟨(f j c).1,?_⟩;rw[<-(f j c).2];simp only[World.frozen?,d]⟩
 exact⟨λj c=>oM,λj c=>oM⟩
def uaA.on(h:uaA w0 n v W)(k:Kf W W'):uaA w0 n v W':=⟨h.1.on (λb _ a=>k.d b a id),h.2.c k⟩
def Bo.e{a:Oa}{c:Nat}(h:Bo N n (Sl a n c) W):∃cs,Src prog 1 22 (Sl a n c) n cs W:=let⟨cs,h1,h2⟩:=h;⟨cs,Wm underlying22 h1 h2⟩
def Bo.c(ty:TypeId)(h:Bo N n v W)(i:N<=W.heap.size)(d:Src prog 1 tx y m news W)(o:n+m<=1000000):∃a c W',(Builtin.append_ #[22,tx] ty #[v,y]).run prog W=.ok (Sl a (n+m) c) W'/\Bo N (n+m) (Sl a (n+m) c) W'/\zT (λb=>N<=b) W W':=by
 obtain⟨cs,f,g⟩:=h;let⟨r,W',j,e,l,p⟩:=yN ty jF f d oM;obtain⟨a,c,rfl⟩:=uj e;exact⟨a,c,W',j,⟨cs++news,uA e (λb q=>q.elim id (zP i)),λu k=>(By.1 k).elim (g u) (d.one u)⟩,l⟩
def Uk{ops:Array Oper}{rest:List Oper}{o:Oper}{a:Act}{f:Exit->Act->World->Prop}(p:o.guard=none)(s x:Operand)(t:o.op=.call { callee:=.builtin .append,args:=#[s,x],argTypes:=#[22,tx] })(w:a.eval s=v)(z:a.eval x=y)(e:uaA w0 n v W)(A:Src prog 1 tx y m news W)(r:n+m<=1000000)
  (h:∀d c' g,Hid (uaA w0 (n+m) (Sl d (n+m) c') g)->wpList prog ops f rest (a.put o.dst (Sl d (n+m) c')) g):wpList prog ops f (o::rest) a W:=by
 refine wpList_plain p λK k=>?_;let⟨d,c',W',u,i,j⟩:=e.1.c o.type e.2.l A r;exact yO t w z u (k _ _ (h d c' W' ⟨i,yQ e.2 j (λb q=>q)⟩))
def usK(s:ByteArray)(k:Kf w0 W):∃a c W',(convert 9 22 (.string s)).run prog W=.ok (Sl a s.size c) W'/\uaA w0 s.size (Sl a s.size c) W':=by
 have b:=Lib.bytesWorld_at_new W 5 s;have e:=grownCap_ge W s.size 0 5;have h:(Lib.bytesCells W 5 s).size=grownCap W s.size 0 5:=by
  simp only[Lib.bytesCells,Array.size_append,Array.size_map,Array.size_replicate];show s.size+_=_;omega
 refine⟨_,_,_,Vj (P:=prog) W 9 22 5 s underlying9 underlying22 underlying5,⟨(Lib.bytesCells W 5 s).toList.take s.size,.inr ⟨W.heap.size,_,rfl,k.l,?_,e,λj d=>?_,λj d=>⟨?_,?_⟩⟩,λu g=>?_⟩,k.c ⟨rfl,rfl,rfl,by rw[Vk];omega,λk f _=>Vm W 5 s k f⟩⟩
 .simp[h];omega
 .simp only[World.cell?,b];rw[List.getElem?_take_of_lt (by simp at d;omega)];simp
 .simp[World.cell?,b,show j<(Lib.bytesCells W 5 s).size by omega]
 .simp only[World.frozen?,b,Bool.and_eq_false_iff,decide_eq_false_iff_not];omega
 have:=Sz g;unfold Lib.bytesCells at this;simp at this;rcases this with⟨_,_,rfl⟩|⟨_,rfl⟩<;>rfl
end
section
variable {Q:Np} {w:Wl} {a:Oa} {n M p q:Nat} {T:Nat->Int}
def MvB(w:Wl)(e:Ending)(w':Wl):Prop:=(∃r,e=Rt (.bool r))/\w'=w
def MvI(w:Wl)(e:Ending)(w':Wl):Prop:=(∃x,e=Rt (Iv x))/\w'=w
def VL(lo a:Nat)(w:Wl)(e:Ending)(w':Wl):Prop:=(∃x:Nat,e=Rt (Iv x)/\lo<=x/\x<=a)/\w'=w
def Ints.c(h:Ints Q .u8 w a n T){i:Nat}(d:i<n):∃b off,a=some (Ad b off)/\∀i,i<n->w.cell? (Ad b (off+i))=some (Bv (T i)):=by
 rcases h with h|⟨b,off,e,_,h⟩
 .omega
 exact⟨b,off,e,h⟩
def uvs{m:Nat}(a:m=2\/m=3\/m=4)(v:Int):Cs 188 #[Iv v,Iv m] w (MvB w):=by
 by_cases b:2048<=v<;>by_cases M:v<55296<;>by_cases d:57343<v<;>by_cases e:65536<=v
 all_goals first|omega|skip
 all_goals rcases a with rfl|rfl|rfl
 all_goals
  go_enter func188,ntmps188;go_wp2;go_ret;exact⟨⟨_,rfl⟩,rfl⟩
def ux9(m:Nat)(u i:Vl):Prop:=∃(k:Nat) (x:Int),k+1<=m/\i=Iv (k+1:Nat)/\u=Iv x/\0<=x/\(k=0/\x<=63\/k=1/\x<=4095\/k=2/\x<=262143\/k=3/\x<=16777215)
def usL{m:Nat}(o:m=2\/m=3\/m=4)(j:Ints Q .u8 w a n T)(l:Cz n T)(L:n<=4000)(f:p<n) :
  Cs 187 #[Sl a n M,Iv p,Iv m] w (MvI w):=by
 obtain⟨b,off,rfl,e⟩:=j.c f;have B:=e p f;let⟨s,b1⟩:=l p f;by_cases N:n<p+m
 .have hs':(n:Int)<(p:Int)+(m:Int):=oM;go_enter func187,ntmps187;go_wp2;go_ret;exact⟨⟨_,rfl⟩,rfl⟩
 have hs':¬(n:Int)<(p:Int)+(m:Int):=oM;have r:=ua e;clear j e;let⟨t,e⟩:=nm (T p);rw[e]at B s b1;clear e;have U:2<=m/\m<=4:=oM;have cs:((m:Int)==2)=true/\((m:Int)==3)=false/\((m:Int)==4)=false\/((m:Int)==2)=false/\((m:Int)==3)=true/\((m:Int)==4)=false\/((m:Int)==2)=false/\((m:Int)==3)=false/\((m:Int)==4)=true:=by
  rcases o with rfl|rfl|rfl<;>simp
 clear o;let⟨v,G⟩:=nm (t / 32==6);let⟨z,H⟩:=nm (t / 16==14);let⟨A,I⟩:=nm (t / 8==30);have O:¬(t%32<0):=oM;have P:¬(t%16<0):=oM;have R:¬(t%8<0):=oM;rcases cs with⟨g,h,g4⟩|⟨g,h,g4⟩|⟨g,h,g4⟩
 case' neg.inl=>cases v
 case' neg.inr.inl=>cases z
 case' neg.inr.inr=>cases A
 all_goals
  go_enter func187,ntmps187;first
  |(go_wp2;go_ret;exact⟨⟨_,rfl⟩,rfl⟩)
  |skip
 all_goals
  go_wp2;go_loop [8,9] (λu i=>ux9 m u i) (λ_ i=>5-(intOf i).toNat)
  .exact⟨0,_,oM,rfl,rfl,oM,oM⟩
  obtain⟨k,x,J,rfl,rfl,V,S⟩:=hrel;by_cases D:k+1<m
  .have hlt':((k+1:Nat):Int)<(m:Int):=oM;have C:=r.o (p+(k+1)) oM;let⟨E,y1⟩:=l (p+(k+1)) oM;let⟨y,q⟩:=nm (T (p+(k+1)));rw[q]at C E y1;clear q;let⟨d,F⟩:=nm (y / 64 != 2);cases d
   .go_wp2;go_round
    .exact⟨k+1,_,D,by go_num,rfl,oM,oM⟩
    simp[intOf];omega
   go_wp2;go_ret;exact⟨⟨_,rfl⟩,rfl⟩
  have hlt':¬(((k+1:Nat):Int)<(m:Int)):=oM;go_wp2;go_ret;exact⟨⟨_,rfl⟩,rfl⟩
def VM(i:Vl):Prop:=∃m:Nat,2<=m/\m<=5/\i=Iv (m:Int)
def uvt(d:Ints Q .u8 w a n T)(f:Cz n T)(j:n<=4000)(k:p<n):Cs 137 #[Sl a n M,Iv p] w (VL 1 4 w):=by
 have r:decide (n<=p)=false:=sO;have s:decide ((p:Int)<0)=false:=sM;go_enter func137,ntmps137;go_wp2;go_loop [5] (λi=>VM i) (λi=>6-(intOf i).toNat)
 .exact⟨2,oM,oM,rfl⟩
 obtain⟨m,o,q,rfl⟩:=hrel;by_cases h:m<=4
 rotate_left
 .have hm':¬(m:Int)<=4:=oM;go_wp2;go_ret;exact⟨⟨1,rfl,oM,oM⟩,rfl⟩
 have hm':(m:Int)<=4:=oM;have b:Hid (VM (Iv ((m:Int)+1))):=⟨m+1,oM,oM,by go_num⟩;go_wp2_with fail;refine(usL oM d f j k).mono ?_;rintro e w' ⟨⟨u,rfl⟩,rfl⟩;by_cases l:0<=u
 .go_wp2_with fail;refine(uvs oM u).mono ?_;rintro e w' ⟨⟨g,rfl⟩,rfl⟩;cases g
  .go_wp2;go_round
   .exact b.o
   simp[intOf];omega
  go_wp2;go_ret;exact⟨⟨m,rfl,oM,h⟩,rfl⟩
 go_wp2;go_round
 .exact b.o
 simp[intOf];omega
def uya(q:Nat)(s i:Vl):Prop:=∃k f:Nat,k<=q/\i=Iv k/\s=Iv f/\f<=k
def VN(g:Ints Q .u8 w a n T)(j:Cz n T)(r:n<=4000)(t:q<=n):Cs 83 #[Sl a n M,Iv q] w (VL 0 q w):=by
 go_enter func83,ntmps83;go_wp2;go_loop [5,6] (λs i=>uya q s i) (λ_ i=>q-(intOf i).toNat)
 .exact⟨0,0,zK,rfl,rfl,zD⟩
 obtain⟨k,f,o,rfl,rfl,h⟩:=hrel;by_cases p:k<q
 .obtain⟨b,off,rfl,e⟩:=g.c (i:=k) oM;have l:=e k oM;let⟨d,m⟩:=nm (T k==10);clear e;cases d
  .go_wp2;go_round
   .exact⟨k+1,f,oM,by go_num,rfl,oM⟩
   simp[intOf];omega
  go_wp2;go_round
  .exact⟨k+1,k+1,oM,by go_num,by go_num,oM⟩
  simp[intOf];omega
 obtain rfl:k=q:=oM;go_wp2;go_ret;exact⟨⟨f,rfl,oM,h⟩,rfl⟩
def LcT(q:Nat)(w:Wl)(e:Ending)(w':Wl):Prop:=(∃L C:Nat,e=Rt (.tuple #[Iv L,Iv C])/\1<=L/\L<=q+1/\1<=C/\C<=q+5)/\w'=w
def uyb(q:Nat)(s i:Vl):Prop:=∃k f:Nat,k<=q/\i=Iv k/\s=Iv f/\1<=f/\f<=k+1
def uyc(q:Nat)(s i:Vl):Prop:=∃k f:Nat,k<=q+4/\i=Iv k/\s=Iv f/\1<=f/\f<=k+1
def unL(g:Ints Q .u8 w a n T)(h:Cz n T)(j:n<=4000)(t:q<=n):Cs 81 #[Sl a n M,Iv q] w (LcT q w):=by
 have E:decide ((q:Int)<0)=false:=sM;have F:decide (n<q)=false:=sO;go_enter func81,ntmps81;go_wp2;go_loop [6,7] (λs i=>uyb q s i) (λ_ i=>q-(intOf i).toNat)
 .exact⟨0,1,zK,rfl,rfl,oM,oM⟩
 obtain⟨k,L,A,rfl,rfl,o,p⟩:=hrel;by_cases B:k<q
 .obtain⟨b,off,rfl,l⟩:=g.c (i:=k) oM;have v:=l k oM;let⟨d,x⟩:=nm (T k==10);clear l;cases d
  .go_wp2;go_round
   .exact⟨k+1,L,oM,by go_num,rfl,oM,oM⟩
   simp[intOf];omega
  go_wp2;go_round
  .exact⟨k+1,L+1,oM,by go_num,by go_num,oM,oM⟩
  simp[intOf];omega
 obtain rfl:k=q:=oM;go_wp2_with fail;refine(VN g h j t).mono ?_;rintro e w' ⟨⟨f,rfl,_,y⟩,rfl⟩;go_wp2_with fail;go_loop [8,9] (λs i=>uyc k s i) (λ_ i=>k+5-(intOf i).toNat)
 .exact⟨f,1,oM,rfl,rfl,oM,oM⟩
 obtain⟨i,C,z,rfl,rfl,m,u⟩:=hrel;by_cases D:i<k
 .go_wp2_with (go_at_call 137;refine(uvt g h j oM).mono ?_;rintro e w' ⟨⟨r,rfl,r1,r2⟩,rfl⟩);go_round
  .exact⟨i+r,C+1,oM,by go_num,by go_num,oM,oM⟩
  simp[intOf];omega
 go_wp2;go_ret2;exact⟨⟨L,C,rfl,o,p,m,oM⟩,rfl⟩
def unM(f:n<=4000)(q:Int)(g:q<0\/(n:Int)<q):Cs 81 #[Sl a n M,Iv q] w λe w'=>e=Rt (.tuple #[Iv 0,Iv 0])/\w'=w:=by
 by_cases b:q<0;all_goals
  try have d:(n:Int)<q:=oM
  go_enter func81,ntmps81;go_wp2;go_ret2;exact⟨rfl,rfl⟩
def uw0(h:Ints Q .u8 w a n T):Src prog 1 22 (Sl a n M) n (uO .u8 T n) w:=by
 rcases h with rfl|⟨b,off,rfl,_,h⟩
 .cases a with
  |none=>exact Src.ofNil w underlying22 M
  |some x=>exact Src.ofSlice w underlying22 x 0 M [] rfl (λj u d=>by simp at d) (λu d=>by cases d)
 refine Src.ofSlice w underlying22 (Ad b off) n M _ (by rw[yH];omega) (λj u d=>?_) (λu d=>?_)
 .have g:j<n:=by have:=(Bz.1 d).1;rwa [yH]at this
  have e:((Ad b off):Addr).add j=(Ad b (off+j)):=by
   by_cases f:j=0
   .subst f;simp[Addr.add]
   simp[Addr.add,f]
  rw[e,h j g,<-d];simp[uO,g]
 unfold uO at d;obtain⟨z,_,rfl⟩:=Gj.1 d;rfl
def uyd(w:Wl)(e:Ending)(w':Wl):Prop:=∃a n M,e=Rt (Sl a n M)/\n<=20000/\uaA w n (Sl a n M) w'
def AR(w:Wl)(lo d z:Nat)(v i:Vl)(wr:Wl):Prop:=∃(j k:Nat) (a:Oa) (M:Nat),i=Iv (j:Nat)/\lo<=j/\j<=d/\v=Sl a k M/\k<=z+j/\uaA w k (Sl a k M) wr
def IP{Q':Np}{ma:Oa}{m mc:Nat}{M':Nat->Int}(A:Ints Q .u8 w a n T)(R:Cz n T)(B:n<=4000)(q:Int)(hM:Ints Q' .u8 w ma m M')(hm:m<=2000):Cs 29 #[Sl a n M,Iv q,Sl ma m mc] w (uyd w):=by
 by_cases X:q<0\/(n:Int)<q
 .go_enter func29,ntmps29;go_wp2_with fail;refine(unM B q X).mono ?_;rintro e w1 ⟨rfl,rfl⟩;go_wp2;go_ret;exact⟨_,_,_,rfl,oM,uaA.nil Cc⟩
 obtain⟨p,rfl⟩:=Rb (show 0<=q by omega);have D:p<=n:=oM;clear X;go_enter func29,ntmps29;go_wp2_with fail;refine(unL A R B D).mono ?_;rintro e w1 ⟨⟨L,C,rfl,ad,hL,aa,hC⟩,E⟩;subst w1;have d0:((L:Int)==0)=false:=sO;have u:=ET L oM;have z:=ET C oM;let⟨x,F⟩:=nm (⟨(xJ L).toArray⟩:ByteArray);let⟨y,G⟩:=nm (⟨(xJ C).toArray⟩:ByteArray);have sx:x.size<=4010:=by rw[<-F];show(xJ L).length<=_;have:=Wg L;omega
 have sy:y.size<=4010:=by rw[<-G];show(xJ C).length<=_;have:=Wg C;omega
 let⟨a0,c0,w0,S,l⟩:=usK (W:=w) (x++⟨#[58]⟩++y++⟨#[58,32]⟩) Cc;have hz:(x++⟨#[58]⟩++y++⟨#[58,32]⟩).size=x.size+1+y.size+2:=by simp[Dq];rfl
 rw[hz]at l S;rw[F]at u;rw[G]at z;clear F G hz;go_wp2_with fail;refine(u _).mono ?_;rintro e w' ⟨rfl,E⟩;subst w';go_wp2_with fail;refine(z _).mono ?_;rintro e w' ⟨rfl,E⟩;subst w';go_wp2_with (first
  |(at_builtin;refine Uk rfl (.tmp 28) (.tmp 29) rfl rfl rfl l (uw0 (hM.m l.2 (λ_ _ e=>e))) oM ?_;intro a1 c1 w1 H)
  |(at_builtin;refine Uk rfl (.tmp 31) (.tmp 32) rfl rfl rfl (H.o.on zY) (qK _ 10) oM ?_;intro J O w2 o)
  |(go_at_call 83;refine(VN (A.m o.o.2 (λ_ _ e=>e)) R B D).mono ?_;rintro e w' ⟨⟨f,rfl,_,hf⟩,E⟩;subst w'))
 let⟨k,U⟩:=nm (x.size+1+y.size+2+m+1);rw[U]at o ⊢;have ae:k<=10030:=oM;have O2':Hid (AR w 0 n 11000 (Sl J k O) (Iv f) w2):=⟨f,k,J,O,rfl,oM,oM,rfl,oM,o.o⟩;clear u z l S H U;go_loopw [9,10] (λv i wr=>AR w 0 n 11000 v i wr) (λ_ i _=>n+1-(intOf i).toNat)
 .exact O2'.o
 obtain⟨j,k,aj,cj,rfl,j0,hj,rfl,ab,g⟩:=hrel;have h:=ua g;clear o O2';by_cases V:j<n
 rotate_left
 have hlt':¬(j:Int)<n:=oM;clear g
 rotate_left
 have hlt':(j:Int)<n:=oM;obtain⟨b,off,rfl,Y⟩:=(A.m g.2 (λ_ _ e=>e)).c V;have hc:=Y j V;let⟨t,Z⟩:=nm (T j);rw[Z]at hc;let⟨d,hd⟩:=nm (t != 10);clear Y Z g;cases d
 rotate_left
 .go_wp2_with (at_builtin;refine Uk rfl (.tmp 50) (.tmp 55) rfl rfl rfl (h.o.on zY) (qK _ t) oM ?_;intro s c' w' r);go_roundw
  .exact⟨j+1,k+1,s,c',by go_num,oM,oM,rfl,oM,r.o⟩
  simp[intOf];omega
 all_goals
   go_wp2_with (at_builtin;refine Uk rfl (.tmp 57) (.tmp 58) rfl rfl rfl (h.o.on zY) (qK _ 10) oM ?_;intro N P w4 I);have O4':Hid (AR w 1 C 15001 (Sl N (k+1) P) (Iv 1) w4):=⟨1,k+1,N,P,rfl,oM,aa,rfl,oM,I.o⟩;go_loopw [9,11] (λv i wr=>AR w 1 C 15001 v i wr) (λ_ i _=>C+1-(intOf i).toNat)
   .exact O4'.o
   clear I O4';obtain⟨p,k,aj,cj,rfl,p0,D,rfl,ab,g⟩:=hrel;have h:=ua g;clear g;by_cases af:p<C
   .have ac:(p:Int)<C:=oM;go_wp2_with (at_builtin;refine Uk rfl (.tmp 65) (.tmp 66) rfl rfl rfl (h.o.on zY) (qK _ 32) oM ?_;intro s c' w' r);go_roundw
    .exact⟨p+1,k+1,s,c',by go_num,oM,oM,rfl,oM,r.o⟩
    simp[intOf];omega
   have ac:¬((p:Int)<C):=oM;go_wp2_with (at_builtin;refine Uk rfl (.tmp 68) (.const (.string ⟨#[94,10]⟩)) rfl rfl rfl h.o (Src.ofString _ underlying9 _) (by show k+2<=_;omega) ?_;intro v5 c5 w5 O5);go_ret;exact⟨_,_,_,rfl,by show k+2<=_;omega,O5.o⟩
end
end
open M (uw EX ins uT emit_len nodeC)
def usY{L pre l post}(h:L=pre++(l++post)):Cr L.length (Lc L) pre.length l:=λi x a=>by
 have b:=(Bz.1 a).1;subst h;refine⟨sO,?_⟩;unfold Lc;rw[Fb oM,Nat.add_sub_cancel_left,Es b,a];rfl
def JA g k:∀d,∃post,xh g (k+d)=xh g k++post
 |0=>⟨[],sM⟩
 |d+1=>by
  let⟨p,e⟩:=JA g k d;by_cases h:0<(nd g (k+d)).bl
  .exact⟨_,by rw[<-Gy,KE g _ h,e];simp only[Ce];rfl⟩
  exact⟨p,by rw[<-Gy,ZW g _ h];exact e⟩
def usZ{K:EC}(d:K.n=Jq K.g)(b:K.R=Me K.g):K.Pg:=by
 have a:∀{pre l post:List uw},xh K.g (K.g.nr+K.g.nb)=pre++(l++post)->Cr K.n K.R pre.length l:=λh=>by
  rw[d,b,Jq,<-ql];exact usY h
 constructor
 .let⟨p,e⟩:=JA K.g 0 (K.g.nr+K.g.nb);rw[Bp]at e;exact a (pre:=[]) e
 intro k f c;let⟨p,e⟩:=JA K.g (k+1) (K.g.nr+K.g.nb-(k+1));rw[show k+1+(K.g.nr+K.g.nb-(k+1))=K.g.nr+K.g.nb by omega,KE K.g k c]at e;have:=a (pre:=xh K.g k) (l:=nodeC (Ee K.g) (Hl K.g k) (Io K.g k) (PL K.g k)) (post:=p) (by rw[e];unfold nodeC;simp);rwa [ql]at this
end Go.Proofs.YtmlblamikgkdcaaGreat
