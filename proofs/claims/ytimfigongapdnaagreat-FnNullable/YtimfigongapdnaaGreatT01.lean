import Derived.Below
set_option linter.unusedVariables false
set_option linter.unusedSimpArgs false
set_option maxHeartbeats 40000000
set_option maxRecDepth 100000
namespace Go.Proofs.YtimfigongapdnaaGreat
open Go.RowKit
theorem nm{α:Sort _}(x:α):∃y,x=y:=⟨x,rfl⟩
theorem ua{p:Prop}(h:p):Hid p:=h
namespace M
structure OpD where
 kind:Int
 sl:Nat
 set:Nat->Int
 arg:Int
structure ug where
 nl:Nat
 name:Nat->Int
 has:Bool
 bl:Nat
 body:Nat->OpD
structure Gr where
 nr:Nat
 rule:Nat->ug
 nb:Nat
 lab:Nat->ug
instance:Inhabited OpD:=⟨⟨0,0,λ_=>0,0⟩⟩
instance:Inhabited ug:=⟨⟨0,λ_=>0,false,0,λ_=>default⟩⟩
def CanAt(S:Nat->Int)(i:Nat):Prop :=
 0<=S i/\S i<=255/\(i%2=1->S (i-1)<=S i)/\(0<i/\i%2=0->S (i-1)+2<=S i)
def Canon(m:Nat)(S:Nat->Int):Prop:=m%2=0/\∀i,i<m->CanAt S i
def least(S:Nat->Int)(k:Nat):Int:=if k=0 then 0 else S (2*k-1)+2
def PairOK(S:Nat->Int)(k:Nat):Prop:=least S k<=S (2*k)/\S (2*k)<=S (2*k+1)/\S (2*k+1)<=255
theorem pairs_canon S h:(∀k,k<h->PairOK S k)↔∀i,i<2*h->CanAt S i:=by
 constructor
 ·intro H;have f:∀k,k<h->0<=S (2*k):=by
   intro k b;induction k with
   |zero=>have:=(H 0 b).1;simpa[least] using this
   |succ k j =>
    have a:=(H (k+1) b).1;have c:=(H k (by omega)).2.1;have d:=j (by omega);unfold least at a;rw[if_neg (by omega),show 2*(k+1)-1=2*k+1 by omega]at a;omega
  intro i l;rcases Nat.mod_two_eq_zero_or_one i with e|e
  ·obtain⟨k,rfl⟩:∃k,i=2*k:=⟨i / 2,by omega⟩;have b:k<h:=(by omega);obtain⟨a,c,d⟩:=H k b;refine⟨f k b,by omega,λh=>by omega,λg=>?_⟩;unfold least at a;rw[if_neg (by omega)]at a;exact a
  obtain⟨k,rfl⟩:∃k,i=2*k+1:=⟨i / 2,by omega⟩;have b:k<h:=by omega
  obtain⟨a,c,d⟩:=H k b;have:=f k b;exact⟨by omega,d,λ_=>c,λg=>by omega⟩
 intro H k b;have a:=H (2*k) (by omega);have c:=H (2*k+1) (by omega);refine⟨?_,by have:=c.2.2.1 (by omega);simpa using this,c.2.1⟩;unfold least;by_cases e:k=0
 ·subst e;simpa using a.1
 rw[if_neg e];exact a.2.2.2 ⟨by omega,by omega⟩
def Letter(c:Int):Prop:=(97<=c/\c<=122)\/(65<=c/\c<=90)\/c=95
def Digit(c:Int):Prop:=48<=c/\c<=57
def NameB(n:Nat)(T:Nat->Int):Prop:=(∀i,i<n->Letter (T i)\/Digit (T i))/\0<n/\Letter (T 0)
def NameOK(n:Nat)(T:Nat->Int):Prop:=n<=32/\NameB n T
def ar(k:Int):Int:=if k=4\/k=5 then 2 else if k=6\/k=7 then 1 else 0
theorem ar_bd k:0<=ar k/\ar k<=2:=by unfold ar;split<;>(try split)<;>omega
def dep(B:Nat->OpD):Nat->Int
 |0=>0
 |i+1=>dep B i+(1-ar (B i).kind)
def need(B:Nat->OpD)(n:Nat):Nat->Int
 |0=>1
 |j+1=>need B n j+(ar (B (n-1-j)).kind-1)
def Shape(n:Nat)(B:Nat->OpD):Prop:=(∀i,i<n->ar (B i).kind<=dep B i)/\dep B n=1
def ur8(n:Nat)(B:Nat->OpD):Prop:=(∀j,j<n->need B n j≠0)/\need B n n=0
theorem ubL B n j(b:j<=n):need B n j=1-dep B n+dep B (n-j):=by
 induction j with
 |zero=>simp[need]
 |succ j a =>
  rw[need,a (by omega)];have e:n-j=(n-1-j)+1:=by omega
  rw[show n-(j+1)=n-1-j by omega,e,dep];omega
theorem shape_iff n B:ur8 n B↔Shape n B:=by
 constructor
 ·rintro⟨b,a⟩;have e:dep B n=1:=by
   have:=ubL B n n (Nat.le_refl _);rw[a,Nat.sub_self,dep]at this;omega
  have pos:∀j,j<n->1<=dep B (n-j):=by
   intro j c;induction j with
   |zero=>rw[Nat.sub_zero];omega
   |succ j h =>
    have g:=h (by omega);have f:=b (j+1) c;rw[ubL B n (j+1) (by omega)]at f;have d:n-j=(n-(j+1))+1:=(by omega);rw[d,dep]at g;have:=ar_bd (B (n-(j+1))).kind;omega
  refine⟨λi k=>?_,e⟩;have:=pos (n-(i+1)) (by omega);rw[show n-(n-(i+1))=i+1 by omega,dep]at this;omega
 rintro⟨b,a⟩;refine⟨λj c=>?_,?_⟩
 ·rw[ubL B n j (by omega),a];have e:n-j=(n-1-j)+1:=by omega
  have:=b (n-1-j) (by omega);rw[e,dep];omega
 rw[ubL B n n (Nat.le_refl _),a,Nat.sub_self,dep];omega
theorem dep_bd B n i(d:i<=n)(h:∀j,j<i->ar (B j).kind<=dep B j):0<=dep B i/\dep B i<=i:=by
 induction i with
 |zero=>simp[dep]
 |succ i a =>
  have b:=a (by omega) (λj e=>h j (by omega));have c:=h i (by omega);have:=ar_bd (B i).kind;rw[dep];omega
theorem need_bd B n j(h:∀k,k<j->need B n k≠0):0<=need B n j/\need B n j<=j+1:=by
 induction j with
 |zero=>simp[need]
 |succ j a =>
  have b:=a (λk d=>h k (by omega));have c:=h j (by omega);have:=ar_bd (B (n-1-j)).kind;rw[need];omega
def most(nr a:Nat)(k:Int):Int:=if k=3 then a else if k=2 then nr else 1
def ElemOK(nr a:Nat)(o:OpD):Prop :=
 0<=o.kind/\o.kind<=7/\(o.kind=1->Canon o.sl o.set)/\(o.kind≠1->o.sl=0)/\0<=o.arg/\o.arg<most nr a o.kind
def BodyOK(nr a n:Nat)(B:Nat->OpD):Prop:=(∀i,i<n->ElemOK nr a (B i))/\Shape n B
def Throws(n:Nat)(B:Nat->OpD)(l:Nat):Prop:=∃i,i<n/\(B i).kind=3/\(B i).arg=l
def SameName(a b:ug):Prop:=a.nl=b.nl/\∀i,i<a.nl->a.name i=b.name i
def LessT(n:Nat)(S:Nat->Int)(m:Nat)(T:Nat->Int):Prop :=
 ∃k,(∀i,i<k->S i=T i)/\k<=n/\k<=m/\((k<n/\k<m/\S k<T k)\/(k=n/\k<m))
def LessName(a b:ug):Prop:=LessT a.nl a.name b.nl b.name
def sum(f:Nat->Nat):Nat->Nat
 |0=>0
 |n+1=>sum f n+f n
theorem sum_le f{i n}(h:i<=n):sum f i<=sum f n:=by
 induction n with
 |zero =>
   have:i=0:=(by omega);subst this;exact Nat.le_refl _
 |succ n a =>
  by_cases e:i=n+1
  ·subst e;exact Nat.le_refl _
  rw[sum];have:=a (by omega);omega
theorem le_sum f{i n}(h:i<n):f i<=sum f n:=by
 have:=sum_le f (show i+1<=n by omega);rw[sum]at this;omega
def ops(g:Gr):Nat:=sum (λi=>(g.rule i).bl) g.nr+sum (λi=>(g.lab i).bl) g.nb
structure Valid(g:Gr):Prop where
 r1:0<g.nr
 r2:g.nr<=100
 l2:g.nb<=100
 rn:∀i,i<g.nr->NameOK (g.rule i).nl (g.rule i).name
 ru:∀i,i<g.nr->∀j,j<i->¬SameName (g.rule i) (g.rule j)
 ln:∀i,i<g.nb->NameOK (g.lab i).nl (g.lab i).name
 la:∀i,i<g.nb->0<i->LessName (g.lab (i-1)) (g.lab i)
 rb:∀i,i<g.nr->BodyOK g.nr g.nb (g.rule i).bl (g.rule i).body
 lb:∀i,i<g.nb->(g.lab i).has=true->BodyOK g.nr g.nb (g.lab i).bl (g.lab i).body
 lz:∀i,i<g.nb->(g.lab i).has=false->(g.lab i).bl=0
 lt:∀i,i<g.nb->(g.lab i).has=false->(∃j,j<g.nr/\Throws (g.rule j).bl (g.rule j).body i)\/∃j,j<g.nb/\Throws (g.lab j).bl (g.lab j).body i
 ol:ops g<=2000
end M
namespace M
def stp{α:Type}[Inhabited α](f:OpD->α->α->α)(o:OpD)(i:Nat)(s:List (Nat×α)):List (Nat×α) :=
 if ar o.kind=2 then
  match s with
  |(_,y)::(s1,x)::r=>(s1,f o x y)::r
  |_=>[]
 else if ar o.kind=1 then
  match s with
  |(s1,x)::r=>(s1,f o x default)::r
  |_=>[]
 else (i,f o default default)::s
def stk{α:Type}[Inhabited α](f:OpD->α->α->α)(B:Nat->OpD):Nat->List (Nat×α)
 |0=>[]
 |i+1=>stp f (B i) i (stk f B i)
theorem ar_cases k:ar k=0\/ar k=1\/ar k=2:=by unfold ar;split<;>(try split)<;>simp
def Fed(B:Nat->OpD)(i:Nat):Prop:=∀j,j<i->ar (B j).kind<=dep B j
theorem Fed.less{B i j}(h:Fed B i)(a:j<=i):Fed B j:=λk b=>h k (by omega)
section
variable {α:Type} [Inhabited α] (f:OpD->α->α->α) (B:Nat->OpD)
theorem stk_len(i:Nat)(h:Fed B i):((stk f B i).length:Int)=dep B i:=by
 induction i with
 |zero=>rfl
 |succ i g =>
  have e:=g (h.less (by omega));have d:=h i (by omega);rw[stk,dep];generalize stk f B i=l at *;rcases ar_cases (B i).kind with c|c|c
  ·simp[stp,c];omega
  ·rw[c]at d;match l,e with
   |[],e=>simp at e;omega
   |(a,x)::r,e=>simp[stp,c]at *;omega
  rw[c]at d;match l,e with
  |[],e=>simp at e;omega
  |[(a,x)],e=>simp at e;omega
  |(a,x)::(b,y)::r,e=>simp[stp,c]at *;omega
theorem stk_cons(i:Nat)(h:Fed B i)(s:Nat)(x:α)(r:List (Nat×α))(e:stk f B i=(s,x)::r) :
  s<i/\r=stk f B s/\∀j,s<j->j<=i->dep B i<=dep B j:=by
 induction i using Nat.strongRecOn generalizing s x r with
 |_ i k =>
  match i,k,e with
  |0,k,e=>simp[stk]at e
  |i+1,k,e =>
   have d:=stk_len f B i (h.less (by omega));have z:=h i (by omega);have w:dep B (i+1)=dep B i+(1-ar (B i).kind):=rfl;rw[stk]at e;cases a:stk f B i with
   |nil =>
    rw[a]at e d;simp at d;have b:ar (B i).kind=0:=(by have:=ar_bd (B i).kind;omega);simp[stp,b]at e;obtain⟨⟨rfl,_⟩,rfl⟩:=e;refine⟨by omega,a.symm,λj g n=>?_⟩;obtain rfl:j=i+1:=(by omega);exact Int.le_refl _
   |cons p r1 =>
    obtain⟨l,y⟩:=p;obtain⟨v,c,o⟩:=k i (by omega) (h.less (by omega)) l y r1 a;rw[a]at e;rcases ar_cases (B i).kind with b|b|b
    ·simp[stp,b]at e;obtain⟨⟨rfl,_⟩,rfl⟩:=e;refine⟨by omega,a.symm,λj g n=>?_⟩;obtain rfl:j=i+1:=(by omega);exact Int.le_refl _
    ·simp[stp,b]at e;obtain⟨⟨rfl,_⟩,rfl⟩:=e;refine⟨by omega,c,λj g n=>?_⟩;by_cases m:j=i+1
     ·subst m;exact Int.le_refl _
     have:=o j g (by omega);omega
    match r1,c,e,a with
    |[],c,e,a=>rw[a]at d;simp at d;omega
    |(s1,x1)::r2,c,e,a =>
     simp[stp,b]at e;obtain⟨⟨rfl,_⟩,rfl⟩:=e;obtain⟨b1,q,t⟩:=k l (by omega) (h.less (by omega)) s1 x1 r2 c.symm;have l2:=stk_len f B l (h.less (by omega));rw[<-c]at l2;rw[a]at d;simp at l2 d;refine⟨by omega,q,λj g n=>?_⟩;by_cases m:j=i+1
     ·subst m;exact Int.le_refl _
     by_cases u:j<=l
     ·have:=t j g u;omega
     have:=o j (by omega) (by omega);omega
end
theorem stk_map{α β}[Inhabited α][Inhabited β](f:OpD->α->α->α)(c:OpD->β->β->β)(π:α->β)(d:π default=default)(h:∀o x y,π (f o x y)=c o (π x) (π y))(B:Nat->OpD)(i:Nat) :
  stk c B i=(stk f B i).map (λp=>(p.1,π p.2)):=by
 induction i with
 |zero=>rfl
 |succ i e =>
  rw[stk,stk,e];generalize stk f B i=l;unfold stp;split
  ·match l with
   |[]=>rfl
   |[(a,x)]=>rfl
   |(a,x)::(b,y)::r=>simp[h]
  split
  ·match l with
   |[]=>rfl
   |(a,x)::r=>simp[h,d]
  simp[h,d]
theorem ukS{α}[Inhabited α](f a:OpD->α->α->α)(B:Nat->OpD)(i:Nat)(h:∀j,j<i->∀x y,f (B j) x y=a (B j) x y):stk f B i=stk a B i:=by
 induction i with
 |zero=>rfl
 |succ i b =>
  rw[stk,stk,b (λj c=>h j (by omega))];unfold stp;split
  ·split
   ·rw[h i (by omega)]
   rfl
  split
  ·split
   ·rw[h i (by omega)]
   rfl
  rw[h i (by omega)]
def tg(nr:Nat)(o:OpD):Nat:=if o.kind=3 then nr+o.arg.toNat else o.arg.toNat
def Names(o:OpD):Prop:=o.kind=2\/o.kind=3
instance (o:OpD):Decidable (Names o):=inferInstanceAs (Decidable (_\/_))
def fN(nr:Nat)(mk:Nat->Bool)(o:OpD)(x y:Bool):Bool :=
 if o.kind=1 then false else if Names o then mk (tg nr o) else if o.kind=4 then x&&y else if o.kind=5 then x||y else if o.kind=0\/o.kind=6\/o.kind=7 then true else false
def top{α:Type}[Inhabited α](l:List (Nat×α)):α:=match l with|(_,x)::_=>x|[]=>default
def nulB(nr:Nat)(mk:Nat->Bool)(n:Nat)(B:Nat->OpD):Bool:=top (stk (fN nr mk) B n)
def Uses(nr n:Nat)(B:Nat->OpD)(v:Nat):Prop:=∃j,j<n/\Names (B j)/\tg nr (B j)=v
theorem nulB_congr nr mk a n B(h:∀v,Uses nr n B v->mk v=a v):nulB nr mk n B=nulB nr a n B:=by
 unfold nulB;rw[ukS (fN nr mk) (fN nr a) B n];intro j c x y;unfold fN;by_cases b:Names (B j)
 ·rw[h _ ⟨j,c,b,rfl⟩]
 simp[b]
def Low:List (Nat×Bool)->List (Nat×Bool)->Prop
 |[],[]=>True
 |(_,x)::r,(_,y)::r'=>(x=true->y=true)/\Low r r'
 |_,_=>False
theorem upa nr mk f B(h:∀v,mk v=true->f v=true)i:Low (stk (fN nr mk) B i) (stk (fN nr f) B i):=by
 have g:∀o x y d e,(x=true->d=true)->(y=true->e=true)->fN nr mk o x y=true->fN nr f o d e=true:=by
  intro o x y d e j k;unfold fN;split
  ·simp
  split
  ·exact h _
  split
  ·simp;exact λa b=>⟨j a,k b⟩
  split
  ·simp;exact λa=>a.elim (λq=>.inl (j q)) (λq=>.inr (k q))
  split<;>simp
 induction i with
 |zero=>trivial
 |succ i c =>
  rw[stk,stk];generalize stk (fN nr mk) B i=l at *;generalize stk (fN nr f) B i=m at *;unfold stp;split
  ·match l,m,c with
   |[],[],_=>trivial
   |[(a,x)],[(a',d)],_=>trivial
   |(a,x)::(b,y)::r,(a',d)::(b',e)::r',c=>exact⟨g _ _ _ _ _ c.2.1 c.1,c.2.2⟩
   |[(a,x)],(a',d)::(b',e)::r',c=>exact c.2.elim
   |(a,x)::(b,y)::r,[(a',d)],c=>exact c.2.elim
  split
  ·match l,m,c with
   |[],[],_=>trivial
   |(a,x)::r,(a',d)::r',c=>exact⟨g _ _ _ _ _ c.1 id,c.2⟩
  exact⟨g _ _ _ _ _ id id,c⟩
theorem nulB_mono nr mk b(h:∀v,mk v=true->b v=true)n B(e:nulB nr mk n B=true):nulB nr b n B=true:=by
 have:=upa nr mk b B h n;unfold nulB at *;match h1:stk (fN nr mk) B n,h2:stk (fN nr b) B n with
 |[],_=>rw[h1]at e;simp[top]at e
 |(a,x)::r,[]=>rw[h1,h2]at this;exact this.elim
 |(a,x)::r,(a',x')::r' =>
  rw[h1,h2]at this;rw[h1]at e;exact this.1 e
structure Mono(n:Nat)(F:(Nat->Bool)->Nat->Bool):Prop where
 mono:∀m m',(∀v,v<n->m v=true->m' v=true)->∀v,v<n->F m v=true->F m' v=true
structure Least(n:Nat)(F:(Nat->Bool)->Nat->Bool)(m:Nat->Bool):Prop where
 shut:∀v,v<n->F m v=true->m v=true
 low:∀t:Nat->Bool,(∀v,v<n->F t v=true->t v=true)->∀v,v<n->m v=true->t v=true
theorem Least.unique{n}{F:(Nat->Bool)->Nat->Bool}{m a}(h:Least n F m)(b:Least n F a):∀v,v<n->m v=a v:=by
 intro v c;have f:=h.low a b.shut v c;have g:=b.low m h.shut v c;cases e:m v<;>cases d:a v<;>simp_all
def cnt(m:Nat->Bool):Nat->Nat
 |0=>0
 |n+1=>cnt m n+(if m n then 1 else 0)
theorem umF m n:cnt m n<=n:=by
 induction n with
 |zero=>simp[cnt]
 |succ n a=>rw[cnt];split<;>omega
theorem udp m a n(h:∀v,v<n->m v=true->a v=true):cnt m n<=cnt a n:=by
 induction n with
 |zero=>simp[cnt]
 |succ n b =>
  have:=b (λv c=>h v (by omega));have:=h n (by omega);rw[cnt,cnt];split<;>split<;>simp_all<;>omega
theorem umG m b n(h:∀v,v<n->m v=true->b v=true)(e:cnt m n=cnt b n):∀v,v<n->b v=true->m v=true:=by
 induction n with
 |zero=>intro v c;omega
 |succ n g =>
  intro v c d;have i:=udp m b n (λv c=>h v (by omega));have f:=h n (by omega);rw[cnt,cnt]at e;by_cases q:v=n
  ·subst q;rw[if_pos d]at e;by_cases a:m v=true
   ·exact a
   rw[if_neg a]at e;omega
  refine g (λv c=>h v (by omega)) ?_ v (by omega) d;by_cases a:m n=true
  ·rw[if_pos a,if_pos (f a)]at e;omega
  rw[if_neg a]at e;split at e<;>omega
theorem umH m v n(h:v<n)(b:m v=false):cnt (λu=>m u||u==v) n=cnt m n+1:=by
 have c:∀k,k<=v->cnt (λu=>m u||u==v) k=cnt m k:=by
  intro k d;induction k with
  |zero=>rfl
  |succ k a=>rw[cnt,cnt,a (by omega)];simp[show ¬k=v by omega]
 induction n with
 |zero=>omega
 |succ n a =>
  rw[cnt,cnt];by_cases e:v=n
  ·subst e;rw[c v (Nat.le_refl _)];simp[b]
  rw[a (by omega)];simp[show ¬n=v by omega];omega
def rnd(F:(Nat->Bool)->Nat->Bool):Nat->Nat->Bool
 |0=>λ_=>false
 |k+1=>F (rnd F k)
theorem ufL{n}{F:(Nat->Bool)->Nat->Bool}(h:Mono n F)k:∀v,v<n->rnd F k v=true->rnd F (k+1) v=true:=by
 induction k with
 |zero=>intro v b e;simp[rnd]at e
 |succ k a=>exact h.mono _ _ a
theorem rnd_least{n}{F:(Nat->Bool)->Nat->Bool}(h:Mono n F):Least n F (rnd F n):=by
 have g:∀k,(∃j,j<=k/\∀v,v<n->rnd F (j+1) v=true->rnd F j v=true)\/k<cnt (rnd F (k+1)) n:=by
  intro k;induction k with
  |zero =>
   by_cases q:cnt (rnd F 1) n=0
   ·refine .inl ⟨0,Nat.le_refl _,?_⟩;refine umG _ _ n (ufL h 0) ?_;rw[q];have:cnt (rnd F 0) n<=cnt (rnd F 1) n:=udp _ _ n (ufL h 0);omega
   exact .inr (Nat.pos_of_ne_zero q)
  |succ k a =>
   rcases a with⟨j,b,q⟩|a
   ·exact .inl ⟨j,by omega,q⟩
   by_cases q:cnt (rnd F (k+1)) n=cnt (rnd F (k+1+1)) n
   ·exact .inl ⟨k+1,Nat.le_refl _,umG _ _ n (ufL h _) q⟩
   have:=udp _ _ n (ufL h (k+1));exact .inr (by omega)
 have f:∀j,(∀v,v<n->rnd F (j+1) v=true->rnd F j v=true)->∀d,∀v,v<n->rnd F (j+d+1) v=true->rnd F (j+d) v=true:=by
  intro j b d;induction d with
  |zero=>exact b
  |succ d a=>exact h.mono _ _ a
 refine⟨?_,?_⟩
 ·rcases g n with⟨j,b,q⟩|q
  ·have:=f j q (n-j);rw[show j+(n-j)=n by omega]at this;exact this
  have:=umF (rnd F (n+1)) n;omega
 intro t i;have:∀k,∀v,v<n->rnd F k v=true->t v=true:=by
  intro k;induction k with
  |zero=>intro v c e;simp[rnd]at e
  |succ k a=>intro v c e;exact i v c (h.mono _ _ a v c e)
 exact this n
structure WI(n:Nat)(F:(Nat->Bool)->Nat->Bool)(wl:List Nat)(m:Nat->Bool):Prop where
 all:∀x,x∈wl->x<n
 pend:∀v,v<n->m v=false->F m v=true->v∈wl
 low:∀t:Nat->Bool,(∀v,v<n->F t v=true->t v=true)->∀v,v<n->m v=true->t v=true
theorem WI.start n(F:(Nat->Bool)->Nat->Bool)b(h:∀x,x∈b↔x<n):WI n F b (λ_=>false) :=
 ⟨λx c=>(h x).1 c,λv a _ _=>(h v).2 a,λt d v a e=>by simp at e⟩
theorem WI.done{n}{F:(Nat->Bool)->Nat->Bool}{m}(h:WI n F [] m):Least n F m :=
 ⟨λv a e=>by
  cases q:m v with
  |true=>rfl
  |false=>exact absurd (h.pend v a q e) (by simp),h.low⟩
theorem WI.skip{n}{F:(Nat->Bool)->Nat->Bool}{c x m}(h:WI n F (c++[x]) m)(q:m x=true\/F m x=false):WI n F c m:=by
 refine⟨λy e=>h.all y (by simp[e]),λv d a b=>?_,h.low⟩;have:=h.pend v d a b;simp at this;rcases this with k|rfl
 ·exact k
 rcases q with q|q
 ·rw[a]at q;cases q
 rw[b]at q;cases q
theorem WI.mark{n}{F:(Nat->Bool)->Nat->Bool}{l f x m d}(r:Mono n F)(h:WI n F (l++[x]) m)(q:F m x=true)(i:∀v,v<n->d v=(m v||v==x))(s:∀u,u∈f->u<n)(o:∀v,v<n->F d v=true->F m v=false->v∈f):WI n F (l++f) d:=by
 have w:x<n:=h.all x (by simp);refine⟨λy j=>?_,λv a b p=>?_,λt c v a e=>?_⟩
 ·simp at j;rcases j with k|k
  ·exact h.all y (by simp[k])
  exact s y k
 ·rw[i v a]at b;simp at b;cases g:F m v with
  |false=>simp[o v a p g]
  |true =>
   have:=h.pend v a b.1 g;simp at this;rcases this with k|k
   ·simp[k]
   exact absurd k b.2
 rw[i v a]at e;simp at e;rcases e with e|rfl
 ·exact h.low t c v a e
 exact c v a (r.mono m t (h.low t c) v a q)
def left(n:Nat)(m:Nat->Bool)(a:Nat):Nat:=(n-cnt m n)*(n+1)+a
theorem left_mark{n m a x c b}(i:x<n)(h:m x=false)(g:∀v,v<n->a v=(m v||v==x))(o:b<=n):left n a (c+b)<left n m (c+1):=by
 have e:cnt a n=cnt m n+1:=by
  rw[<-umH m x n i h];have:∀k,k<=n->cnt a k=cnt (λu=>m u||u==x) k:=by
   intro k l;induction k with
   |zero=>rfl
   |succ k j=>rw[cnt,cnt,j (by omega),g k (by omega)]
  exact this n (Nat.le_refl _)
 have:=umF a n;unfold left;rw[e]at this ⊢;obtain⟨d,f⟩:∃d,n-cnt m n=d+1:=⟨n-cnt m n-1,by omega⟩;rw[show n-(cnt m n+1)=d by omega,f,Nat.add_mul];omega
def users(U:Nat->Nat->Bool)(x:Nat):Nat->List Nat
 |0=>[]
 |k+1=>users U x k++(if U k x then [k] else [])
theorem users_mem U x k v:v∈users U x k↔v<k/\U v x=true:=by
 induction k with
 |zero=>simp[users]
 |succ k c =>
  rw[users,List.mem_append,c];by_cases e:U k x=true
  ·rw[if_pos e];simp;constructor
   ·rintro (h|rfl)
    ·exact⟨by omega,h.2⟩
    exact⟨by omega,e⟩
   rintro⟨b,a⟩;by_cases q:v=k
   ·exact .inr q
   exact .inl ⟨by omega,a⟩
  rw[if_neg e];simp only[List.not_mem_nil,or_false];constructor
  ·rintro⟨b,a⟩;exact⟨by omega,a⟩
  rintro⟨b,a⟩;refine⟨?_,a⟩;by_cases q:v=k
  ·subst q;exact absurd a e
  omega
theorem users_len U x k:(users U x k).length<=k:=by
 induction k with
 |zero=>simp[users]
 |succ k a=>rw[users,List.length_append];split<;>simp<;>omega
end M
namespace M
structure ur where
 kind:Int
 arg:Int
 to:Int
 sl:Nat
 set:Nat->Int
def ins(k a t:Int):ur:=⟨k,a,t,0,λ_=>0⟩
inductive EX where
 |empty
 |set (n:Nat) (S:Nat->Int)
 |ref (n:Nat)
 |thr (l n:Nat)
 |seq (x y:EX)
 |alt (x y:EX)
 |star (x:EX)
 |not (x:EX)
instance:Inhabited EX:=⟨.empty⟩
def EX.len:EX->Nat
 |.empty=>0
 |.set _ _=>1
 |.ref _=>1
 |.thr _ _=>1
 |.seq x y=>x.len+y.len
 |.alt x y=>x.len+y.len+2
 |.star x=>x.len+2
 |.not x=>x.len+2
def uH(r:Nat->Int):EX->Nat->List ur
 |.empty,_=>[]
 |.set n S,_=>[⟨0,0,0,n,S⟩]
 |.ref n,_=>[ins 6 0 (r n)]
 |.thr l n,_=>[ins 8 l (r n)]
 |.seq x y,p=>uH r x p++uH r y (p+x.len)
 |.alt x y,p=>ins 1 0 ((p+x.len+2:Nat):Int)::(uH r x (p+1)++ins 2 0 ((p+x.len+y.len+2:Nat):Int)::uH r y (p+x.len+2))
 |.star x,p=>ins 1 0 ((p+x.len+2:Nat):Int)::(uH r x (p+1)++[ins 3 0 ((p+1:Nat):Int)])
 |.not x,p=>ins 4 0 ((p+x.len+2:Nat):Int)::(uH r x (p+1)++[ins 5 0 0])
theorem emit_len r t:∀p,(uH r t p).length=t.len:=by
 induction t with
 |empty=>intro p;rfl
 |set n S=>intro p;rfl
 |ref n=>intro p;rfl
 |thr l n=>intro p;rfl
 |seq x y b c=>intro p;simp[uH,EX.len,b,c]
 |alt x y b c=>intro p;simp[uH,EX.len,b,c];omega
 |star x a=>intro p;simp[uH,EX.len,a]
 |not x a=>intro p;simp[uH,EX.len,a]
def lk(f:Int->Int)(i:ur):ur:=if i.kind=6\/i.kind=8 then { i with to:=f i.to } else i
theorem ukF r f t:∀p,(uH r t p).map (lk f)=uH (λn=>f (r n)) t p:=by
 induction t with
 |empty=>intro p;rfl
 |set n S=>intro p;simp[uH,lk]
 |ref n=>intro p;simp[uH,lk,ins]
 |thr l n=>intro p;simp[uH,lk,ins]
 |seq x y b c=>intro p;simp[uH,b,c]
 |alt x y b c=>intro p;simp[uH,b,c];simp[lk,ins]
 |star x a=>intro p;simp[uH,a];simp[lk,ins]
 |not x a=>intro p;simp[uH,a];simp[lk,ins]
def EX.Below(m:Nat):EX->Prop
 |.ref n=>n<m
 |.thr _ n=>n<m
 |.seq x y=>x.Below m/\y.Below m
 |.alt x y=>x.Below m/\y.Below m
 |.star x=>x.Below m
 |.not x=>x.Below m
 |_=>True
def nodeE(nr:Nat)(o:OpD)(x y:EX):EX :=
 if o.kind=1 then .set o.sl o.set else if o.kind=2 then .ref o.arg.toNat else if o.kind=3 then .thr o.arg.toNat (nr+o.arg.toNat)
 else if o.kind=4 then .seq x y else if o.kind=5 then .alt x y else if o.kind=6 then .star x else if o.kind=7 then .not x else .empty
def treeE(nr n:Nat)(B:Nat->OpD):EX:=top (stk (nodeE nr) B n)
def wt(k:Int):Nat:=if k=1\/k=2\/k=3 then 1 else if k=5\/k=6\/k=7 then 2 else 0
def yu(B:Nat->OpD):Nat->Nat
 |0=>0
 |n+1=>yu B n+wt (B n).kind
theorem wsum_bd B n:yu B n<=2*n:=by
 induction n with
 |zero=>exact Nat.le_refl _
 |succ n a =>
  have:wt (B n).kind<=2:=by unfold wt;split<;>(try split)<;>omega
  rw[yu];omega
def ugB:List (Nat×EX)->Nat
 |[]=>0
 |(_,t)::r=>t.len+ugB r
theorem node_len nr o x y:(ar o.kind=2->(nodeE nr o x y).len=x.len+y.len+wt o.kind)/\(ar o.kind=1->(nodeE nr o x y).len=x.len+wt o.kind)/\(ar o.kind=0->(nodeE nr o x y).len=wt o.kind):=by
 unfold nodeE ar wt;by_cases a:o.kind=1
 ·simp[a,EX.len]
 by_cases b:o.kind=2
 ·simp[b,EX.len]
 by_cases c:o.kind=3
 ·simp[c,EX.len]
 by_cases d:o.kind=4
 ·simp[d,EX.len]
 by_cases e:o.kind=5
 ·simp[e,EX.len]
 by_cases f:o.kind=6
 ·simp[f,EX.len]
 by_cases g:o.kind=7
 ·simp[g,EX.len]
 simp[a,b,c,d,e,f,g,EX.len]
theorem ugC nr B n(h:Fed B n):ugB (stk (nodeE nr) B n)=yu B n:=by
 induction n with
 |zero=>rfl
 |succ n g =>
  have e:=g (h.less (by omega));have d:=stk_len (nodeE nr) B n (h.less (by omega));have f:=h n (by omega);rw[stk,yu];generalize stk (nodeE nr) B n=l at *;rcases ar_cases (B n).kind with c|c|c
  ·have:=(node_len nr (B n) default default).2.2 c;simp[stp,c,ugB,this];omega
  ·rw[c]at f;match l,e,d with
   |[],e,d=>simp at d;omega
   |(a,x)::r,e,d =>
    have:=(node_len nr (B n) x default).2.1 c;simp[stp,c,ugB,this]at *;omega
  rw[c]at f;match l,e,d with
  |[],e,d=>simp at d;omega
  |[(a,x)],e,d=>simp at d;omega
  |(a,y)::(b,x)::r,e,d =>
   have:=(node_len nr (B n) x y).1 c;simp[stp,c,ugB,this]at *;omega
theorem top_len nr B a lo x(c:Fed B a)(e:stk (nodeE nr) B a=(lo,x)::stk (nodeE nr) B lo)(d:lo<=a):x.len+yu B lo=yu B a:=by
 have b:=ugC nr B a c;have f:=ugC nr B lo (c.less d);rw[e]at b;simp only[ugB]at b;omega
theorem uaK{nr a o}(h:ElemOK nr a o){x y}(c:x.Below (nr+a))(g:y.Below (nr+a)):(nodeE nr o x y).Below (nr+a):=by
 obtain⟨i,j,k,l,m,b⟩:=h;unfold nodeE;by_cases f:o.kind=1
 ·rw[if_pos f];trivial
 rw[if_neg f];by_cases d:o.kind=2
 ·rw[if_pos d];unfold most at b;rw[if_neg (by omega),if_pos d]at b;show o.arg.toNat<nr+a;omega
 rw[if_neg d];by_cases e:o.kind=3
 ·rw[if_pos e];unfold most at b;rw[if_pos e]at b;show nr+o.arg.toNat<nr+a;omega
 rw[if_neg e];split
 ·exact⟨c,g⟩
 split
 ·exact⟨c,g⟩
 split
 ·exact c
 split
 ·exact c
 trivial
theorem ukG{nr d}B n(e:∀i,i<n->ElemOK nr d (B i)):∀p,p∈stk (nodeE nr) B n->p.2.Below (nr+d):=by
 induction n with
 |zero=>intro p a;simp[stk]at a
 |succ n f =>
  have ih':=f (λi g=>e i (by omega));have c:=e n (by omega);have b:(default:EX).Below (nr+d):=trivial;rw[stk];generalize stk (nodeE nr) B n=l at *;intro p a;unfold stp at a;split at a
  ·match l,ih',a with
   |[],_,a=>simp at a
   |[_],_,a=>simp at a
   |(s2,y)::(s1,x)::r,ih',a =>
    rcases List.mem_cons.1 a with rfl|a
    ·exact uaK c (ih' (s1,x) (by simp)) (ih' (s2,y) (by simp))
    exact ih' p (by simp[a])
  split at a
  ·match l,ih',a with
   |[],_,a=>simp at a
   |(s1,x)::r,ih',a =>
    rcases List.mem_cons.1 a with rfl|a
    ·exact uaK c (ih' (s1,x) (by simp)) b
    exact ih' p (by simp[a])
  rcases List.mem_cons.1 a with rfl|a
  ·exact uaK c b b
  exact ih' p a
theorem tree_below{nr a n B}(b:∀i,i<n->ElemOK nr a (B i)):(treeE nr n B).Below (nr+a):=by
 unfold treeE;have:=ukG B n b;generalize stk (nodeE nr) B n=l at *;match l,this with
 |[],_=>trivial
 |(s,t)::r,h=>exact h (s,t) (by simp)
def nodeC(r:Nat->Int)(o:ur)(t:EX)(p:Nat):List ur:=o::(uH r t (p+1)++[ins 11 0 0,ins 7 0 0])
theorem nodeC_len r o t p:(nodeC r o t p).length=t.len+3:=by simp[nodeC,emit_len]
def progC(r:Nat->Int)(b:Nat->ur)(c:Nat->EX)(a:Nat->Bool):Nat->List ur
 |0=>[ins 6 0 (r 0),ins 12 0 0]
 |k+1=>if a k then progC r b c a k++nodeC r (b k) (c k) (progC r b c a k).length else progC r b c a k
theorem progC_len r e c d a k:(progC r c d a k).length=(progC e c d a k).length:=by
 induction k with
 |zero=>rfl
 |succ k b =>
  rw[progC,progC];split
  ·rw[List.length_append,List.length_append,nodeC_len,nodeC_len,b]
  exact b
def placeC(b:Nat->ur)(c:Nat->EX)(a:Nat->Bool)(p:Nat):Int:=if a p then ((progC (λ_=>0) b c a p).length:Int) else -1
theorem progC_link r f a d b(g:∀p,(a p).kind=9\/(a p).kind=10)k:(progC r a d b k).map (lk f)=progC (λn=>f (r n)) a d b k:=by
 induction k with
 |zero=>simp[progC,lk,ins]
 |succ k c =>
  rw[progC,progC];split
  ·rw[List.map_append,c,progC_len (λn=>f (r n)) r];congr 1;unfold nodeC;simp only[List.map_cons,List.map_append,List.map_nil,ukF];have e:lk f (a k)=a k:=by
    unfold lk;rw[if_neg];rcases g k with q|q<;>omega
   rw[e];simp[lk,ins]
  exact c
end M
end Go.Proofs.YtimfigongapdnaaGreat
