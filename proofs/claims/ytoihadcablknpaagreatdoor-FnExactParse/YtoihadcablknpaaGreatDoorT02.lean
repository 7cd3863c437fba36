import Derived.Test.YtoihadcablknpaaGreatDoorT01
import Derived.Lib.BytesEntry
import Derived.Deep.RegionLaw
set_option linter.unusedVariables false
set_option linter.unusedSimpArgs false
set_option linter.defProp false
set_option maxHeartbeats 40000000
set_option maxRecDepth 100000
namespace Go.Proofs.YtoihadcablknpaaGreatDoor
open Go.RowKit
open Go.Proofs.Tryz
namespace M
def stp{α:Type}[Inhabited α](f:OpD->α->α->α)(o:OpD)(i:Nat)(s:List (Nat×α)):List (Nat×α) :=
 if ar o.e=2 then
  match s with
  |(_,y)::(s1,x)::r=>(s1,f o x y)::r
  |_=>[]
 else if ar o.e=1 then
  match s with
  |(s1,x)::r=>(s1,f o x default)::r
  |_=>[]
 else (i,f o default default)::s
def stk{α:Type}[Inhabited α](f:OpD->α->α->α)(B:Nat->OpD):Nat->List (Nat×α)
 |0=>[]
 |i+1=>stp f (B i) i (stk f B i)
def dD k:ar k=0\/ar k=1\/ar k=2:=by unfold ar;split<;>(try split)<;>simp
def Fed(B:Nat->OpD)(i:Nat):Prop:=∀j,j<i->ar (B j).e<=dep B j
def Fed.g{B i j}(h:Fed B i)(a:j<=i):Fed B j:=λk b=>h k oM
section
variable {α:Type} [Inhabited α] (f:OpD->α->α->α) (B:Nat->OpD)
def bR(i:Nat)(h:Fed B i):((stk f B i).length:Int)=dep B i:=by
 induction i with
 |zero=>rfl
 |succ i j =>
  have e:=j (h.g oM);have d:=h i oM;rw[stk,dep];generalize stk f B i=l at *;rcases dD (B i).e with c|c|c
  ·simp[stp,c];omega
  ·rw[c]at d;match l,e with
   |[],e=>simp at e;omega
   |(a,x)::r,e=>simp[stp,c]at *;omega
  rw[c]at d;match l,e with
  |[],e=>simp at e;omega
  |[(a,x)],e=>simp at e;omega
  |(a,x)::(b,y)::r,e=>simp[stp,c]at *;omega
def cI(i:Nat)(h:Fed B i)(s:Nat)(x:α)(r:List (Nat×α))(e:stk f B i=(s,x)::r) :
  s<i/\r=stk f B s/\∀j,s<j->j<=i->dep B i<=dep B j:=by
 induction i using Nat.strongRecOn generalizing s x r with
 |_ i l =>
  match i,l,e with
  |0,l,e=>simp[stk]at e
  |i+1,l,e =>
   have d:=bR f B i (h.g oM);have A:=h i oM;have z:dep B (i+1)=dep B i+(1-ar (B i).e):=rfl;rw[stk]at e;cases a:stk f B i with
   |nil =>
    rw[a]at e d;simp at d;have b:ar (B i).e=0:=oH (cP (B i).e);simp[stp,b]at e;obtain⟨⟨rfl,_⟩,rfl⟩:=e;refine⟨oM,a.symm,λj k o=>?_⟩;obtain rfl:j=i+1:=oM;exact Eg _
   |cons p r1 =>
    obtain⟨m,y⟩:=p;obtain⟨w,c,q⟩:=l i oM (h.g oM) m y r1 a;rw[a]at e;rcases dD (B i).e with b|b|b
    ·simp[stp,b]at e;obtain⟨⟨rfl,_⟩,rfl⟩:=e;refine⟨oM,a.symm,λj k o=>?_⟩;obtain rfl:j=i+1:=oM;exact Eg _
    ·simp[stp,b]at e;obtain⟨⟨rfl,_⟩,rfl⟩:=e;refine⟨oM,c,λj k o=>?_⟩;by_cases n:j=i+1
     ·subst n;exact Eg _
     have:=q j k oM;omega
    match r1,c,e,a with
    |[],c,e,a=>rw[a]at d;simp at d;omega
    |(s1,x1)::r2,c,e,a =>
     simp[stp,b]at e;obtain⟨⟨rfl,_⟩,rfl⟩:=e;obtain⟨b1,t,u⟩:=l m oM (h.g oM) s1 x1 r2 c.symm;have l2:=bR f B m (h.g oM);rw[<-c]at l2;rw[a]at d;simp at l2 d;refine⟨oM,t,λj k o=>?_⟩;by_cases n:j=i+1
     ·subst n;exact Eg _
     by_cases v:j<=m
     ·have:=u j k v;omega
     have:=q j oM oM;omega
end
def eY{α β}[Inhabited α][Inhabited β](f:OpD->α->α->α)(c:OpD->β->β->β)(π:α->β)(d:π default=default)(h:∀o x y,π (f o x y)=c o (π x) (π y))(B:Nat->OpD)(i:Nat) :
  stk c B i=(stk f B i).map (λp=>(p.1,π p.2)):=by
 induction i with
 |zero=>rfl
 |succ i e =>
  rw[stk,stk,e];generalize stk f B i=l;unfold stp;split
  ·match l with
   |[]=>rfl
   |[(a,x)]=>rfl
   |(a,x)::(b,y)::r=>simp[h]
  split
  ·match l with
   |[]=>rfl
   |(a,x)::r=>simp[h,d]
  simp[h,d]
def fR{α}[Inhabited α](f a:OpD->α->α->α)(B:Nat->OpD)(i:Nat)(h:∀j,j<i->∀x y,f (B j) x y=a (B j) x y):stk f B i=stk a B i:=by
 induction i with
 |zero=>rfl
 |succ i b =>
  rw[stk,stk,b (λj c=>h j oM)];unfold stp;split
  ·split
   ·rw[h i oM]
   rfl
  split
  ·split
   ·rw[h i oM]
   rfl
  rw[h i oM]
def tg(nr:Nat)(o:OpD):Nat:=if o.e=3 then nr+o.f.toNat else o.f.toNat
def bI(o:OpD):Prop:=o.e=2\/o.e=3
instance (o:OpD):Decidable (bI o):=inferInstanceAs (Decidable (_\/_))
def fN(nr:Nat)(mk:Nat->Bool)(o:OpD)(x y:Bool):Bool :=
 if o.e=1 then false else if bI o then mk (tg nr o) else if o.e=4 then x&&y else if o.e=5 then x||y else if o.e=0\/o.e=6\/o.e=7 then true else false
def top{α:Type}[Inhabited α](l:List (Nat×α)):α:=match l with|(_,x)::_=>x|[]=>default
def cH(nr:Nat)(mk:Nat->Bool)(n:Nat)(B:Nat->OpD):Bool:=top (stk (fN nr mk) B n)
def dS(nr n:Nat)(B:Nat->OpD)(v:Nat):Prop:=∃j,j<n/\bI (B j)/\tg nr (B j)=v
def gA nr mk a n B(h:∀v,dS nr n B v->mk v=a v):cH nr mk n B=cH nr a n B:=by
 unfold cH;rw[fR (fN nr mk) (fN nr a) B n];intro j c x y;unfold fN;by_cases b:bI (B j)
 ·rw[h _ ⟨j,c,b,rfl⟩]
 simp[b]
def HK:List (Nat×Bool)->List (Nat×Bool)->Prop
 |[],[]=>True
 |(_,x)::r,(_,y)::r'=>(x=true->y=true)/\HK r r'
 |_,_=>False
def A3 nr mk f B(h:∀v,mk v=true->f v=true)i:HK (stk (fN nr mk) B i) (stk (fN nr f) B i):=by
 have g:∀o x y d e,(x=true->d=true)->(y=true->e=true)->fN nr mk o x y=true->fN nr f o d e=true:=by
  intro o x y d e j k;unfold fN;split
  ·simp
  split
  ·exact h _
  split
  ·simp;exact λa b=>⟨j a,k b⟩
  split
  ·simp;exact λa=>a.elim (λq=>.inl (j q)) (λq=>.inr (k q))
  split<;>simp
 induction i with
 |zero=>trivial
 |succ i c =>
  rw[stk,stk];generalize stk (fN nr mk) B i=l at *;generalize stk (fN nr f) B i=l' at *;unfold stp;split
  ·match l,l',c with
   |[],[],_=>trivial
   |[(a,x)],[(a',d)],_=>trivial
   |(a,x)::(b,y)::r,(a',d)::(b',e)::r',c=>exact⟨g _ _ _ _ _ c.2.1 c.1,c.2.2⟩
   |[(a,x)],(a',d)::(b',e)::r',c=>exact c.2.elim
   |(a,x)::(b,y)::r,[(a',d)],c=>exact c.2.elim
  split
  ·match l,l',c with
   |[],[],_=>trivial
   |(a,x)::r,(a',d)::r',c=>exact⟨g _ _ _ _ _ c.1 id,c.2⟩
  exact⟨g _ _ _ _ _ id id,c⟩
def iZ nr mk b(h:∀v,mk v=true->b v=true)n B(e:cH nr mk n B=true):cH nr b n B=true:=by
 have:=A3 nr mk b B h n;unfold cH at *;match h1:stk (fN nr mk) B n,h2:stk (fN nr b) B n with
 |[],_=>rw[h1]at e;simp[top]at e
 |(a,x)::r,[]=>rw[h1,h2]at this;exact this.elim
 |(a,x)::r,(a',x')::r' =>
  rw[h1,h2]at this;rw[h1]at e;exact this.1 e
structure Mono(n:Nat)(F:(Nat->Bool)->Nat->Bool):Prop where
 l:∀m m',(∀v,v<n->m v=true->m' v=true)->∀v,v<n->F m v=true->F m' v=true
structure Least(n:Nat)(F:(Nat->Bool)->Nat->Bool)(m:Nat->Bool):Prop where
 b:∀v,v<n->F m v=true->m v=true
 f:∀t:Nat->Bool,(∀v,v<n->F t v=true->t v=true)->∀v,v<n->m v=true->t v=true
def Least.a{n}{F:(Nat->Bool)->Nat->Bool}{m c}(h:Least n F m)(d:Least n F c):∀v,v<n->m v=c v:=by
 intro v g;have j:=h.f c d.b v g;have k:=d.f m h.b v g;cases e:m v<;>cases i:c v<;>simp_all
def cnt(m:Nat->Bool):Nat->Nat
 |0=>0
 |n+1=>cnt m n+(if m n then 1 else 0)
def dE m n:cnt m n<=n:=by
 induction n with
 |zero=>simp[cnt]
 |succ n a=>rw[cnt];split<;>omega
def eD m a n(h:∀v,v<n->m v=true->a v=true):cnt m n<=cnt a n:=by
 induction n with
 |zero=>simp[cnt]
 |succ n b =>
  have:=b (λv c=>h v oM);have:=h n oM;rw[cnt,cnt];split<;>split<;>simp_all<;>omega
def fY m b n(h:∀v,v<n->m v=true->b v=true)(e:cnt m n=cnt b n):∀v,v<n->b v=true->m v=true:=by
 induction n with
 |zero=>intro v c;omega
 |succ n g =>
  intro v c d;have i:=eD m b n (λv c=>h v oM);have f:=h n oM;rw[cnt,cnt]at e;by_cases q:v=n
  ·subst q;rw[Zp d]at e;by_cases a:m v=true
   ·exact a
   rw[Zn a]at e;omega
  refine g (λv c=>h v oM) ?_ v oM d;by_cases a:m n=true
  ·rw[Zp a,Zp (f a)]at e;omega
  rw[Zn a]at e;split at e<;>omega
def fZ m v n(h:v<n)(b:m v=false):cnt (λu=>m u||u==v) n=cnt m n+1:=by
 have c:∀k,k<=v->cnt (λu=>m u||u==v) k=cnt m k:=by
  intro k d;induction k with
  |zero=>rfl
  |succ k a=>rw[cnt,cnt,a oM];simp[show ¬k=v by omega]
 induction n with
 |zero=>omega
 |succ n a =>
  rw[cnt,cnt];by_cases e:v=n
  ·subst e;rw[c v (wF)];simp[b]
  rw[a oM];simp[show ¬n=v by omega];omega
def rnd(F:(Nat->Bool)->Nat->Bool):Nat->Nat->Bool
 |0=>λ_=>false
 |k+1=>F (rnd F k)
def eE{n}{F:(Nat->Bool)->Nat->Bool}(h:Mono n F)k:∀v,v<n->rnd F k v=true->rnd F (k+1) v=true:=by
 induction k with
 |zero=>intro v b e;simp[rnd]at e
 |succ k a=>exact h.l _ _ a
def iL{n}{F:(Nat->Bool)->Nat->Bool}(h:Mono n F):Least n F (rnd F n):=by
 have g:∀k,(∃j,j<=k/\∀v,v<n->rnd F (j+1) v=true->rnd F j v=true)\/k<cnt (rnd F (k+1)) n:=by
  intro k;induction k with
  |zero =>
   by_cases q:cnt (rnd F 1) n=0
   ·refine .inl ⟨0,wF,?_⟩;refine fY _ _ n (eE h 0) ?_;rw[q];have:cnt (rnd F 0) n<=cnt (rnd F 1) n:=eD _ _ n (eE h 0);omega
   exact .inr (Nat.pos_of_ne_zero q)
  |succ k a =>
   rcases a with⟨j,b,q⟩|a
   ·exact .inl ⟨j,oM,q⟩
   by_cases q:cnt (rnd F (k+1)) n=cnt (rnd F (k+1+1)) n
   ·exact .inl ⟨k+1,wF,fY _ _ n (eE h _) q⟩
   have:=eD _ _ n (eE h (k+1));exact .inr oM
 have f:∀j,(∀v,v<n->rnd F (j+1) v=true->rnd F j v=true)->∀d,∀v,v<n->rnd F (j+d+1) v=true->rnd F (j+d) v=true:=by
  intro j b d;induction d with
  |zero=>exact b
  |succ d a=>exact h.l _ _ a
 refine⟨?_,?_⟩
 ·rcases g n with⟨j,b,q⟩|q
  ·have:=f j q (n-j);rw[show j+(n-j)=n by omega]at this;exact this
  have:=dE (rnd F (n+1)) n;omega
 intro t i;have:∀k,∀v,v<n->rnd F k v=true->t v=true:=by
  intro k;induction k with
  |zero=>intro v c e;simp[rnd]at e
  |succ k a=>intro v c e;exact i v c (h.l _ _ a v c e)
 exact this n
structure WI(n:Nat)(F:(Nat->Bool)->Nat->Bool)(wl:List Nat)(m:Nat->Bool):Prop where
 b:∀x,x∈wl->x<n
 a:∀v,v<n->m v=false->F m v=true->v∈wl
 f:∀t:Nat->Bool,(∀v,v<n->F t v=true->t v=true)->∀v,v<n->m v=true->t v=true
def WI.d n(F:(Nat->Bool)->Nat->Bool)b(h:∀x,x∈b↔x<n):WI n F b (λ_=>false) :=
 ⟨λx c=>(h x).1 c,λv a _ _=>(h v).2 a,λt f v a e=>by simp at e⟩
def WI.e{n}{F:(Nat->Bool)->Nat->Bool}{m}(h:WI n F [] m):Least n F m :=
 ⟨λv b e=>by
  cases q:m v with
  |true=>rfl
  |false=>exact absurd (h.a v b q e) sM,h.f⟩
def WI.skip{n}{F:(Nat->Bool)->Nat->Bool}{e x m}(h:WI n F (e++[x]) m)(q:m x=true\/F m x=false):WI n F e m:=by
 refine⟨λy i=>h.b y (by simp[i]),λv g c d=>?_,h.f⟩;have:=h.a v g c d;simp at this;rcases this with k|rfl
 ·exact k
 rcases q with q|q
 ·rw[c]at q;cases q
 rw[d]at q;cases q
def WI.c{n}{F:(Nat->Bool)->Nat->Bool}{w o x m j}(B:Mono n F)(h:WI n F (w++[x]) m)(q:F m x=true)(r:∀v,v<n->j v=(m v||v==x))(C:∀u,u∈o->u<n)(z:∀v,v<n->F j v=true->F m v=false->v∈o):WI n F (w++o) j:=by
 have D:x<n:=h.b x sM;refine⟨λy s=>?_,λv d g A=>?_,λt i v d e=>?_⟩
 ·simp at s;rcases s with k|k
  ·exact h.b y (by simp[k])
  exact C y k
 ·rw[r v d]at g;simp at g;cases p:F m v with
  |false=>simp[z v d A p]
  |true =>
   have:=h.a v d g.1 p;simp at this;rcases this with k|k
   ·simp[k]
   exact aB k g.2
 rw[r v d]at e;simp at e;rcases e with e|rfl
 ·exact h.f t i v d e
 exact i v d (B.l m t (h.f t i) v d q)
def left(n:Nat)(m:Nat->Bool)(a:Nat):Nat:=(n-cnt m n)*(n+1)+a
def iY{n m a x c b}(i:x<n)(h:m x=false)(g:∀v,v<n->a v=(m v||v==x))(o:b<=n):left n a (c+b)<left n m (c+1):=by
 have e:cnt a n=cnt m n+1:=by
  rw[<-fZ m x n i h];have:∀k,k<=n->cnt a k=cnt (λu=>m u||u==x) k:=by
   intro k l;induction k with
   |zero=>rfl
   |succ k j=>rw[cnt,cnt,j oM,g k oM]
  exact this n wF
 have:=dE a n;unfold left;rw[e]at this ⊢;obtain⟨d,f⟩:∃d,n-cnt m n=d+1:=⟨n-cnt m n-1,oM⟩;rw[show n-(cnt m n+1)=d by omega,f,Gx];omega
def cJ(U:Nat->Nat->Bool)(x:Nat):Nat->List Nat
 |0=>[]
 |k+1=>cJ U x k++(if U k x then [k] else [])
def gC U x k v:v∈cJ U x k↔v<k/\U v x=true:=by
 induction k with
 |zero=>simp[cJ]
 |succ k c =>
  rw[cJ,Bh,c];by_cases e:U k x=true
  ·rw[Zp e];simp;constructor
   ·rintro (h|rfl)
    ·exact⟨oM,h.2⟩
    exact⟨oM,e⟩
   rintro⟨b,a⟩;by_cases q:v=k
   ·exact .inr q
   exact .inl ⟨oM,a⟩
  rw[Zn e];simp only[Jp,or_false];constructor
  ·rintro⟨b,a⟩;exact⟨oM,a⟩
  rintro⟨b,a⟩;refine⟨?_,a⟩;by_cases q:v=k
  ·subst q;exact aB a e
  omega
def gB U x k:(cJ U x k).length<=k:=by
 induction k with
 |zero=>simp[cJ]
 |succ k a=>rw[cJ,wK];split<;>simp<;>omega
end M
open M (OpD uh Gr)
structure NS where
 a:Nat
 b:Nat
 c:Nat
 d:Nat
def NS.w(s:NS)(i:Nat):Nat:=if i=0 then s.a else if i=1 then s.b else if i=2 then s.c else if i=3 then s.d else 0
structure NS.OK(s:NS):Prop where
 a:s.a<18446744073709551616
 b:s.b<18446744073709551616
 c:s.c<18446744073709551616
 d:s.d<18446744073709551616
def nz:NS:=⟨0,0,0,0⟩
instance:Inhabited NS:=⟨nz⟩
def NS.h(s:NS)(p:Nat):Bool:=(s.w (p / 64)).testBit (p%64)
def NS.k(s:NS)(p:Nat):NS :=
 ⟨if p / 64=0 then s.a ||| 2 ^ (p%64) else s.a,if p / 64=1 then s.b ||| 2 ^ (p%64) else s.b,if p / 64=2 then s.c ||| 2 ^ (p%64) else s.c,if p / 64=3 then s.d ||| 2 ^ (p%64) else s.d⟩
def NS.e(s t:NS):NS:=⟨s.a ||| t.a,s.b ||| t.b,s.c ||| t.c,s.d ||| t.d⟩
def Ha(s:NS):Vl:=.agg #[Uv s.a,Uv s.b,Uv s.c,Uv s.d]
def NS.OK.f:nz.OK:=⟨dC,dC,dC,dC⟩
def Mq{x y}(a:x<18446744073709551616)(b:y<18446744073709551616):x ||| y<18446744073709551616:=Nat.or_lt_two_pow (n:=64) a b
def MW{r}(h:r<64):2 ^ r<18446744073709551616:=Nat.pow_lt_pow_right (n:=64) dC h
def NS.OK.k{s:NS}(h:s.OK)(p:Nat):(s.k p).OK:=by
 have e:2 ^ (p%64)<18446744073709551616:=MW (Nat.mod_lt _ dC);refine⟨?_,?_,?_,?_⟩<;>(simp only[NS.k];split)
 ·exact Mq h.a e
 ·exact h.a
 ·exact Mq h.b e
 ·exact h.b
 ·exact Mq h.c e
 ·exact h.c
 ·exact Mq h.d e
 exact h.d
def NS.OK.e{s t:NS}(h:s.OK)(k:t.OK):(s.e t).OK:=⟨Mq h.a k.a,Mq h.b k.b,Mq h.c k.c,Mq h.d k.d⟩
def Va{p}(h:p<256):p / 64=0\/p / 64=1\/p / 64=2\/p / 64=3:=oM
def xD p:nz.h p=false:=by
 unfold NS.h NS.w;split
 ·simp[nz]
 split
 ·simp[nz]
 split
 ·simp[nz]
 split<;>simp[nz]
def X8 r k:(2 ^ r).testBit k=(r==k):=by
 rw[Nat.testBit_two_pow];by_cases h:r=k<;>simp[h]
def qT{s:NS}{p q:Nat}(g:p<256)(f:q<256):(s.k p).h q=(s.h q||q==p):=by
 unfold NS.h NS.w NS.k;have b:∀x:Nat,(x ||| 2 ^ (p%64)).testBit (q%64)=(x.testBit (q%64)||(p%64==q%64)):=λx=>by
  rw[Nat.testBit_or,X8]
 have c:p / 64=q / 64->(p%64==q%64)=(q==p):=λe=>by
  by_cases h:p%64=q%64
  ·have:q=p:=oM;rw[this];simp
  have:¬q=p:=λd=>h (by rw[d])
  rw[Ht.2 h,Ht.2 this]
 have a:p / 64≠q / 64->(q==p)=false:=λe=>by
  have:¬q=p:=λd=>e (by rw[d])
  simp[this]
 rcases Va f with h|h|h|h
 ·simp only[h,Zp];by_cases e:p / 64=0
  ·rw[Zp e,b,c oM]
  rw[Zn e,a oM,Nd]
 ·simp only[h];by_cases e:p / 64=1
  ·simp[e,b,c oM]
  simp[e,a oM]
 ·simp only[h];by_cases e:p / 64=2
  ·simp[e,b,c oM]
  simp[e,a oM]
 simp only[h];by_cases e:p / 64=3
 ·simp[e,b,c oM]
 simp[e,a oM]
def MX(s t:NS)(q:Nat):(s.e t).h q=(s.h q||t.h q):=by
 unfold NS.h NS.w NS.e;split
 ·simp
 split
 ·simp
 split
 ·simp
 split<;>simp
def Vb{x r:Nat}(c:x<18446744073709551616):(bits .and .u64 ((x:Int) / 2 ^ r) 1==1)=x.testBit r:=by
 have e:(x:Int) / 2 ^ r=((x / 2 ^ r:Nat):Int):=sM;have b:x / 2 ^ r<18446744073709551616:=Nat.lt_of_le_of_lt (Nat.div_le_self _ _) c;have a:=u64_and_nat (x / 2 ^ r) 1 b dC;rw[e,show(1:Int)=((1:Nat):Int) from rfl,a,nat_mask1,Nat.testBit_eq_decide_div_mod_eq];by_cases h:x / 2 ^ r%2=1
 ·simp[h]
 have:x / 2 ^ r%2=0:=oM;simp[this]
def MY s(p:Nat)w(f:s.OK)(g:p<256) :
  Cs 139 #[Ha s,Iv p] w λe w'=>e=Rt (.bool (s.h p))/\w'=w.alloc (Oc #[Uv s.a,Uv s.b,Uv s.c,Uv s.d] 191):=by
 unfold Ha;have i:(p:Int).tdiv 64=((p / 64:Nat):Int):=by simp[Int.tdiv_eq_ediv]
 have j:(p:Int).tmod 64=((p%64:Nat):Int):=by simp[Int.tmod_eq_emod]
 have k:p%64<64:=Nat.mod_lt _ dC;rcases Va g with h|h|h|h;all_goals (
  rw[h]at i;go_enter func139,ntmps139;go_wp2;go_ret;refine⟨yO ?_,rfl⟩;unfold NS.h NS.w;rw[h];first
   |exact Vb f.a
   |exact Vb f.b
   |exact Vb f.c
   |exact Vb f.d)
def Vc{x r:Nat}(c:x<18446744073709551616)(h:r<64):bits .or .u64 (x:Int) (IntKind.u64.wrap (2 ^ r))=((x ||| 2 ^ r:Nat):Int):=by
 have b:=MW h;have e:(2:Int) ^ r=((2 ^ r:Nat):Int):=sM;have a:IntKind.u64.wrap (2 ^ r)=((2 ^ r:Nat):Int):=by
  rw[e];generalize 2 ^ r=x at *;simp[IntKind.wrap,IntKind.bits,IntKind.signed];omega
 rw[a];exact u64_or_nat x (2 ^ r) c b
def X9{a b c d:Int}{s:NS}(e:a=s.a)(f:b=s.b)(g:c=s.c)(h:d=s.d):Rt (.agg #[Uv a,Uv b,Uv c,Uv d])=Rt (.agg #[Uv s.a,Uv s.b,Uv s.c,Uv s.d]):=by
 rw[e,f,g,h]
def Y0 s(p:Nat)w(g:s.OK)(i:p<256) :
  Cs 140 #[Ha s,Iv p] w λe w'=>e=Rt (Ha (s.k p))/\Bw w w':=by
 unfold Ha;have j:(p:Int).tdiv 64=((p / 64:Nat):Int):=by simp[Int.tdiv_eq_ediv]
 have l:(p:Int).tmod 64=((p%64:Nat):Int):=by simp[Int.tmod_eq_emod]
 have f:p%64<64:=Nat.mod_lt _ dC;rcases Va i with h|h|h|h;all_goals (
  rw[h]at j;go_enter func140,ntmps140;go_wp2;go_region;go_wp2;refine wL (by simp[results,f140,go_sem];rfl) rfl ?_;refine⟨X9 ?_ ?_ ?_ ?_,(Bn w).drew⟩;all_goals (
   simp only[NS.k,h];first
    |rfl
    |exact Vc g.a f
    |exact Vc g.b f
    |exact Vc g.c f
    |exact Vc g.d f))
def part(s t:NS)(k:Nat):NS:=⟨if 0<k then s.a ||| t.a else s.a,if 1<k then s.b ||| t.b else s.b,if 2<k then s.c ||| t.c else s.c,if 3<k then s.d ||| t.d else s.d⟩
def zA(s:NS):Obj:=.cells #[Uv s.a,Uv s.b,Uv s.c,Uv s.d] 191
def Y1(w:Wl)(s t:NS)(i:Vl)(wr:Wl):Prop :=
 ∃k:Nat,k<=4/\i=Iv (k:Int)/\wr=((w.alloc (zA (part s t k))).alloc (zA t)).alloc (zA nz)
def Y2 s t:part s t 0=s:=rfl
def MZ s t:part s t 1=⟨s.a ||| t.a,s.b,s.c,s.d⟩:=rfl
def NA s t:part s t 2=⟨s.a ||| t.a,s.b ||| t.b,s.c,s.d⟩:=rfl
def ND s t:part s t 3=⟨s.a ||| t.a,s.b ||| t.b,s.c ||| t.c,s.d⟩:=rfl
def NF s t:part s t 4=⟨s.a ||| t.a,s.b ||| t.b,s.c ||| t.c,s.d ||| t.d⟩:=rfl
def NG s t w(l:s.OK)(m:t.OK) :
  Cs 141 #[Ha s,Ha t] w λe w'=>e=Rt (Ha (s.e t))/\Bw w w':=by
 obtain⟨a,b,c,d⟩:=s;obtain⟨f,g,h,j⟩:=t;have v:=u64_or_nat _ _ l.a m.a;have x:=u64_or_nat _ _ l.b m.b;have y:=u64_or_nat _ _ l.c m.c;have z:=u64_or_nat _ _ l.d m.d;have p:∀w:Wl,(Instr.index 191 (.agg #[Uv f,Uv g,Uv h,Uv j]) (Iv 0)).run prog w=.ok (Uv f) w:=λ_=>by kernel_rfl
 have q:∀w:Wl,(Instr.index 191 (.agg #[Uv f,Uv g,Uv h,Uv j]) (Iv 1)).run prog w=.ok (Uv g) w:=λ_=>by kernel_rfl
 have r:∀w:Wl,(Instr.index 191 (.agg #[Uv f,Uv g,Uv h,Uv j]) (Iv 2)).run prog w=.ok (Uv h) w:=λ_=>by kernel_rfl
 have u:∀w:Wl,(Instr.index 191 (.agg #[Uv f,Uv g,Uv h,Uv j]) (Iv 3)).run prog w=.ok (Uv j) w:=λ_=>by kernel_rfl
 simp only[Ha,NS.e];go_enter func141,ntmps141;go_wp2;go_loopw [8] (λi wr=>Y1 w ⟨a,b,c,d⟩ ⟨f,g,h,j⟩ i wr) (λi _=>4-(intOf i).toNat)
 ·exact⟨0,oM,rfl,rfl⟩
 obtain⟨k,o,rfl,rfl⟩:=hrel;have n:k=0\/k=1\/k=2\/k=3\/k=4:=oM;rcases n with rfl|rfl|rfl|rfl|rfl
 ·simp only[zA,Y2,nz];go_wp2;go_roundw
  ·exact⟨1,oM,rfl,by simp only[zA,MZ,nz];rfl⟩
  simp[intOf]
 ·simp only[zA,MZ,nz];go_wp2;go_roundw
  ·exact⟨2,oM,rfl,by simp only[zA,NA,nz];rfl⟩
  simp[intOf]
 ·simp only[zA,NA,nz];go_wp2;go_roundw
  ·exact⟨3,oM,rfl,by simp only[zA,ND,nz];rfl⟩
  simp[intOf]
 ·simp only[zA,ND,nz];go_wp2;go_roundw
  ·exact⟨4,oM,rfl,by simp only[zA,NF,nz];rfl⟩
  simp[intOf]
 simp only[zA,NF,nz];go_wp2;refine wL (by simp[results,f141,go_sem];rfl) rfl ?_;exact⟨rfl,Mp w _ _ _⟩
open M (LessT)
def Fe(n:Nat)(T:Nat->Int):Prop:=∀i,i<n->0<=T i/\T i<=255
def Cf(n:Nat)(T:Nat->Int):List UInt8:=(List.range n).map λi=>UInt8.ofNat (T i).toNat
def str(n:Nat)(T:Nat->Int):ByteArray:=strOfNums ((List.range n).map T)
def qF n T:(str n T).toList=Cf n T:=by
 rw[ByteArray.toList_eq,str,strOfNums_data,Cf,Md];rfl
def xC{n}{T}:(str n T).data.toList=Cf n T:=by
 rw[str,strOfNums_data,Cf,Md];rfl
def Wp n T:(str n T).size=n:=by rw[str,strOfNums_size];simp
def kG n T:Cf (n+1) T=UInt8.ofNat (T 0).toNat::Cf n (λi=>T (i+1)):=by
 simp[Cf,List.range_succ_eq_map,Function.comp_def]
def uvl{x y:Int}(a:0<=x/\x<=255)(b:0<=y/\y<=255):UInt8.ofNat x.toNat<UInt8.ofNat y.toNat↔x<y:=by
 rw[UInt8.lt_iff_toNat_lt];simp only[UInt8.toNat_ofNat'];omega
def TD{x y:Int}(a:0<=x/\x<=255)(b:0<=y/\y<=255):UInt8.ofNat x.toNat=UInt8.ofNat y.toNat↔x=y:=by
 rw[<-UInt8.toNat_inj];simp only[UInt8.toNat_ofNat'];omega
def ub7 n S T:¬LessT n S 0 T:=by
 rintro⟨k,_,_,_,⟨_,h,_⟩|⟨_,h⟩⟩<;>omega
def ucI m S T:LessT 0 S (m+1) T:=⟨0,λi a=>oM,oM,oM,.inr ⟨rfl,oM⟩⟩
def ujB n m S T:LessT (n+1) S (m+1) T↔S 0<T 0\/(S 0=T 0/\LessT n (λi=>S (i+1)) m (λi=>T (i+1))):=by
 constructor
 ·rintro⟨k,c,f,g,h⟩;by_cases o:k=0
  ·subst o;rcases h with⟨_,_,h⟩|⟨h,_⟩
   ·exact .inl h
   omega
  obtain⟨q,rfl⟩:∃q,k=q+1:=⟨k-1,oM⟩;refine .inr ⟨c 0 oM,q,λi d=>c (i+1) oM,oM,oM,?_⟩;rcases h with⟨a,b,h⟩|⟨a,b⟩
  ·exact .inl ⟨oM,oM,h⟩
  exact .inr ⟨oM,oM⟩
 rintro (h|⟨h,q,c,f,g,l⟩)
 ·exact⟨0,λi d=>oM,oM,oM,.inl ⟨oM,oM,h⟩⟩
 refine⟨q+1,λi d=>?_,oM,oM,?_⟩
 ·by_cases e:i=0
  ·subst e;exact h
  obtain⟨j,rfl⟩:∃j,i=j+1:=⟨i-1,oM⟩;exact c j oM
 rcases l with⟨a,b,h⟩|⟨a,b⟩
 ·exact .inl ⟨oM,oM,h⟩
 exact .inr ⟨oM,oM⟩
def DU:∀(n m:Nat) (S T:Nat->Int),Fe n S->Fe m T->(Op.bytesLess (Cf n S) (Cf m T)=true↔LessT n S m T)
 |n,0,S,T,_,_=>by
  have:Cf 0 T = []:=rfl;rw[this];cases Cf n S<;>simp[Op.bytesLess,ub7]
 |0,m+1,S,T,_,_=>by
  rw[kG];have:Cf 0 S = []:=rfl;rw[this];simp[Op.bytesLess,ucI]
 |n+1,m+1,S,T,hS,hT=>by
  have b:=DU n m (λi=>S (i+1)) (λi=>T (i+1)) (λi a=>hS (i+1) oM) (λi a=>hT (i+1) oM);rw[kG,kG,Op.bytesLess,ujB,<-b];simp only[Ma,Kd,decide_eq_true_eq,beq_iff_eq];rw[uvl (hS 0 oM) (hT 0 oM),TD (hS 0 oM) (hT 0 oM)]
def TE:∀(xs ys:List UInt8),-1<=Lib.compareBytes xs ys/\Lib.compareBytes xs ys<=1/\(Lib.compareBytes xs ys<0↔Op.bytesLess xs ys=true)
 |[],[]=>by simp[Lib.compareBytes,Op.bytesLess]
 |[],_::_=>by simp[Lib.compareBytes,Op.bytesLess]
 |_::_,[]=>by simp[Lib.compareBytes,Op.bytesLess]
 |a::x,b::y=>by
  obtain⟨d,f,g⟩:=TE x y;rw[Lib.compareBytes,Op.bytesLess];by_cases e:a<b
  ·simp[e]
  by_cases c:b<a
  ·have i:¬a=b:=λq=>e (by rw[q]at c ⊢;exact c)
   simp[e,c,i]
  have h:a=b:=UInt8.le_antisymm (UInt8.not_lt.1 c) (UInt8.not_lt.1 e);subst h;simp[e];exact⟨d,f,g⟩
def DV:∀(n m:Nat) (S T:Nat->Int),Fe n S->Fe m T->(Cf n S=Cf m T↔n=m/\∀i,i<n->S i=T i)
 |0,0,S,T,_,_=>⟨λ_=>⟨rfl,λi b=>oM⟩,λ_=>rfl⟩
 |0,m+1,S,T,_,_=>by
  rw[kG];exact⟨λh=>aB h (by simp[Cf]),λh=>oM⟩
 |n+1,0,S,T,_,_=>by
  rw[kG];exact⟨λh=>aB h (by simp[Cf]),λh=>oM⟩
 |n+1,m+1,S,T,hS,hT=>by
  have f:=DV n m (λi=>S (i+1)) (λi=>T (i+1)) (λi b=>hS (i+1) oM) (λi b=>hT (i+1) oM);rw[kG,kG,List.cons.injEq,f,TD (hS 0 oM) (hT 0 oM)];constructor
  ·rintro⟨c,d,a⟩;refine⟨oM,λi b=>?_⟩;by_cases e:i=0
   ·subst e;exact c
   obtain⟨j,rfl⟩:∃j,i=j+1:=⟨i-1,oM⟩;exact a j oM
  rintro⟨d,a⟩;exact⟨a 0 oM,oM,λi b=>a (i+1) oM⟩
def utU n m S T(a:Fe n S)(b:Fe m T):str n S=str m T↔n=m/\∀i,i<n->S i=T i:=by
 rw[<-DV n m S T a b,<-xC,<-xC];constructor
 ·intro h;rw[h]
 intro h;apply ByteArray.ext;exact Array.ext' h
def uma w x:(loadCells x 0).run prog w=.ok #[] w:=by
 have:=run_loadCells_list (P:=prog) w x [] (λj v h=>by simp at h);simpa using this
def vX Q a n c T w(h:wB Q .u8 w a n T):(convert 22 9 (Sl a n c)).run prog w=.ok (.string (str n T)) w:=by
 by_cases e:n=0
 ·subst e;cases a with
  |none=>exact run_convert_bytes_nil w 22 5 underlying22 underlying5 0 c 9 underlying9
  |some x =>
   rw[run_convert_bytes_string w 22 9 5 _ 0 c underlying22 underlying5 underlying9,run_bytesToString w x 0 c [] (by simpa using uma w x)];rfl
 rcases h with h|⟨b,off,rfl,f,h⟩
 ·omega
 exact run_convert_bytes_arg w 22 5 underlying22 underlying5 b off n c ((List.range n).map T) sM (λi d=>by rw[h i d];simp[d]) 9 underlying9
def DW Q a b n c m d S T w(j:wB Q .u8 w a n S)(k:wB Q .u8 w b m T)(h:Fe n S)(i:Fe m T) :
  Cs 57 #[Sl a n c,Sl b m d] w (Ex (LessT n S m T) w):=by
 have r1:=vX Q a n c S w j;have r2:=vX Q b m d T w k;have e:=ua (DU n m S T h i);have f:=ua (qF n S);have g:=ua (qF m T);generalize str n S=l at *;generalize str m T=o at *;go_enter func57,ntmps57;go_wp2;go_ret;exact⟨⟨_,rfl,by rw[f.o,g.o];exact e⟩,rfl⟩
def TF Q a n c T w(h:wB Q .u8 w a n T):(Extern.Bytes.bytesOf (Sl a n c)).run prog w=.ok (str n T) w:=by
 have k:(⟨ByteArray.empty.data++(Lib.bytesOf ((List.range n).map T)).toArray⟩:ByteArray)=str n T:=by
  apply ByteArray.ext;show(#[]:Array UInt8)++(Lib.bytesOf ((List.range n).map T)).toArray=_;simp[Lib.bytesOf,str,strOfNums]
 by_cases i:n=0
 ·subst i;cases a with
  |none=>rfl
  |some x =>
   have:=Lib.run_loadBytesX (P:=prog) w [] x .empty (λj y h=>by simp at h);exact this
 rcases h with h|⟨b,off,rfl,l,h⟩
 ·omega
 have g:=Lib.run_loadBytesX (P:=prog) w ((List.range n).map T) (Ad b off) .empty (λj x d=>by
  have f:j<n:=by simpa using (zT.1 d).1
  have e:((Ad b off):Addr).add j=(Ad b (off+j)):=by unfold Addr.add;split<;>simp_all
  rw[e,h j f];simp[f]at d;rw[d])
 rw[k,show((List.range n).map T).length=n by simp]at g;exact g
def uh7 Q a b n c m d S T w(e:wB Q .u8 w a n S)(f:wB Q .u8 w b m T) :
  (Extern.BytealgCompare.compare #[Sl a n c,Sl b m d]).run prog w=.ok (Iv (Lib.compareBytes (Cf n S) (Cf m T))) w:=by
 change Sem.run prog (do pure (goInt (Extern.BytealgCompare.cmp (<-Extern.Bytes.bytesOf (Sl a n c)) (<-Extern.Bytes.bytesOf (Sl b m d))))) w=_;simp only[Fa,TF Q a n c S w e,TF Q b m d T w f,Gc,Result.andThen];rw[Lib.cmp_eq,xC,xC];rfl
def uh8 n m S T(g:Fe n S)(h:Fe m T):∃r:Int,-1<=r/\r<=1/\(r<0↔LessT n S m T) /\
  ∀(Q:Np) (a b:Oa) (c d:Nat) (w:Wl),wB Q .u8 w a n S->wB Q .u8 w b m T->Cs 166 #[Sl a n c,Sl b m d] w λe w'=>e=Rt (Iv r)/\w'=w:=by
 obtain⟨i,j,k⟩:=TE (Cf n S) (Cf m T);refine⟨_,i,j,k.trans (DU n m S T g h),λQ a b c d w l o=>?_⟩;have f:=ua (uh7 Q a b n c m d S T w l o);go_enter func166,ntmps166;go_wp2;rw[run_callFunc_extern func201 rR rR rR (e:=Extern.BytealgCompare.compare) rR,f.o];simp only[Result.andThen];rw[Oper.upon_value];go_wp2;go_ret;exact⟨rfl,rfl⟩
namespace M
structure uw where
 e:Int
 f:Int
 to:Int
 sl:Nat
 set:Nat->Int
def ins(k a t:Int):uw:=⟨k,a,t,0,λ_=>0⟩
inductive EX where
 |empty
 |set (n:Nat) (S:Nat->Int)
 |ref (n:Nat)
 |thr (l n:Nat)
 |seq (x y:EX)
 |alt (x y:EX)
 |star (x:EX)
 |not (x:EX)
instance:Inhabited EX:=⟨.empty⟩
def EX.c:EX->Nat
 |.empty=>0
 |.set _ _=>1
 |.ref _=>1
 |.thr _ _=>1
 |.seq x y=>x.c+y.c
 |.alt x y=>x.c+y.c+2
 |.star x=>x.c+2
 |.not x=>x.c+2
def uJ(r:Nat->Int):EX->Nat->List uw
 |.empty,_=>[]
 |.set n S,_=>[⟨0,0,0,n,S⟩]
 |.ref n,_=>[ins 6 0 (r n)]
 |.thr l n,_=>[ins 8 l (r n)]
 |.seq x y,p=>uJ r x p++uJ r y (p+x.c)
 |.alt x y,p=>ins 1 0 ((p+x.c+2:Nat):Int)::(uJ r x (p+1)++ins 2 0 ((p+x.c+y.c+2:Nat):Int)::uJ r y (p+x.c+2))
 |.star x,p=>ins 1 0 ((p+x.c+2:Nat):Int)::(uJ r x (p+1)++[ins 3 0 ((p+1:Nat):Int)])
 |.not x,p=>ins 4 0 ((p+x.c+2:Nat):Int)::(uJ r x (p+1)++[ins 5 0 0])
def emit_len r t:∀p,(uJ r t p).length=t.c:=by
 induction t with
 |empty|set n S|ref n|thr l n=>intro p;rfl
 |seq x y a b=>intro p;simp[uJ,EX.c,a,b]
 |alt x y a b=>intro p;simp[uJ,EX.c,a,b];omega
 |star x ih|not x ih=>intro p;simp[uJ,EX.c,ih]
def lk(f:Int->Int)(i:uw):uw:=if i.e=6\/i.e=8 then { i with to:=f i.to } else i
def iT r f t:∀p,(uJ r t p).map (lk f)=uJ (λn=>f (r n)) t p:=by
 induction t with
 |empty=>intro p;rfl
 |set n S=>intro p;simp[uJ,lk]
 |ref n|thr l n=>intro p;simp[uJ,lk,ins]
 |seq x y a b=>intro p;simp[uJ,a,b]
 |alt x y a b=>intro p;simp[uJ,a,b];simp[lk,ins]
 |star x ih|not x ih=>intro p;simp[uJ,ih];simp[lk,ins]
def EX.a(m:Nat):EX->Prop
 |.ref n=>n<m
 |.thr _ n=>n<m
 |.seq x y=>x.a m/\y.a m
 |.alt x y=>x.a m/\y.a m
 |.star x=>x.a m
 |.not x=>x.a m
 |_=>True
def bB(nr:Nat)(o:OpD)(x y:EX):EX :=
 if o.e=1 then .set o.sl o.set else if o.e=2 then .ref o.f.toNat else if o.e=3 then .thr o.f.toNat (nr+o.f.toNat)
 else if o.e=4 then .seq x y else if o.e=5 then .alt x y else if o.e=6 then .star x else if o.e=7 then .not x else .empty
def cD(nr n:Nat)(B:Nat->OpD):EX:=top (stk (bB nr) B n)
def wt(k:Int):Nat:=if k=1\/k=2\/k=3 then 1 else if k=5\/k=6\/k=7 then 2 else 0
def jW(B:Nat->OpD):Nat->Nat
 |0=>0
 |n+1=>jW B n+wt (B n).e
def eS B n:jW B n<=2*n:=by
 induction n with
 |zero=>exact wF
 |succ n a =>
  have:wt (B n).e<=2:=by unfold wt;split<;>(try split)<;>omega
  rw[jW];omega
def dG:List (Nat×EX)->Nat
 |[]=>0
 |(_,t)::r=>t.c+dG r
def dH nr o x y:(ar o.e=2->(bB nr o x y).c=x.c+y.c+wt o.e)/\(ar o.e=1->(bB nr o x y).c=x.c+wt o.e)/\(ar o.e=0->(bB nr o x y).c=wt o.e):=by
 unfold bB ar wt;by_cases a:o.e=1
 ·simp[a,EX.c]
 by_cases b:o.e=2
 ·simp[b,EX.c]
 by_cases d:o.e=3
 ·simp[d,EX.c]
 by_cases f:o.e=4
 ·simp[f,EX.c]
 by_cases g:o.e=5
 ·simp[g,EX.c]
 by_cases h:o.e=6
 ·simp[h,EX.c]
 by_cases i:o.e=7
 ·simp[i,EX.c]
 simp[a,b,d,f,g,h,i,EX.c]
def fV nr B n(h:Fed B n):dG (stk (bB nr) B n)=jW B n:=by
 induction n with
 |zero=>rfl
 |succ n i =>
  have e:=i (h.g oM);have d:=bR (bB nr) B n (h.g oM);have f:=h n oM;rw[stk,jW];generalize stk (bB nr) B n=l at *;rcases dD (B n).e with c|c|c
  ·have:=(dH nr (B n) default default).2.2 c;simp[stp,c,dG,this];omega
  ·rw[c]at f;match l,e,d with
   |[],e,d=>simp at d;omega
   |(a,x)::r,e,d =>
    have:=(dH nr (B n) x default).2.1 c;simp[stp,c,dG,this]at *;omega
  rw[c]at f;match l,e,d with
  |[],e,d=>simp at d;omega
  |[(a,x)],e,d=>simp at d;omega
  |(a,y)::(b,x)::r,e,d =>
   have:=(dH nr (B n) x y).1 c;simp[stp,c,dG,this]at *;omega
def fW nr B a lo x(d:Fed B a)(e:stk (bB nr) B a=(lo,x)::stk (bB nr) B lo)(f:lo<=a):x.c+jW B lo=jW B a:=by
 have b:=fV nr B a d;have h:=fV nr B lo (d.g f);rw[e]at b;simp only[dG]at b;omega
def eX{nr b o}(k:bE nr b o){x y}(d:x.a (nr+b))(j:y.a (nr+b)):(bB nr o x y).a (nr+b):=by
 obtain⟨l,m,n,p,q,c⟩:=k;unfold bB;by_cases i:o.e=1
 ·rw[Zp i];trivial
 rw[Zn i];by_cases g:o.e=2
 ·rw[Zp g];unfold bM at c;rw[Zn oM,Zp g]at c;show o.f.toNat<nr+b;omega
 rw[Zn g];by_cases h:o.e=3
 ·rw[Zp h];unfold bM at c;rw[Zp h]at c;show nr+o.f.toNat<nr+b;omega
 rw[Zn h];split
 ·exact⟨d,j⟩
 split
 ·exact⟨d,j⟩
 split
 ·exact d
 split
 ·exact d
 trivial
def iU{nr e}B n(f:∀i,i<n->bE nr e (B i)):∀p,p∈stk (bB nr) B n->p.2.a (nr+e):=by
 induction n with
 |zero=>intro p b;simp[stk]at b
 |succ n g =>
  have ih':=g (λi h=>f i oM);have d:=f n oM;have c:(default:EX).a (nr+e):=trivial;rw[stk];generalize stk (bB nr) B n=l at *;intro p b;unfold stp at b;split at b
  ·match l,ih',b with
   |[],_,b=>simp at b
   |[_],_,b=>simp at b
   |(s2,y)::(s1,x)::r,ih',b =>
    rcases Bx.1 b with rfl|b
    ·exact eX d (ih' (s1,x) sM) (ih' (s2,y) sM)
    exact ih' p (by simp[b])
  split at b
  ·match l,ih',b with
   |[],_,b=>simp at b
   |(s1,x)::r,ih',b =>
    rcases Bx.1 b with rfl|b
    ·exact eX d (ih' (s1,x) sM) c
    exact ih' p (by simp[b])
  rcases Bx.1 b with rfl|b
  ·exact eX d c c
  exact ih' p b
def iN{nr b n B}(c:∀i,i<n->bE nr b (B i)):(cD nr n B).a (nr+b):=by
 unfold cD;have:=iU B n c;generalize stk (bB nr) B n=l at *;match l,this with
 |[],_=>trivial
 |(s,t)::r,h=>exact h (s,t) sM
def nodeC(r:Nat->Int)(o:uw)(t:EX)(p:Nat):List uw:=o::(uJ r t (p+1)++[ins 11 0 0,ins 7 0 0])
def eU r o t p:(nodeC r o t p).length=t.c+3:=by simp[nodeC,emit_len]
def bK(r:Nat->Int)(b:Nat->uw)(c:Nat->EX)(a:Nat->Bool):Nat->List uw
 |0=>[ins 6 0 (r 0),ins 12 0 0]
 |k+1=>if a k then bK r b c a k++nodeC r (b k) (c k) (bK r b c a k).length else bK r b c a k
def eR r e c d a k:(bK r c d a k).length=(bK e c d a k).length:=by
 induction k with
 |zero=>rfl
 |succ k b =>
  rw[bK,bK];split
  ·rw[wK,wK,eU,eU,b]
  exact b
def fT(b:Nat->uw)(c:Nat->EX)(a:Nat->Bool)(p:Nat):Int:=if a p then ((bK (λ_=>0) b c a p).length:Int) else -1
def iM r f a d b(h:∀p,(a p).e=9\/(a p).e=10)k:(bK r a d b k).map (lk f)=bK (λn=>f (r n)) a d b k:=by
 induction k with
 |zero=>simp[bK,lk,ins]
 |succ k c =>
  rw[bK,bK];split
  ·rw[Cl,c,eR (λn=>f (r n)) r];congr 1;unfold nodeC;simp only[Er,Cl,Gl,iT];have g:lk f (a k)=a k:=by
    unfold lk;rw[Zn];rcases h k with q|q<;>omega
   rw[g];simp[lk,ins]
  exact c
end M
section
open M (OpD uh Gr)
variable {α:Type} [Inhabited α] (f:OpD->α->α->α) (B:Nat->OpD)
def ujA(q lo:Nat)(x:α)(d:M.Fed B (q+1))(l:M.ar (B q).e=2)(e:M.stk f B (q+1)=(lo,x)::M.stk f B lo) :
  ∃s y z,lo<s/\s<q/\M.stk f B q=(s,y)::M.stk f B s/\M.stk f B s=(lo,z)::M.stk f B lo/\x=f (B q) z y/\M.dep B s+1=M.dep B q/\∀j,s<j->j<=q->M.dep B q<=M.dep B j:=by
 have c:M.Fed B q:=d.g oM;have a:=M.bR f B q c;have o:=d q oM;rw[M.stk]at e;match hs:M.stk f B q with
 |[]=>rw[hs]at a;simp at a;omega
 |[(s,y)]=>rw[hs]at a;simp at a;omega
 |(s,y)::(s1,z)::r =>
  rw[hs]at e a;simp only[M.stp,l,if_true,List.cons.injEq,Kt]at e;obtain⟨⟨rfl,rfl⟩,n⟩:=e;obtain⟨h,b,i⟩:=M.cI f B q c s y _ hs;obtain⟨b1,k,m⟩:=M.cI f B s (c.g oM) s1 z r b.symm;have l2:=M.bR f B s (c.g oM);rw[<-b]at l2;simp at a l2;exact⟨s,y,z,b1,h,by rw[<-b],by rw[<-b,k],rfl,oM,i⟩
def ul8(q lo:Nat)(x:α)(b:M.Fed B (q+1))(i:M.ar (B q).e=1)(e:M.stk f B (q+1)=(lo,x)::M.stk f B lo) :
  ∃z,lo<q/\M.stk f B q=(lo,z)::M.stk f B lo/\x=f (B q) z default:=by
 have c:M.Fed B q:=b.g oM;have a:=M.bR f B q c;have l:=b q oM;rw[M.stk]at e;match hs:M.stk f B q with
 |[]=>rw[hs]at a;simp at a;omega
 |(s,z)::r =>
  rw[hs]at e a;simp[M.stp,i]at e;obtain⟨⟨rfl,rfl⟩,h⟩:=e;obtain⟨d,j,k⟩:=M.cI f B q c s z _ hs;exact⟨z,d,by rw[<-h],rfl⟩
end
namespace M
structure Sound(g:Gr):Prop where
 r1:0<g.nr
 r2:g.nr<=100
 l2:g.nb<=100
 rn:∀i,i<g.nr->cE (g.a i).nl (g.a i).f
 ln:∀i,i<g.nb->cE (g.d i).nl (g.d i).f
 rb:∀i,i<g.nr->bF g.nr g.nb (g.a i).bl (g.a i).e
 lb:∀i,i<g.nb->(g.d i).h=true->bF g.nr g.nb (g.d i).bl (g.d i).e
 lz:∀i,i<g.nb->(g.d i).h=false->(g.d i).bl=0
 ol:ops g<=2000
def Valid.a{g}(h:Valid g):Sound g:=⟨h.r1,h.r2,h.l2,h.rn,h.ln,h.rb,h.lb,h.lz,h.ol⟩
end M
namespace M
inductive TX where
 |empty
 |set (n:Nat) (S:Nat->Int)
 |ref (s:ByteArray)
 |thr (s:ByteArray)
 |seq (x y:TX)
 |alt (x y:TX)
 |star (x:TX)
 |not (x:TX)
instance:Inhabited TX:=⟨.empty⟩
def b1(x:UInt8):ByteArray:=⟨#[x]⟩
def qe(v:Int):UInt8:=if v<10 then UInt8.ofNat (48+v.toNat) else UInt8.ofNat (87+v.toNat)
def uH(b:Int):ByteArray :=
 if b=10 then ⟨#[92,110]⟩ else if b=9 then ⟨#[92,116]⟩ else if b=13 then ⟨#[92,114]⟩
 else if b=92\/b=34\/b=91\/b=93\/b=45\/b=94 then ⟨#[92,UInt8.ofNat b.toNat]⟩
 else if 32<=b/\b<=126 then ⟨#[UInt8.ofNat b.toNat]⟩
 else ⟨#[92,120,qe (b / 16),qe (b%16)]⟩
def jV(lo a:Int):ByteArray:=uH lo++(if lo+1<a then b1 45 else ByteArray.empty)++(if lo<a then uH a else ByteArray.empty)
def je(S:Nat->Int):Nat->ByteArray
 |0=>ByteArray.empty
 |k+1=>je S k++jV (S (2*k)) (S (2*k+1))
def setT(n:Nat)(S:Nat->Int):ByteArray :=
 if n=2/\S 0=0/\S 1=255 then b1 46 else if n=2/\S 0=S 1 then b1 34++uH (S 0)++b1 34
 else b1 91++je S (n / 2)++b1 93
def grp(c:Bool)(s:ByteArray):ByteArray:=if c then b1 40++s++b1 41 else s
def cU x:(b1 x).size=1:=rfl
def lS:ByteArray.empty.size=0:=rfl
def cW b:(uH b).size<=4:=by
 unfold uH;split
 ·simp[ByteArray.size]
 split
 ·simp[ByteArray.size]
 split
 ·simp[ByteArray.size]
 split
 ·simp[ByteArray.size]
 split<;>simp[ByteArray.size]
def lT lo a:(jV lo a).size<=9:=by
 unfold jV;have d:=cW lo;have e:=cW a;rw[Ft,Ft];have b:=cU 45;have c:=lS;split<;>split<;>omega
def fB S k:(je S k).size<=9*k:=by
 induction k with
 |zero=>simp[je]
 |succ k a =>
  have:=lT (S (2*k)) (S (2*k+1));rw[je,Ft];omega
def dR{n S}(h:bL n S):n<=256:=by
 obtain⟨l,f⟩:=h;obtain⟨k,rfl⟩:∃k,n=2*k:=⟨n / 2,oM⟩;have d:=(dW S k).2 f;have i:∀j,j<k->2*(j:Int)<=S (2*j):=by
  intro j;induction j with
  |zero=>intro e;have:=(d 0 e).1;simp[bQ]at this;simpa using this
  |succ j g =>
   intro e;have a:=g oM;have b:=(d j oM).2.1;have c:=(d (j+1) e).1;unfold bQ at c;rw[Zn oM,show 2*(j+1)-1=2*j+1 by omega]at c
   push_cast
   omega
 by_cases m:k=0
 ·omega
 have a:=i (k-1) oM;have b:=d (k-1) oM;have:=b.2.1;have:=b.2.2;omega
def eF{n S}(h:bL n S):(setT n S).size<=1200:=by
 have c:=dR h;have b:=fB S (n / 2);have a:=cW (S 0);unfold setT;split
 ·rw[cU];omega
 split
 ·rw[Ft,Ft,cU];omega
 rw[Ft,Ft,cU,cU];omega
end M
open M (TX b1)
def OI{g}(c:M.Sound g){k}(d:k<g.nr):(g.a k).bl<=2000:=by
 have b:=c.ol;unfold M.ops at b;have:=M.eG (λi=>(g.a i).bl) d;omega
def OJ{g}(b:M.Sound g){k}(c:k<g.nb):(g.d k).bl<=2000:=by
 have a:=b.ol;unfold M.ops at a;have:=M.eG (λi=>(g.d i).bl) c;omega
structure Tx where
 n:Nat
 T:Nat->Int
 j:∀i,0<=T i/\T i<=255
 le:n<=1048576
def Do(Q:Np)(w:Wl)(a:Oa)(t:Tx):Prop:=wB Q .u8 w a t.n t.T
def Do.at{Q w a t}(h:Do Q w a t){i}(c:i<t.n):∃b off,a=some (Ad b off)/\Q b/\∀j,j<t.n->w.cell? (Ad b (off+j))=some (Bv (t.T j)):=by
 rcases h with h|h
 ·omega
 exact h
def Jv(c:Int):Option Nat:=if 48<=c/\c<=57 then some (c-48).toNat else if 97<=c/\c<=102 then some (c-87).toNat else if 65<=c/\c<=70 then some (c-55).toNat else none
def xw(c:Int):Int:=match Jv c with|some x=>x|none=>-1
def Nq(c:Int):Prop:=c=92\/c=34\/c=91\/c=93\/c=45\/c=94
instance (c:Int):Decidable (Nq c):=by unfold Nq;infer_instance
def Gf(t:Tx)(i:Nat):Int×Nat :=
 if t.n<=i+1\/t.T i≠92 then (0,0)
 else if t.T (i+1)=110 then (10,2)
 else if t.T (i+1)=116 then (9,2)
 else if t.T (i+1)=114 then (13,2)
 else if Nq (t.T (i+1)) then (t.T (i+1),2)
 else if t.T (i+1)=120/\i+3<t.n/\0<=xw (t.T (i+2))/\0<=xw (t.T (i+3)) then (xw (t.T (i+2))*16+xw (t.T (i+3)),4)
 else (0,0)
def zH(t:Tx)(i:Nat)(cls:Bool):Int×Nat :=
 if t.n<=i\/t.T i=10 then (0,0)
 else if t.T i=92 then Gf t i
 else if cls=true/\(t.T i=93\/t.T i=45\/t.T i=94) then (0,0)
 else if cls=false/\t.T i=34 then (0,0)
 else (t.T i,1)
def Hm(t:Tx):Nat->Nat->Nat
 |0,i=>i
 |f+1,i=>if i<t.n/\t.T i≠10 then Hm t f (i+1) else i
def Mm(c:Int):Prop:=c=32\/c=9\/c=13\/c=10
instance (c:Int):Decidable (Mm c):=by unfold Mm;infer_instance
def Gq(t:Tx):Nat->Nat->Nat
 |0,i=>i
 |f+1,i=>if i<t.n then (if Mm (t.T i) then Gq t f (i+1) else if t.T i=35 then Gq t f (Hm t (t.n-i) i) else i) else i
def skip(t:Tx)(i:Nat):Nat:=Gq t (t.n-i) i
def Yu t:∀f i,i<=Hm t f i
 |0,i=>wF
 |f+1,i=>by
  rw[Hm];split
  ·exact wN (Gw i) (Yu t f (i+1))
  exact wF
def Yv t:∀f i,i<=t.n->Hm t f i<=t.n
 |0,i,h=>h
 |f+1,i,h=>by
  rw[Hm];split
  ·exact Yv t f (i+1) oM
  exact h
def IT t:∀f g i,t.n-i<=f->t.n-i<=g->Hm t f i=Hm t g i
 |f,g,i,h,k=>by
  by_cases a:i<t.n
  ·obtain⟨f,rfl⟩:∃q,f=q+1:=⟨f-1,oM⟩;obtain⟨g,rfl⟩:∃q,g=q+1:=⟨g-1,oM⟩;rw[Hm,Hm,IT t f g (i+1) oM oM]
  cases f<;>cases g<;>simp[Hm,a]
def jj(t:Tx)(i:Nat):Nat:=Hm t (t.n-i) i
def Yw t i:jj t i=if i<t.n/\t.T i≠10 then jj t (i+1) else i:=by
 unfold jj;by_cases a:i<t.n
 ·rw[IT t (t.n-i) ((t.n-(i+1))+1) i oM oM,Hm]
 rw[show t.n-i=0 by omega,Zn (λq=>a q.1),Hm]
def Tz t{i}(h:i<t.n)(a:t.T i=35):i<jj t i/\jj t i<=t.n:=by
 rw[Yw,Zp ⟨h,oM⟩];exact⟨Yu t _ (i+1),Yv t _ (i+1) oM⟩
def Ua t:∀f g i,t.n-i<=f->t.n-i<=g->Gq t f i=Gq t g i
 |f,g,i,h,k=>by
  by_cases a:i<t.n
  ·obtain⟨f,rfl⟩:∃q,f=q+1:=⟨f-1,oM⟩;obtain⟨g,rfl⟩:∃q,g=q+1:=⟨g-1,oM⟩;rw[Gq,Gq,Zp a,Zp a,Ua t f g (i+1) oM oM];by_cases b:t.T i=35
   ·have:=Tz t a b;rw[Ua t f g (Hm t (t.n-i) i) (by unfold jj at this;omega) (by unfold jj at this;omega)]
   simp[b]
  cases f<;>cases g<;>simp[Gq,a]
def IU t i:skip t i=if i<t.n then (if Mm (t.T i) then skip t (i+1) else if t.T i=35 then skip t (jj t i) else i) else i:=by
 unfold skip;by_cases a:i<t.n
 ·rw[Zp a,Ua t (t.n-i) ((t.n-(i+1))+1) i oM oM,Gq,Zp a];by_cases b:t.T i=35
  ·have:=Tz t a b;rw[show Hm t (t.n-i) i=jj t i from rfl,Ua t (t.n-(i+1)) (t.n-jj t i) (jj t i) oM oM]
  simp[b]
 rw[Zn a,show t.n-i=0 by omega,Gq]
def Sk{P:Program}{ops:Array Oper}{o:Oper}{a:Act}{w:Wl}{K:Act->World->Prop}{d:Exit->Act->World->Prop}{E:Prop}{f:FuncId}(g:∀args w,(callFunc f args).run P w=.ok (.enter f args) w)(i:o.guard=none)(b c:Operand)(q r:TypeId)
  (k:o.op=.call { callee:=.value (.func f),args:=#[b,c],argTypes:=#[q,r] }) {y1 y2:Vl} (n:a.eval b=y1) (p:a.eval c=y2) (h:Calls P f #[y1,y2] w (λe w'=>∃u,e=Rt u/\K (a.put o.dst u) w')):if Region.wanted o (yielded ops a.tmps)=true then Oper.wp P o a w K d else E:=by
 have m:Region.wanted o (yielded ops a.tmps)=true:=by simp[Region.wanted,i]
 rw[Zp m];have l:(execOp a.eval o).run P w=.ok (.enter f #[y1,y2]) w:=by
  have e:a.eval (.func f)=.func (.func f) #[] #[]:=rfl;unfold execOp;simp only[k,resolve,invoke,Deferred.ofValue,Fa,Gc,Gk,Hs,Er,Gl,n,p,e];exact g #[y1,y2] w
 unfold Oper.wp;rw[l];refine Calls.mono h ?_;rintro e w' ⟨u,rfl,j⟩;exact j
def ul9{P:Program}{ops:Array Oper}{o:Oper}{a:Act}{w:Wl}{K:Act->World->Prop}{d:Exit->Act->World->Prop}{E:Prop}{f:FuncId}(g:∀args w,(callFunc f args).run P w=.ok (.enter f args) w)(i:o.guard=none)(b c:Operand)(q r:TypeId)
  (k:o.op=.call { callee:=.value (.func f),args:=#[b,c],argTypes:=#[q,r] }) {y1 y2:Vl} (n:a.eval b=y1) (p:a.eval c=y2) (h:Calls P f #[y1,y2] w (λe w'=>∃u,e=Rt u/\K (a.put o.dst u) w')):if Region.wanted o (yielded ops a.tmps)=true then Oper.wp P o a w K d else E:=by
 have m:Region.wanted o (yielded ops a.tmps)=true:=by simp[Region.wanted,i]
 rw[Zp m];have l:(execOp a.eval o).run P w=.ok (.enter f #[y1,y2]) w:=by
  have e:a.eval (.func f)=.func (.func f) #[] #[]:=rfl;unfold execOp;simp only[k,resolve,invoke,Deferred.ofValue,Fa,Gc,Gk,Hs,Er,Gl,n,p,e];exact g #[y1,y2] w
 unfold Oper.wp;rw[l];refine Calls.mono h ?_;rintro e w' ⟨u,rfl,j⟩;exact j
def yp{P:Program}{ops:Array Oper}{o:Oper}{a:Act}{w:Wl}{K:Act->World->Prop}{b:Exit->Act->World->Prop}{E:Prop}{f:FuncId}(c:∀args w,(callFunc f args).run P w=.ok (.enter f args) w)(d:o.guard=none)(xs:Array Operand)(m:Array TypeId)
  (i:o.op=.call { callee:=.value (.func f),args:=xs,argTypes:=m }) {ys:Av} (l:xs.map a.eval=ys) (h:Calls P f ys w (λe w'=>∃u,e=Rt u/\K (a.put o.dst u) w')):if Region.wanted o (yielded ops a.tmps)=true then Oper.wp P o a w K b else E:=by
 have k:Region.wanted o (yielded ops a.tmps)=true:=by simp[Region.wanted,d]
 rw[Zp k];have j:(execOp a.eval o).run P w=.ok (.enter f ys) w:=by
  have e:a.eval (.func f)=.func (.func f) #[] #[]:=rfl;unfold execOp;simp only[i,resolve,invoke,Deferred.ofValue,Fa,Gc,Gk,l,e,Array.empty_append,Array.append_empty];exact c ys w
 unfold Oper.wp;rw[j];refine Calls.mono h ?_;rintro e w' ⟨u,rfl,g⟩;exact g
end Go.Proofs.YtoihadcablknpaaGreatDoor
