import Derived.Test.YtpghlcdkfldlpaaGreatChecked
import Derived.WalkSpells
import Derived.WalkLawsBesides
import Derived.Deep.OwnRows
import Derived.BigQuiet
set_option linter.unusedVariables false
set_option linter.unusedSimpArgs false
set_option maxHeartbeats 40000000
set_option maxRecDepth 100000
namespace Go.Proofs.YtpghlcdkfldlpaaGreat
open Go.RowKit
theorem nm{α:Sort _}(x:α):∃y,x=y:=⟨x,rfl⟩
theorem ua{p:Prop}(h:p):Hid p:=h
namespace M
structure OpD where
 kind:Int
 sl:Nat
 set:Nat->Int
 arg:Int
structure ue where
 nl:Nat
 name:Nat->Int
 has:Bool
 bl:Nat
 body:Nat->OpD
structure Gr where
 nr:Nat
 rule:Nat->ue
 nb:Nat
 lab:Nat->ue
instance:Inhabited OpD:=⟨⟨0,0,λ_=>0,0⟩⟩
instance:Inhabited ue:=⟨⟨0,λ_=>0,false,0,λ_=>default⟩⟩
def CanAt(S:Nat->Int)(i:Nat):Prop :=
 0<=S i/\S i<=255/\(i%2=1->S (i-1)<=S i)/\(0<i/\i%2=0->S (i-1)+2<=S i)
def Canon(m:Nat)(S:Nat->Int):Prop:=m%2=0/\∀i,i<m->CanAt S i
def least(S:Nat->Int)(k:Nat):Int:=if k=0 then 0 else S (2*k-1)+2
def PairOK(S:Nat->Int)(k:Nat):Prop:=least S k<=S (2*k)/\S (2*k)<=S (2*k+1)/\S (2*k+1)<=255
theorem pairs_canon S h:(∀k,k<h->PairOK S k)↔∀i,i<2*h->CanAt S i:=by
 constructor
 ·intro H;have f:∀k,k<h->0<=S (2*k):=by
   intro k b;induction k with
   |zero=>have:=(H 0 b).1;simpa[least] using this
   |succ k j =>
    have a:=(H (k+1) b).1;have c:=(H k (by omega)).2.1;have d:=j (by omega);unfold least at a;rw[if_neg (by omega),show 2*(k+1)-1=2*k+1 by omega]at a;omega
  intro i l;rcases Nat.mod_two_eq_zero_or_one i with e|e
  ·obtain⟨k,rfl⟩:∃k,i=2*k:=⟨i / 2,by omega⟩;have b:k<h:=(by omega);obtain⟨a,c,d⟩:=H k b;refine⟨f k b,by omega,λh=>by omega,λg=>?_⟩;unfold least at a;rw[if_neg (by omega)]at a;exact a
  obtain⟨k,rfl⟩:∃k,i=2*k+1:=⟨i / 2,by omega⟩;have b:k<h:=by omega
  obtain⟨a,c,d⟩:=H k b;have:=f k b;exact⟨by omega,d,λ_=>c,λg=>by omega⟩
 intro H k b;have a:=H (2*k) (by omega);have c:=H (2*k+1) (by omega);refine⟨?_,by have:=c.2.2.1 (by omega);simpa using this,c.2.1⟩;unfold least;by_cases e:k=0
 ·subst e;simpa using a.1
 rw[if_neg e];exact a.2.2.2 ⟨by omega,by omega⟩
def Letter(c:Int):Prop:=(97<=c/\c<=122)\/(65<=c/\c<=90)\/c=95
def Digit(c:Int):Prop:=48<=c/\c<=57
def NameB(n:Nat)(T:Nat->Int):Prop:=(∀i,i<n->Letter (T i)\/Digit (T i))/\0<n/\Letter (T 0)
def NameOK(n:Nat)(T:Nat->Int):Prop:=n<=32/\NameB n T
def ar(k:Int):Int:=if k=4\/k=5 then 2 else if k=6\/k=7 then 1 else 0
theorem ar_bd k:0<=ar k/\ar k<=2:=by unfold ar;split<;>(try split)<;>omega
def dep(B:Nat->OpD):Nat->Int
 |0=>0
 |i+1=>dep B i+(1-ar (B i).kind)
def need(B:Nat->OpD)(n:Nat):Nat->Int
 |0=>1
 |j+1=>need B n j+(ar (B (n-1-j)).kind-1)
def Shape(n:Nat)(B:Nat->OpD):Prop:=(∀i,i<n->ar (B i).kind<=dep B i)/\dep B n=1
def uqX(n:Nat)(B:Nat->OpD):Prop:=(∀j,j<n->need B n j≠0)/\need B n n=0
theorem ubE B n j(b:j<=n):need B n j=1-dep B n+dep B (n-j):=by
 induction j with
 |zero=>simp[need]
 |succ j a =>
  rw[need,a (by omega)];have e:n-j=(n-1-j)+1:=by omega
  rw[show n-(j+1)=n-1-j by omega,e,dep];omega
theorem shape_iff n B:uqX n B↔Shape n B:=by
 constructor
 ·rintro⟨b,a⟩;have e:dep B n=1:=by
   have:=ubE B n n (Nat.le_refl _);rw[a,Nat.sub_self,dep]at this;omega
  have pos:∀j,j<n->1<=dep B (n-j):=by
   intro j c;induction j with
   |zero=>rw[Nat.sub_zero];omega
   |succ j h =>
    have g:=h (by omega);have f:=b (j+1) c;rw[ubE B n (j+1) (by omega)]at f;have d:n-j=(n-(j+1))+1:=(by omega);rw[d,dep]at g;have:=ar_bd (B (n-(j+1))).kind;omega
  refine⟨λi k=>?_,e⟩;have:=pos (n-(i+1)) (by omega);rw[show n-(n-(i+1))=i+1 by omega,dep]at this;omega
 rintro⟨b,a⟩;refine⟨λj c=>?_,?_⟩
 ·rw[ubE B n j (by omega),a];have e:n-j=(n-1-j)+1:=by omega
  have:=b (n-1-j) (by omega);rw[e,dep];omega
 rw[ubE B n n (Nat.le_refl _),a,Nat.sub_self,dep];omega
theorem dep_bd B n i(d:i<=n)(h:∀j,j<i->ar (B j).kind<=dep B j):0<=dep B i/\dep B i<=i:=by
 induction i with
 |zero=>simp[dep]
 |succ i a =>
  have b:=a (by omega) (λj e=>h j (by omega));have c:=h i (by omega);have:=ar_bd (B i).kind;rw[dep];omega
theorem need_bd B n j(h:∀k,k<j->need B n k≠0):0<=need B n j/\need B n j<=j+1:=by
 induction j with
 |zero=>simp[need]
 |succ j a =>
  have b:=a (λk d=>h k (by omega));have c:=h j (by omega);have:=ar_bd (B (n-1-j)).kind;rw[need];omega
def most(nr a:Nat)(k:Int):Int:=if k=3 then a else if k=2 then nr else 1
def ElemOK(nr a:Nat)(o:OpD):Prop :=
 0<=o.kind/\o.kind<=7/\(o.kind=1->Canon o.sl o.set)/\(o.kind≠1->o.sl=0)/\0<=o.arg/\o.arg<most nr a o.kind
def BodyOK(nr a n:Nat)(B:Nat->OpD):Prop:=(∀i,i<n->ElemOK nr a (B i))/\Shape n B
def Throws(n:Nat)(B:Nat->OpD)(l:Nat):Prop:=∃i,i<n/\(B i).kind=3/\(B i).arg=l
def SameName(a b:ue):Prop:=a.nl=b.nl/\∀i,i<a.nl->a.name i=b.name i
def LessT(n:Nat)(S:Nat->Int)(m:Nat)(T:Nat->Int):Prop :=
 ∃k,(∀i,i<k->S i=T i)/\k<=n/\k<=m/\((k<n/\k<m/\S k<T k)\/(k=n/\k<m))
def LessName(a b:ue):Prop:=LessT a.nl a.name b.nl b.name
def sum(f:Nat->Nat):Nat->Nat
 |0=>0
 |n+1=>sum f n+f n
theorem sum_le f{i n}(h:i<=n):sum f i<=sum f n:=by
 induction n with
 |zero =>
   have:i=0:=(by omega);subst this;exact Nat.le_refl _
 |succ n a =>
  by_cases e:i=n+1
  ·subst e;exact Nat.le_refl _
  rw[sum];have:=a (by omega);omega
theorem le_sum f{i n}(h:i<n):f i<=sum f n:=by
 have:=sum_le f (show i+1<=n by omega);rw[sum]at this;omega
def ops(g:Gr):Nat:=sum (λi=>(g.rule i).bl) g.nr+sum (λi=>(g.lab i).bl) g.nb
structure Valid(g:Gr):Prop where
 r1:0<g.nr
 r2:g.nr<=100
 l2:g.nb<=100
 rn:∀i,i<g.nr->NameOK (g.rule i).nl (g.rule i).name
 ru:∀i,i<g.nr->∀j,j<i->¬SameName (g.rule i) (g.rule j)
 ln:∀i,i<g.nb->NameOK (g.lab i).nl (g.lab i).name
 la:∀i,i<g.nb->0<i->LessName (g.lab (i-1)) (g.lab i)
 rb:∀i,i<g.nr->BodyOK g.nr g.nb (g.rule i).bl (g.rule i).body
 lb:∀i,i<g.nb->(g.lab i).has=true->BodyOK g.nr g.nb (g.lab i).bl (g.lab i).body
 lz:∀i,i<g.nb->(g.lab i).has=false->(g.lab i).bl=0
 lt:∀i,i<g.nb->(g.lab i).has=false->(∃j,j<g.nr/\Throws (g.rule j).bl (g.rule j).body i)\/∃j,j<g.nb/\Throws (g.lab j).bl (g.lab j).body i
 ol:ops g<=2000
end M
namespace M
def stp{α:Type}[Inhabited α](f:OpD->α->α->α)(o:OpD)(i:Nat)(s:List (Nat×α)):List (Nat×α) :=
 if ar o.kind=2 then
  match s with
  |(_,y)::(s1,x)::r=>(s1,f o x y)::r
  |_=>[]
 else if ar o.kind=1 then
  match s with
  |(s1,x)::r=>(s1,f o x default)::r
  |_=>[]
 else (i,f o default default)::s
def stk{α:Type}[Inhabited α](f:OpD->α->α->α)(B:Nat->OpD):Nat->List (Nat×α)
 |0=>[]
 |i+1=>stp f (B i) i (stk f B i)
theorem ar_cases k:ar k=0\/ar k=1\/ar k=2:=by unfold ar;split<;>(try split)<;>simp
def Fed(B:Nat->OpD)(i:Nat):Prop:=∀j,j<i->ar (B j).kind<=dep B j
theorem Fed.less{B i j}(h:Fed B i)(a:j<=i):Fed B j:=λk b=>h k (by omega)
section
variable {α:Type} [Inhabited α] (f:OpD->α->α->α) (B:Nat->OpD)
theorem stk_len(i:Nat)(h:Fed B i):((stk f B i).length:Int)=dep B i:=by
 induction i with
 |zero=>rfl
 |succ i g =>
  have e:=g (h.less (by omega));have d:=h i (by omega);rw[stk,dep];generalize stk f B i=l at *;rcases ar_cases (B i).kind with c|c|c
  ·simp[stp,c];omega
  ·rw[c]at d;match l,e with
   |[],e=>simp at e;omega
   |(a,x)::r,e=>simp[stp,c]at *;omega
  rw[c]at d;match l,e with
  |[],e=>simp at e;omega
  |[(a,x)],e=>simp at e;omega
  |(a,x)::(b,y)::r,e=>simp[stp,c]at *;omega
theorem stk_cons(i:Nat)(h:Fed B i)(s:Nat)(x:α)(r:List (Nat×α))(e:stk f B i=(s,x)::r) :
  s<i/\r=stk f B s/\∀j,s<j->j<=i->dep B i<=dep B j:=by
 induction i using Nat.strongRecOn generalizing s x r with
 |_ i k =>
  match i,k,e with
  |0,k,e=>simp[stk]at e
  |i+1,k,e =>
   have d:=stk_len f B i (h.less (by omega));have z:=h i (by omega);have w:dep B (i+1)=dep B i+(1-ar (B i).kind):=rfl;rw[stk]at e;cases a:stk f B i with
   |nil =>
    rw[a]at e d;simp at d;have b:ar (B i).kind=0:=(by have:=ar_bd (B i).kind;omega);simp[stp,b]at e;obtain⟨⟨rfl,_⟩,rfl⟩:=e;refine⟨by omega,a.symm,λj g n=>?_⟩;obtain rfl:j=i+1:=(by omega);exact Int.le_refl _
   |cons p r1 =>
    obtain⟨l,y⟩:=p;obtain⟨v,c,o⟩:=k i (by omega) (h.less (by omega)) l y r1 a;rw[a]at e;rcases ar_cases (B i).kind with b|b|b
    ·simp[stp,b]at e;obtain⟨⟨rfl,_⟩,rfl⟩:=e;refine⟨by omega,a.symm,λj g n=>?_⟩;obtain rfl:j=i+1:=(by omega);exact Int.le_refl _
    ·simp[stp,b]at e;obtain⟨⟨rfl,_⟩,rfl⟩:=e;refine⟨by omega,c,λj g n=>?_⟩;by_cases m:j=i+1
     ·subst m;exact Int.le_refl _
     have:=o j g (by omega);omega
    match r1,c,e,a with
    |[],c,e,a=>rw[a]at d;simp at d;omega
    |(s1,x1)::r2,c,e,a =>
     simp[stp,b]at e;obtain⟨⟨rfl,_⟩,rfl⟩:=e;obtain⟨b1,q,t⟩:=k l (by omega) (h.less (by omega)) s1 x1 r2 c.symm;have l2:=stk_len f B l (h.less (by omega));rw[<-c]at l2;rw[a]at d;simp at l2 d;refine⟨by omega,q,λj g n=>?_⟩;by_cases m:j=i+1
     ·subst m;exact Int.le_refl _
     by_cases u:j<=l
     ·have:=t j g u;omega
     have:=o j (by omega) (by omega);omega
end
def tg(nr:Nat)(o:OpD):Nat:=if o.kind=3 then nr+o.arg.toNat else o.arg.toNat
def Names(o:OpD):Prop:=o.kind=2\/o.kind=3
instance (o:OpD):Decidable (Names o):=inferInstanceAs (Decidable (_\/_))
def top{α:Type}[Inhabited α](l:List (Nat×α)):α:=match l with|(_,x)::_=>x|[]=>default
def cnt(m:Nat->Bool):Nat->Nat
 |0=>0
 |n+1=>cnt m n+(if m n then 1 else 0)
def left(n:Nat)(m:Nat->Bool)(a:Nat):Nat:=(n-cnt m n)*(n+1)+a
end M
namespace M
structure um where
 kind:Int
 arg:Int
 to:Int
 sl:Nat
 set:Nat->Int
def ins(k a t:Int):um:=⟨k,a,t,0,λ_=>0⟩
inductive EX where
 |empty
 |set (n:Nat) (S:Nat->Int)
 |ref (n:Nat)
 |thr (l n:Nat)
 |seq (x y:EX)
 |alt (x y:EX)
 |star (x:EX)
 |not (x:EX)
instance:Inhabited EX:=⟨.empty⟩
def EX.len:EX->Nat
 |.empty=>0
 |.set _ _=>1
 |.ref _=>1
 |.thr _ _=>1
 |.seq x y=>x.len+y.len
 |.alt x y=>x.len+y.len+2
 |.star x=>x.len+2
 |.not x=>x.len+2
def uG(r:Nat->Int):EX->Nat->List um
 |.empty,_=>[]
 |.set n S,_=>[⟨0,0,0,n,S⟩]
 |.ref n,_=>[ins 6 0 (r n)]
 |.thr l n,_=>[ins 8 l (r n)]
 |.seq x y,p=>uG r x p++uG r y (p+x.len)
 |.alt x y,p=>ins 1 0 ((p+x.len+2:Nat):Int)::(uG r x (p+1)++ins 2 0 ((p+x.len+y.len+2:Nat):Int)::uG r y (p+x.len+2))
 |.star x,p=>ins 1 0 ((p+x.len+2:Nat):Int)::(uG r x (p+1)++[ins 3 0 ((p+1:Nat):Int)])
 |.not x,p=>ins 4 0 ((p+x.len+2:Nat):Int)::(uG r x (p+1)++[ins 5 0 0])
theorem emit_len r t:∀p,(uG r t p).length=t.len:=by
 induction t with
 |empty=>intro p;rfl
 |set n S=>intro p;rfl
 |ref n=>intro p;rfl
 |thr l n=>intro p;rfl
 |seq x y b c=>intro p;simp[uG,EX.len,b,c]
 |alt x y b c=>intro p;simp[uG,EX.len,b,c];omega
 |star x a=>intro p;simp[uG,EX.len,a]
 |not x a=>intro p;simp[uG,EX.len,a]
def lk(f:Int->Int)(i:um):um:=if i.kind=6\/i.kind=8 then { i with to:=f i.to } else i
theorem ukj r f t:∀p,(uG r t p).map (lk f)=uG (λn=>f (r n)) t p:=by
 induction t with
 |empty=>intro p;rfl
 |set n S=>intro p;simp[uG,lk]
 |ref n=>intro p;simp[uG,lk,ins]
 |thr l n=>intro p;simp[uG,lk,ins]
 |seq x y b c=>intro p;simp[uG,b,c]
 |alt x y b c=>intro p;simp[uG,b,c];simp[lk,ins]
 |star x a=>intro p;simp[uG,a];simp[lk,ins]
 |not x a=>intro p;simp[uG,a];simp[lk,ins]
def EX.Below(m:Nat):EX->Prop
 |.ref n=>n<m
 |.thr _ n=>n<m
 |.seq x y=>x.Below m/\y.Below m
 |.alt x y=>x.Below m/\y.Below m
 |.star x=>x.Below m
 |.not x=>x.Below m
 |_=>True
def nodeE(nr:Nat)(o:OpD)(x y:EX):EX :=
 if o.kind=1 then .set o.sl o.set else if o.kind=2 then .ref o.arg.toNat else if o.kind=3 then .thr o.arg.toNat (nr+o.arg.toNat)
 else if o.kind=4 then .seq x y else if o.kind=5 then .alt x y else if o.kind=6 then .star x else if o.kind=7 then .not x else .empty
def treeE(nr n:Nat)(B:Nat->OpD):EX:=top (stk (nodeE nr) B n)
def wt(k:Int):Nat:=if k=1\/k=2\/k=3 then 1 else if k=5\/k=6\/k=7 then 2 else 0
def yN(B:Nat->OpD):Nat->Nat
 |0=>0
 |n+1=>yN B n+wt (B n).kind
theorem wsum_bd B n:yN B n<=2*n:=by
 induction n with
 |zero=>exact Nat.le_refl _
 |succ n a =>
  have:wt (B n).kind<=2:=by unfold wt;split<;>(try split)<;>omega
  rw[yN];omega
def ugf:List (Nat×EX)->Nat
 |[]=>0
 |(_,t)::r=>t.len+ugf r
theorem node_len nr o x y:(ar o.kind=2->(nodeE nr o x y).len=x.len+y.len+wt o.kind)/\(ar o.kind=1->(nodeE nr o x y).len=x.len+wt o.kind)/\(ar o.kind=0->(nodeE nr o x y).len=wt o.kind):=by
 unfold nodeE ar wt;by_cases a:o.kind=1
 ·simp[a,EX.len]
 by_cases b:o.kind=2
 ·simp[b,EX.len]
 by_cases c:o.kind=3
 ·simp[c,EX.len]
 by_cases d:o.kind=4
 ·simp[d,EX.len]
 by_cases e:o.kind=5
 ·simp[e,EX.len]
 by_cases f:o.kind=6
 ·simp[f,EX.len]
 by_cases g:o.kind=7
 ·simp[g,EX.len]
 simp[a,b,c,d,e,f,g,EX.len]
theorem ugg nr B n(h:Fed B n):ugf (stk (nodeE nr) B n)=yN B n:=by
 induction n with
 |zero=>rfl
 |succ n g =>
  have e:=g (h.less (by omega));have d:=stk_len (nodeE nr) B n (h.less (by omega));have f:=h n (by omega);rw[stk,yN];generalize stk (nodeE nr) B n=l at *;rcases ar_cases (B n).kind with c|c|c
  ·have:=(node_len nr (B n) default default).2.2 c;simp[stp,c,ugf,this];omega
  ·rw[c]at f;match l,e,d with
   |[],e,d=>simp at d;omega
   |(a,x)::r,e,d =>
    have:=(node_len nr (B n) x default).2.1 c;simp[stp,c,ugf,this]at *;omega
  rw[c]at f;match l,e,d with
  |[],e,d=>simp at d;omega
  |[(a,x)],e,d=>simp at d;omega
  |(a,y)::(b,x)::r,e,d =>
   have:=(node_len nr (B n) x y).1 c;simp[stp,c,ugf,this]at *;omega
theorem top_len nr B a lo x(c:Fed B a)(e:stk (nodeE nr) B a=(lo,x)::stk (nodeE nr) B lo)(d:lo<=a):x.len+yN B lo=yN B a:=by
 have b:=ugg nr B a c;have f:=ugg nr B lo (c.less d);rw[e]at b;simp only[ugf]at b;omega
theorem uaR{nr a o}(h:ElemOK nr a o){x y}(c:x.Below (nr+a))(g:y.Below (nr+a)):(nodeE nr o x y).Below (nr+a):=by
 obtain⟨i,j,k,l,m,b⟩:=h;unfold nodeE;by_cases f:o.kind=1
 ·rw[if_pos f];trivial
 rw[if_neg f];by_cases d:o.kind=2
 ·rw[if_pos d];unfold most at b;rw[if_neg (by omega),if_pos d]at b;show o.arg.toNat<nr+a;omega
 rw[if_neg d];by_cases e:o.kind=3
 ·rw[if_pos e];unfold most at b;rw[if_pos e]at b;show nr+o.arg.toNat<nr+a;omega
 rw[if_neg e];split
 ·exact⟨c,g⟩
 split
 ·exact⟨c,g⟩
 split
 ·exact c
 split
 ·exact c
 trivial
theorem ukk{nr d}B n(e:∀i,i<n->ElemOK nr d (B i)):∀p,p∈stk (nodeE nr) B n->p.2.Below (nr+d):=by
 induction n with
 |zero=>intro p a;simp[stk]at a
 |succ n f =>
  have ih':=f (λi g=>e i (by omega));have c:=e n (by omega);have b:(default:EX).Below (nr+d):=trivial;rw[stk];generalize stk (nodeE nr) B n=l at *;intro p a;unfold stp at a;split at a
  ·match l,ih',a with
   |[],_,a=>simp at a
   |[_],_,a=>simp at a
   |(s2,y)::(s1,x)::r,ih',a =>
    rcases List.mem_cons.1 a with rfl|a
    ·exact uaR c (ih' (s1,x) (by simp)) (ih' (s2,y) (by simp))
    exact ih' p (by simp[a])
  split at a
  ·match l,ih',a with
   |[],_,a=>simp at a
   |(s1,x)::r,ih',a =>
    rcases List.mem_cons.1 a with rfl|a
    ·exact uaR c (ih' (s1,x) (by simp)) b
    exact ih' p (by simp[a])
  rcases List.mem_cons.1 a with rfl|a
  ·exact uaR c b b
  exact ih' p a
theorem tree_below{nr a n B}(b:∀i,i<n->ElemOK nr a (B i)):(treeE nr n B).Below (nr+a):=by
 unfold treeE;have:=ukk B n b;generalize stk (nodeE nr) B n=l at *;match l,this with
 |[],_=>trivial
 |(s,t)::r,h=>exact h (s,t) (by simp)
def nodeC(r:Nat->Int)(o:um)(t:EX)(p:Nat):List um:=o::(uG r t (p+1)++[ins 11 0 0,ins 7 0 0])
theorem nodeC_len r o t p:(nodeC r o t p).length=t.len+3:=by simp[nodeC,emit_len]
def progC(r:Nat->Int)(b:Nat->um)(c:Nat->EX)(a:Nat->Bool):Nat->List um
 |0=>[ins 6 0 (r 0),ins 12 0 0]
 |k+1=>if a k then progC r b c a k++nodeC r (b k) (c k) (progC r b c a k).length else progC r b c a k
theorem progC_len r e c d a k:(progC r c d a k).length=(progC e c d a k).length:=by
 induction k with
 |zero=>rfl
 |succ k b =>
  rw[progC,progC];split
  ·rw[List.length_append,List.length_append,nodeC_len,nodeC_len,b]
  exact b
def placeC(b:Nat->um)(c:Nat->EX)(a:Nat->Bool)(p:Nat):Int:=if a p then ((progC (λ_=>0) b c a p).length:Int) else -1
theorem progC_link r f a d b(g:∀p,(a p).kind=9\/(a p).kind=10)k:(progC r a d b k).map (lk f)=progC (λn=>f (r n)) a d b k:=by
 induction k with
 |zero=>simp[progC,lk,ins]
 |succ k c =>
  rw[progC,progC];split
  ·rw[List.map_append,c,progC_len (λn=>f (r n)) r];congr 1;unfold nodeC;simp only[List.map_cons,List.map_append,List.map_nil,ukj];have e:lk f (a k)=a k:=by
    unfold lk;rw[if_neg];rcases g k with q|q<;>omega
   rw[e];simp[lk,ins]
  exact c
end M
section
open Go.RowKit
open M (OpD ue Gr)
theorem uC{k a b}(h:a=b):Ending.returned (.int k a)=.returned (.int k b):=by rw[h]
theorem ub{w:World}{a:Addr}{v:Value}(h:w.cell? a=some v):a.block<w.heap.size:=by
 unfold World.cell? at h;cases b:w.heap[a.block]? with
 |none=>simp[b]at h
 |some o=>exact(Array.getElem?_eq_some_iff.1 b).1
theorem uc{w w' a v}(h:w.cell? a=some v)(k:Below w.heap.size w w'):w'.cell? a=some v :=
 (k.cell (p:=a) (ub h)).trans h
def Ints(Q:Nat->Prop)(k:IntKind)(w:World)(a:Option Addr)(n:Nat)(S:Nat->Int):Prop :=
 n=0\/∃b off,a=some ⟨b,off,none⟩/\Q b/\∀i,i<n->w.cell? ⟨b,off+i,none⟩=some (.int k (S i))
structure OpC(Q:Nat->Prop)(w:World)(b o:Nat)(d:OpD):Prop where
 kind:w.cell? ⟨b,o,none⟩=some (.int .i64 d.kind)
 set:∃a c,w.cell? ⟨b,o+1,none⟩=some (.slice a d.sl c)/\Ints Q .i64 w a d.sl d.set
 arg:w.cell? ⟨b,o+2,none⟩=some (.int .i64 d.arg)
def OpsA(Q:Nat->Prop)(w:World)(a:Option Addr)(n:Nat)(B:Nat->OpD):Prop :=
 n=0\/∃b off,a=some ⟨b,off,none⟩/\Q b/\∀i,i<n->OpC Q w b (off+i*3) (B i)
structure RuleC(Q:Nat->Prop)(w:World)(b o:Nat)(d:ue):Prop where
 name:∃a c,w.cell? ⟨b,o,none⟩=some (.slice a d.nl c)/\Ints Q .u8 w a d.nl d.name
 body:∃a c,w.cell? ⟨b,o+1,none⟩=some (.slice a d.bl c)/\OpsA Q w a d.bl d.body
structure LabC(Q:Nat->Prop)(w:World)(b o:Nat)(d:ue):Prop where
 name:∃a c,w.cell? ⟨b,o,none⟩=some (.slice a d.nl c)/\Ints Q .u8 w a d.nl d.name
 has:w.cell? ⟨b,o+1,none⟩=some (.bool d.has)
 body:∃a c,w.cell? ⟨b,o+2,none⟩=some (.slice a d.bl c)/\OpsA Q w a d.bl d.body
def RulesA(Q:Nat->Prop)(w:World)(a:Option Addr)(n:Nat)(R:Nat->ue):Prop :=
 n=0\/∃b off,a=some ⟨b,off,none⟩/\Q b/\∀i,i<n->RuleC Q w b (off+i*2) (R i)
def LabsA(Q:Nat->Prop)(w:World)(a:Option Addr)(n:Nat)(R:Nat->ue):Prop :=
 n=0\/∃b off,a=some ⟨b,off,none⟩/\Q b/\∀i,i<n->LabC Q w b (off+i*3) (R i)
def Stay(Q:Nat->Prop)(w w':World):Prop:=∀b,Q b->w'.heap[b]?=w.heap[b]?
theorem Stay.cell{Q w w'}(h:Stay Q w w'){b o}(a:Q b):w'.cell? ⟨b,o,none⟩=w.cell? ⟨b,o,none⟩ :=
 World.cell?_of_block (w:=w) (h b a)
theorem Stay.trans{Q w w' c}(h:Stay Q w w')(k:Stay Q w' c):Stay Q w c:=λb a=>(k b a).trans (h b a)
variable {Q Q':Nat->Prop} {w w':World}
theorem Ints.on{k:IntKind}{a:Option Addr}{n:Nat}{S:Nat->Int}(h:Ints Q k w a n S)(t:Stay Q w w'):Ints Q k w' a n S:=by
 rcases h with h|⟨b,off,e,c,h⟩
 ·exact .inl h
 exact .inr ⟨b,off,e,c,λi d=>(t.cell c).trans (h i d)⟩
theorem Ints.wide{k:IntKind}{a:Option Addr}{n:Nat}{S:Nat->Int}(h:Ints Q k w a n S)(t:∀b,Q b->Q' b):Ints Q' k w a n S:=by
 rcases h with h|⟨b,off,e,c,h⟩
 ·exact .inl h
 exact .inr ⟨b,off,e,t b c,h⟩
theorem OpC.on{b o:Nat}{d:OpD}(h:OpC Q w b o d)(e:Q b)(t:Stay Q w w'):OpC Q w' b o d:=by
 obtain⟨f,⟨a,c,g,i⟩,j⟩:=h;exact⟨(t.cell e).trans f,⟨a,c,(t.cell e).trans g,i.on t⟩,(t.cell e).trans j⟩
theorem OpC.wide{b o:Nat}{d:OpD}(h:OpC Q w b o d)(t:∀b,Q b->Q' b):OpC Q' w b o d:=by
 obtain⟨e,⟨a,c,f,g⟩,i⟩:=h;exact⟨e,⟨a,c,f,g.wide t⟩,i⟩
theorem OpsA.on{a:Option Addr}{n:Nat}{B:Nat->OpD}(h:OpsA Q w a n B)(t:Stay Q w w'):OpsA Q w' a n B:=by
 rcases h with h|⟨b,off,e,c,h⟩
 ·exact .inl h
 exact .inr ⟨b,off,e,c,λi d=>(h i d).on c t⟩
theorem OpsA.wide{a:Option Addr}{n:Nat}{B:Nat->OpD}(h:OpsA Q w a n B)(t:∀b,Q b->Q' b):OpsA Q' w a n B:=by
 rcases h with h|⟨b,off,e,d,h⟩
 ·exact .inl h
 exact .inr ⟨b,off,e,t b d,λi c=>(h i c).wide t⟩
theorem RuleC.on{b o:Nat}{d:ue}(h:RuleC Q w b o d)(e:Q b)(t:Stay Q w w'):RuleC Q w' b o d:=by
 obtain⟨⟨a,c,i,j⟩,⟨f,g,k,l⟩⟩:=h;exact⟨⟨a,c,(t.cell e).trans i,j.on t⟩,⟨f,g,(t.cell e).trans k,l.on t⟩⟩
theorem RuleC.wide{b o:Nat}{d:ue}(h:RuleC Q w b o d)(t:∀b,Q b->Q' b):RuleC Q' w b o d:=by
 obtain⟨⟨a,c,g,i⟩,⟨e,f,j,k⟩⟩:=h;exact⟨⟨a,c,g,i.wide t⟩,⟨e,f,j,k.wide t⟩⟩
theorem LabC.on{b o:Nat}{d:ue}(h:LabC Q w b o d)(e:Q b)(t:Stay Q w w'):LabC Q w' b o d:=by
 obtain⟨⟨a,c,j,k⟩,i,⟨f,g,l,m⟩⟩:=h;exact⟨⟨a,c,(t.cell e).trans j,k.on t⟩,(t.cell e).trans i,⟨f,g,(t.cell e).trans l,m.on t⟩⟩
theorem LabC.wide{b o:Nat}{d:ue}(h:LabC Q w b o d)(t:∀b,Q b->Q' b):LabC Q' w b o d:=by
 obtain⟨⟨a,c,i,j⟩,g,⟨e,f,k,l⟩⟩:=h;exact⟨⟨a,c,i,j.wide t⟩,g,⟨e,f,k,l.wide t⟩⟩
theorem RulesA.on{a:Option Addr}{n:Nat}{R:Nat->ue}(h:RulesA Q w a n R)(t:Stay Q w w'):RulesA Q w' a n R:=by
 rcases h with h|⟨b,off,e,c,h⟩
 ·exact .inl h
 exact .inr ⟨b,off,e,c,λi d=>(h i d).on c t⟩
theorem RulesA.wide{a:Option Addr}{n:Nat}{R:Nat->ue}(h:RulesA Q w a n R)(t:∀b,Q b->Q' b):RulesA Q' w a n R:=by
 rcases h with h|⟨b,off,e,d,h⟩
 ·exact .inl h
 exact .inr ⟨b,off,e,t b d,λi c=>(h i c).wide t⟩
theorem LabsA.on{a:Option Addr}{n:Nat}{R:Nat->ue}(h:LabsA Q w a n R)(t:Stay Q w w'):LabsA Q w' a n R:=by
 rcases h with h|⟨b,off,e,c,h⟩
 ·exact .inl h
 exact .inr ⟨b,off,e,c,λi d=>(h i d).on c t⟩
theorem LabsA.wide{a:Option Addr}{n:Nat}{R:Nat->ue}(h:LabsA Q w a n R)(t:∀b,Q b->Q' b):LabsA Q' w a n R:=by
 rcases h with h|⟨b,off,e,d,h⟩
 ·exact .inl h
 exact .inr ⟨b,off,e,t b d,λi c=>(h i c).wide t⟩
theorem Ints.later{k:IntKind}{a:Option Addr}{n:Nat}{S:Nat->Int}(h:Ints Q k w a n S)(t:Below w.heap.size w w'):Ints Q k w' a n S:=by
 rcases h with h|⟨b,off,e,d,h⟩
 ·exact .inl h
 exact .inr ⟨b,off,e,d,λi c=>uc (h i c) t⟩
theorem OpC.later{b o:Nat}{d:OpD}(h:OpC Q w b o d)(t:Below w.heap.size w w'):OpC Q w' b o d:=by
 obtain⟨e,⟨a,c,f,g⟩,i⟩:=h;exact⟨uc e t,⟨a,c,uc f t,g.later t⟩,uc i t⟩
theorem OpsA.later{a:Option Addr}{n:Nat}{B:Nat->OpD}(h:OpsA Q w a n B)(t:Below w.heap.size w w'):OpsA Q w' a n B:=by
 rcases h with h|⟨b,off,e,d,h⟩
 ·exact .inl h
 exact .inr ⟨b,off,e,d,λi c=>(h i c).later t⟩
theorem RuleC.later{b o:Nat}{d:ue}(h:RuleC Q w b o d)(t:Below w.heap.size w w'):RuleC Q w' b o d:=by
 obtain⟨⟨a,c,g,i⟩,⟨e,f,j,k⟩⟩:=h;exact⟨⟨a,c,uc g t,i.later t⟩,⟨e,f,uc j t,k.later t⟩⟩
theorem LabC.later{b o:Nat}{d:ue}(h:LabC Q w b o d)(t:Below w.heap.size w w'):LabC Q w' b o d:=by
 obtain⟨⟨a,c,i,j⟩,g,⟨e,f,k,l⟩⟩:=h;exact⟨⟨a,c,uc i t,j.later t⟩,uc g t,⟨e,f,uc k t,l.later t⟩⟩
theorem RulesA.later{a:Option Addr}{n:Nat}{R:Nat->ue}(h:RulesA Q w a n R)(t:Below w.heap.size w w'):RulesA Q w' a n R:=by
 rcases h with h|⟨b,off,e,d,h⟩
 ·exact .inl h
 exact .inr ⟨b,off,e,d,λi c=>(h i c).later t⟩
theorem LabsA.later{a:Option Addr}{n:Nat}{R:Nat->ue}(h:LabsA Q w a n R)(t:Below w.heap.size w w'):LabsA Q w' a n R:=by
 rcases h with h|⟨b,off,e,d,h⟩
 ·exact .inl h
 exact .inr ⟨b,off,e,d,λi c=>(h i c).later t⟩
theorem uf w o:Below w.heap.size w (w.alloc o):=(Below.refl _ w).alloc (Nat.le_refl _) o
theorem vb w o p:Below w.heap.size w ((w.alloc o).alloc p):=(uf w o).alloc (by simp) p
theorem uep w o p q:Below w.heap.size w (((w.alloc o).alloc p).alloc q):=(vb w o p).alloc (by simp;omega) q
theorem ud{a b c}(h:Below a.heap.size a b)(k:Below b.heap.size b c):Below a.heap.size a c:=h.trans (k.mono h.size)
def Of(w:World):Nat->Prop:=λb=>b<w.heap.size
end
theorem xI{P:Prop}(h:P):(true=true↔P):=⟨λ_=>h,λ_=>rfl⟩
theorem uJ{P:Prop}(h:¬P):(false=true↔P):=⟨(λe=>absurd e (by decide)),λq=>absurd q h⟩
def Says(P:Prop)(w:World)(e:Ending)(w':World):Prop:=(∃r:Bool,e=.returned (.bool r)/\(r=true↔P))/\w=w'
def xS(P:Prop)(w:World)(e:Ending)(w':World):Prop:=(∃r:Bool,e=.returned (.bool r)/\(r=true↔P))/\Below w.heap.size w w'
theorem Says.b{P:Prop}{w w' e}(h:Says P w e w'):xS P w e w':=by
 obtain⟨a,rfl⟩:=h;exact⟨a,Below.refl _ _⟩
theorem ubK(c:Int):c<65\/(65<=c/\c<=90)\/(90<c/\c<95)\/c=95\/c=96\/(97<=c/\c<=122)\/122<c:=by omega
theorem ucB(c:Int):c<48\/(48<=c/\c<=57)\/57<c:=by omega
theorem kV c w(b:0<=c)(d:c<=255) :
  Calls Tryz.prog 129 #[.int .u8 c] w (Says (M.Letter c) w):=by
 rcases ubK c with h|⟨h,a⟩|⟨h,a⟩|h|h|⟨h,a⟩|h;all_goals (try subst h)
 all_goals (
  go_enter Tryz.func129,Tryz.ntmps129;go_wp2;go_ret;exact⟨⟨_,rfl,by simp[M.Letter]<;>omega⟩,rfl⟩)
theorem vq c w(b:0<=c)(d:c<=255) :
  Calls Tryz.prog 94 #[.int .u8 c] w (Says (M.Letter c) w):=by
 rcases ubK c with h|⟨h,a⟩|⟨h,a⟩|h|h|⟨h,a⟩|h;all_goals (try subst h)
 all_goals (
  go_enter Tryz.func94,Tryz.ntmps94;go_wp2;go_ret;exact⟨⟨_,rfl,by simp[M.Letter]<;>omega⟩,rfl⟩)
theorem jr c w(b:0<=c)(d:c<=255) :
  Calls Tryz.prog 95 #[.int .u8 c] w (Says (M.Digit c) w):=by
 rcases ucB c with h|⟨h,a⟩|h;all_goals (
  go_enter Tryz.func95,Tryz.ntmps95;go_wp2;go_ret;exact⟨⟨_,rfl,by simp[M.Digit]<;>omega⟩,rfl⟩)
theorem js c w(d:0<=c)(f:c<=255) :
  Calls Tryz.prog 128 #[.int .u8 c] w (Says (M.Letter c\/M.Digit c) w):=by
 by_cases g:M.Letter c
 ·have a:Hid (M.Letter c):=g;go_enter Tryz.func128,Tryz.ntmps128;go_wp2_with (go_at_call 129;refine(kV c _ d f).mono ?_;rintro e W ⟨⟨r,rfl,b⟩,i⟩;subst W;obtain rfl:r=true:=b.2 a;clear b);go_ret;exact⟨⟨true,rfl,xI (.inl a)⟩,rfl⟩
 have a:Hid (¬M.Letter c):=g;rcases ucB c with h|⟨h,j⟩|h;all_goals (
  go_enter Tryz.func128,Tryz.ntmps128;go_wp2_with (go_at_call 129;refine(kV c _ d f).mono ?_;rintro e W ⟨⟨r,rfl,b⟩,i⟩;subst W;obtain rfl:r=false:=by { cases r;rfl;exact absurd (b.1 rfl) a };clear b);go_ret;exact⟨⟨_,rfl,by simp[a.out,M.Digit]<;>omega⟩,rfl⟩)
theorem ud7(k:Int):k<4\/k=4\/k=5\/k=6\/k=7\/7<k:=by omega
theorem kW k w :
  Calls Tryz.prog 132 #[.int .i64 k] w λe w'=>e=.returned (.int .i64 (M.ar k))/\w=w':=by
 rcases ud7 k with h|h|h|h|h|h;all_goals (try subst h)
 all_goals (
  try (
   have a:(k==4)=false:=(by simp;omega);have b:(k==5)=false:=(by simp;omega);have c:(k==6)=false:=(by simp;omega);have d:(k==7)=false:=by simp;omega)
  go_enter Tryz.func132,Tryz.ntmps132;go_wp2;go_ret;exact⟨uC (by unfold M.ar;first|rfl|(rw[if_neg (by omega),if_neg (by omega)])),rfl⟩)
theorem ucC k w :
  Calls Tryz.prog 122 #[.int .i64 k] w λe w'=>e=.returned (.int .i64 (M.ar k))/\w=w':=by
 rcases ud7 k with h|h|h|h|h|h;all_goals (try subst h)
 all_goals (
  try (
   have a:(k==4)=false:=(by simp;omega);have b:(k==5)=false:=(by simp;omega);have c:(k==6)=false:=(by simp;omega);have d:(k==7)=false:=by simp;omega)
  go_enter Tryz.func122,Tryz.ntmps122;go_wp2;go_ret;exact⟨uC (by unfold M.ar;first|rfl|(rw[if_neg (by omega),if_neg (by omega)])),rfl⟩)
end Go.Proofs.YtpghlcdkfldlpaaGreat
