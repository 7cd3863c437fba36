import Derived.Test.YtcbnnfnlilbjeaaGreatChecked
import Derived.WalkKit
import Derived.WalkSpells
import Derived.WalkLawsBesides
import Derived.Outline
import Derived.Deep.OwnRows
import Derived.Below
import Derived.Deep.QuietTactic
import Derived.BigQuiet
set_option linter.unusedVariables false
set_option linter.unusedSimpArgs false
namespace Go.Proofs.YtcbnnfnlilbjeaaGreat
namespace M
structure OpD where
 kind:Int
 sl:Nat
 set:Nat→Int
 arg:Int
structure NodeD where
 nl:Nat
 name:Nat→Int
 has:Bool
 bl:Nat
 body:Nat→OpD
structure Gr where
 nr:Nat
 rule:Nat→NodeD
 nb:Nat
 lab:Nat→NodeD
instance:Inhabited OpD:=⟨⟨0,0,fun _=>0,0⟩⟩
instance:Inhabited NodeD:=⟨⟨0,fun _=>0,false,0,fun _=>default⟩⟩
def CanAt(S:Nat→Int)(i:Nat):Prop :=
 0≤S i∧S i≤255∧(i%2=1→S (i-1)≤S i)∧(0<i∧i%2=0→S (i-1)+2≤S i)
def Canon(m:Nat)(S:Nat→Int):Prop:=m%2=0∧∀i,i<m→CanAt S i
def least(S:Nat→Int)(k:Nat):Int:=if k=0 then 0 else S (2*k-1)+2
def PairOK(S:Nat→Int)(k:Nat):Prop:=least S k≤S (2*k)∧S (2*k)≤S (2*k+1)∧S (2*k+1)≤255
theorem pairs_canon(S:Nat→Int)(h:Nat):(∀k,k<h→PairOK S k)↔∀i,i<2*h→CanAt S i:=by
 constructor
 ·intro H
  have low:∀k,k<h→0≤S (2*k):=by
   intro k hk;induction k with
   |zero=>have:=(H 0 hk).1;simpa[least] using this
   |succ k ih =>
    have h1:=(H (k+1) hk).1;have h2:=(H k (by omega)).2.1
    have h3:=ih (by omega)
    unfold least at h1;rw[if_neg (by omega),show 2*(k+1)-1=2*k+1 by omega]at h1
    omega
  intro i hi;rcases Nat.mod_two_eq_zero_or_one i with e | e
  ·obtain⟨k,rfl⟩:∃k,i=2*k:=⟨i / 2,by omega⟩
   have hk:k<h:=by omega
   obtain⟨h1,h2,h3⟩:=H k hk;refine⟨low k hk,by omega,fun h=>by omega,fun hh=>?_⟩
   unfold least at h1;rw[if_neg (by omega)]at h1
   exact h1
  ·obtain⟨k,rfl⟩:∃k,i=2*k+1:=⟨i / 2,by omega⟩
   have hk:k<h:=by omega
   obtain⟨h1,h2,h3⟩:=H k hk;have:=low k hk;exact⟨by omega,h3,fun _=>h2,fun hh=>by omega⟩
 ·intro H k hk
  have h1:=H (2*k) (by omega)
  have h2:=H (2*k+1) (by omega)
  refine⟨?_,by have:=h2.2.2.1 (by omega);simpa using this,h2.2.1⟩
  unfold least;by_cases e:k=0
  ·subst e;simpa using h1.1
  ·rw[if_neg e]
   exact h1.2.2.2 ⟨by omega,by omega⟩
def Letter(c:Int):Prop:=(97≤c∧c≤122)∨(65≤c∧c≤90)∨c=95
def Digit(c:Int):Prop:=48≤c∧c≤57
def NameB(n:Nat)(T:Nat→Int):Prop:=(∀i,i<n→Letter (T i)∨Digit (T i))∧0<n∧Letter (T 0)
def NameOK(n:Nat)(T:Nat→Int):Prop:=n≤32∧NameB n T
def ar(k:Int):Int:=if k=4∨k=5 then 2 else if k=6∨k=7 then 1 else 0
theorem ar_bd(k:Int):0≤ar k∧ar k≤2:=by unfold ar;split<;>(try split)<;>omega
def dep(B:Nat→OpD):Nat→Int
 |0=>0
 |i+1=>dep B i+(1-ar (B i).kind)
def need(B:Nat→OpD)(n:Nat):Nat→Int
 |0=>1
 |j+1=>need B n j+(ar (B (n-1-j)).kind-1)
def Shape(n:Nat)(B:Nat→OpD):Prop:=(∀i,i<n→ar (B i).kind≤dep B i)∧dep B n=1
def ShapeS(n:Nat)(B:Nat→OpD):Prop:=(∀j,j<n→need B n j≠0)∧need B n n=0
theorem need_dep(B:Nat→OpD)(n j:Nat)(hj:j≤n):need B n j=1-dep B n+dep B (n-j):=by
 induction j with
 |zero=>simp[need]
 |succ j ih =>
  rw[need,ih (by omega)]
  have e:n-j=(n-1-j)+1:=by omega
  rw[show n-(j+1)=n-1-j by omega,e,dep]
  omega
theorem shape_iff(n:Nat)(B:Nat→OpD):ShapeS n B↔Shape n B:=by
 constructor
 ·rintro⟨h1,h2⟩
  have e:dep B n=1:=by
   have:=need_dep B n n (Nat.le_refl _);rw[h2,Nat.sub_self,dep]at this;omega
  have pos:∀j,j<n→1≤dep B (n-j):=by
   intro j hj;induction j with
   |zero=>rw[Nat.sub_zero];omega
   |succ j ih =>
    have hp:=ih (by omega)
    have hne:=h1 (j+1) hj;rw[need_dep B n (j+1) (by omega)]at hne
    have ee:n-j=(n-(j+1))+1:=by omega
    rw[ee,dep]at hp;have:=ar_bd (B (n-(j+1))).kind;omega
  refine⟨fun i hi=>?_,e⟩
  have:=pos (n-(i+1)) (by omega)
  rw[show n-(n-(i+1))=i+1 by omega,dep]at this
  omega
 ·rintro⟨h1,h2⟩
  refine⟨fun j hj=>?_,?_⟩
  ·rw[need_dep B n j (by omega),h2]
   have e:n-j=(n-1-j)+1:=by omega
   have:=h1 (n-1-j) (by omega)
   rw[e,dep];omega
  ·rw[need_dep B n n (Nat.le_refl _),h2,Nat.sub_self,dep];omega
theorem dep_bd(B:Nat→OpD)(n i:Nat)(hi:i≤n)(h:∀j,j<i→ar (B j).kind≤dep B j):0≤dep B i∧dep B i≤i:=by
 induction i with
 |zero=>simp[dep]
 |succ i ih =>
  have h1:=ih (by omega) (fun j hj=>h j (by omega))
  have h2:=h i (by omega)
  have:=ar_bd (B i).kind;rw[dep];omega
theorem need_bd(B:Nat→OpD)(n j:Nat)(h:∀k,k<j→need B n k≠0):0≤need B n j∧need B n j≤j+1:=by
 induction j with
 |zero=>simp[need]
 |succ j ih =>
  have h1:=ih (fun k hk=>h k (by omega))
  have h2:=h j (by omega)
  have:=ar_bd (B (n-1-j)).kind;rw[need];omega
def most(nr nb:Nat)(k:Int):Int:=if k=3 then nb else if k=2 then nr else 1
def ElemOK(nr nb:Nat)(o:OpD):Prop :=
 0≤o.kind∧o.kind≤7∧(o.kind=1→Canon o.sl o.set)∧(o.kind≠1→o.sl=0)∧0≤o.arg∧o.arg<most nr nb o.kind
def BodyOK(nr nb n:Nat)(B:Nat→OpD):Prop:=(∀i,i<n→ElemOK nr nb (B i))∧Shape n B
def Throws(n:Nat)(B:Nat→OpD)(l:Nat):Prop:=∃i,i<n∧(B i).kind=3∧(B i).arg=l
def SameName(a b:NodeD):Prop:=a.nl=b.nl∧∀i,i<a.nl→a.name i=b.name i
def LessT(n:Nat)(S:Nat→Int)(m:Nat)(T:Nat→Int):Prop :=
 ∃k,(∀i,i<k→S i=T i)∧k≤n∧k≤m∧((k<n∧k<m∧S k<T k)∨(k=n∧k<m))
def LessName(a b:NodeD):Prop:=LessT a.nl a.name b.nl b.name
def sum(f:Nat→Nat):Nat→Nat
 |0=>0
 |n+1=>sum f n+f n
theorem sum_le(f:Nat→Nat){i n:Nat}(h:i≤n):sum f i≤sum f n:=by
 induction n with
 |zero =>
   have:i=0:=by omega
   subst this;exact Nat.le_refl _
 |succ n ih =>
  by_cases e:i=n+1
  ·subst e;exact Nat.le_refl _
  ·rw[sum];have:=ih (by omega);omega
theorem le_sum(f:Nat→Nat){i n:Nat}(h:i<n):f i≤sum f n:=by
 have:=sum_le f (show i+1≤n by omega)
 rw[sum]at this;omega
def ops(g:Gr):Nat:=sum (fun i=>(g.rule i).bl) g.nr+sum (fun i=>(g.lab i).bl) g.nb
structure Valid(g:Gr):Prop where
 r1:0<g.nr
 r2:g.nr≤100
 l2:g.nb≤100
 rn:∀i,i<g.nr→NameOK (g.rule i).nl (g.rule i).name
 ru:∀i,i<g.nr→∀j,j<i→¬SameName (g.rule i) (g.rule j)
 ln:∀i,i<g.nb→NameOK (g.lab i).nl (g.lab i).name
 la:∀i,i<g.nb→0<i→LessName (g.lab (i-1)) (g.lab i)
 rb:∀i,i<g.nr→BodyOK g.nr g.nb (g.rule i).bl (g.rule i).body
 lb:∀i,i<g.nb→(g.lab i).has=true→BodyOK g.nr g.nb (g.lab i).bl (g.lab i).body
 lz:∀i,i<g.nb→(g.lab i).has=false→(g.lab i).bl=0
 lt:∀i,i<g.nb→(g.lab i).has=false→(∃j,j<g.nr∧Throws (g.rule j).bl (g.rule j).body i)∨∃j,j<g.nb∧Throws (g.lab j).bl (g.lab j).body i
 ol:ops g≤2000
end M
namespace M
def stp{α:Type}[Inhabited α](f:OpD→α→α→α)(o:OpD)(i:Nat)(s:List (Nat×α)):List (Nat×α) :=
 if ar o.kind=2 then
  match s with
  | (_,y)::(s1,x)::r=>(s1,f o x y)::r
  |_=>[]
 else if ar o.kind=1 then
  match s with
  | (s1,x)::r=>(s1,f o x default)::r
  |_=>[]
 else (i,f o default default)::s
def stk{α:Type}[Inhabited α](f:OpD→α→α→α)(B:Nat→OpD):Nat→List (Nat×α)
 |0=>[]
 |i+1=>stp f (B i) i (stk f B i)
theorem ar_cases(k:Int):ar k=0∨ar k=1∨ar k=2:=by unfold ar;split<;>(try split)<;>simp
def Fed(B:Nat→OpD)(i:Nat):Prop:=∀j,j<i→ar (B j).kind≤dep B j
theorem Fed.less{B:Nat→OpD}{i j:Nat}(h:Fed B i)(hj:j≤i):Fed B j:=fun k hk=>h k (by omega)
section
variable {α:Type} [Inhabited α] (f:OpD→α→α→α) (B:Nat→OpD)
theorem stk_len(i:Nat)(h:Fed B i):((stk f B i).length:Int)=dep B i:=by
 induction i with
 |zero=>rfl
 |succ i ih =>
  have e:=ih (h.less (by omega))
  have hi:=h i (by omega)
  rw[stk,dep];generalize stk f B i=l at *;rcases ar_cases (B i).kind with h0 | h0 | h0
  ·simp[stp,h0];omega
  ·rw[h0]at hi
   match l,e with
   | [],e=>simp at e;omega
   | (a,x)::r,e=>simp[stp,h0]at *;omega
  ·rw[h0]at hi
   match l,e with
   | [],e=>simp at e;omega
   | [(a,x)],e=>simp at e;omega
   | (a,x)::(b,y)::r,e=>simp[stp,h0]at *;omega
theorem stk_cons(i:Nat)(h:Fed B i)(s:Nat)(x:α)(r:List (Nat×α))(e:stk f B i=(s,x)::r) :
  s<i∧r=stk f B s∧∀j,s<j→j≤i→dep B i≤dep B j:=by
 induction i using Nat.strongRecOn generalizing s x r with
 |_ i ih =>
  match i,ih,e with
  |0,ih,e=>simp[stk]at e
  |i+1,ih,e =>
   have hl:=stk_len f B i (h.less (by omega))
   have hi:=h i (by omega)
   have hd:dep B (i+1)=dep B i+(1-ar (B i).kind):=rfl;rw[stk]at e;cases hq:stk f B i with
   |nil =>
    rw[hq]at e hl;simp at hl;have h0:ar (B i).kind=0:=by have:=ar_bd (B i).kind;omega
    simp[stp,h0]at e;obtain⟨⟨rfl,_⟩,rfl⟩:=e;refine⟨by omega,hq.symm,fun j h1 h2=>?_⟩
    obtain rfl:j=i+1:=by omega
    exact Int.le_refl _
   |cons p r1 =>
    obtain⟨s2,y⟩:=p;obtain⟨a1,a2,a3⟩:=ih i (by omega) (h.less (by omega)) s2 y r1 hq
    rw[hq]at e;rcases ar_cases (B i).kind with h0 | h0 | h0
    ·simp[stp,h0]at e
     obtain⟨⟨rfl,_⟩,rfl⟩:=e;refine⟨by omega,hq.symm,fun j h1 h2=>?_⟩
     obtain rfl:j=i+1:=by omega
     exact Int.le_refl _
    ·simp[stp,h0]at e
     obtain⟨⟨rfl,_⟩,rfl⟩:=e;refine⟨by omega,a2,fun j h1 h2=>?_⟩
     by_cases ej:j=i+1
     ·subst ej;exact Int.le_refl _
     ·have:=a3 j h1 (by omega);omega
    ·match r1,a2,e,hq with
     | [],a2,e,hq=>rw[hq]at hl;simp at hl;omega
     | (s1,x1)::r2,a2,e,hq =>
      simp[stp,h0]at e;obtain⟨⟨rfl,_⟩,rfl⟩:=e;obtain⟨b1,b2,b3⟩:=ih s2 (by omega) (h.less (by omega)) s1 x1 r2 a2.symm
      have l2:=stk_len f B s2 (h.less (by omega))
      rw[←a2]at l2;rw[hq]at hl;simp at l2 hl;refine⟨by omega,b2,fun j h1 h2=>?_⟩
      by_cases ej:j=i+1
      ·subst ej;exact Int.le_refl _
      ·by_cases ek:j≤s2
       ·have:=b3 j h1 ek;omega
       ·have:=a3 j (by omega) (by omega);omega
end
def tg(nr:Nat)(o:OpD):Nat:=if o.kind=3 then nr+o.arg.toNat else o.arg.toNat
def Names(o:OpD):Prop:=o.kind=2∨o.kind=3
instance (o:OpD):Decidable (Names o):=inferInstanceAs (Decidable (_∨_))
def top{α:Type}[Inhabited α](l:List (Nat×α)):α:=match l with|(_,x)::_=>x | []=>default
structure Least(n:Nat)(F:(Nat→Bool)→Nat→Bool)(m:Nat→Bool):Prop where
 shut:∀v,v<n→F m v=true→m v=true
 low:∀t:Nat→Bool,(∀v,v<n→F t v=true→t v=true)→∀v,v<n→m v=true→t v=true
def cnt(m:Nat→Bool):Nat→Nat
 |0=>0
 |n+1=>cnt m n+(if m n then 1 else 0)
structure WI(n:Nat)(F:(Nat→Bool)→Nat→Bool)(wl:List Nat)(m:Nat→Bool):Prop where
 all:∀x,x∈wl→x<n
 pend:∀v,v<n→m v=false→F m v=true→v∈wl
 low:∀t:Nat→Bool,(∀v,v<n→F t v=true→t v=true)→∀v,v<n→m v=true→t v=true
theorem WI.start(n:Nat)(F:(Nat→Bool)→Nat→Bool)(wl:List Nat)(h:∀x,x∈wl↔x<n):WI n F wl (fun _=>false) :=
 ⟨fun x hx=>(h x).1 hx,fun v hv _ _=>(h v).2 hv,fun t ht v hv e=>by simp at e⟩
theorem WI.done{n:Nat}{F:(Nat→Bool)→Nat→Bool}{m:Nat→Bool}(h:WI n F [] m):Least n F m :=
 ⟨fun v hv e=>by
  cases q:m v with
  |true=>rfl
  |false=>exact absurd (h.pend v hv q e) (by simp),h.low⟩
theorem WI.skip{n:Nat}{F:(Nat→Bool)→Nat→Bool}{wl:List Nat}{x:Nat}{m:Nat→Bool}(h:WI n F (wl++[x]) m)(q:m x=true∨F m x=false):WI n F wl m:=by
 refine⟨fun y hy=>h.all y (by simp[hy]),fun v hv h1 h2=>?_,h.low⟩
 have:=h.pend v hv h1 h2;simp at this;rcases this with k | rfl
 ·exact k
 ·rcases q with q | q
  ·rw[h1]at q;cases q
  ·rw[h2]at q;cases q
def left(n:Nat)(m:Nat→Bool)(wl:Nat):Nat:=(n-cnt m n)*(n+1)+wl
end M
namespace M
structure InsD where
 kind:Int
 arg:Int
 to:Int
 sl:Nat
 set:Nat→Int
def ins(k a t:Int):InsD:=⟨k,a,t,0,fun _=>0⟩
inductive EX where
 |empty
 |set (n:Nat) (S:Nat→Int)
 |ref (n:Nat)
 |thr (l n:Nat)
 |seq (x y:EX)
 |alt (x y:EX)
 |star (x:EX)
 |not (x:EX)
instance:Inhabited EX:=⟨.empty⟩
def EX.len:EX→Nat
 | .empty=>0
 | .set _ _=>1
 | .ref _=>1
 | .thr _ _=>1
 | .seq x y=>x.len+y.len
 | .alt x y=>x.len+y.len+2
 | .star x=>x.len+2
 | .not x=>x.len+2
def emit(r:Nat→Int):EX→Nat→List InsD
 | .empty,_=>[]
 | .set n S,_=>[⟨0,0,0,n,S⟩]
 | .ref n,_=>[ins 6 0 (r n)]
 | .thr l n,_=>[ins 8 l (r n)]
 | .seq x y,p=>emit r x p++emit r y (p+x.len)
 | .alt x y,p=>ins 1 0 ((p+x.len+2:Nat):Int)::(emit r x (p+1)++ins 2 0 ((p+x.len+y.len+2:Nat):Int)::emit r y (p+x.len+2))
 | .star x,p=>ins 1 0 ((p+x.len+2:Nat):Int)::(emit r x (p+1)++[ins 3 0 ((p+1:Nat):Int)])
 | .not x,p=>ins 4 0 ((p+x.len+2:Nat):Int)::(emit r x (p+1)++[ins 5 0 0])
theorem emit_len(r:Nat→Int)(t:EX):∀p,(emit r t p).length=t.len:=by
 induction t with
 |empty=>intro p;rfl
 |set n S=>intro p;rfl
 |ref n=>intro p;rfl
 |thr l n=>intro p;rfl
 |seq x y ihx ihy=>intro p;simp[emit,EX.len,ihx,ihy]
 |alt x y ihx ihy=>intro p;simp[emit,EX.len,ihx,ihy];omega
 |star x ih=>intro p;simp[emit,EX.len,ih]
 |not x ih=>intro p;simp[emit,EX.len,ih]
def lk(f:Int→Int)(i:InsD):InsD:=if i.kind=6∨i.kind=8 then { i with to:=f i.to } else i
theorem emit_link(r:Nat→Int)(f:Int→Int)(t:EX):∀p,(emit r t p).map (lk f)=emit (fun n=>f (r n)) t p:=by
 induction t with
 |empty=>intro p;rfl
 |set n S=>intro p;simp[emit,lk]
 |ref n=>intro p;simp[emit,lk,ins]
 |thr l n=>intro p;simp[emit,lk,ins]
 |seq x y ihx ihy=>intro p;simp[emit,ihx,ihy]
 |alt x y ihx ihy=>intro p;simp[emit,ihx,ihy];simp[lk,ins]
 |star x ih=>intro p;simp[emit,ih];simp[lk,ins]
 |not x ih=>intro p;simp[emit,ih];simp[lk,ins]
def EX.Below(m:Nat):EX→Prop
 | .ref n=>n<m
 | .thr _ n=>n<m
 | .seq x y=>x.Below m∧y.Below m
 | .alt x y=>x.Below m∧y.Below m
 | .star x=>x.Below m
 | .not x=>x.Below m
 |_=>True
def nodeE(nr:Nat)(o:OpD)(x y:EX):EX :=
 if o.kind=1 then .set o.sl o.set else if o.kind=2 then .ref o.arg.toNat else if o.kind=3 then .thr o.arg.toNat (nr+o.arg.toNat)
 else if o.kind=4 then .seq x y else if o.kind=5 then .alt x y else if o.kind=6 then .star x else if o.kind=7 then .not x else .empty
def treeE(nr n:Nat)(B:Nat→OpD):EX:=top (stk (nodeE nr) B n)
def wt(k:Int):Nat:=if k=1∨k=2∨k=3 then 1 else if k=5∨k=6∨k=7 then 2 else 0
def wsum(B:Nat→OpD):Nat→Nat
 |0=>0
 |n+1=>wsum B n+wt (B n).kind
theorem wsum_bd(B:Nat→OpD)(n:Nat):wsum B n≤2*n:=by
 induction n with
 |zero=>exact Nat.le_refl _
 |succ n ih =>
  have:wt (B n).kind≤2:=by unfold wt;split<;>(try split)<;>omega
  rw[wsum];omega
theorem wsum_shift(B:Nat→OpD)(lo n:Nat):wsum (fun i=>B (lo+i)) n+wsum B lo=wsum B (lo+n):=by
 induction n with
 |zero=>simp[wsum]
 |succ n ih=>rw[wsum,show lo+(n+1)=lo+n+1 by omega,wsum];omega
def lens:List (Nat×EX)→Nat
 | []=>0
 | (_,t)::r=>t.len+lens r
theorem node_len(nr:Nat)(o:OpD)(x y:EX):(ar o.kind=2→(nodeE nr o x y).len=x.len+y.len+wt o.kind)∧(ar o.kind=1→(nodeE nr o x y).len=x.len+wt o.kind)∧(ar o.kind=0→(nodeE nr o x y).len=wt o.kind):=by
 unfold nodeE ar wt;by_cases e1:o.kind=1
 ·simp[e1,EX.len]
 ·by_cases e2:o.kind=2
  ·simp[e2,EX.len]
  ·by_cases e3:o.kind=3
   ·simp[e3,EX.len]
   ·by_cases e4:o.kind=4
    ·simp[e4,EX.len]
    ·by_cases e5:o.kind=5
     ·simp[e5,EX.len]
     ·by_cases e6:o.kind=6
      ·simp[e6,EX.len]
      ·by_cases e7:o.kind=7
       ·simp[e7,EX.len]
       ·simp[e1,e2,e3,e4,e5,e6,e7,EX.len]
theorem stk_lens(nr:Nat)(B:Nat→OpD)(n:Nat)(h:Fed B n):lens (stk (nodeE nr) B n)=wsum B n:=by
 induction n with
 |zero=>rfl
 |succ n ih =>
  have e:=ih (h.less (by omega))
  have hl:=stk_len (nodeE nr) B n (h.less (by omega))
  have hi:=h n (by omega)
  rw[stk,wsum];generalize stk (nodeE nr) B n=l at *;rcases ar_cases (B n).kind with h0 | h0 | h0
  ·have:=(node_len nr (B n) default default).2.2 h0
   simp[stp,h0,lens,this];omega
  ·rw[h0]at hi
   match l,e,hl with
   | [],e,hl=>simp at hl;omega
   | (a,x)::r,e,hl =>
    have:=(node_len nr (B n) x default).2.1 h0;simp[stp,h0,lens,this]at *;omega
  ·rw[h0]at hi
   match l,e,hl with
   | [],e,hl=>simp at hl;omega
   | [(a,x)],e,hl=>simp at hl;omega
   | (a,y)::(b,x)::r,e,hl =>
    have:=(node_len nr (B n) x y).1 h0;simp[stp,h0,lens,this]at *;omega
theorem top_len(nr:Nat)(B:Nat→OpD)(hi lo:Nat)(x:EX)(hF:Fed B hi)(e:stk (nodeE nr) B hi=(lo,x)::stk (nodeE nr) B lo)(hlo:lo≤hi):x.len+wsum B lo=wsum B hi:=by
 have h1:=stk_lens nr B hi hF;have h2:=stk_lens nr B lo (hF.less hlo);rw[e]at h1;simp only[lens]at h1;omega
theorem node_below{nr nb:Nat}{o:OpD}(ho:ElemOK nr nb o){x y:EX}(hx:x.Below (nr+nb))(hy:y.Below (nr+nb)):(nodeE nr o x y).Below (nr+nb):=by
 obtain⟨h1,h2,h3,h4,h5,h6⟩:=ho;unfold nodeE;by_cases e1:o.kind=1
 ·rw[if_pos e1];trivial
 ·rw[if_neg e1]
  by_cases e2:o.kind=2
  ·rw[if_pos e2]
   unfold most at h6;rw[if_neg (by omega),if_pos e2]at h6
   show o.arg.toNat<nr+nb;omega
  ·rw[if_neg e2]
   by_cases e3:o.kind=3
   ·rw[if_pos e3]
    unfold most at h6;rw[if_pos e3]at h6;show nr+o.arg.toNat<nr+nb;omega
   ·rw[if_neg e3]
    split
    ·exact⟨hx,hy⟩
    ·split
     ·exact⟨hx,hy⟩
     ·split
      ·exact hx
      ·split
       ·exact hx
       ·trivial
theorem stk_below{nr nb:Nat}(B:Nat→OpD)(n:Nat)(hB:∀i,i<n→ElemOK nr nb (B i)):∀p,p∈stk (nodeE nr) B n→p.2.Below (nr+nb):=by
 induction n with
 |zero=>intro p hp;simp[stk]at hp
 |succ n ih =>
  have ih':=ih (fun i hi=>hB i (by omega))
  have ho:=hB n (by omega)
  have hd:(default:EX).Below (nr+nb):=trivial;rw[stk];generalize stk (nodeE nr) B n=l at *;intro p hp;unfold stp at hp;split at hp
  ·match l,ih',hp with
   | [],_,hp=>simp at hp
   | [_],_,hp=>simp at hp
   | (s2,y)::(s1,x)::r,ih',hp =>
    rcases List.mem_cons.1 hp with rfl | hp
    ·exact node_below ho (ih' (s1,x) (by simp)) (ih' (s2,y) (by simp))
    ·exact ih' p (by simp[hp])
  ·split at hp
   ·match l,ih',hp with
    | [],_,hp=>simp at hp
    | (s1,x)::r,ih',hp =>
     rcases List.mem_cons.1 hp with rfl | hp
     ·exact node_below ho (ih' (s1,x) (by simp)) hd
     ·exact ih' p (by simp[hp])
   ·rcases List.mem_cons.1 hp with rfl | hp
    ·exact node_below ho hd hd
    ·exact ih' p hp
theorem tree_below{nr nb n:Nat}{B:Nat→OpD}(hB:∀i,i<n→ElemOK nr nb (B i)):(treeE nr n B).Below (nr+nb):=by
 unfold treeE;have:=stk_below B n hB;generalize stk (nodeE nr) B n=l at *;match l,this with
 | [],_=>trivial
 | (s,t)::r,h=>exact h (s,t) (by simp)
def nodeC(r:Nat→Int)(o:InsD)(t:EX)(p:Nat):List InsD:=o::(emit r t (p+1)++[ins 11 0 0,ins 7 0 0])
theorem nodeC_len(r:Nat→Int)(o:InsD)(t:EX)(p:Nat):(nodeC r o t p).length=t.len+3:=by simp[nodeC,emit_len]
def progC(r:Nat→Int)(op:Nat→InsD)(tr:Nat→EX)(has:Nat→Bool):Nat→List InsD
 |0=>[ins 6 0 (r 0),ins 12 0 0]
 |k+1=>if has k then progC r op tr has k++nodeC r (op k) (tr k) (progC r op tr has k).length else progC r op tr has k
theorem progC_len(r r':Nat→Int)(op:Nat→InsD)(tr:Nat→EX)(has:Nat→Bool)(k:Nat):(progC r op tr has k).length=(progC r' op tr has k).length:=by
 induction k with
 |zero=>rfl
 |succ k ih =>
  rw[progC,progC];split
  ·rw[List.length_append,List.length_append,nodeC_len,nodeC_len,ih]
  ·exact ih
def placeC(op:Nat→InsD)(tr:Nat→EX)(has:Nat→Bool)(p:Nat):Int:=if has p then ((progC (fun _=>0) op tr has p).length:Int) else -1
theorem progC_link(r:Nat→Int)(f:Int→Int)(op:Nat→InsD)(tr:Nat→EX)(has:Nat→Bool)(ho:∀p,(op p).kind=9∨(op p).kind=10)(k:Nat):(progC r op tr has k).map (lk f)=progC (fun n=>f (r n)) op tr has k:=by
 induction k with
 |zero=>simp[progC,lk,ins]
 |succ k ih =>
  rw[progC,progC];split
  ·rw[List.map_append,ih,progC_len (fun n=>f (r n)) r]
   congr 1
   unfold nodeC;simp only[List.map_cons,List.map_append,List.map_nil,emit_link];have e1:lk f (op k)=op k:=by
    unfold lk;rw[if_neg];rcases ho k with q | q<;>omega
   rw[e1];simp[lk,ins]
  ·exact ih
end M
section
open Go.RowKit
open M (OpD NodeD Gr)
theorem ret_int{k:IntKind}{a b:Int}(h:a=b):Ending.returned (.int k a)=.returned (.int k b):=by rw[h]
theorem lt_of_cell{w:World}{a:Addr}{v:Value}(h:w.cell? a=some v):a.block<w.heap.size:=by
 unfold World.cell? at h;cases ho:w.heap[a.block]? with
 |none=>simp[ho]at h
 |some o=>exact (Array.getElem?_eq_some_iff.1 ho).1
theorem cell_on{w w':World}{a:Addr}{v:Value}(h:w.cell? a=some v)(k:Below w.heap.size w w'):w'.cell? a=some v :=
 (k.cell (p:=a) (lt_of_cell h)).trans h
def Ints(Q:Nat→Prop)(k:IntKind)(w:World)(a:Option Addr)(n:Nat)(S:Nat→Int):Prop :=
 n=0∨∃b off,a=some ⟨b,off,none⟩∧Q b∧∀i,i<n→w.cell? ⟨b,off+i,none⟩=some (.int k (S i))
structure OpC(Q:Nat→Prop)(w:World)(b o:Nat)(d:OpD):Prop where
 kind:w.cell? ⟨b,o,none⟩=some (.int .i64 d.kind)
 set:∃a c,w.cell? ⟨b,o+1,none⟩=some (.slice a d.sl c)∧Ints Q .i64 w a d.sl d.set
 arg:w.cell? ⟨b,o+2,none⟩=some (.int .i64 d.arg)
def OpsA(Q:Nat→Prop)(w:World)(a:Option Addr)(n:Nat)(B:Nat→OpD):Prop :=
 n=0∨∃b off,a=some ⟨b,off,none⟩∧Q b∧∀i,i<n→OpC Q w b (off+i*3) (B i)
structure RuleC(Q:Nat→Prop)(w:World)(b o:Nat)(d:NodeD):Prop where
 name:∃a c,w.cell? ⟨b,o,none⟩=some (.slice a d.nl c)∧Ints Q .u8 w a d.nl d.name
 body:∃a c,w.cell? ⟨b,o+1,none⟩=some (.slice a d.bl c)∧OpsA Q w a d.bl d.body
structure LabC(Q:Nat→Prop)(w:World)(b o:Nat)(d:NodeD):Prop where
 name:∃a c,w.cell? ⟨b,o,none⟩=some (.slice a d.nl c)∧Ints Q .u8 w a d.nl d.name
 has:w.cell? ⟨b,o+1,none⟩=some (.bool d.has)
 body:∃a c,w.cell? ⟨b,o+2,none⟩=some (.slice a d.bl c)∧OpsA Q w a d.bl d.body
def RulesA(Q:Nat→Prop)(w:World)(a:Option Addr)(n:Nat)(R:Nat→NodeD):Prop :=
 n=0∨∃b off,a=some ⟨b,off,none⟩∧Q b∧∀i,i<n→RuleC Q w b (off+i*2) (R i)
def LabsA(Q:Nat→Prop)(w:World)(a:Option Addr)(n:Nat)(R:Nat→NodeD):Prop :=
 n=0∨∃b off,a=some ⟨b,off,none⟩∧Q b∧∀i,i<n→LabC Q w b (off+i*3) (R i)
def Stay(Q:Nat→Prop)(w w':World):Prop:=∀b,Q b→w'.heap[b]? = w.heap[b]?
theorem Stay.cell{Q:Nat→Prop}{w w':World}(h:Stay Q w w'){b o:Nat}(hq:Q b):w'.cell? ⟨b,o,none⟩=w.cell? ⟨b,o,none⟩ :=
 World.cell?_of_block (w:=w) (h b hq)
theorem Stay.trans{Q:Nat→Prop}{w w' w'':World}(h:Stay Q w w')(k:Stay Q w' w''):Stay Q w w'':=fun b hb=>(k b hb).trans (h b hb)
theorem Stay.mono{Q Q':Nat→Prop}{w w':World}(h:Stay Q w w')(hq:∀b,Q' b→Q b):Stay Q' w w':=fun b hb=>h b (hq b hb)
variable {Q Q':Nat→Prop} {w w':World}
theorem Ints.on{k:IntKind}{a:Option Addr}{n:Nat}{S:Nat→Int}(h:Ints Q k w a n S)(t:Stay Q w w'):Ints Q k w' a n S:=by
 rcases h with h | ⟨b,off,e,hq,h⟩
 ·exact .inl h
 ·exact .inr ⟨b,off,e,hq,fun i hi=>(t.cell hq).trans (h i hi)⟩
theorem Ints.wide{k:IntKind}{a:Option Addr}{n:Nat}{S:Nat→Int}(h:Ints Q k w a n S)(t:∀b,Q b→Q' b):Ints Q' k w a n S:=by
 rcases h with h | ⟨b,off,e,hq,h⟩
 ·exact .inl h
 ·exact .inr ⟨b,off,e,t b hq,h⟩
theorem OpC.on{b o:Nat}{d:OpD}(h:OpC Q w b o d)(hq:Q b)(t:Stay Q w w'):OpC Q w' b o d:=by
 obtain⟨h1,⟨a,c,h2,h3⟩,h4⟩:=h;exact⟨(t.cell hq).trans h1,⟨a,c,(t.cell hq).trans h2,h3.on t⟩,(t.cell hq).trans h4⟩
theorem OpC.wide{b o:Nat}{d:OpD}(h:OpC Q w b o d)(t:∀b,Q b→Q' b):OpC Q' w b o d:=by
 obtain⟨h1,⟨a,c,h2,h3⟩,h4⟩:=h;exact⟨h1,⟨a,c,h2,h3.wide t⟩,h4⟩
theorem OpsA.on{a:Option Addr}{n:Nat}{B:Nat→OpD}(h:OpsA Q w a n B)(t:Stay Q w w'):OpsA Q w' a n B:=by
 rcases h with h | ⟨b,off,e,hq,h⟩
 ·exact .inl h
 ·exact .inr ⟨b,off,e,hq,fun i hi=>(h i hi).on hq t⟩
theorem OpsA.wide{a:Option Addr}{n:Nat}{B:Nat→OpD}(h:OpsA Q w a n B)(t:∀b,Q b→Q' b):OpsA Q' w a n B:=by
 rcases h with h | ⟨b,off,e,hq,h⟩
 ·exact .inl h
 ·exact .inr ⟨b,off,e,t b hq,fun i hi=>(h i hi).wide t⟩
theorem RuleC.on{b o:Nat}{d:NodeD}(h:RuleC Q w b o d)(hq:Q b)(t:Stay Q w w'):RuleC Q w' b o d:=by
 obtain⟨⟨a,c,h1,h2⟩,⟨a',c',h3,h4⟩⟩:=h;exact⟨⟨a,c,(t.cell hq).trans h1,h2.on t⟩,⟨a',c',(t.cell hq).trans h3,h4.on t⟩⟩
theorem RuleC.wide{b o:Nat}{d:NodeD}(h:RuleC Q w b o d)(t:∀b,Q b→Q' b):RuleC Q' w b o d:=by
 obtain⟨⟨a,c,h1,h2⟩,⟨a',c',h3,h4⟩⟩:=h;exact⟨⟨a,c,h1,h2.wide t⟩,⟨a',c',h3,h4.wide t⟩⟩
theorem LabC.on{b o:Nat}{d:NodeD}(h:LabC Q w b o d)(hq:Q b)(t:Stay Q w w'):LabC Q w' b o d:=by
 obtain⟨⟨a,c,h1,h2⟩,h0,⟨a',c',h3,h4⟩⟩:=h;exact⟨⟨a,c,(t.cell hq).trans h1,h2.on t⟩,(t.cell hq).trans h0,⟨a',c',(t.cell hq).trans h3,h4.on t⟩⟩
theorem LabC.wide{b o:Nat}{d:NodeD}(h:LabC Q w b o d)(t:∀b,Q b→Q' b):LabC Q' w b o d:=by
 obtain⟨⟨a,c,h1,h2⟩,h0,⟨a',c',h3,h4⟩⟩:=h;exact⟨⟨a,c,h1,h2.wide t⟩,h0,⟨a',c',h3,h4.wide t⟩⟩
theorem RulesA.on{a:Option Addr}{n:Nat}{R:Nat→NodeD}(h:RulesA Q w a n R)(t:Stay Q w w'):RulesA Q w' a n R:=by
 rcases h with h | ⟨b,off,e,hq,h⟩
 ·exact .inl h
 ·exact .inr ⟨b,off,e,hq,fun i hi=>(h i hi).on hq t⟩
theorem RulesA.wide{a:Option Addr}{n:Nat}{R:Nat→NodeD}(h:RulesA Q w a n R)(t:∀b,Q b→Q' b):RulesA Q' w a n R:=by
 rcases h with h | ⟨b,off,e,hq,h⟩
 ·exact .inl h
 ·exact .inr ⟨b,off,e,t b hq,fun i hi=>(h i hi).wide t⟩
theorem LabsA.on{a:Option Addr}{n:Nat}{R:Nat→NodeD}(h:LabsA Q w a n R)(t:Stay Q w w'):LabsA Q w' a n R:=by
 rcases h with h | ⟨b,off,e,hq,h⟩
 ·exact .inl h
 ·exact .inr ⟨b,off,e,hq,fun i hi=>(h i hi).on hq t⟩
theorem LabsA.wide{a:Option Addr}{n:Nat}{R:Nat→NodeD}(h:LabsA Q w a n R)(t:∀b,Q b→Q' b):LabsA Q' w a n R:=by
 rcases h with h | ⟨b,off,e,hq,h⟩
 ·exact .inl h
 ·exact .inr ⟨b,off,e,t b hq,fun i hi=>(h i hi).wide t⟩
theorem Ints.later{k:IntKind}{a:Option Addr}{n:Nat}{S:Nat→Int}(h:Ints Q k w a n S)(t:Below w.heap.size w w'):Ints Q k w' a n S:=by
 rcases h with h | ⟨b,off,e,hq,h⟩
 ·exact .inl h
 ·exact .inr ⟨b,off,e,hq,fun i hi=>cell_on (h i hi) t⟩
theorem OpC.later{b o:Nat}{d:OpD}(h:OpC Q w b o d)(t:Below w.heap.size w w'):OpC Q w' b o d:=by
 obtain⟨h1,⟨a,c,h2,h3⟩,h4⟩:=h;exact⟨cell_on h1 t,⟨a,c,cell_on h2 t,h3.later t⟩,cell_on h4 t⟩
theorem OpsA.later{a:Option Addr}{n:Nat}{B:Nat→OpD}(h:OpsA Q w a n B)(t:Below w.heap.size w w'):OpsA Q w' a n B:=by
 rcases h with h | ⟨b,off,e,hq,h⟩
 ·exact .inl h
 ·exact .inr ⟨b,off,e,hq,fun i hi=>(h i hi).later t⟩
theorem RuleC.later{b o:Nat}{d:NodeD}(h:RuleC Q w b o d)(t:Below w.heap.size w w'):RuleC Q w' b o d:=by
 obtain⟨⟨a,c,h1,h2⟩,⟨a',c',h3,h4⟩⟩:=h;exact⟨⟨a,c,cell_on h1 t,h2.later t⟩,⟨a',c',cell_on h3 t,h4.later t⟩⟩
theorem LabC.later{b o:Nat}{d:NodeD}(h:LabC Q w b o d)(t:Below w.heap.size w w'):LabC Q w' b o d:=by
 obtain⟨⟨a,c,h1,h2⟩,h0,⟨a',c',h3,h4⟩⟩:=h;exact⟨⟨a,c,cell_on h1 t,h2.later t⟩,cell_on h0 t,⟨a',c',cell_on h3 t,h4.later t⟩⟩
theorem RulesA.later{a:Option Addr}{n:Nat}{R:Nat→NodeD}(h:RulesA Q w a n R)(t:Below w.heap.size w w'):RulesA Q w' a n R:=by
 rcases h with h | ⟨b,off,e,hq,h⟩
 ·exact .inl h
 ·exact .inr ⟨b,off,e,hq,fun i hi=>(h i hi).later t⟩
theorem LabsA.later{a:Option Addr}{n:Nat}{R:Nat→NodeD}(h:LabsA Q w a n R)(t:Below w.heap.size w w'):LabsA Q w' a n R:=by
 rcases h with h | ⟨b,off,e,hq,h⟩
 ·exact .inl h
 ·exact .inr ⟨b,off,e,hq,fun i hi=>(h i hi).later t⟩
theorem bel1(w:World)(o:Obj):Below w.heap.size w (w.alloc o):=(Below.refl _ w).alloc (Nat.le_refl _) o
theorem bel2(w:World)(o p:Obj):Below w.heap.size w ((w.alloc o).alloc p):=(bel1 w o).alloc (by simp) p
theorem bel3(w:World)(o p q:Obj):Below w.heap.size w (((w.alloc o).alloc p).alloc q):=(bel2 w o p).alloc (by simp;omega) q
theorem bel_tr{a b c:World}(h:Below a.heap.size a b)(k:Below b.heap.size b c):Below a.heap.size a c:=h.trans (k.mono h.size)
def Of(w:World):Nat→Prop:=fun b=>b<w.heap.size
end
end Go.Proofs.YtcbnnfnlilbjeaaGreat
