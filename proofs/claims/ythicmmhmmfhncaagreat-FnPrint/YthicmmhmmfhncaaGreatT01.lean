import Derived.Test.YthicmmhmmfhncaaGreatChecked
import Derived.WalkKit
import Derived.WalkSpells
import Derived.WalkLawsBesides
import Derived.Outline
import Derived.Deep.OwnRows
import Derived.Below
import Derived.Deep.QuietTactic
import Derived.BigQuiet
set_option linter.unusedVariables false
set_option linter.unusedSimpArgs false
namespace Go.Proofs.YthicmmhmmfhncaaGreat
namespace M
structure OpD where
 kind:Int
 sl:Nat
 set:Nat→Int
 arg:Int
structure uj where
 nl:Nat
 name:Nat→Int
 has:Bool
 bl:Nat
 body:Nat→OpD
structure Gr where
 nr:Nat
 rule:Nat→uj
 nb:Nat
 lab:Nat→uj
instance:Inhabited OpD:=⟨⟨0,0,fun _=>0,0⟩⟩
instance:Inhabited uj:=⟨⟨0,fun _=>0,false,0,fun _=>default⟩⟩
def CanAt(S:Nat→Int)(i:Nat):Prop :=
 0≤S i∧S i≤255∧(i%2=1→S (i-1)≤S i)∧(0<i∧i%2=0→S (i-1)+2≤S i)
def Canon(m:Nat)(S:Nat→Int):Prop:=m%2=0∧∀i,i<m→CanAt S i
def least(S:Nat→Int)(k:Nat):Int:=if k=0 then 0 else S (2*k-1)+2
def PairOK(S:Nat→Int)(k:Nat):Prop:=least S k≤S (2*k)∧S (2*k)≤S (2*k+1)∧S (2*k+1)≤255
theorem pairs_canon(S:Nat→Int)(h:Nat):(∀k,k<h→PairOK S k)↔∀i,i<2*h→CanAt S i:=by
 constructor
 ·intro H
  have low:∀k,k<h→0≤S (2*k):=by
   intro k hk;induction k with
   |zero=>have:=(H 0 hk).1;simpa[least] using this
   |succ k ih =>
    have h1:=(H (k+1) hk).1;have h2:=(H k (by omega)).2.1
    have h3:=ih (by omega)
    unfold least at h1;rw[if_neg (by omega),show 2*(k+1)-1=2*k+1 by omega]at h1
    omega
  intro i hi;rcases Nat.mod_two_eq_zero_or_one i with e | e
  ·obtain⟨k,rfl⟩:∃k,i=2*k:=⟨i / 2,by omega⟩
   have hk:k<h:=by omega
   obtain⟨h1,h2,h3⟩:=H k hk;refine⟨low k hk,by omega,fun h=>by omega,fun hh=>?_⟩
   unfold least at h1;rw[if_neg (by omega)]at h1
   exact h1
  ·obtain⟨k,rfl⟩:∃k,i=2*k+1:=⟨i / 2,by omega⟩
   have hk:k<h:=by omega
   obtain⟨h1,h2,h3⟩:=H k hk;have:=low k hk;exact⟨by omega,h3,fun _=>h2,fun hh=>by omega⟩
 ·intro H k hk
  have h1:=H (2*k) (by omega)
  have h2:=H (2*k+1) (by omega)
  refine⟨?_,by have:=h2.2.2.1 (by omega);simpa using this,h2.2.1⟩
  unfold least;by_cases e:k=0
  ·subst e;simpa using h1.1
  ·rw[if_neg e]
   exact h1.2.2.2 ⟨by omega,by omega⟩
def Letter(c:Int):Prop:=(97≤c∧c≤122)∨(65≤c∧c≤90)∨c=95
def Digit(c:Int):Prop:=48≤c∧c≤57
def NameB(n:Nat)(T:Nat→Int):Prop:=(∀i,i<n→Letter (T i)∨Digit (T i))∧0<n∧Letter (T 0)
def NameOK(n:Nat)(T:Nat→Int):Prop:=n≤32∧NameB n T
def ar(k:Int):Int:=if k=4∨k=5 then 2 else if k=6∨k=7 then 1 else 0
theorem ar_bd(k:Int):0≤ar k∧ar k≤2:=by unfold ar;split<;>(try split)<;>omega
def dep(B:Nat→OpD):Nat→Int
 |0=>0
 |i+1=>dep B i+(1-ar (B i).kind)
def need(B:Nat→OpD)(n:Nat):Nat→Int
 |0=>1
 |j+1=>need B n j+(ar (B (n-1-j)).kind-1)
def Shape(n:Nat)(B:Nat→OpD):Prop:=(∀i,i<n→ar (B i).kind≤dep B i)∧dep B n=1
def ups(n:Nat)(B:Nat→OpD):Prop:=(∀j,j<n→need B n j≠0)∧need B n n=0
theorem ua1(B:Nat→OpD)(n j:Nat)(hj:j≤n):need B n j=1-dep B n+dep B (n-j):=by
 induction j with
 |zero=>simp[need]
 |succ j ih =>
  rw[need,ih (by omega)]
  have e:n-j=(n-1-j)+1:=by omega
  rw[show n-(j+1)=n-1-j by omega,e,dep]
  omega
theorem shape_iff(n:Nat)(B:Nat→OpD):ups n B↔Shape n B:=by
 constructor
 ·rintro⟨h1,h2⟩
  have e:dep B n=1:=by
   have:=ua1 B n n (Nat.le_refl _);rw[h2,Nat.sub_self,dep]at this;omega
  have pos:∀j,j<n→1≤dep B (n-j):=by
   intro j hj;induction j with
   |zero=>rw[Nat.sub_zero];omega
   |succ j ih =>
    have hp:=ih (by omega)
    have hne:=h1 (j+1) hj;rw[ua1 B n (j+1) (by omega)]at hne
    have ee:n-j=(n-(j+1))+1:=by omega
    rw[ee,dep]at hp;have:=ar_bd (B (n-(j+1))).kind;omega
  refine⟨fun i hi=>?_,e⟩
  have:=pos (n-(i+1)) (by omega)
  rw[show n-(n-(i+1))=i+1 by omega,dep]at this
  omega
 ·rintro⟨h1,h2⟩
  refine⟨fun j hj=>?_,?_⟩
  ·rw[ua1 B n j (by omega),h2]
   have e:n-j=(n-1-j)+1:=by omega
   have:=h1 (n-1-j) (by omega)
   rw[e,dep];omega
  ·rw[ua1 B n n (Nat.le_refl _),h2,Nat.sub_self,dep];omega
theorem dep_bd(B:Nat→OpD)(n i:Nat)(hi:i≤n)(h:∀j,j<i→ar (B j).kind≤dep B j):0≤dep B i∧dep B i≤i:=by
 induction i with
 |zero=>simp[dep]
 |succ i ih =>
  have h1:=ih (by omega) (fun j hj=>h j (by omega))
  have h2:=h i (by omega)
  have:=ar_bd (B i).kind;rw[dep];omega
theorem need_bd(B:Nat→OpD)(n j:Nat)(h:∀k,k<j→need B n k≠0):0≤need B n j∧need B n j≤j+1:=by
 induction j with
 |zero=>simp[need]
 |succ j ih =>
  have h1:=ih (fun k hk=>h k (by omega))
  have h2:=h j (by omega)
  have:=ar_bd (B (n-1-j)).kind;rw[need];omega
def most(nr nb:Nat)(k:Int):Int:=if k=3 then nb else if k=2 then nr else 1
def ElemOK(nr nb:Nat)(o:OpD):Prop :=
 0≤o.kind∧o.kind≤7∧(o.kind=1→Canon o.sl o.set)∧(o.kind≠1→o.sl=0)∧0≤o.arg∧o.arg<most nr nb o.kind
def BodyOK(nr nb n:Nat)(B:Nat→OpD):Prop:=(∀i,i<n→ElemOK nr nb (B i))∧Shape n B
def Throws(n:Nat)(B:Nat→OpD)(l:Nat):Prop:=∃i,i<n∧(B i).kind=3∧(B i).arg=l
def SameName(a b:uj):Prop:=a.nl=b.nl∧∀i,i<a.nl→a.name i=b.name i
def LessT(n:Nat)(S:Nat→Int)(m:Nat)(T:Nat→Int):Prop :=
 ∃k,(∀i,i<k→S i=T i)∧k≤n∧k≤m∧((k<n∧k<m∧S k<T k)∨(k=n∧k<m))
def LessName(a b:uj):Prop:=LessT a.nl a.name b.nl b.name
def sum(f:Nat→Nat):Nat→Nat
 |0=>0
 |n+1=>sum f n+f n
theorem sum_le(f:Nat→Nat){i n:Nat}(h:i≤n):sum f i≤sum f n:=by
 induction n with
 |zero =>
   have:i=0:=by omega
   subst this;exact Nat.le_refl _
 |succ n ih =>
  by_cases e:i=n+1
  ·subst e;exact Nat.le_refl _
  ·rw[sum];have:=ih (by omega);omega
theorem le_sum(f:Nat→Nat){i n:Nat}(h:i<n):f i≤sum f n:=by
 have:=sum_le f (show i+1≤n by omega)
 rw[sum]at this;omega
def ops(g:Gr):Nat:=sum (fun i=>(g.rule i).bl) g.nr+sum (fun i=>(g.lab i).bl) g.nb
structure Valid(g:Gr):Prop where
 r1:0<g.nr
 r2:g.nr≤100
 l2:g.nb≤100
 rn:∀i,i<g.nr→NameOK (g.rule i).nl (g.rule i).name
 ru:∀i,i<g.nr→∀j,j<i→¬SameName (g.rule i) (g.rule j)
 ln:∀i,i<g.nb→NameOK (g.lab i).nl (g.lab i).name
 la:∀i,i<g.nb→0<i→LessName (g.lab (i-1)) (g.lab i)
 rb:∀i,i<g.nr→BodyOK g.nr g.nb (g.rule i).bl (g.rule i).body
 lb:∀i,i<g.nb→(g.lab i).has=true→BodyOK g.nr g.nb (g.lab i).bl (g.lab i).body
 lz:∀i,i<g.nb→(g.lab i).has=false→(g.lab i).bl=0
 lt:∀i,i<g.nb→(g.lab i).has=false→(∃j,j<g.nr∧Throws (g.rule j).bl (g.rule j).body i)∨∃j,j<g.nb∧Throws (g.lab j).bl (g.lab j).body i
 ol:ops g≤2000
end M
namespace M
def stp{α:Type}[Inhabited α](f:OpD→α→α→α)(o:OpD)(i:Nat)(s:List (Nat×α)):List (Nat×α) :=
 if ar o.kind=2 then
  match s with
  | (_,y)::(s1,x)::r=>(s1,f o x y)::r
  |_=>[]
 else if ar o.kind=1 then
  match s with
  | (s1,x)::r=>(s1,f o x default)::r
  |_=>[]
 else (i,f o default default)::s
def stk{α:Type}[Inhabited α](f:OpD→α→α→α)(B:Nat→OpD):Nat→List (Nat×α)
 |0=>[]
 |i+1=>stp f (B i) i (stk f B i)
theorem ar_cases(k:Int):ar k=0∨ar k=1∨ar k=2:=by unfold ar;split<;>(try split)<;>simp
def Fed(B:Nat→OpD)(i:Nat):Prop:=∀j,j<i→ar (B j).kind≤dep B j
theorem Fed.less{B:Nat→OpD}{i j:Nat}(h:Fed B i)(hj:j≤i):Fed B j:=fun k hk=>h k (by omega)
section
variable {α:Type} [Inhabited α] (f:OpD→α→α→α) (B:Nat→OpD)
theorem stk_len(i:Nat)(h:Fed B i):((stk f B i).length:Int)=dep B i:=by
 induction i with
 |zero=>rfl
 |succ i ih =>
  have e:=ih (h.less (by omega))
  have hi:=h i (by omega)
  rw[stk,dep];generalize stk f B i=l at *;rcases ar_cases (B i).kind with h0 | h0 | h0
  ·simp[stp,h0];omega
  ·rw[h0]at hi
   match l,e with
   | [],e=>simp at e;omega
   | (a,x)::r,e=>simp[stp,h0]at *;omega
  ·rw[h0]at hi
   match l,e with
   | [],e=>simp at e;omega
   | [(a,x)],e=>simp at e;omega
   | (a,x)::(b,y)::r,e=>simp[stp,h0]at *;omega
theorem stk_cons(i:Nat)(h:Fed B i)(s:Nat)(x:α)(r:List (Nat×α))(e:stk f B i=(s,x)::r) :
  s<i∧r=stk f B s∧∀j,s<j→j≤i→dep B i≤dep B j:=by
 induction i using Nat.strongRecOn generalizing s x r with
 |_ i ih =>
  match i,ih,e with
  |0,ih,e=>simp[stk]at e
  |i+1,ih,e =>
   have hl:=stk_len f B i (h.less (by omega))
   have hi:=h i (by omega)
   have hd:dep B (i+1)=dep B i+(1-ar (B i).kind):=rfl;rw[stk]at e;cases hq:stk f B i with
   |nil =>
    rw[hq]at e hl;simp at hl;have h0:ar (B i).kind=0:=by have:=ar_bd (B i).kind;omega
    simp[stp,h0]at e;obtain⟨⟨rfl,_⟩,rfl⟩:=e;refine⟨by omega,hq.symm,fun j h1 h2=>?_⟩
    obtain rfl:j=i+1:=by omega
    exact Int.le_refl _
   |cons p r1 =>
    obtain⟨s2,y⟩:=p;obtain⟨a1,a2,a3⟩:=ih i (by omega) (h.less (by omega)) s2 y r1 hq
    rw[hq]at e;rcases ar_cases (B i).kind with h0 | h0 | h0
    ·simp[stp,h0]at e
     obtain⟨⟨rfl,_⟩,rfl⟩:=e;refine⟨by omega,hq.symm,fun j h1 h2=>?_⟩
     obtain rfl:j=i+1:=by omega
     exact Int.le_refl _
    ·simp[stp,h0]at e
     obtain⟨⟨rfl,_⟩,rfl⟩:=e;refine⟨by omega,a2,fun j h1 h2=>?_⟩
     by_cases ej:j=i+1
     ·subst ej;exact Int.le_refl _
     ·have:=a3 j h1 (by omega);omega
    ·match r1,a2,e,hq with
     | [],a2,e,hq=>rw[hq]at hl;simp at hl;omega
     | (s1,x1)::r2,a2,e,hq =>
      simp[stp,h0]at e;obtain⟨⟨rfl,_⟩,rfl⟩:=e;obtain⟨b1,b2,b3⟩:=ih s2 (by omega) (h.less (by omega)) s1 x1 r2 a2.symm
      have l2:=stk_len f B s2 (h.less (by omega))
      rw[←a2]at l2;rw[hq]at hl;simp at l2 hl;refine⟨by omega,b2,fun j h1 h2=>?_⟩
      by_cases ej:j=i+1
      ·subst ej;exact Int.le_refl _
      ·by_cases ek:j≤s2
       ·have:=b3 j h1 ek;omega
       ·have:=a3 j (by omega) (by omega);omega
end
def tg(nr:Nat)(o:OpD):Nat:=if o.kind=3 then nr+o.arg.toNat else o.arg.toNat
def up2(o:OpD):Prop:=o.kind=2∨o.kind=3
instance (o:OpD):Decidable (up2 o):=inferInstanceAs (Decidable (_∨_))
def top{α:Type}[Inhabited α](l:List (Nat×α)):α:=match l with|(_,x)::_=>x | []=>default
def cnt(m:Nat→Bool):Nat→Nat
 |0=>0
 |n+1=>cnt m n+(if m n then 1 else 0)
def left(n:Nat)(m:Nat→Bool)(wl:Nat):Nat:=(n-cnt m n)*(n+1)+wl
end M
namespace M
structure uet where
 kind:Int
 arg:Int
 to:Int
 sl:Nat
 set:Nat→Int
def ins(k a t:Int):uet:=⟨k,a,t,0,fun _=>0⟩
inductive EX where
 |empty
 |set (n:Nat) (S:Nat→Int)
 |ref (n:Nat)
 |thr (l n:Nat)
 |seq (x y:EX)
 |alt (x y:EX)
 |star (x:EX)
 |not (x:EX)
instance:Inhabited EX:=⟨.empty⟩
def EX.len:EX→Nat
 | .empty=>0
 | .set _ _=>1
 | .ref _=>1
 | .thr _ _=>1
 | .seq x y=>x.len+y.len
 | .alt x y=>x.len+y.len+2
 | .star x=>x.len+2
 | .not x=>x.len+2
def ucS:List (Nat×EX)→Nat
 | []=>0
 | (_,t)::r=>t.len+ucS r
end M
section
open Go.RowKit
open M (OpD uj Gr)
theorem ui4{k:IntKind}{a b:Int}(h:a=b):Ending.returned (.int k a)=.returned (.int k b):=by rw[h]
theorem ub{w:World}{a:Addr}{v:Value}(h:w.cell? a=some v):a.block<w.heap.size:=by
 unfold World.cell? at h;cases ho:w.heap[a.block]? with
 |none=>simp[ho]at h
 |some o=>exact (Array.getElem?_eq_some_iff.1 ho).1
theorem ug{w w':World}{a:Addr}{v:Value}(h:w.cell? a=some v)(k:Below w.heap.size w w'):w'.cell? a=some v :=
 (k.cell (p:=a) (ub h)).trans h
def Ints(Q:Nat→Prop)(k:IntKind)(w:World)(a:Option Addr)(n:Nat)(S:Nat→Int):Prop :=
 n=0∨∃b off,a=some ⟨b,off,none⟩∧Q b∧∀i,i<n→w.cell? ⟨b,off+i,none⟩=some (.int k (S i))
structure OpC(Q:Nat→Prop)(w:World)(b o:Nat)(d:OpD):Prop where
 kind:w.cell? ⟨b,o,none⟩=some (.int .i64 d.kind)
 set:∃a c,w.cell? ⟨b,o+1,none⟩=some (.slice a d.sl c)∧Ints Q .i64 w a d.sl d.set
 arg:w.cell? ⟨b,o+2,none⟩=some (.int .i64 d.arg)
def OpsA(Q:Nat→Prop)(w:World)(a:Option Addr)(n:Nat)(B:Nat→OpD):Prop :=
 n=0∨∃b off,a=some ⟨b,off,none⟩∧Q b∧∀i,i<n→OpC Q w b (off+i*3) (B i)
structure RuleC(Q:Nat→Prop)(w:World)(b o:Nat)(d:uj):Prop where
 name:∃a c,w.cell? ⟨b,o,none⟩=some (.slice a d.nl c)∧Ints Q .u8 w a d.nl d.name
 body:∃a c,w.cell? ⟨b,o+1,none⟩=some (.slice a d.bl c)∧OpsA Q w a d.bl d.body
structure LabC(Q:Nat→Prop)(w:World)(b o:Nat)(d:uj):Prop where
 name:∃a c,w.cell? ⟨b,o,none⟩=some (.slice a d.nl c)∧Ints Q .u8 w a d.nl d.name
 has:w.cell? ⟨b,o+1,none⟩=some (.bool d.has)
 body:∃a c,w.cell? ⟨b,o+2,none⟩=some (.slice a d.bl c)∧OpsA Q w a d.bl d.body
def RulesA(Q:Nat→Prop)(w:World)(a:Option Addr)(n:Nat)(R:Nat→uj):Prop :=
 n=0∨∃b off,a=some ⟨b,off,none⟩∧Q b∧∀i,i<n→RuleC Q w b (off+i*2) (R i)
def LabsA(Q:Nat→Prop)(w:World)(a:Option Addr)(n:Nat)(R:Nat→uj):Prop :=
 n=0∨∃b off,a=some ⟨b,off,none⟩∧Q b∧∀i,i<n→LabC Q w b (off+i*3) (R i)
def Stay(Q:Nat→Prop)(w w':World):Prop:=∀b,Q b→w'.heap[b]? = w.heap[b]?
theorem Stay.cell{Q:Nat→Prop}{w w':World}(h:Stay Q w w'){b o:Nat}(hq:Q b):w'.cell? ⟨b,o,none⟩=w.cell? ⟨b,o,none⟩ :=
 World.cell?_of_block (w:=w) (h b hq)
variable {Q Q':Nat→Prop} {w w':World}
theorem Ints.on{k:IntKind}{a:Option Addr}{n:Nat}{S:Nat→Int}(h:Ints Q k w a n S)(t:Stay Q w w'):Ints Q k w' a n S:=by
 rcases h with h | ⟨b,off,e,hq,h⟩
 ·exact .inl h
 ·exact .inr ⟨b,off,e,hq,fun i hi=>(t.cell hq).trans (h i hi)⟩
theorem Ints.wide{k:IntKind}{a:Option Addr}{n:Nat}{S:Nat→Int}(h:Ints Q k w a n S)(t:∀b,Q b→Q' b):Ints Q' k w a n S:=by
 rcases h with h | ⟨b,off,e,hq,h⟩
 ·exact .inl h
 ·exact .inr ⟨b,off,e,t b hq,h⟩
theorem OpC.on{b o:Nat}{d:OpD}(h:OpC Q w b o d)(hq:Q b)(t:Stay Q w w'):OpC Q w' b o d:=by
 obtain⟨h1,⟨a,c,h2,h3⟩,h4⟩:=h;exact⟨(t.cell hq).trans h1,⟨a,c,(t.cell hq).trans h2,h3.on t⟩,(t.cell hq).trans h4⟩
theorem OpC.wide{b o:Nat}{d:OpD}(h:OpC Q w b o d)(t:∀b,Q b→Q' b):OpC Q' w b o d:=by
 obtain⟨h1,⟨a,c,h2,h3⟩,h4⟩:=h;exact⟨h1,⟨a,c,h2,h3.wide t⟩,h4⟩
theorem OpsA.on{a:Option Addr}{n:Nat}{B:Nat→OpD}(h:OpsA Q w a n B)(t:Stay Q w w'):OpsA Q w' a n B:=by
 rcases h with h | ⟨b,off,e,hq,h⟩
 ·exact .inl h
 ·exact .inr ⟨b,off,e,hq,fun i hi=>(h i hi).on hq t⟩
theorem OpsA.wide{a:Option Addr}{n:Nat}{B:Nat→OpD}(h:OpsA Q w a n B)(t:∀b,Q b→Q' b):OpsA Q' w a n B:=by
 rcases h with h | ⟨b,off,e,hq,h⟩
 ·exact .inl h
 ·exact .inr ⟨b,off,e,t b hq,fun i hi=>(h i hi).wide t⟩
theorem RuleC.on{b o:Nat}{d:uj}(h:RuleC Q w b o d)(hq:Q b)(t:Stay Q w w'):RuleC Q w' b o d:=by
 obtain⟨⟨a,c,h1,h2⟩,⟨a',c',h3,h4⟩⟩:=h;exact⟨⟨a,c,(t.cell hq).trans h1,h2.on t⟩,⟨a',c',(t.cell hq).trans h3,h4.on t⟩⟩
theorem LabC.on{b o:Nat}{d:uj}(h:LabC Q w b o d)(hq:Q b)(t:Stay Q w w'):LabC Q w' b o d:=by
 obtain⟨⟨a,c,h1,h2⟩,h0,⟨a',c',h3,h4⟩⟩:=h;exact⟨⟨a,c,(t.cell hq).trans h1,h2.on t⟩,(t.cell hq).trans h0,⟨a',c',(t.cell hq).trans h3,h4.on t⟩⟩
theorem RulesA.on{a:Option Addr}{n:Nat}{R:Nat→uj}(h:RulesA Q w a n R)(t:Stay Q w w'):RulesA Q w' a n R:=by
 rcases h with h | ⟨b,off,e,hq,h⟩
 ·exact .inl h
 ·exact .inr ⟨b,off,e,hq,fun i hi=>(h i hi).on hq t⟩
theorem LabsA.on{a:Option Addr}{n:Nat}{R:Nat→uj}(h:LabsA Q w a n R)(t:Stay Q w w'):LabsA Q w' a n R:=by
 rcases h with h | ⟨b,off,e,hq,h⟩
 ·exact .inl h
 ·exact .inr ⟨b,off,e,hq,fun i hi=>(h i hi).on hq t⟩
theorem Ints.later{k:IntKind}{a:Option Addr}{n:Nat}{S:Nat→Int}(h:Ints Q k w a n S)(t:Below w.heap.size w w'):Ints Q k w' a n S:=by
 rcases h with h | ⟨b,off,e,hq,h⟩
 ·exact .inl h
 ·exact .inr ⟨b,off,e,hq,fun i hi=>ug (h i hi) t⟩
theorem OpC.later{b o:Nat}{d:OpD}(h:OpC Q w b o d)(t:Below w.heap.size w w'):OpC Q w' b o d:=by
 obtain⟨h1,⟨a,c,h2,h3⟩,h4⟩:=h;exact⟨ug h1 t,⟨a,c,ug h2 t,h3.later t⟩,ug h4 t⟩
theorem OpsA.later{a:Option Addr}{n:Nat}{B:Nat→OpD}(h:OpsA Q w a n B)(t:Below w.heap.size w w'):OpsA Q w' a n B:=by
 rcases h with h | ⟨b,off,e,hq,h⟩
 ·exact .inl h
 ·exact .inr ⟨b,off,e,hq,fun i hi=>(h i hi).later t⟩
theorem RuleC.later{b o:Nat}{d:uj}(h:RuleC Q w b o d)(t:Below w.heap.size w w'):RuleC Q w' b o d:=by
 obtain⟨⟨a,c,h1,h2⟩,⟨a',c',h3,h4⟩⟩:=h;exact⟨⟨a,c,ug h1 t,h2.later t⟩,⟨a',c',ug h3 t,h4.later t⟩⟩
theorem LabC.later{b o:Nat}{d:uj}(h:LabC Q w b o d)(t:Below w.heap.size w w'):LabC Q w' b o d:=by
 obtain⟨⟨a,c,h1,h2⟩,h0,⟨a',c',h3,h4⟩⟩:=h;exact⟨⟨a,c,ug h1 t,h2.later t⟩,ug h0 t,⟨a',c',ug h3 t,h4.later t⟩⟩
theorem RulesA.later{a:Option Addr}{n:Nat}{R:Nat→uj}(h:RulesA Q w a n R)(t:Below w.heap.size w w'):RulesA Q w' a n R:=by
 rcases h with h | ⟨b,off,e,hq,h⟩
 ·exact .inl h
 ·exact .inr ⟨b,off,e,hq,fun i hi=>(h i hi).later t⟩
theorem LabsA.later{a:Option Addr}{n:Nat}{R:Nat→uj}(h:LabsA Q w a n R)(t:Below w.heap.size w w'):LabsA Q w' a n R:=by
 rcases h with h | ⟨b,off,e,hq,h⟩
 ·exact .inl h
 ·exact .inr ⟨b,off,e,hq,fun i hi=>(h i hi).later t⟩
theorem up(w:World)(o:Obj):Below w.heap.size w (w.alloc o):=(Below.refl _ w).alloc (Nat.le_refl _) o
theorem yx(w:World)(o p:Obj):Below w.heap.size w ((w.alloc o).alloc p):=(up w o).alloc (by simp) p
theorem uh{a b c:World}(h:Below a.heap.size a b)(k:Below b.heap.size b c):Below a.heap.size a c:=h.trans (k.mono h.size)
def Of(w:World):Nat→Prop:=fun b=>b<w.heap.size
end
section
open Go.RowKit
theorem yN{P:Prop}(h:P):(true=true↔P):=⟨fun _=>h,fun _=>rfl⟩
theorem uR{P:Prop}(h:¬P):(false=true↔P):=⟨(fun e=>absurd e (by decide)),fun q=>absurd q h⟩
def Says(P:Prop)(w:World)(e:Ending)(w':World):Prop:=(∃r:Bool,e=.returned (.bool r)∧(r=true↔P))∧w=w'
def yT(P:Prop)(w:World)(e:Ending)(w':World):Prop:=(∃r:Bool,e=.returned (.bool r)∧(r=true↔P))∧Below w.heap.size w w'
theorem Says.b{P:Prop}{w w':World}{e:Ending}(h:Says P w e w'):yT P w e w':=by
 obtain⟨h1,rfl⟩:=h;exact⟨h1,Below.refl _ _⟩
theorem ubc(c:Int):c<65∨(65≤c∧c≤90)∨(90<c∧c<95)∨c=95∨c=96∨(97≤c∧c≤122)∨122<c:=by omega
theorem ucM(c:Int):c<48∨(48≤c∧c≤57)∨57<c:=by omega
set_option maxHeartbeats 1000000 in
theorem xt(c:Int)(w:World)(h0:0≤c)(h1:c≤255) :
  Calls Tryz.prog 89 #[.int .u8 c] w (Says (M.Letter c) w):=by
 rcases ubc c with h | ⟨h,h'⟩|⟨h,h'⟩ | h | h | ⟨h,h'⟩ | h
 all_goals (try subst h)
 all_goals (
  go_enter Tryz.func89,Tryz.ntmps89;go_wp2;go_ret;exact⟨⟨_,rfl,by simp[M.Letter]<;>omega⟩,rfl⟩)
set_option maxHeartbeats 1000000 in
theorem xu(c:Int)(w:World)(h0:0≤c)(h1:c≤255) :
  Calls Tryz.prog 32 #[.int .u8 c] w (Says (M.Letter c) w):=by
 rcases ubc c with h | ⟨h,h'⟩|⟨h,h'⟩ | h | h | ⟨h,h'⟩ | h
 all_goals (try subst h)
 all_goals (
  go_enter Tryz.func32,Tryz.ntmps32;go_wp2;go_ret;exact⟨⟨_,rfl,by simp[M.Letter]<;>omega⟩,rfl⟩)
set_option maxHeartbeats 1000000 in
theorem ucN(c:Int)(w:World)(h0:0≤c)(h1:c≤255) :
  Calls Tryz.prog 33 #[.int .u8 c] w (Says (M.Digit c) w):=by
 rcases ucM c with h | ⟨h,h'⟩ | h
 all_goals (
  go_enter Tryz.func33,Tryz.ntmps33;go_wp2;go_ret;exact⟨⟨_,rfl,by simp[M.Digit]<;>omega⟩,rfl⟩)
set_option maxHeartbeats 1000000 in
theorem yw(c:Int)(w:World)(h0:0≤c)(h1:c≤255) :
  Calls Tryz.prog 90 #[.int .u8 c] w (Says (M.Letter c∨M.Digit c) w):=by
 by_cases hl:M.Letter c
 ·have HL:Hid (M.Letter c):=hl
  clear hl;go_enter Tryz.func90,Tryz.ntmps90;go_wp2_with (go_at_call 89;refine (xt c _ h0 h1).mono ?_;rintro e W ⟨⟨r,rfl,hr⟩,hw⟩;subst W;obtain rfl:r=true:=hr.2 HL.out;clear hr);go_ret;exact⟨⟨true,rfl,yN (.inl HL.out)⟩,rfl⟩
 ·have HL:Hid (¬M.Letter c):=hl
  clear hl;rcases ucM c with h | ⟨h,h'⟩ | h
  all_goals (
   go_enter Tryz.func90,Tryz.ntmps90;go_wp2_with (go_at_call 89;refine (xt c _ h0 h1).mono ?_;rintro e W ⟨⟨r,rfl,hr⟩,hw⟩;subst W;obtain rfl:r=false:=by { cases r;rfl;exact absurd (hr.1 rfl) HL.out };clear hr)
   go_ret;exact⟨⟨_,rfl,by simp[HL.out,M.Digit]<;>omega⟩,rfl⟩)
theorem uej(k:Int):k<4∨k=4∨k=5∨k=6∨k=7∨7<k:=by omega
set_option maxHeartbeats 1000000 in
theorem kS(k:Int)(w:World) :
  Calls Tryz.prog 81 #[.int .i64 k] w fun e w'=>e=.returned (.int .i64 (M.ar k))∧w=w':=by
 rcases uej k with h | h | h | h | h | h
 all_goals (try subst h)
 all_goals (
  try (
   have e4:(k==4)=false:=by simp;omega
   have e5:(k==5)=false:=by simp;omega
   have e6:(k==6)=false:=by simp;omega
   have e7:(k==7)=false:=by simp;omega)
  go_enter Tryz.func81,Tryz.ntmps81;go_wp2;go_ret;exact⟨ui4 (by unfold M.ar;first|rfl|(rw[if_neg (by omega),if_neg (by omega)])),rfl⟩)
set_option maxHeartbeats 1000000 in
theorem ucO(k:Int)(w:World) :
  Calls Tryz.prog 65 #[.int .i64 k] w fun e w'=>e=.returned (.int .i64 (M.ar k))∧w=w':=by
 rcases uej k with h | h | h | h | h | h
 all_goals (try subst h)
 all_goals (
  try (
   have e4:(k==4)=false:=by simp;omega
   have e5:(k==5)=false:=by simp;omega
   have e6:(k==6)=false:=by simp;omega
   have e7:(k==7)=false:=by simp;omega)
  go_enter Tryz.func65,Tryz.ntmps65;go_wp2;go_ret;exact⟨ui4 (by unfold M.ar;first|rfl|(rw[if_neg (by omega),if_neg (by omega)])),rfl⟩)
end
section
open Go.RowKit
theorem ujr(n:Nat)(h:n%2=1):((n:Int)%2 != 0)=true:=by
 have:(n:Int)%2=1:=by omega
 rw[this];decide
theorem uhk(n:Nat)(h:n%2=0):((n:Int)%2 != 0)=false:=by
 have:(n:Int)%2=0:=by omega
 rw[this];decide
theorem upC(n:Nat)(h:n%2=1):((n:Int)%2==1)=true:=by
 have:(n:Int)%2=1:=by omega
 rw[this];decide
theorem upD(n:Nat)(h:n%2=0):((n:Int)%2==1)=false:=by
 have:(n:Int)%2=0:=by omega
 rw[this];decide
theorem upE(n:Nat)(h:n%2=0):((n:Int)%2==0)=true:=by
 have:(n:Int)%2=0:=by omega
 rw[this];decide
theorem upF(n:Nat)(h:n%2=1):((n:Int)%2==0)=false:=by
 have:(n:Int)%2=1:=by omega
 rw[this];decide
theorem uav(S:Nat→Int)(k:Nat):M.least S (k+1)=S (2*k+1)+2:=by
 unfold M.least;rw[if_neg (by omega),show 2*(k+1)-1=2*k+1 by omega]
theorem xq{k:IntKind}{a b:Int}(h:a=b):Value.int k a=.int k b:=by rw[h]
theorem ukN(n:Nat)(S:Nat→Int)(k:Nat)(h:2*k=n)(hp:∀j,j<k→M.PairOK S j):M.Canon n S :=
 ⟨by omega,fun i hi=>(M.pairs_canon S k).1 hp i (by omega)⟩
theorem ucv(n:Nat)(S:Nat→Int)(k:Nat)(h:2*k<n)(hp:¬M.PairOK S k):¬M.Canon n S:=fun q =>
 hp ((M.pairs_canon S (n / 2)).2 (fun i hi=>q.2 i (by omega)) k (by have:=q.1;omega))
def upG(w:World)(n:Nat)(S:Nat→Int)(l i:Value)(wr:World):Prop :=
 ∃k d:Nat,2*k≤n∧l=.int .i64 (M.least S k)∧i=.int .i64 ((2*k:Nat):Int)∧wr=w.drewN d∧(∀j,j<k→M.PairOK S j)∧0≤M.least S k∧M.least S k≤257
set_option maxHeartbeats 1000000 in
theorem ucW(Q:Nat→Prop)(a:Option Addr)(n c:Nat)(S:Nat→Int)(w:World)(hS:Ints Q .i64 w a n S)(hn:n≤1048576) :
  Calls Tryz.prog 108 #[.slice a n c] w (yT (M.Canon n S) w):=by
 rcases (Nat.mod_two_eq_zero_or_one n).symm with he | he
 ·have t:=ujr n he
  go_enter Tryz.func108,Tryz.ntmps108;go_wp2;go_ret;exact⟨⟨false,rfl,uR fun q=>by have:=q.1;omega⟩,Below.refl _ _⟩
 have t:=uhk n he;go_enter Tryz.func108,Tryz.ntmps108;go_wp2;go_loopw [3,4] (fun l i wr=>upG w n S l i wr) (fun l i _=>n-(intOf i).toNat)
 case atStart=>exact⟨0,0,by omega,rfl,rfl,rfl,fun j hj=>absurd hj (Nat.not_lt_zero _),by simp[M.least],by simp[M.least]⟩
 case round =>
  obtain⟨k,d,hk,rfl,rfl,rfl,hall,hl0,hl1⟩:=hrel;have HA:Hid (∀j,j<k→M.PairOK S j):=hall;clear hall;by_cases hlt:2*k<n
  ·rcases hS with h0 | ⟨b,off,rfl,hq,hS⟩
   ·omega
   have hc1:=hS (2*k) hlt;have hc2:=hS (2*k+1) (by omega)
   have i1:((2*k+1:Nat):Int)=((2*k:Nat):Int)+1:=by omega
   have lt1:((2*k:Nat):Int)<(n:Int):=by omega
   have lt2:((2*k:Nat):Int)+1<(n:Int):=by omega
   by_cases c1:S (2*k)<M.least S k
   ·go_wp2_with fail
    go_quiet (fail);go_wp2;go_ret;exact⟨⟨false,rfl,uR (ucv n S k hlt fun q=>by have:=q.1;omega)⟩,by first|exact below_drewN (Below.refl _ _) _ | exact below_drewN (below_drewN (Below.refl _ _) _) _ | exact below_drewN (below_drewN (below_drewN (Below.refl _ _) _) _) _⟩
   by_cases c2:S (2*k+1)<S (2*k)
   ·go_wp2_with fail
    go_quiet (fail);go_wp2;go_ret;exact⟨⟨false,rfl,uR (ucv n S k hlt fun q=>by have:=q.2.1;omega)⟩,by first|exact below_drewN (Below.refl _ _) _ | exact below_drewN (below_drewN (Below.refl _ _) _) _ | exact below_drewN (below_drewN (below_drewN (Below.refl _ _) _) _) _⟩
   by_cases c3:255<S (2*k+1)
   ·go_wp2_with fail
    go_quiet (fail);go_wp2;go_ret;exact⟨⟨false,rfl,uR (ucv n S k hlt fun q=>by have:=q.2.2;omega)⟩,by first|exact below_drewN (Below.refl _ _) _ | exact below_drewN (below_drewN (Below.refl _ _) _) _ | exact below_drewN (below_drewN (below_drewN (Below.refl _ _) _) _) _⟩
   go_wp2_with fail;go_quiet (fail);go_wp2;go_roundw
   case rel =>
    refine⟨k+1,_,by omega,xq (uav S k).symm,by go_num,rfl,fun j hj=>?_,?_,?_⟩
    ·by_cases e:j=k
     ·subst e;exact⟨by omega,by omega,by omega⟩
     ·exact HA.out j (by omega)
    ·rw[uav];omega
    ·rw[uav];omega
   case measure=>simp[intOf];omega
  ·have e2:2*k=n:=by omega
   have HE:Hid (2*k=n):=e2;have nlt:¬((2*k:Nat):Int)<(n:Int):=by omega
   clear e2;go_wp2;go_ret;exact⟨⟨true,rfl,yN (ukN n S k HE.out HA.out)⟩,by first|exact below_drewN (Below.refl _ _) _ | exact below_drewN (below_drewN (Below.refl _ _) _) _ | exact below_drewN (below_drewN (below_drewN (Below.refl _ _) _) _) _⟩
def upH(w:World)(n:Nat)(S:Nat→Int)(i:Value)(wr:World):Prop :=
 ∃k d:Nat,k≤n∧i=.int .i64 (k:Int)∧wr=w.drewN d∧∀j,j<k→M.CanAt S j
theorem qV{n:Nat}{S:Nat→Int}{k:Nat}(hk:k<n)(h:¬M.CanAt S k):¬M.Canon n S:=fun q=>h (q.2 k hk)
set_option maxHeartbeats 2000000 in
theorem ji(Q:Nat→Prop)(a:Option Addr)(n c:Nat)(S:Nat→Int)(w:World)(hS:Ints Q .i64 w a n S)(hn:n≤1048576) :
  Calls Tryz.prog 34 #[.slice a n c] w (yT (M.Canon n S) w):=by
 rcases (Nat.mod_two_eq_zero_or_one n).symm with he | he
 ·have t:=ujr n he
  go_enter Tryz.func34,Tryz.ntmps34;go_wp2;go_ret;exact⟨⟨false,rfl,uR fun q=>by have:=q.1;omega⟩,Below.refl _ _⟩
 have t:=uhk n he;go_enter Tryz.func34,Tryz.ntmps34;go_wp2;go_loopw [3] (fun i wr=>upH w n S i wr) (fun i _=>n-(intOf i).toNat)
 case atStart=>exact⟨0,0,by omega,rfl,rfl,fun j hj=>absurd hj (Nat.not_lt_zero _)⟩
 case round =>
  obtain⟨k,d,hk,rfl,rfl,hall⟩:=hrel;have HA:Hid (∀j,j<k→M.CanAt S j):=hall;clear hall;by_cases hlt:k<n
  ·rcases hS with h0 | ⟨b,off,rfl,hq,hS⟩
   ·omega
   have hc1:=hS k hlt;have lt1:(k:Int)<(n:Int):=by omega
   by_cases c1:S k<0
   ·go_wp2
    go_ret;exact⟨⟨false,rfl,uR (qV hlt fun q=>by have:=q.1;omega)⟩,by first|exact below_drewN (Below.refl _ _) _ | exact below_drewN (below_drewN (Below.refl _ _) _) _ | exact below_drewN (below_drewN (below_drewN (Below.refl _ _) _) _) _⟩
   by_cases c2:255<S k
   ·go_wp2
    go_ret;exact⟨⟨false,rfl,uR (qV hlt fun q=>by have:=q.2.1;omega)⟩,by first|exact below_drewN (Below.refl _ _) _ | exact below_drewN (below_drewN (Below.refl _ _) _) _ | exact below_drewN (below_drewN (below_drewN (Below.refl _ _) _) _) _⟩
   by_cases hz:k=0
   ·subst hz
    rw[Nat.add_zero]at hc1;go_wp2_with fail;go_quiet (fail);go_wp2_with fail;go_quiet (fail);go_wp2;go_roundw
    case rel =>
     refine⟨1,_,by omega,by go_num,rfl,fun j hj=>?_⟩
     obtain rfl:j=0:=by omega
     exact⟨by omega,by omega,fun h=>by omega,fun h=>by omega⟩
    case measure=>simp[intOf];omega
   obtain⟨p,hp1⟩:∃p,k=p+1:=⟨k-1,by omega⟩
   have HP:Hid (k=p+1):=hp1;have hkp:(0:Int)<(k:Int):=by omega
   have hkn:0<k:=by omega
   have hc0:=hS p (by have:=HP.out;omega)
   have hp:=HA.out p (by have:=HP.out;omega)
   have b0:=hp.1;have b1:=hp.2.1;clear hp;have em:(k:Int)-1=(p:Int):=by omega
   clear hp1;rcases Nat.mod_two_eq_zero_or_one k with hm | hm
   ·have m1:=upD k hm
    have m0:=upE k hm;by_cases c3:S k<S p+2
    ·go_wp2_with fail
     go_quiet (fail);go_wp2_with fail;go_quiet (fail);go_wp2;go_ret;exact⟨⟨false,rfl,uR (qV hlt fun q=>by have:=q.2.2.2 ⟨by omega,hm⟩;rw[HP.out]at this c3;simp at this;omega)⟩,by first|exact below_drewN (Below.refl _ _) _ | exact below_drewN (below_drewN (Below.refl _ _) _) _ | exact below_drewN (below_drewN (below_drewN (Below.refl _ _) _) _) _⟩
    ·go_wp2_with fail
     go_quiet (fail);go_wp2_with fail;go_quiet (fail);go_wp2;go_roundw
     case rel =>
      refine⟨k+1,_,by omega,by go_num,rfl,fun j hj=>?_⟩
      by_cases e:j=k
      ·subst j;exact⟨by omega,by omega,fun h=>by omega,fun h=>by rw[HP.out]at c3 ⊢;simp;omega⟩
      ·exact HA.out j (by omega)
     case measure=>simp[intOf];omega
   ·have m1:=upC k hm
    have m0:=upF k hm;by_cases c3:S k<S p
    ·go_wp2_with fail
     go_quiet (fail);go_wp2;go_ret;exact⟨⟨false,rfl,uR (qV hlt fun q=>by have:=q.2.2.1 hm;rw[HP.out]at this c3;simp at this;omega)⟩,by first|exact below_drewN (Below.refl _ _) _ | exact below_drewN (below_drewN (Below.refl _ _) _) _ | exact below_drewN (below_drewN (below_drewN (Below.refl _ _) _) _) _⟩
    ·go_wp2_with fail
     go_quiet (fail);go_wp2_with fail;go_quiet (fail);go_wp2;go_roundw
     case rel =>
      refine⟨k+1,_,by omega,by go_num,rfl,fun j hj=>?_⟩
      by_cases e:j=k
      ·subst j;exact⟨by omega,by omega,fun h=>by rw[HP.out]at c3 ⊢;simp;omega,fun h=>by omega⟩
      ·exact HA.out j (by omega)
     case measure=>simp[intOf];omega
  ·obtain rfl:k=n:=by omega
   go_wp2;go_ret;exact⟨⟨true,rfl,yN ⟨he,HA.out⟩⟩,by first|exact below_drewN (Below.refl _ _) _ | exact below_drewN (below_drewN (Below.refl _ _) _) _ | exact below_drewN (below_drewN (below_drewN (Below.refl _ _) _) _) _⟩
end
section
open Go.RowKit
open M (OpD uj Gr)
set_option maxHeartbeats 1000000 in
theorem vE(Q:Nat→Prop)(a:Option Addr)(n c l:Nat)(B:Nat→OpD)(w:World)(hB:OpsA Q w a n B)(hn:n≤1048576) :
  Calls Tryz.prog 15 #[.slice a n c,.int .i64 l] w (Says (M.Throws n B l) w):=by
 go_enter Tryz.func15,Tryz.ntmps15;go_wp2;go_loopw [5] (fun i wr=>∃k:Nat,k≤n∧i=.int .i64 k∧wr=w∧∀j,j<k→¬((B j).kind=3∧(B j).arg=l)) (fun i _=>n-(intOf i).toNat)
 case atStart=>exact⟨0,Nat.zero_le _,rfl,rfl,fun j hj=>absurd hj (Nat.not_lt_zero _)⟩
 case round =>
  obtain⟨k,hk,rfl,rfl,hall⟩:=hrel;have HA:Hid (∀j,j<k→¬((B j).kind=3∧(B j).arg=l)):=hall;clear hall;by_cases hlt:k<n
  ·rcases hB with h0 | ⟨b,off,rfl,hq,hB⟩
   ·omega
   obtain⟨c0,⟨sa,sc,c1,hs⟩,c2⟩:=hB k hlt;clear hs;by_cases e3:(B k).kind=3
   ·have f3:((B k).kind==3)=true:=by simp[e3]
    have E3:Hid ((B k).kind=3):=e3;clear e3;by_cases e4:(B k).arg=l
    ·have f4:((B k).arg==(l:Int))=true:=by simp[e4]
     have E4:Hid ((B k).arg=l):=e4;clear e4;go_wp2;go_ret;exact⟨⟨true,rfl,yN ⟨k,hlt,E3.out,E4.out⟩⟩,rfl⟩
    ·have f4:((B k).arg==(l:Int))=false:=by simp[e4]
     have E4:Hid (¬(B k).arg=l):=e4;clear e4;go_wp2;go_roundw
     case rel=>exact⟨k+1,by omega,by go_num,by trivial,fun j hj=>if e:j=k then e▸fun q=>E4.out q.2 else HA.out j (by omega)⟩
     case measure=>simp[intOf];omega
   ·have f3:((B k).kind==3)=false:=by simp[e3]
    have E3:Hid (¬(B k).kind=3):=e3;clear e3;go_wp2;go_roundw
    case rel=>exact⟨k+1,by omega,by go_num,by trivial,fun j hj=>if e:j=k then e▸fun q=>E3.out q.1 else HA.out j (by omega)⟩
    case measure=>simp[intOf];omega
  ·obtain rfl:k=n:=by omega
   go_wp2;go_ret;exact⟨⟨false,rfl,uR fun ⟨i,hi,q⟩=>HA.out i hi q⟩,rfl⟩
def uoW(w:World)(n:Nat)(B:Nat→OpD)(d i:Value)(wr:World):Prop :=
 ∃j:Nat,j≤n∧d=.int .i64 (M.need B n j)∧i=.int .i64 ((n:Int)-1-j)∧wr=w∧∀t,t<j→M.need B n t≠0
set_option maxHeartbeats 1000000 in
theorem ugn(Q:Nat→Prop)(a:Option Addr)(n c:Nat)(B:Nat→OpD)(w:World)(hB:OpsA Q w a n B)(hn:n≤1048576) :
  Calls Tryz.prog 35 #[.slice a n c] w (Says (M.Shape n B) w):=by
 go_enter Tryz.func35,Tryz.ntmps35;go_wp2;go_loopw [3,4] (fun d i wr=>uoW w n B d i wr) (fun d i _=>(intOf i+1).toNat)
 case atStart=>exact⟨0,Nat.zero_le _,rfl,by simp,rfl,fun j hj=>absurd hj (Nat.not_lt_zero _)⟩
 case round =>
  obtain⟨j,hj,rfl,rfl,rfl,hall⟩:=hrel;have bd:=M.need_bd B n j hall;have HA:Hid (∀t,t<j→M.need B n t≠0):=hall;clear hall;by_cases hlt:j<n
  ·rcases hB with h0 | ⟨b,off,rfl,hq,hB⟩
   ·omega
   obtain⟨p,hp⟩:∃p:Nat,n-1-j=p:=⟨_,rfl⟩;have HP:Hid (n-1-j=p):=hp;have ei:(n:Int)-1-j=p:=by omega
   have hpn:p<n:=by omega
   have hpi:(p:Int)<n:=by omega
   clear hp;rw[ei];obtain⟨c0,⟨sa,sc,c1,hs⟩,c2⟩:=hB p hpn;clear hs;have hst:M.need B n (j+1)=M.need B n j+(M.ar (B p).kind-1):=by rw[M.need,HP.out]
   have har:=M.ar_bd (B p).kind;have HS:Hid (M.need B n (j+1)=M.need B n j+(M.ar (B p).kind-1)):=hst;clear hst;by_cases hz:M.need B n j=0
   ·have fz:(M.need B n j==0)=true:=by simp[hz]
    have HZ:Hid (M.need B n j=0):=hz;clear hz;go_wp2;go_ret;exact⟨⟨false,rfl,uR fun q=>((M.shape_iff n B).2 q).1 j hlt HZ.out⟩,rfl⟩
   ·have fz:(M.need B n j==0)=false:=by simp[hz]
    have HZ:Hid (¬M.need B n j=0):=hz;clear hz;go_wp2_with (go_at_call 65;refine (ucO _ _).mono ?_;rintro e W ⟨rfl,hw⟩;subst W);go_roundw
    case rel=>exact⟨j+1,by omega,xq HS.out.symm,xq (by omega),by trivial,fun t ht=>if e:t=j then e▸HZ.out else HA.out t (by omega)⟩
    case measure=>simp[intOf]<;>omega
  ·obtain rfl:j=n:=by omega
   have ei:(j:Int)-1-j = -1:=by omega
   rw[ei];go_wp2;go_ret;refine⟨⟨_,rfl,?_⟩,rfl⟩;rw[←M.shape_iff];simp only[beq_iff_eq];exact⟨fun q=>⟨HA.out,q⟩,fun q=>q.2⟩
end
section
open Go.RowKit
open M (OpD uj Gr)
theorem ue3(nr nb sl:Nat)(S:Nat→Int)(arg:Int):M.ElemOK nr nb ⟨1,sl,S,arg⟩↔arg=0∧M.Canon sl S:=by
 unfold M.ElemOK M.most;constructor
 ·rintro⟨_,_,h,_,h1,h2⟩
  exact⟨by simp at h1 h2;omega,h rfl⟩
 ·rintro⟨rfl,h⟩
  refine⟨?_,?_,fun _=>h,fun q=>absurd rfl q,?_,?_⟩<;>simp
theorem ugP(nr nb sl:Nat)(S:Nat→Int)(arg:Int):M.ElemOK nr nb ⟨2,sl,S,arg⟩↔0≤arg∧arg<nr∧sl=0:=by
 unfold M.ElemOK M.most;simp;omega
theorem ue4(nr nb sl:Nat)(S:Nat→Int)(arg:Int):M.ElemOK nr nb ⟨3,sl,S,arg⟩↔0≤arg∧arg<nb∧sl=0:=by
 unfold M.ElemOK M.most;simp;omega
theorem ugQ(nr nb sl:Nat)(S:Nat→Int)(kind arg:Int)(h:kind=0∨kind=4∨kind=5∨kind=6∨kind=7):M.ElemOK nr nb ⟨kind,sl,S,arg⟩↔arg=0∧sl=0:=by
 unfold M.ElemOK M.most;rcases h with rfl | rfl | rfl | rfl | rfl<;>(simp;omega)
theorem uma(nr nb sl:Nat)(S:Nat→Int)(kind arg:Int)(h:kind<0∨7<kind):¬M.ElemOK nr nb ⟨kind,sl,S,arg⟩:=fun q=>by
 have h1:=q.1;have h2:=q.2.1;simp at h1 h2;omega
theorem udR(k:Int):k=1∨k=2∨k=3∨(k=0∨k=4∨k=5∨k=6∨k=7)∨(k<0∨7<k):=by omega
set_option maxHeartbeats 2000000 in
theorem xE(Q:Nat→Prop)(ra la sa:Option Addr)(nr rc nb lc sl sc:Nat)(S:Nat→Int)(kind arg:Int)(w:World)(hS:Ints Q .i64 w sa sl S)
  (h1:nr≤1048576) (h2:nb≤1048576) (h3:sl≤1048576) :
  Calls Tryz.prog 97 #[.agg #[.slice ra nr rc,.slice la nb lc],.agg #[.int .i64 kind,.slice sa sl sc,.int .i64 arg]] w (yT (M.ElemOK nr nb ⟨kind,sl,S,arg⟩) w):=by
 rcases udR kind with rfl | rfl | rfl | hk | hk
 ·by_cases e0:arg=0
  ·subst e0
   have hI:∀o p,Ints Q .i64 ((w.alloc o).alloc p) sa sl S:=fun o p=>hS.later (yx w o p)
   go_enter Tryz.func97,Tryz.ntmps97;go_wp2_with (go_at_call 108;refine (ucW Q sa sl sc S _ (hI _ _) h3).mono ?_;rintro e W ⟨⟨r,rfl,hr⟩,hb⟩;have HR:Hid _:=hr;have HB:Hid _:=hb;clear hr hb);go_ret;exact⟨⟨_,rfl,HR.out.trans ((ue3 nr nb sl S 0).trans ⟨fun q=>q.2,fun q=>⟨rfl,q⟩⟩).symm⟩,uh (yx w _ _) HB.out⟩
  ·have f0:(arg==0)=false:=by simp[e0]
   have E0:Hid (¬arg=0):=e0;clear e0;go_enter Tryz.func97,Tryz.ntmps97;go_wp2;go_ret;exact⟨⟨false,rfl,uR fun q=>E0.out ((ue3 nr nb sl S arg).1 q).1⟩,yx w _ _⟩
 ·go_enter Tryz.func97,Tryz.ntmps97
  go_wp2;all_goals go_ret
  all_goals exact⟨⟨_,rfl,by rw[ugP];simp<;>omega⟩,yx w _ _⟩
 ·go_enter Tryz.func97,Tryz.ntmps97
  go_wp2;all_goals go_ret
  all_goals exact⟨⟨_,rfl,by rw[ue4];simp<;>omega⟩,yx w _ _⟩
 ·rcases hk with rfl | rfl | rfl | rfl | rfl
  all_goals (
   go_enter Tryz.func97,Tryz.ntmps97;go_wp2;all_goals go_ret
   all_goals exact⟨⟨_,rfl,by rw[ugQ _ _ _ _ _ _ (by omega)];simp<;>omega⟩,yx w _ _⟩)
 ·have HK:Hid (kind<0∨7<kind):=hk
  have f0:(kind==0)=false:=by simp;omega
  have f1:(kind==1)=false:=by simp;omega
  have f2:(kind==2)=false:=by simp;omega
  have f3:(kind==3)=false:=by simp;omega
  have f4:(kind==4)=false:=by simp;omega
  have f5:(kind==5)=false:=by simp;omega
  have f6:(kind==6)=false:=by simp;omega
  have f7:(kind==7)=false:=by simp;omega
  clear hk;go_enter Tryz.func97,Tryz.ntmps97;go_wp2;go_ret;exact⟨⟨false,rfl,uR (uma _ _ _ _ _ _ HK.out)⟩,yx w _ _⟩
end
end Go.Proofs.YthicmmhmmfhncaaGreat
