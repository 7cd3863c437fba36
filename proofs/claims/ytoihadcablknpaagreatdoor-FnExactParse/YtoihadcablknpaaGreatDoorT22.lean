import Derived.Test.YtoihadcablknpaaGreatDoorT20
import Derived.Test.YtoihadcablknpaaGreatDoorT18
import Derived.Lib.ConvBytes
import Derived.Test.YtoihadcablknpaaGreatDoorT21
set_option linter.unusedVariables false
set_option linter.unusedSimpArgs false
set_option linter.defProp false
set_option maxHeartbeats 40000000
set_option maxRecDepth 100000
namespace Go.Proofs.YtoihadcablknpaaGreatDoor
open Go.RowKit
open Go.Proofs.Tryz
section
open M (OpD uh Gr)
def beg(k:Int):Prop:=k=33\/k=38\/k=94\/k=46\/k=40\/k=110\/k=34\/k=91
instance (k:Int):Decidable (beg k):=by unfold beg;infer_instance
def pos(n:Nat):List wH->Nat
 |[]=>n
 |x::_=>x.f
def rd(n:Nat):Nat->Nat->PE->List wH->Sum Nat (PE×List wH)
 |0,_,_,l=>.inl (pos n l)
 |f+1,0,_,l =>
  match l with
  |[]=>.inl n
  |x::r =>
   if x.e=110 then .inr (.ref x,r)
   else if x.e=34 then .inr (.str x,r)
   else if x.e=91 then .inr (.cls x,r)
   else if x.e=46 then .inr (.dot x,r)
   else if x.e=94 then
    (match r with
    |[]=>.inl n
    |y::r'=>if y.e=110 then .inr (.thr x y,r') else .inl y.f)
   else if x.e=40 then
    (match rd n f 5 .emp r with
    |.inl p=>.inl p
    |.inr (e,r') =>
     match r' with
     |[]=>.inl n
     |y::r''=>if y.e=41 then .inr (.grp x e y,r'') else .inl y.f)
   else .inl x.f
 |f+1,1,_,l =>
  match rd n f 0 .emp l with
  |.inl p=>.inl p
  |.inr (e,r) =>
   match r with
   |[]=>.inr (e,[])
   |x::r'=>if x.e=42 then .inr (.star e x,r') else if x.e=63 then .inr (.opt e x,r') else .inr (e,x::r')
 |f+1,2,_,l =>
  match l with
  |[]=>.inl n
  |x::r =>
   if x.e=33 then (match rd n f 2 .emp r with|.inl p=>.inl p|.inr (e,r')=>.inr (.not x e,r'))
   else if x.e=38 then (match rd n f 2 .emp r with|.inl p=>.inl p|.inr (e,r')=>.inr (.amp x e,r'))
   else rd n f 1 .emp (x::r)
 |f+1,3,acc,l =>
  if beg (kAt l 0) then (match rd n f 2 .emp l with|.inl p=>.inl p|.inr (e,r)=>rd n f 3 (.seq acc e) r) else .inr (acc,l)
 |f+1,4,_,l =>
  if beg (kAt l 0) then (match rd n f 2 .emp l with|.inl p=>.inl p|.inr (e,r)=>rd n f 3 e r) else .inr (.emp,l)
 |f+1,5,_,l =>
  match rd n f 4 .emp l with
  |.inl p=>.inl p
  |.inr (e,r)=>rd n f 6 e r
 |f+1,6,acc,l =>
  match l with
  |[]=>.inr (acc,[])
  |x::r =>
   if x.e=47 then (match rd n f 4 .emp r with|.inl p=>.inl p|.inr (e,r')=>rd n f 6 (.alt acc x e) r') else .inr (acc,x::r)
 |_+1,_+7,_,l=>.inl (pos n l)
def xh n{s}d(h:s≠0):uD n [] s d=n:=by rw[uD,Zn h]
def xT n{x r s d}(h:x.e=0\/(uK s d x.e).1=7):uD n (x::r) s d=x.f:=by
 rw[uD];by_cases a:x.e=0
 ·rw[Zp a]
 rw[Zn a,Zp (h.resolve_left a)]
def vv n{x r s d s' a}(b:x.e≠0)(h:uK s d x.e=(s',a))(c:s'≠7):uD n (x::r) s d=uD n r s' a:=by
 rw[uD,Zn b,h,Zn c]
def St(s:Nat):Prop:=s=3\/s=4\/s=6
def H4{s d k}(b:St s)(a:k=110\/k=34\/k=91\/k=46):uK s d k=(6,d):=by
 rcases b with rfl|rfl|rfl<;>rcases a with rfl|rfl|rfl|rfl<;>rfl
def H5{s d k}(b:St s)(a:k=33\/k=38):uK s d k=(4,d):=by
 rcases b with rfl|rfl|rfl<;>rcases a with rfl|rfl<;>rfl
def H6{s d}(a:St s):uK s d 94=(5,d):=by rcases a with rfl|rfl|rfl<;>rfl
def H7{s d}(a:St s):uK s d 40=(3,d+1):=by rcases a with rfl|rfl|rfl<;>rfl
def H8{d k}(a:k=42\/k=63):uK 6 d k=(3,d):=by rcases a with rfl|rfl<;>rfl
def H9{s d}(a:s=3\/s=6):uK s d 47=(3,d):=by rcases a with rfl|rfl<;>rfl
def I0{s d}(a:s=3\/s=6):uK s (d+1) 41=(6,d):=by rcases a with rfl|rfl<;>simp[uK]
def I1{d k}(a:¬beg k):(uK 4 d k).1=7:=by
 unfold beg at a;simp only[not_or]at a;obtain⟨b,c,e,f,g,h,i,j⟩:=a;simp[uK,b,c,e,f,g,h,i,j]
def I2{d k}(a:k≠110):(uK 5 d k).1=7:=by simp[uK,a]
def I3{s d k}(n:s=3\/s=6)(a:¬beg k)(h:k≠47)(g:k≠41)(o:s=6->k≠42/\k≠63):(uK s (d+1) k).1=7:=by
 unfold beg at a;simp only[not_or]at a;obtain⟨b,c,e,f,i,j,l,m⟩:=a;rcases n with rfl|rfl
 ·simp[uK,b,c,e,f,i,j,l,m,h,g]
 obtain⟨p,q⟩:=o rfl;simp[uK,b,c,e,f,i,j,l,m,h,g,p,q]
def Ji(s:Nat)(r:List wH):Prop:=(s=3\/s=6)/\(s=6->kAt r 0≠42/\kAt r 0≠63)
def Ji.st{s r}(h:Ji s r):St s:=h.1.elim (λq=>.inl q) (λq=>.inr (.inr q))
def Bg(s:Nat)(l:List wH):Prop:=St s/\(s=4\/beg (kAt l 0))
def JR:St 3:=.inl rfl
def JS:St 4:=.inr (.inl rfl)
def JT r:Ji 3 r:=⟨.inl rfl,λq=>aB q oM⟩
def RI(n:Nat)(l:List wH)(G:Np)(E:PE->List wH->Nat->Prop):Sum Nat (PE×List wH)->Prop
 |.inl p=>∀s d,G s->uD n l s d=(p:Int)
 |.inr (e,r)=>∃s',E e r s'/\∀s d,G s->uD n l s d=uD n r s' d
section
variable {n:Nat} {l l':List wH} {G G':Np} {E E':PE->List wH->Nat->Prop} {x y:Sum Nat (PE×List wH)}
def RI.g(h:RI n l' G' E x)(c:Nat)(i:G' c)(j:∀s d,G s->uD n l s d=uD n l' c d)(k:∀e r s,E e r s->E' e r s):RI n l G E' x:=by
 rcases x with p|⟨e,r⟩
 ·exact λs d f=>(j s d f).trans (h c d i)
 obtain⟨s',a,b⟩:=h;exact⟨s',k _ _ _ a,λs d f=>(j s d f).trans (b c d i)⟩
def RI.d{c:Prop}[Decidable c](h:c->RI n l G E x)(a:¬c->RI n l G E y):RI n l G E (if c then x else y):=by
 split
 ·exact h ‹_›
 exact a ‹_›
end
def R0(n f:Nat):Prop:=∀l,kAt l 0≠33->kAt l 0≠38->8*l.length+1<f->RI n l (Bg · l) (λe r s=>e.ok 0/\l=e.tk++r/\s=6) (rd n f 0 .emp l)
def Mo(n m k f:Nat):Prop:=∀l,(m=1->kAt l 0≠33/\kAt l 0≠38)->8*l.length+k<f->RI n l (Bg · l) (λe r s=>e.ok m/\l=e.tk++r/\Ji s r) (rd n f m .emp l)
def R3(n f:Nat):Prop:=∀acc l s0,acc.ok 3->Ji s0 l->8*l.length+4<f->RI n l (· = s0) (λe r s=>e.ok 3/\e.tk++r=acc.tk++l/\¬beg (kAt r 0)/\Ji s r) (rd n f 3 acc l)
def R4(n f:Nat):Prop:=∀l,8*l.length+4<f->RI n l (· = 3) (λe r s=>e.ok 4/\l=e.tk++r/\¬beg (kAt r 0)/\Ji s r) (rd n f 4 .emp l)
def R5(n f:Nat):Prop:=∀l,8*l.length+6<f->RI n l (· = 3) (λe r s=>e.ok 5/\l=e.tk++r/\¬beg (kAt r 0)/\kAt r 0≠47/\Ji s r) (rd n f 5 .emp l)
def R6(n f:Nat):Prop:=∀acc l s0,acc.ok 5->Ji s0 l->¬beg (kAt l 0)->8*l.length+5<f->RI n l (· = s0) (λe r s=>e.ok 5/\e.tk++r=acc.tk++l/\¬beg (kAt r 0)/\kAt r 0≠47/\Ji s r) (rd n f 6 acc l)
def I4{n f}(E:R5 n f):R0 n (f+1):=by
 intro l u v F;cases l with
 |nil=>exact λs d b=>xh n d (by rcases b.1 with rfl|rfl|rfl<;>omega)
 |cons x r =>
  rw[zQ]at F;have i:∀T:PE,T.ok 0->T.tk = [x]->(x.e=110\/x.e=34\/x.e=91\/x.e=46)->RI n (x::r) (Bg · (x::r)) (λe j s=>e.ok 0/\x::r=e.tk++j/\s=6) (.inr (T,r)):=λT C o D=>⟨6,⟨C,by rw[o];rfl,rfl⟩,λs d b=>vv n oM (H4 b.1 D) oM⟩
  simp only[rd];refine .d (λk=>i (.ref x) k rfl (.inl k)) λG=>.d (λk=>i (.str x) k rfl (.inr (.inl k))) λH=>.d (λk=>i (.cls x) k rfl (.inr (.inr (.inl k)))) λI=>.d (λk=>i (.dot x) k rfl (.inr (.inr (.inr k)))) λJ=>.d (λt=>?_) λt=>.d (λc=>?_) λc s d b=>xT n (.inr ?_)
  ·have st:∀s d,St s->uD n (x::r) s d=uD n r 5 d:=λs d b=>vv n oM (by rw[t];exact H6 b) oM
   cases r with
   |nil=>exact λs d b=>(st s d b.1).trans (xh n d oM)
   |cons y j=>exact .d (λc=>⟨6,⟨⟨t,c⟩,rfl,rfl⟩,λs d b=>(st s d b.1).trans (vv n oM (by rw[c];rfl) oM)⟩) λc s d b=>(st s d b.1).trans (xT n (.inr (I2 c)))
  ·have a:=E r oM;generalize rd n f 5 .emp r=q at a ⊢;have st:∀s d,Bg s (x::r)->uD n (x::r) s d=uD n r 3 (d+1):=λs d b=>vv n oM (by rw[c];exact H7 b.1) oM
   rcases q with p|⟨e,j⟩
   ·exact λs d b=>(st s d b).trans (a 3 _ rfl)
   obtain⟨s',⟨b1,z,A,B,g⟩,m⟩:=a;cases j with
   |nil=>exact λs d b=>((st s d b).trans (m 3 _ rfl)).trans (xh n _ (by rcases g.1 with rfl|rfl<;>omega))
   |cons y r2=>exact .d (λh=>⟨6,⟨⟨c,h,b1⟩,by rw[z];simp[PE.tk],rfl⟩,λs d b=>((st s d b).trans (m 3 _ rfl)).trans (vv n oM (by rw[h];exact I0 g.1) oM)⟩) λh s d b=>((st s d b).trans (m 3 _ rfl)).trans (xT n (.inr (I3 g.1 A B h g.2)))
  have u:x.e≠33:=u;have v:x.e≠38:=v;have w:¬beg x.e:=λq=>by unfold beg at q;omega
  obtain⟨_,rfl|o⟩:=b
  ·exact I1 w
  exact aB o w
def I5{n f}(j:R0 n f):Mo n 1 2 (f+1):=by
 intro l h z;have a:=j l (h rfl).1 (h rfl).2 oM;simp only[rd];generalize rd n f 0 .emp l=q at a ⊢;rcases q with p|⟨e,r⟩
 ·exact a
 obtain⟨_,⟨b1,b,rfl⟩,g⟩:=a;cases r with
 |nil=>exact⟨6,⟨PE.c e oM b1,b,.inr rfl,λ_=>⟨by show(0:Int)≠42;omega,by show(0:Int)≠63;omega⟩⟩,g⟩
 |cons x y =>
  have i:∀T:PE,T.ok 1->T.tk=e.tk++[x]->(x.e=42\/x.e=63)->RI n l (Bg · l) (λe r s=>e.ok 1/\l=e.tk++r/\Ji s r) (.inr (T,y)):=λT m o t=>⟨3,⟨m,by rw[b,o];simp,JT _⟩,λs d u=>(g s d u).trans (vv n oM (H8 t) oM)⟩
  exact .d (λk=>i (.star e x) ⟨oM,k,b1⟩ rfl (.inl k)) λv=>.d (λk=>i (.opt e x) ⟨oM,k,b1⟩ rfl (.inr k)) λw=>⟨6,⟨PE.c e oM b1,b,.inr rfl,λ_=>⟨v,w⟩⟩,g⟩
def I6{n f}(m:Mo n 1 2 f)(o:Mo n 2 3 f):Mo n 2 3 (f+1):=by
 intro l _ u;cases l with
 |nil=>exact λs d b=>xh n d (by rcases b.1 with rfl|rfl|rfl<;>omega)
 |cons x r =>
  rw[zQ]at u;simp only[rd];have a:=o r (λq=>aB q oM) oM;have pre:∀T:PE->PE,(x.e=33\/x.e=38)->(∀e,e.ok 2->(T e).ok 2)->(∀e,(T e).tk=x::e.tk)->RI n (x::r) (Bg · (x::r)) (λe g s=>e.ok 2/\x::r=e.tk++g/\Ji s g) (match rd n f 2 .emp r with|.inl p=>.inl p|.inr (e,g)=>.inr (T e,g)):=λT v m o=>by
   have st:∀s d,Bg s (x::r)->uD n (x::r) s d=uD n r 4 d:=λs d b=>vv n oM (H5 b.1 v) oM
   generalize rd n f 2 .emp r=q at a ⊢;rcases q with p|⟨e,g⟩
   ·exact λs d b=>(st s d b).trans (a 4 d ⟨JS,.inl rfl⟩)
   obtain⟨s',⟨b1,i,t⟩,j⟩:=a;exact⟨s',⟨m e b1,by rw[o,i];rfl,t⟩,λs d b=>(st s d b).trans (j 4 d ⟨JS,.inl rfl⟩)⟩
  refine .d (λk=>pre (.not x) (.inl k) (λe h=>⟨oM,k,h⟩) λe=>rfl) λw=>.d (λk=>pre (.amp x) (.inr k) (λe h=>⟨oM,k,h⟩) λe=>rfl) λy=>?_
  have a:=m (x::r) (λ_=>⟨w,y⟩) (by rw[zQ];omega);generalize rd n f 1 .emp (x::r)=q at a ⊢;rcases q with p|⟨e,g⟩
  ·exact a
  obtain⟨s',⟨b1,i⟩,j⟩:=a;exact⟨s',⟨PE.c e oM b1,i⟩,j⟩
def I7{n f}(t:Mo n 2 3 f)(u:R3 n f):R3 n (f+1):=by
 intro acc l s0 k c w;simp only[rd];refine .d (λb=>?_) λb=>⟨s0,⟨k,rfl,b,c⟩,λs d e=>by rw[e]⟩
 have a:=t l (λq=>aB q oM) oM;generalize rd n f 2 .emp l=q at a ⊢;rcases q with p|⟨e,r⟩
 ·exact λs d i=>a s d ⟨i▸c.st,.inr b⟩
 obtain⟨s',⟨b1,j,m⟩,o⟩:=a;have y:=(yF e b1 []).2.2;have x:l.length=e.tk.length+r.length:=by rw[j,wK]
 exact(u (.seq acc e) r s' ⟨oM,k,b1⟩ m oM).g s' rfl (λs d i=>o s d ⟨i▸c.st,.inr b⟩) λv z A h=>⟨h.1,by rw[h.2.1,j];simp[PE.tk],h.2.2⟩
def I8{n f}(t:Mo n 2 3 f)(u:R3 n f):R4 n (f+1):=by
 intro l v;simp only[rd];refine .d (λb=>?_) λb=>⟨3,⟨Sv 4,rfl,b,JT _⟩,λs d e=>by rw[e]⟩
 have a:=t l (λq=>aB q oM) oM;generalize rd n f 2 .emp l=q at a ⊢;rcases q with p|⟨e,r⟩
 ·exact λs d i=>a s d ⟨i▸JR,.inr b⟩
 obtain⟨s',⟨b1,j,k⟩,m⟩:=a;have x:=(yF e b1 []).2.2;have w:l.length=e.tk.length+r.length:=by rw[j,wK]
 exact(u e r s' (PE.c e oM b1) k oM).g s' rfl (λs d i=>m s d ⟨i▸JR,.inr b⟩) λo y z h=>⟨PE.c o oM h.1,by rw[h.2.1,j],h.2.2⟩
def I9{n f}(w:R4 n f)(y:R6 n f):R6 n (f+1):=by
 intro acc l s0 c b m z;cases l with
 |nil=>exact⟨s0,⟨c,rfl,m,by show(0:Int)≠47;omega,b⟩,λs d e=>by rw[e]⟩
 |cons x r =>
  rw[zQ]at z;simp only[rd];refine .d (λk=>?_) λk=>⟨s0,⟨c,rfl,m,k,b⟩,λs d e=>by rw[e]⟩
  have st:∀s d,s=s0->uD n (x::r) s d=uD n r 3 d:=λs d e=>vv n oM (by rw[k,e];exact H9 b.1) oM
  have a:=w r oM;generalize rd n f 4 .emp r=q at a ⊢;rcases q with p|⟨e,o⟩
  ·exact λs d i=>(st s d i).trans (a 3 d rfl)
  obtain⟨s',⟨b1,j,t,u⟩,v⟩:=a;have B:r.length=e.tk.length+o.length:=by rw[j,wK]
  exact(y (.alt acc x e) o s' ⟨oM,k,c,b1⟩ u t oM).g s' rfl (λs d i=>(st s d i).trans (v 3 d rfl)) λA r2 C h=>⟨h.1,by rw[h.2.1,j];simp[PE.tk],h.2.2⟩
def J0{n f}(k:R4 n f)(m:R6 n f):R5 n (f+1):=by
 intro l s;simp only[rd];have a:=k l oM;generalize rd n f 4 .emp l=q at a ⊢;rcases q with p|⟨e,r⟩
 ·exact a
 obtain⟨s',⟨b1,b,d,i⟩,j⟩:=a;have t:l.length=e.tk.length+r.length:=by rw[b,wK]
 exact(m e r s' (PE.c e oM b1) i d oM).g s' rfl j λo u v h=>⟨h.1,by rw[h.2.1,b],h.2.2⟩
def JU n:∀f,R0 n f/\Mo n 1 2 f/\Mo n 2 3 f/\R3 n f/\R4 n f/\R5 n f/\R6 n f
 |0=>⟨(λl _ _ h=>absurd h oM),(λl _ h=>absurd h oM),(λl _ h=>absurd h oM),(λ_ l _ _ _ h=>absurd h oM),(λl h=>absurd h oM),(λl h=>absurd h oM),(λ_ l _ _ _ _ h=>absurd h oM)⟩
 |f+1=>by
  obtain⟨e,g,a,b,c,i,d⟩:=JU n f;exact⟨I4 i,I5 e,I6 g a,I7 a b,I8 a b,J0 c d,I9 c d⟩
def J1 n f l(h:8*l.length+6<f):(∀p,rd n f 5 .emp l=.inl p->∀d,uD n l 3 d=(p:Int))/\(∀e r,rd n f 5 .emp l=.inr (e,r)->e.ok 5/\l=e.tk++r/\¬beg (kAt r 0)/\kAt r 0≠47/\∃s',Ji s' r/\∀d,uD n l 3 d=uD n r s' d):=by
 have a:=(JU n f).2.2.2.2.2.1 l h;refine⟨λp q d=>?_,λe r q=>?_⟩<;>rw[q]at a
 ·exact a 3 d rfl
 obtain⟨s,⟨b1,b,c,g,i⟩,j⟩:=a;exact⟨b1,b,c,g,s,i,λd=>j 3 d rfl⟩
end
open M (OpD uh Gr)
structure Rl where
 a:Option wH
 f:wH
 eq:wH
 e:PE
 d:wH
def Rl.tk(r:Rl):List wH:=r.a.toList++(r.f::r.eq::(r.e.tk++[r.d]))
def Rl.ok(r:Rl):Prop:=(∀c,r.a=some c->c.e=94)/\r.f.e=110/\r.eq.e=61/\r.e.ok 5/\r.d.e=59
def vP(n:Nat)(a:Option wH)(l:List wH):Sum Nat (Rl×List wH) :=
 match l with
 |[]=>.inl n
 |x::r =>
  if x.e=110 then
   (match r with
   |[]=>.inl n
   |y::r1 =>
    if y.e=61 then
     (match rd n (8*r1.length+8) 5 .emp r1 with
      |.inl p=>.inl p
      |.inr (e,r2) =>
       match r2 with
       |[]=>.inl n
       |z::r3=>if z.e=59 then .inr (⟨a,x,y,e,z⟩,r3) else .inl z.f)
    else .inl y.f)
  else .inl x.f
def vK(n:Nat)(l:List wH):Sum Nat (Rl×List wH) :=
 match l with
 |[]=>.inl n
 |x::r=>if x.e=94 then vP n (some x) r else vP n none (x::r)
def vQ(n:Nat):Nat->List wH->Sum Nat (List Rl)
 |0,l=>.inl (pos n l)
 |f+1,l =>
  match l with
  |[]=>.inr []
  |x::r =>
   match vK n (x::r) with
   |.inl p=>.inl p
   |.inr (q,r') =>
    match vQ n f r' with
    |.inl p=>.inl p
    |.inr a=>.inr (q::a)
def J5{s}(a:s=3\/s=6):uK s 0 59=(0,0):=by rcases a with rfl|rfl<;>rfl
def J6{s k}(m:s=3\/s=6)(a:¬beg k)(f:k≠47)(h:k≠59)(n:s=6->k≠42/\k≠63):(uK s 0 k).1=7:=by
 unfold beg at a;simp only[not_or]at a;obtain⟨b,c,d,e,g,i,j,l⟩:=a;rcases m with rfl|rfl
 ·simp[uK,b,c,d,e,g,i,j,l,f,h]
 obtain⟨o,p⟩:=n rfl;simp[uK,b,c,d,e,g,i,j,l,f,h,o,p]
def JZ n(g:Option wH)(w:∀c,g=some c->c.e=94)l s(i:s=0\/s=1)(B:s=0->kAt l 0≠94)(A:s=0->l≠[]) :
  (∀p,vP n g l=.inl p->uD n l s 0=(p:Int))/\(∀q r,vP n g l=.inr (q,r)->q.ok/\g.toList++l=q.tk++r/\uD n l s 0=uD n r 0 0):=by
 cases l with
 |nil =>
  have D:=i.resolve_left (λq=>A q rfl);exact⟨(λp h=>by simp only[vP]at h;injection h with h;subst h;exact xh n 0 oM),(λq r h=>by simp[vP]at h)⟩
 |cons x r =>
  simp only[vP];by_cases a:x.e=110
  ·rw[Zp a];have st:uD n (x::r) s 0=uD n r 2 0:=vv n oM (by rw[a];rcases i with rfl|rfl<;>rfl) oM;rw[st];cases r with
   |nil=>exact⟨(λp h=>by injection h with h;subst h;exact xh n 0 oM),(λq r h=>by cases h)⟩
   |cons y r1 =>
    simp only;by_cases b:y.e=61
    ·rw[Zp b];have C:uD n (y::r1) 2 0=uD n r1 3 0:=vv n oM (by rw[b];rfl) oM;rw[C];obtain⟨k,m⟩:=J1 n (8*r1.length+8) r1 oM;cases j:rd n (8*r1.length+8) 5 .emp r1 with
     |inl p=>exact⟨(λE h=>by injection h with h;subst h;exact k p j 0),(λq r h=>by cases h)⟩
     |inr q =>
      obtain⟨e,r2⟩:=q;obtain⟨b1,o,t,u,s',f,v⟩:=m e r2 j;simp only;rw[v 0];cases r2 with
      |nil=>exact⟨(λp h=>by injection h with h;subst h;exact xh n 0 (by rcases f.1 with rfl|rfl<;>omega)),(λq r h=>by cases h)⟩
      |cons z F =>
       simp only;by_cases d:z.e=59
       ·rw[Zp d];refine⟨(λp h=>by cases h),λq r h=>?_⟩;injection h with h;injection h with ha hb;subst ha hb;exact⟨⟨w,a,b,b1,d⟩,by rw[o];simp[Rl.tk],vv n oM (by rw[d];exact J5 f.1) oM⟩
       rw[Zn d];exact⟨(λp h=>by injection h with h;subst h;exact xT n (.inr (J6 f.1 t u d f.2))),(λq r h=>by cases h)⟩
    rw[Zn b];exact⟨(λp h=>by injection h with h;subst h;exact xT n (.inr (by simp[uK,b]))),(λq r h=>by cases h)⟩
  rw[Zn a];refine⟨(λp h=>?_),(λq r h=>by cases h)⟩;injection h with h;subst h;refine xT n (.inr ?_);rcases i with rfl|rfl
  ·have:x.e≠94:=B rfl;simp[uK,a,this]
  simp[uK,a]
def KA n l(b:l≠[]) :
  (∀p,vK n l=.inl p->uD n l 0 0=(p:Int))/\(∀q r,vK n l=.inr (q,r)->q.ok/\l=q.tk++r/\uD n l 0 0=uD n r 0 0):=by
 cases l with
 |nil=>exact absurd rfl b
 |cons x r =>
  simp only[vK];by_cases a:x.e=94
  ·rw[Zp a];have st:uD n (x::r) 0 0=uD n r 1 0:=vv n oM (by rw[a];rfl) oM;rw[st];exact JZ n (some x) (λc h=>by injection h with h;subst h;exact a) r 1 (.inr rfl) (λq=>aB q oM) (λq=>aB q oM)
  rw[Zn a];exact JZ n none (λc h=>by cases h) (x::r) 0 (.inl rfl) (λ_=>a) (λ_=>b)
def Ze n:∀f l,l.length<f->(∀p,vQ n f l=.inl p->uD n l 0 0=(p:Int))/\(∀a,vQ n f l=.inr a->(∀q∈a,q.ok)/\l=a.flatMap Rl.tk/\uD n l 0 0 = -1)
 |0,l,h=>absurd h oM
 |f+1,l,h=>by
  cases l with
  |nil =>
   simp only[vQ];refine⟨(λp h=>by cases h),λa h=>?_⟩;injection h with h;subst h;exact⟨(λq b=>by cases b),rfl,rfl⟩
  |cons x r =>
   simp only[vQ];obtain⟨i,j⟩:=KA n (x::r) sM;cases b:vK n (x::r) with
   |inl p=>exact⟨(λv h=>by injection h with h;subst h;exact i p b),(λa h=>by cases h)⟩
   |inr q =>
    obtain⟨q,c⟩:=q;obtain⟨b1,d,e⟩:=j q c b;have y:(x::r).length=q.tk.length+c.length:=(by rw[d,wK]);have z:0<q.tk.length:=(by simp[Rl.tk];omega);obtain⟨k,m⟩:=Ze n f c oM;simp only;cases g:vQ n f c with
    |inl p=>exact⟨(λv h=>by injection h with h;subst h;rw[e];exact k p g),(λa h=>by cases h)⟩
    |inr a =>
     refine⟨(λp h=>by cases h),λA h=>?_⟩;injection h with h;subst h;obtain⟨o,s,t⟩:=m a g;refine⟨λw u=>?_,by rw[d,Dj,<-s],by rw[e];exact t⟩;rcases Bx.1 u with rfl|h
     ·exact b1
     exact o w h
namespace V
def pO{T k f}(h:M.Start T k f)(b:T k≠10):M.Start T (k+1) f :=
 ⟨by have:=h.1;omega,h.2.1,λj a c=>by
  by_cases e:j=k
  ·subst e;exact b
  exact h.2.2 j a oM⟩
def pN{T k}(a:T k=10):M.Start T (k+1) (k+1) :=
 ⟨wF,.inr (by rw[Ke];exact a),λj b c=>oM⟩
def iH b off n cap q T w(h:Tx w b off n T)(l:∀i,0<=T i/\T i<=255)(v:n<=1048576)(x:q<=n) :
  Cs 44 #[Sl (Sm b off) n cap,Iv q] w λe w'=>(∃f:Nat,e=Rt (Iv f)/\M.Start T q f)/\w'=w:=by
 go_enter func44,ntmps44;go_wp2;go_loop [5,6] (λs i=>∃k f:Nat,k<=q/\i=Iv k/\s=Iv f/\M.Start T k f) (λ_ i=>q-(intOf i).toNat)
 ·exact⟨0,0,wP,rfl,rfl,wF,.inl rfl,λj o p=>oM⟩
 obtain⟨k,f,t,rfl,rfl,g⟩:=hrel;have d:Hid _:=g;clear g;by_cases u:k<q
 ·have r:=h k oM;obtain⟨y,z⟩:=l k;by_cases a:T k=10
  ·have m:(T k==10)=true:=(by simp[a]);have c:Hid (T k=10):=a;clear a;go_wp2;go_round
   ·exact⟨k+1,k+1,oM,by go_num,by go_num,pN c.o⟩
   simp[intOf];omega
  have m:(T k==10)=false:=by simp[a]
  have c:Hid (T k≠10):=a;clear a;go_wp2;go_round
  ·exact⟨k+1,f,oM,by go_num,rfl,pO d.o c.o⟩
  simp[intOf];omega
 obtain rfl:k=q:=oM;go_wp2;go_ret;exact⟨⟨f,rfl,d.o⟩,rfl⟩
def LC(T:Nat->Int)(n q L C:Nat):Prop:=∃f c,M.Start T q f/\M.Col T n f q c/\L=1+M.cnt T q/\C=c+1
def LC.a{T n q L C b C'}(h:LC T n q L C)(k:LC T n q b C'):L=b/\C=C':=by
 obtain⟨f,c,d,e,m,o⟩:=h;obtain⟨l,j,g,i,p,r⟩:=k;obtain rfl:=d.a g;obtain rfl:=e.a i;exact⟨oM,oM⟩
def LC.b{T n q L C}(h:LC T n q L C):1<=L/\1<=C:=by
 obtain⟨f,c,_,_,a,d⟩:=h;omega
def pL b off n cap q T w(o:Tx w b off n T)(l:∀i,0<=T i/\T i<=255)(u:n<=1048576)(B:q<=n) :
  Cs 42 #[Sl (Sm b off) n cap,Iv q] w λe w'=>(∃L C:Nat,e=Rt (.tuple #[Iv L,Iv C])/\LC T n q L C)/\w'=w:=by
 have Q:decide ((q:Int)<0)=false:=sM;have R:decide (n<q)=false:=sO;go_enter func42,ntmps42;go_wp2;go_loop [6,7] (λa i=>∃k:Nat,k<=q/\i=Iv k/\a=Iv (1+M.cnt T k:Nat)) (λ_ i=>q-(intOf i).toNat)
 ·exact⟨0,wP,rfl,rfl⟩
 obtain⟨k,N,rfl,rfl⟩:=hrel;have E:=M.dE T k;by_cases O:k<q
 ·have D:=o k oM;obtain⟨S,U⟩:=l k;by_cases d:T k=10
  ·have z:(T k==10)=true:=(by simp[d]);have m:Hid (M.cnt T (k+1)=M.cnt T k+1):=M.gZ T k d;clear d;go_wp2;go_round
   ·exact⟨k+1,oM,by go_num,by rw[m.o];go_num⟩
   simp[intOf];omega
  have z:(T k==10)=false:=by simp[d]
  have m:Hid (M.cnt T (k+1)=M.cnt T k):=by show _=_;simp only[M.cnt];rw[Zn d]
  clear d;go_wp2;go_round
  ·exact⟨k+1,oM,by go_num,by rw[m.o]⟩
  simp[intOf];omega
 obtain rfl:k=q:=oM;go_wp2_with fail;refine(iH b off n cap k T _ o l u B).mono ?_;rintro e w' ⟨⟨f,rfl,r⟩,rfl⟩;have y:Hid _:=r;have H:=r.1;clear r;go_wp2_with fail;go_loop [8,9] (λa i=>∃c:Nat,i=Iv (M.pos T n f c:Nat)/\a=Iv (c+1:Nat)/\M.pos T n f c<=n/\∀j,j<c->M.pos T n f j<k) (λ_ i=>n-(intOf i).toNat)
 ·exact⟨0,rfl,rfl,by show f<=n;omega,λj h=>oM⟩
 obtain⟨c,rfl,rfl,P,t⟩:=hrel;have s:Hid _:=t;clear t;have I:=M.iB T n f c;generalize v:M.pos T n f c=p at *;have g:Hid _:=v;clear v;by_cases A:p<k
 ·have G:=M.eM T n p;have F:=M.eL T n p oM;have x:Hid (M.scl T n p=M.cl T n p):=M.scl_eq T n p oM l;go_wp2_with (go_at_call 68;refine(pJ b off n cap p T _ o l u oM).mono ?_;rintro e w' ⟨rfl,rfl⟩;rw[x.o]);go_round
  ·exact⟨c+1,by simp only[M.pos];rw[g.o];go_num,by go_num,by simp only[M.pos];rw[g.o];omega,λj J=>by
   by_cases e:j=c
   ·subst e;rw[g.o];exact A
   exact s.o j oM⟩
  simp[intOf];omega
 go_wp2;go_ret2;exact⟨⟨1+M.cnt T k,c+1,by go_num,f,c,y.o,⟨s.o,by rw[g.o];omega⟩,rfl,rfl⟩,rfl⟩
def pM a(n cap:Nat)(q:Int)w(d:n<=1048576)(f:q<0\/(n:Int)<q) :
  Cs 42 #[Sl a n cap,Iv q] w λe w'=>e=Rt (.tuple #[Iv 0,Iv 0])/\w'=w:=by
 by_cases b:q<0
 ·go_enter func42,ntmps42;go_wp2;go_ret2;exact⟨rfl,rfl⟩
 have c:(n:Int)<q:=oM;go_enter func42,ntmps42;go_wp2;go_ret2;exact⟨rfl,rfl⟩
end V
namespace V
open Go.RowKit Go.Shelf
def mZ{T n f}(a:f<=n):f+bD T n f<=n/\(f+bD T n f<n->T (f+bD T n f)=10):=by
 have:=cF T n f;exact⟨oM,eA⟩
def uvr{T n q f c num}(l:f<=n)(m:num=1+M.cnt T f)(p:f=0\/T (f-1)=10)(b:f<=q)(r:q<=f+bD T n f)(e:∀j,j<c->f+M.pos (sh T f) (bD T n f) 0 j<q)(o:q<=f+M.pos (sh T f) (bD T n f) 0 c):LC T n q num (c+1):=by
 obtain⟨i,k⟩:=mZ (T:=T) l;have h:∀d,d<=c->M.pos T n f d=f+M.pos (sh T f) (bD T n f) 0 d:=λd s=>M.nB T n f (bD T n f) d i k (λj g=>by have:=e j oM;show M.pos (sh T f) (bD T n f) 0 j<_;omega)
 refine⟨f,c,⟨b,p,λj a d=>eB (n:=n) a oM⟩,⟨λj g=>by rw[h j oM];exact e j g,by rw[h c (wF)];exact o⟩,?_,rfl⟩;rw[m,M.iA T f q b (λj a d=>eB (n:=n) a oM)]
end V
namespace V
def zf(zs:LI)(i:Nat):Int:=zs.getD i 0
def lst(M:Nat->Int)(m:Nat):List Int:=(List.range m).map M
def cX M m:(lst M m).length=m:=by simp[lst]
def gR M:lst M 0 = []:=rfl
def gQ M m:lst M (m+1)=lst M m++[M m]:=by simp[lst,List.range_succ]
def Wr(w:Wl)(g cap:Nat):Prop:=∀j,j<cap->(w.cell? (Ad g j)).isSome=true/\w.frozen? (Ad g j)=false
def OwnM(B:Nat)(w0 w:Wl)(v:Vl)(zs:LI):Prop :=
 ∃g cap,v=Sl (Sm g 0) zs.length cap/\B<=g/\zs.length<=cap/\Tx w g 0 zs.length (zf zs)/\Wr w g cap/\Below B w0 w/\B<=w.heap.size
def OwnM.below{B w0 w v zs}(h:OwnM B w0 w v zs):Below B w0 w:=by
 obtain⟨g,cap,_,_,_,_,_,h,_⟩:=h;exact h
def Wr.q{w w' g cap}(h:Wr w g cap)(k:Bw w w'):Wr w' g cap:=λj d=>by
 obtain⟨a,c⟩:=h j d;obtain⟨u,e⟩:=Dt.1 a;have b:=cG e;rw[k.cell (p:=(Ad g j)) b,k.frozen (p:=(Ad g j)) b];exact⟨a,c⟩
def OwnM.on{B w0 w w' v zs}(h:OwnM B w0 w v zs)(k:Bw w w'):OwnM B w0 w' v zs:=by
 obtain⟨g,cap,b,c,d,e,f,i,a⟩:=h;exact⟨g,cap,b,c,d,e.q k,f.q k,i.trans (k.mono a),wN a k.size⟩
def OwnM.a{B w0 w v zs}(h:OwnM B w0 w v zs)o:OwnM B w0 (w.alloc o) v zs :=
 h.on ((wI w).alloc wF _)
def fC{B g w0}(a:B<=g):∀(b:List Value) (o:Nat) (w:Wl),Below B w0 w->Below B w0 (w.setCells g o b)
 |[],_,_,h=>h
 |v::r,o,w,h=>fC a r (o+1) _ (h.setCell (p:=(Ad g o)) a v)
def fD{B g cap w0 w' a}{b:Nat×Nat}{zs}(c:w'.heap[g]?=some (.cells a 5 b))(i:b.2=0\/a.size<=b.1)(e:B<=g)(h:Below B w0 w')(f:B<=w'.heap.size)(m:cap<=a.size)(k:zs.length<=cap)(l:∀j,j<zs.length->a[j]?=some (Bv (zf zs j))):OwnM B w0 w' (Sl (Sm g 0) zs.length cap) zs:=by
 refine⟨g,cap,rfl,e,k,λj d=>?_,λj d=>⟨?_,?_⟩,h,f⟩
 ·simp only[World.cell?,c,zL];exact l j d
 ·have:j<a.size:=oM;simp[World.cell?,c,this]
 obtain⟨lo,n⟩:=b;simp only[World.frozen?,c,Bool.and_eq_false_iff,decide_eq_false_iff_not];simp only at i;omega
def mB{zs ys j}(h:j<zs.length):zf (zs++ys) j=zf zs j:=by
 simp[zf,List.getD,Cr h]
def mC{zs ys j}(h:zs.length<=j):zf (zs++ys) j=zf ys (j-zs.length):=by
 simp[zf,List.getD,Di h]
def eJ{ys:LI}{j:Nat}(h:j<ys.length):(ys.map (Value.int .u8))[j]?=some (Bv (zf ys j)):=by
 simp[zf,List.getD,h]
def urp{B w0 w v x zs ys f}ty(F:OwnM B w0 w v zs)(H:Src prog 1 f x ys.length (ys.map (Value.int .u8)) w)(N:zs.length+ys.length<=16777216) :
  ∃C w',(Builtin.append_ #[22,f] ty #[v,x]).run prog w=.ok C w'/\OwnM B w0 w' C (zs++ys):=by
 obtain⟨i,z,I,d,J⟩:=info_parts Tryz.eK;obtain⟨g,cap,rfl,l,O,A,b,y,m⟩:=F;have hs':Src prog i.size f x ys.length (ys.map (Value.int .u8)) w:=by rw[d];exact H
 have n:(zs++ys).length=zs.length+ys.length:=sM;by_cases G:zs.length+ys.length<=cap
 ·have h:=run_append_room_src (P:=prog) w 22 f ty 5 i underlying22 z g 0 zs.length cap x ys.length (ys.map (Value.int .u8)) hs' G
   (λj a=>by rw[d];simp at a ⊢;exact(b _ oM).1) (λj a=>by rw[d];simp at a ⊢;exact(b _ oM).2)
  rw[d,Mb,zL]at h;refine⟨_,_,h,g,cap,by rw[n],l,oM,λj a=>?_,λj a=>⟨?_,?_⟩,fC l _ _ _ y,wN m (fC (w0:=w) l _ _ w (wI _)).size⟩
  ·rw[zL];by_cases q:j<zs.length
   ·rw[Qh g _ _ w _ (λ_ _=>Or.inl q),mB q];have:=A j q;rwa [zL]at this
   have c:=Qi g (ys.map (Value.int .u8)) zs.length w (λk p=>(b _ (by simp at p;omega)).1) (j-zs.length) sO;rw[show zs.length+(j-zs.length)=j by omega]at c;rw[c,mC oM];have t:=eJ (ys:=ys) (j:=j-zs.length) oM;rw[zG sO]at t;exact t
  ·by_cases L:zs.length<=j/\j<zs.length+ys.length
   ·have c:=Qi g (ys.map (Value.int .u8)) zs.length w (λk p=>(b _ (by simp at p;omega)).1) (j-zs.length) sO;rw[show zs.length+(j-zs.length)=j by omega]at c;rw[c];rfl
   rw[Qh g _ _ w _ (λ_ _=>sO)];exact(b j a).1
  rw[World.frozen?_setCells];exact(b j a).2
 have E:∀j u,(zs.map (Value.int .u8))[j]?=some u->w.drew.cell? (((Ad g 0):Addr).add j)=some u:=λj u r=>by
  have a:j<zs.length:=by
   have:=(zT.1 r).1;simpa using this
  rw[eJ a]at r;cases r;have e:((Ad g 0):Addr).add j=(Ad g j):=by
   by_cases s:j=0
   ·subst s;simp[Addr.add]
   simp[Addr.add,s]
  rw[e];have:=A j a;rwa [zL]at this
 have D:=run_firstCells_some (P:=prog) w.drew 1 zs.length (Ad g 0) zs.length cap (zs.map (Value.int .u8)) sM E;have h:=run_append_grow_src (P:=prog) w 22 f ty 5 i (Bv 0) underlying22 z I (Sm g 0) zs.length cap (zs.map (Value.int .u8)) (by rw[d];exact D) x ys.length (ys.map (Value.int .u8)) hs' oM oM (by rw[J];exact growslice_fits oM oM);have o:=grownCap_ge w (zs.length+ys.length) cap 5;refine⟨_,_,h,?_⟩;rw[<-n];rw[<-n]at o;refine fD (Df w.drew _) (.inl rfl) m ((y.drew).alloc m _) sO ?_ o λj a=>?_
 ·simp[size_zeroCells,Value.cells];simp at o;omega
 rw[Array.getElem?_append_left (by simp at a ⊢;omega)];rw[<-Cl];simpa using eJ (ys:=zs++ys) a
def app{ops:Array Oper}{rest:List Oper}{o:Oper}{a:Act}{Q:Exit->Act->World->Prop}{w:Wl}(g:o.guard=none)(s x:Operand)(d:TypeId)(i:o.op=.call { callee:=.builtin .append,args:=#[s,x],argTypes:=#[22,d] })
  {B:Nat} {w0:Wl} {v y:Vl} {zs ys:LI} (n:a.eval s=v) (q:a.eval x=y) (j:OwnM B w0 w v zs) (p:Src prog 1 d y ys.length (ys.map (Value.int .u8)) w) (k m:Nat) (r:zs.length<=k) (u:ys.length<=m) (t:k+m<=16777216)
  (h:∀b w' c,Hid (c=zs++ys)->Hid (c.length<=k+m)->OwnM B w0 w' b c->wpList prog ops Q rest (a.put o.dst b) w'):wpList prog ops Q (o::rest) a w:=by
 refine wpList_plain g λK f=>?_
 obtain⟨b,w',l,e⟩:=urp o.type j p oM;unfold Oper.wp execOp;simp only[i,resolve,invoke,builtin,Fa,Gc,Gk,Hs,Er,Gl,n,q,l];exact f _ _ (h b w' _ rfl (show _<=_ by rw[wK];omega) e)
def dJ{w a b off m c M}(i:0<m->a=some (Ad b off))(h:Tx w b off m M):Src prog 1 22 (Sl a m c) (lst M m).length ((lst M m).map (Value.int .u8)) w:=by
 rw[cX];by_cases f:m=0
 ·subst f;cases a with
  |none=>exact Src.ofNil w underlying22 c
  |some x=>exact Gj w underlying22 x 0 c [] rfl (λj u d=>by simp at d) (λu d=>by cases d)
 rw[i oM];refine Gj w underlying22 (Ad b off) m c _ (by simp[lst]) (λj u d=>?_) (λu d=>?_)
 ·have g:j<m:=by
   have:=(zT.1 d).1;simpa[lst] using this
  have e:((Ad b off):Addr).add j=(Ad b (off+j)):=by
   by_cases f:j=0
   ·subst f;simp[Addr.add]
   simp[Addr.add,f]
  rw[e,h j g];simpa[lst,g] using d
 obtain⟨z,_,rfl⟩:=Dc.1 d;rfl
def dK{w:Wl}(z:Int){c:Nat}:Src prog 1 22 (Sl (Sm w.heap.size 0) 1 c) [z].length ([z].map (Value.int .u8)) (w.alloc (Oc #[Bv z] 5)):=by
 refine Gj _ underlying22 (Ad w.heap.size 0) 1 c _ rfl (λj u a=>?_) (λu a=>?_)
 ·match j,a with
  |0,a =>
   simp at a;subst a;exact vo w (Bv z) 5
  |j+1,a=>simp at a
 simp at a;subst a;rfl
def fE{w}{s} ys(h:ys=s.data.toList.map λb=>(b.toNat:Int)):Src prog 1 9 (.string s) ys.length (ys.map (Value.int .u8)) w:=by
 have e:ys.map (Value.int .u8)=Go.byteCells s:=by rw[h];simp[Go.byteCells]
 have l:ys.length=s.size:=by rw[h,zN,Ku];rfl
 rw[e,l];exact Src.ofString w underlying9 s
def lW B w0 w(i:Below B w0 w)(g:B<=w.heap.size)s zs(h:zs=s.data.toList.map λb=>(b.toNat:Int)) :
  ∃f w',(convert 9 22 (.string s)).run prog w=.ok f w'/\OwnM B w0 w' f zs:=by
 have e:=Lib.run_convert_string_bytes (P:=prog) w 9 22 5 s underlying9 underlying22 underlying5;have d:zs.length=s.size:=by rw[h,zN,Ku];rfl
 rw[<-d]at e;refine⟨_,_,e,?_⟩;have c:=grownCap_ge w zs.length 0 5;refine fD (Lib.bytesWorld_at_new w 5 s) (.inr wF) g ?_ (by rw[Lib.bytesWorld_size];omega) ?_ c λj m=>?_
 ·refine i.trans ⟨?_,?_,?_,by rw[Lib.bytesWorld_size];omega,λk n=>Lib.bytesWorld_at_old w 5 s k oM⟩;all_goals rfl
 ·simp only[Lib.bytesCells,Array.size_append,Array.size_map,Array.size_replicate];have:s.data.size=s.size:=rfl;rw[d]at c ⊢;omega
 have a:=Lib.bytesWorld_cell w 5 s j oM;rw[World.cell?,Lib.bytesWorld_at_new]at a;have l:zf zs j=((s.data.toList.getD j 0).toNat:Int):=by
  have hj':j<s.data.toList.length:=by rw[Ku];show j<s.size;omega
  rw[h];simp only[zf,List.getD,Du];rw[zG hj'];rfl
 rw[l];exact a
end V
namespace V
def bZ(u:Nat):List Int:=(Lib.decDigits u).map λb=>(b.toNat:Int)
def dQ u:(bZ u).length<=u+1:=by
 have:=dZ u;simpa[bZ] using this
def Rz(T M:Nat->Int)(m f e L C:Nat):List Int :=
 ((((((((bZ L++[58])++bZ C)++[58,32])++lst M m)++[10])++lst (sh T f) e)++[10])++lst (λ_=>32) (C-1))++[94,10]
def LC.le{T n q L C}(h:LC T n q L C):L<=q+1/\C<=q+1:=by
 obtain⟨f,c,g,d,i,j⟩:=h;have:=M.dE T q;refine⟨oM,?_⟩;by_cases e:c=0
 ·omega
 have a:=d.1 (c-1) oM;have b:=M.iB T n f (c-1);omega
def iE(T a:Nat->Int)(n m q:Nat)(w:Wl)(e:Ending)(w':Wl):Prop :=
 ∃v L C f,e=Rt v/\LC T n q L C/\M.Start T q f/\OwnM w.heap.size w w' v (Rz T a m f (bD T n f) L C)
def gN b off n cap q T X Y Z m mc B w(l:Tx w b off n T)(Q:∀i,0<=T i/\T i<=255)(S:n<=1048576)(U:q<=n)(hA:0<m->X=some (Ad Y Z))(hM:Tx w Y Z m B)(hm:m<=1048576) :
  Cs 15 #[Sl (Sm b off) n cap,Iv q,Sl X m mc] w λe w'=>iE T B n m q w e w':=by
 go_enter func15,ntmps15;go_wp2_with fail;refine(pL b off n cap q T _ l Q S U).mono ?_;rintro e w1 ⟨⟨L,C,rfl,o⟩,G⟩;subst w1;obtain⟨hL,hC⟩:=o.le;obtain⟨ag,ad⟩:=o.b;have aa:Hid _:=o;clear o;have d0:((L:Int)==0)=false:=sO;have N:=gT L oM;have O:=gT C oM;have l1:=dZ L;have l2:=dZ C;obtain⟨x,r⟩:∃x,(⟨(Lib.decDigits L).toArray⟩:ByteArray)=x:=⟨_,rfl⟩;obtain⟨y,s⟩:∃y,(⟨(Lib.decDigits C).toArray⟩:ByteArray)=y:=⟨_,rfl⟩;have sx:x.size<=1048578:=by rw[<-r];show(Lib.decDigits L).length<=_;omega
 have sy:y.size<=1048578:=by rw[<-s];show(Lib.decDigits C).length<=_;omega
 obtain⟨u,t⟩:∃u,u=(((bZ L++[58])++bZ C)++[58,32]):=⟨_,rfl⟩;obtain⟨v0,w0,ah,H⟩:=lW w.heap.size w w (wI _) wF (x++⟨#[58]⟩++y++⟨#[58,32]⟩) u (by rw[t,<-r,<-s];simp[bZ]);have k0:u.length<=3000000:=by
  have:=dQ L;have:=dQ C;rw[t];simp;omega
 have E0:Hid _:=t;rw[r]at N;rw[s]at O;clear t r s l1 l2;go_wp2_with fail;refine(N _).mono ?_;rintro e w' ⟨rfl,G⟩;subst w';go_wp2_with fail;refine(O _).mono ?_;rintro e w' ⟨rfl,G⟩;subst w';go_wp2_with (first
  |(at_builtin;refine app rfl (.tmp 28) (.tmp 29) 22 rfl rfl rfl H (dJ hA (hM.q H.below)) 3000000 1048576 k0 (by rw[cX];exact hm) oM ?_;intro v1 w1 z1 E1 k1 O1)
  |(at_builtin;refine app rfl (.tmp 31) (.tmp 32) 22 rfl rfl rfl (O1.a _) (dK 10) 4048576 1 k1.o sM oM ?_;intro v2 w2 d E2 k2 I)
  |(go_at_call 44;refine(iH b off n cap q T _ (l.q I.below) Q S U).mono ?_;rintro e w' ⟨⟨f,rfl,F⟩,G⟩;subst w'))
 have aj:=cF T n f;have ai:f<=q:=F.1;have ab:Hid _:=F;clear F;go_loopw [9,10] (λv i wr=>∃j zs,f<=j/\j<=f+bD T n f/\i=Iv (j:Nat)/\Hid (zs=d++lst (sh T f) (j-f))/\OwnM w.heap.size w wr v zs) (λ_ i _=>n+1-(intOf i).toNat)
 ·exact⟨f,d,wF,oM,rfl,(by rw[Nat.sub_self,gR,Ca]:d=d++lst (sh T f) (f-f)),I⟩
 obtain⟨j,zs,j1,j2,rfl,g,k⟩:=hrel;have W:zs.length<=5097153:=by
  have:=k2.o;rw[g.o,wK,cX];omega
 by_cases R:j<f+bD T n f
 ·have hc:=(l.q k.below) j oM;have ac:(T j != 10)=true:=by simpa using eB (n:=n) j1 R
  have P:(j:Int)<n:=oM;go_wp2_with (at_builtin;refine app rfl (.tmp 50) (.tmp 55) 22 rfl rfl rfl (k.a _) (dK (T j)) 5097153 1 W sM oM ?_;intro v' w' c E' k' D);go_roundw
  ·refine⟨j+1,c,oM,oM,by go_num,?_,D⟩;show c=_;rw[E'.o,g.o,show j+1-f=(j-f)+1 by omega,gQ,zU];congr 3;simp only[sh];rw[show f+(j-f)=j by omega]
  simp[intOf];omega
 have E:j=f+bD T n f:=oM;have EX:Hid (zs=d++lst (sh T f) (bD T n f)):=by
  show zs=_;rw[g.o,E,Nat.add_sub_cancel_left]
 have HX:(¬((j:Int)<n))\/(((j:Int)<n)/\j<n/\(T j != 10)=false):=by
  by_cases h:j<n
  ·have e:T j=10:=(by rw[E];exact eA oM);exact .inr ⟨oM,h,by simp[e]⟩
  exact .inl oM
 clear g E R;rcases HX with P|⟨P,ae,ac⟩
 rotate_left
 have hc:=(l.q k.below) j ae
 rotate_left
 all_goals
  go_wp2_with (at_builtin;refine app rfl (.tmp 57) (.tmp 58) 22 rfl rfl rfl (k.a _) (dK 10) 5097153 1 W sM oM ?_;intro v4 w4 z E4 k4 O4);go_loopw [9,11] (λv i wr=>∃p zs,1<=p/\p<=C/\i=Iv (p:Nat)/\Hid (zs=z++lst (λ_=>32) (p-1))/\OwnM w.heap.size w wr v zs) (λ_ i _=>C+1-(intOf i).toNat)
  ·exact⟨1,z,wF,ad,rfl,(by rw[Nat.sub_self,gR,Ca]:z=z++lst (λ_=>32) (1-1)),O4⟩
  obtain⟨p,ys,p1,p2,rfl,A,J⟩:=hrel;have V:ys.length<=6145732:=by
   have:=k4.o;rw[A.o,wK,cX];omega
  by_cases ak:p<C
  ·have af:(p:Int)<C:=oM;go_wp2_with (at_builtin;refine app rfl (.tmp 65) (.tmp 66) 22 rfl rfl rfl (J.a _) (dK 32) 6145732 1 V sM oM ?_;intro v' w' c E' k' D);go_roundw
   ·refine⟨p+1,c,oM,oM,by go_num,?_,D⟩;show c=_;rw[E'.o,A.o,show p+1-1=(p-1)+1 by omega,gQ,zU]
   simp[intOf];omega
  obtain rfl:p=C:=oM;have af:¬((p:Int)<p):=oM;go_wp2_with (at_builtin;refine app rfl (.tmp 68) (.const (.string ⟨#[94,10]⟩)) 9 rfl rfl rfl J (fE [94,10] rfl) 6145732 2 V sM oM ?_;intro v5 w5 z5 E5 k5 O5);go_ret;refine⟨_,L,p,f,rfl,aa.o,ab.o,?_⟩;have hz:z5=Rz T B m f (bD T n f) L p:=by
   rw[E5.o,A.o,E4.o,EX.o,E2.o,E1.o,E0.o];rfl
  rw[<-hz];exact O5
def gO a(n cap:Nat)(q:Int)f(m mc:Nat)w(d:n<=1048576)(b:q<0\/(n:Int)<q) :
  Cs 15 #[Sl a n cap,Iv q,Sl f m mc] w λe w'=>e=Rt nS/\w'=w:=by
 have c:Hid _:=b;clear b;go_enter func15,ntmps15;go_wp2_with fail;refine(pM a n cap q _ d c.o).mono ?_;rintro e w1 ⟨rfl,g⟩;subst w1;go_wp2;go_ret;exact⟨rfl,rfl⟩
end V
open M (uw)
structure P0(b:Nat)(s:wD)(ia:Oa)(il ic:Nat)(mO:Int)(ka:Oa)(kn kc:Nat)(la:Oa)(ln lc:Nat)(w:Wl)(e:Ending)(w':Wl):Prop where
 k:∃v,e=Rt v
 c:wY w' b s ia il ic mO ka kn kc la ln lc
 l:Kept (λx=>x=b) w w'
def ufO:(prog.info? 207).map (λi=>(i.zero,i.size))=some (some (.agg (madeCells #[Bf] 256)),256):=rR
def Zy{v n i}(h:i<n):(madeCells #[v] n)[i]?=some v:=by
 simp[madeCells,h,Nat.mod_one]
def P1{P w Y W}(h:Bw w Y)(k:Kept P Y W):Kept P w W :=
 ⟨k.os.trans h.os,k.g.trans h.tape,k.f.trans h.output,wN h.size k.h,λx a b=>(k.d x (wX a h.size) b).trans (h.block x a)⟩
def yC{P w Y W}(h:Kept P w Y)(k:Kept P Y W):Kept P w W :=
 ⟨k.os.trans h.os,k.g.trans h.g,k.f.trans h.f,wN h.h k.h,λx b a=>(k.d x (wX b h.h) a).trans (h.d x b a)⟩
def wY.k{w w' b s d il ic mO g l i la ln lc N e}(h:wY w b s d il ic mO g l i la ln lc)(k:Zm b 7 N w e w'):wY w' b { s with j:=N } d il ic mO g l i la ln lc :=
 ⟨(k.a 0 oM).trans h.c0,(k.a 1 oM).trans h.c1,(k.a 2 oM).trans h.c2,(k.a 3 oM).trans h.c3,(k.a 4 oM).trans h.c4,(k.a 5 oM).trans h.c5,(k.a 6 oM).trans h.c6,k.f,(k.a 263 oM).trans h.c8,(k.a 264 oM).trans h.c9,(k.a 265 oM).trans h.a,λj=>(k.c j).trans (h.fz j)⟩
def wY.g{w b s d il ic mO e l f la ln lc}(h:wY w b s d il ic mO e l f la ln lc)c(n:c.length=256)(o:∀i,i<256->c[i]?=some Bf):wY (w.setCells b 7 c) b { s with j:=λ_=>false } d il ic mO e l f la ln lc:=by
 have out:∀j,(j<7\/263<=j)->(w.setCells b 7 c).cell? (Ad b j)=w.cell? (Ad b j):=λj p=>Qh b c 7 w (Ad b j) (λ_ _=>by rw[n];show j<7\/7+256<=j;omega)
 refine⟨(out 0 oM).trans h.c0,(out 1 oM).trans h.c1,(out 2 oM).trans h.c2,(out 3 oM).trans h.c3,(out 4 oM).trans h.c4,(out 5 oM).trans h.c5,(out 6 oM).trans h.c6,λi m=>?_,(out 263 oM).trans h.c8,(out 264 oM).trans h.c9,(out 265 oM).trans h.a,λj=>(World.frozen?_setCells _ _ _ _ _).trans (h.fz j)⟩;rw[Qi b c 7 w (λk q=>by rw[h.ex k oM];rfl) i oM];have:=o i m;rw[zG oM]at this;exact this
def P2{w W b}(h:Kept (λx=>x=b) w W)j a:Kept (λx=>x=b) w (W.setCells b j a):=by
 obtain⟨i,k,l⟩:=qf b a j W;exact⟨i.trans h.os,k.trans h.g,l.trans h.f,by rw[yq];exact h.h,λx e c=>(ke b a j W x c).trans (h.d x e c)⟩
def LJ Q b s A il ic mO B D C la ln lc a n c S w(G:wY w b s A il ic mO B D C la ln lc)(hS:wB Q .i64 w a n S)(hq:¬Q b)(ab:∀x,Q x->x<w.heap.size)(hn:n<=1048576) :
  Cs 205 #[.pointer (Sm b 0),Sl a n c] w (P0 b (s.m n S) A il ic mO B D C la ln lc w):=by
 have J:=ua G;have HS:=ua hS;have HQ:=ua hq;have X:=ua ab;have lb:=ud G.c0;have c3:=G.c3;have p:=G.c6;have hz:=(zero_of_info (P:=prog) ufO).1;clear G hS hq ab;by_cases ad:(s.h:Int)<(s.c:Int)
 ·have F:Hid (s.m n S={ s with h:=s.c,j:=λi=>ve n S (i:Int) }):=by show _=_;unfold wD.m;rw[Zp oM]
  have R:=J.fz 6;go_enter func205,ntmps205;go_wp2;go_quiet (fail);have o:Bw w (w.drewN nq):=zB (wI _) nq;generalize w.drewN nq=Y at *;have HY:=ua o;have t:=ua (J.on (o.block b lb));have ae:=wX lb o.size;clear o c3 p R;have c3:=t.c3;have p:=t.c6;have R:=t.fz 6;have O:(madeCells #[Bf] 256).size=256:=size_madeCells _ _;have aa:=run_storeCells_cells (P:=prog) b 7 (madeCells #[Bf] 256).toList 0 (Y.setCell (Ad b 6) (Iv s.c)) (λj V=>by
    rw[Ku,O]at V;rw[Cc,ur oM,t.o.ex j V];rfl) (λj V=>Jd.trans (t.fz _)) (λv hv=>by
    obtain⟨i,H,e⟩:=List.mem_iff_getElem.1 hv;have N:=Zy (v:=Bf) (n:=256) (i:=i) (by rw[Ku,O]at H;exact H);rw[<-Array.getElem?_toList,zG H,e]at N;injection N with N;rw[N];rfl)
  rw[Cc]at aa;go_wp2;generalize U:(Y.setCell (Ad b 6) (Iv s.c)).setCells b 7 (madeCells #[Bf] 256).toList=Z;have f:wY Z b { s with h:=s.c,j:=λ_=>false } A il ic mO B D C la ln lc:=by
   rw[<-U];exact(t.l s.c).g _ (by rw[Ku,O]) (λi H=>by rw[Array.getElem?_toList];exact Zy H)
  have r:Kept (λx=>x=b) w Z:=by
   rw[<-U];exact P1 HY (P2 (vG (xW Y) 6) 7 _)
  clear U aa O c3 p R hz t;have ac:=ud f.c0;have c3:=f.c3;have p:=f.c6;have z:((s.c:Int)==(s.c:Int))=true:=sM;go_quiet (fail);have q:Hid (wY (Z.drewN nq) b { s with h:=s.c,j:=λ_=>false } A il ic mO B D C la ln lc):=f.on rfl;have u:Hid (Kept (λx=>x=b) w (Z.drewN nq)):=Zs r;generalize Z.drewN nq=L at *;clear f r c3 p;go_wp2_with fail;have T:wB Q .i64 L a n S:=HS.on (λx I=>u.d x (by have:=X x I;exact this) (λe=>HQ (e▸I)));refine(KU Q b 7 a n c S hn T q.o.ex q.o.fz).mono ?_;rintro e W y;obtain⟨v,rfl⟩:=y.k;have E:=ua y;clear y;go_wp2;refine wL (results_none rfl _ _ _) rfl ?_;rw[F.o];refine⟨⟨_,rfl⟩,?_,yC u E.l⟩;have h:=q.k E;simp only[Nd]at h;exact h
 have hgt':¬(s.h:Int)<(s.c:Int):=ad;by_cases z:s.c=s.h
 ·have F:Hid (s.m n S={ s with j:=λi=>ve n S (i:Int)||s.j i }):=by show _=_;unfold wD.m;rw[Zn oM,Zp z]
  have heq':((s.c:Int)==(s.h:Int))=true:=by simp[z]
  clear z;go_enter func205,ntmps205;go_wp2;go_quiet (fail);have o:Bw w (w.drewN nq):=zB (wI _) nq;generalize w.drewN nq=Z at *;have f:=J.on (o.block b lb);have r:Kept (λx=>x=b) w Z:=Kept.of o;have ac:=wX lb o.size;clear o c3 p;have c3:=f.c3;have p:=f.c6;go_wp2;go_quiet (fail);have q:Hid (wY (Z.drewN nq) b s A il ic mO B D C la ln lc):=f.on rfl;have u:Hid (Kept (λx=>x=b) w (Z.drewN nq)):=Zs r;generalize Z.drewN nq=L at *;clear f r c3 p;go_wp2_with fail;have T:wB Q .i64 L a n S:=HS.on (λx I=>u.d x (by have:=X x I;exact this) (λe=>HQ (e▸I)));refine(KU Q b 7 a n c S hn T q.o.ex q.o.fz).mono ?_;rintro e W y;obtain⟨v,rfl⟩:=y.k;have E:=ua y;clear y;go_wp2;refine wL (results_none rfl _ _ _) rfl ?_;rw[F.o];exact⟨⟨_,rfl⟩,q.k E,yC u E.l⟩
 have F:Hid (s.m n S=s):=by show _=_;unfold wD.m;rw[Zn oM,Zn z]
 have heq':((s.c:Int)==(s.h:Int))=false:=sO;clear z;go_enter func205,ntmps205;go_wp2;go_quiet (fail);have o:Bw w (w.drewN nq):=zB (wI _) nq;generalize w.drewN nq=Z at *;have f:=J.on (o.block b lb);have r:Kept (λx=>x=b) w Z:=Kept.of o;have ac:=wX lb o.size;clear o c3 p;have c3:=f.c3;have p:=f.c6;go_wp2;go_quiet (fail);have q:Hid (wY (Z.drewN nq) b s A il ic mO B D C la ln lc):=f.on rfl;have u:Hid (Kept (λx=>x=b) w (Z.drewN nq)):=Zs r;generalize Z.drewN nq=L at *;clear f r c3 p;go_wp2;refine wL (results_none rfl _ _ _) rfl ?_;rw[F.o];exact⟨⟨_,rfl⟩,q.o,u.o⟩
end Go.Proofs.YtoihadcablknpaaGreatDoor
