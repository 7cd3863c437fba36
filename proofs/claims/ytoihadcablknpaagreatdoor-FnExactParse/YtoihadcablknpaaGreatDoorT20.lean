import Derived.Test.YtoihadcablknpaaGreatDoorT19
set_option linter.unusedVariables false
set_option linter.unusedSimpArgs false
set_option linter.defProp false
set_option maxHeartbeats 40000000
set_option maxRecDepth 100000
namespace Go.Proofs.YtoihadcablknpaaGreatDoor
open Go.RowKit
open Go.Proofs.Tryz
open M (OpD uh Gr)
def yN(t:Tx):Nat->Nat->List wH
 |0,_=>[]
 |f+1,i=>if i<t.n then (if (vF t i).1.e=0 then [(vF t i).1] else (vF t i).1::yN t f (skip t (vF t i).2)) else []
def uI(t:Tx):List wH:=yN t (t.n+1) (skip t 0)
def Zi t:∀f i,i<=Gq t f i
 |0,i=>wF
 |f+1,i=>by
  rw[Gq];split
  ·split
   ·exact wN (Gw i) (Zi t f (i+1))
   split
   ·exact wN (Yu t _ i) (Zi t f _)
   exact wF
  exact wF
def Zj t:∀f i,i<=t.n->Gq t f i<=t.n
 |0,i,h=>h
 |f+1,i,h=>by
  rw[Gq];split
  ·split
   ·exact Zj t f (i+1) oM
   split
   ·exact Zj t f _ (Yv t _ i h)
   exact h
  exact h
def Ui t i:i<=skip t i:=Zi t _ i
def Uj t{i}(h:i<=t.n):skip t i<=t.n:=Zj t _ i h
def Zk t:∀(f j:Nat) (z:LI),j<=t.n->j<=(vO t f j z).2/\(vO t f j z).2<=t.n
 |0,j,z,h=>⟨wF,h⟩
 |f+1,j,z,h=>by
  rw[vO];split
  ·have:=Zk t f (j+1) (z++[t.T j]) oM;omega
  exact⟨wF,h⟩
def Rj t{i}(b:i<t.n)(a:(vF t i).1.e≠0):i<(vF t i).2/\(vF t i).2<=t.n:=by
 unfold vF at a ⊢;split
 ·rename_i d;have g:t.n-i=(t.n-i-1)+1:=oM;rw[g,vO,Zp ⟨b,.inl d⟩];have:=Zk t (t.n-i-1) (i+1) ([]++[t.T i]) b;simp only at this ⊢;omega
 rename_i d;rw[Zn d]at a;split
 ·rename_i c;rw[Zp c]at a;cases h:Jj t i with
  |none=>rw[h]at a;exact absurd rfl a
  |some q=>have:=Yy b h;simp only;omega
 rename_i c;rw[Zn c]at a;split
 ·rename_i f;rw[Zp f]at a;cases h:jY t i with
  |none=>rw[h]at a;exact absurd rfl a
  |some q=>have:=Za b h;simp only;omega
 rename_i f;split
 ·simp only;omega
 simp only;omega
structure TC where
 k:wH
 na:Option Addr
 nc:Nat
 sa:Option Addr
 sc:Nat
def Fc(x:TC):List Value:=[Bv x.k.e,Iv x.k.f,Sl x.na x.k.nm.length x.nc,Sl x.sa x.k.set.length x.sc]
def KE x:(Fc x).length=4:=rfl
def J9:(prog.info? 70).map (λi=>(i.zero,i.size,i.bytes))=some (some (.agg #[Bv 0,Iv 0,nS,nS]),4,64):=rR
def KF:vA 64 70 4 64:=⟨underlying64,⟨_,J9,rfl⟩,oM⟩
structure KG(w0 wr:Wl)(v:Vl)(l:List TC)(P:Np):Prop where
 r:wC P wr v 4 l.length (l.flatMap Fc)
 e:∀b,P b->wM w0 wr b
 nm:∀x∈l,wB (λb=>wM w0 wr b/\¬P b) .u8 wr x.na x.k.nm.length (lf x.k.nm)/\wB (λb=>wM w0 wr b/\¬P b) .i64 wr x.sa x.k.set.length (lf x.k.set)
 m:Kf w0 wr
def Dy(w0 wr:Wl)(v:Vl)(l:List TC):Prop:=∃P,KG w0 wr v l P
def Dy.nil{w0 wr}(h:Kf w0 wr):Dy w0 wr nS [] :=
 ⟨λ_=>False,.inl ⟨rfl,rfl,rfl⟩,λ_ q=>q.elim,(λx a=>by cases a),h⟩
def K0{w0 wr W W1 f v v5 l x P}(h:KG w0 wr v l P)(o:Kf wr W)(n:Kf W W1)(C:wB (wM wr W) .u8 W x.na x.k.nm.length (lf x.k.nm))(F:wB (wM wr W) .i64 W x.sa x.k.set.length (lf x.k.set))(D:wC (λb=>P b\/W1.heap.size<=b) f v5 4 (l.length+1) (l.flatMap Fc++Fc x))(j:wS P W1 f):Dy w0 f v5 (l++[x]):=by
 have I:=h.m.h;have J:=o.h;have L:=n.h;have N:=j.h;refine⟨λb=>(P b\/W1.heap.size<=b)/\b<f.heap.size,?_,?_,?_,yt ((h.m.c o).c n) j (λb q=>(h.e b q).1)⟩
 ·have e:(l++[x]).flatMap Fc=l.flatMap Fc++Fc x:=sM;rw[e,wK,Bs];rcases D with⟨_,q,_⟩|⟨b,cap,e,E,z,A,B,p⟩
  ·omega
  refine .inr ⟨b,cap,e,⟨E,?_⟩,z,A,B,p⟩;obtain⟨u,G⟩:=Dt.1 (p 0 oM).1;exact ud G
 ·rintro b ⟨q|q,s⟩
  ·exact⟨(h.e b q).1,s⟩
  exact⟨oM,s⟩
 intro y H;rcases Bh.1 H with q|q
 ·obtain⟨t,w⟩:=h.nm y q;have st:wQ (λb=>wM w0 wr b/\¬P b) wr f:=λb a=>(j.d b (oH a.1.2) a.2).trans ((n.d b (oH a.1.2) (λe=>e)).trans (o.d b a.1.2 (λe=>e)))
  have i:∀b,(wM w0 wr b/\¬P b)->wM w0 f b/\¬((P b\/W1.heap.size<=b)/\b<f.heap.size):=λb a=>⟨⟨a.1.1,by have:=a.1.2;omega⟩,λr=>r.1.elim a.2 (λr=>oH a.1.2)⟩
  exact⟨(t.on st).g i,(w.on st).g i⟩
 obtain rfl:=Aw.1 q;have st:wQ (wM wr W) W f:=λb a=>(j.d b (oH a.2) (λr=>oG ((h.e b r).2) a.1)).trans (n.d b a.2 (λe=>e))
 have i:∀b,wM wr W b->wM w0 f b/\¬((P b\/W1.heap.size<=b)/\b<f.heap.size):=λb a=>⟨⟨by have:=a.1;omega,by have:=a.2;omega⟩,λr=>r.1.elim (λr=>oG ((h.e b r).2) a.1) (λr=>oH a.2)⟩
 exact⟨(C.on st).g i,(F.on st).g i⟩
def Dy.a{w0 wr v l}(h:Dy w0 wr v l):∃a c,v=Sl a l.length c:=by
 obtain⟨P,h⟩:=h;exact uq h.r
def K1(W:Wl)(x:TC){ty}:Src prog 4 64 (Sl (Sm W.heap.size 0) 1 1) 1 (Fc x) (W.alloc (Oc #[Bv x.k.e,Iv x.k.f,Sl x.na x.k.nm.length x.nc,Sl x.sa x.k.set.length x.sc] ty)) :=
 vC underlying64 rfl (λj u a=>by
  have b:=Df W (Oc #[Bv x.k.e,Iv x.k.f,Sl x.na x.k.nm.length x.nc,Sl x.sa x.k.set.length x.sc] ty);simp only[World.cell?,b];rw[<-a];simp[Fc]) (λu a=>by
  simp only[Fc,Bx,Jp,or_false]at a;rcases a with rfl|rfl|rfl|rfl<;>rfl)
def K2(l:List wH)(w:Wl)(e:Ending)(w':Wl):Prop:=∃a c L,e=Rt (Sl a l.length c)/\L.map (·.k)=l/\Dy w w' (Sl a l.length c) L
def K3 Q t a c w(hT:Do Q w a t) :
  Cs 27 #[Sl a t.n c] w (K2 (uI t) w):=by
 have aw:=t.le;have U:=ua hT;obtain⟨R,hR⟩:=nm (uI t);rw[hR];have HR:Hid (yN t (t.n+1) (skip t 0)=R):=hR;go_enter func27,ntmps27;go_wp2_with fail;refine(KC Q t a c 0 w U wP).mono ?_;rintro e W ⟨rfl,hw⟩;subst W;have ao:=Uj t (EK t.n);generalize skip t 0=i0 at *;go_wp2_with fail;go_loopw [3,4] (λv u wr=>∃(f i:Nat) (L:List TC),i<=t.n/\t.n-i<f/\L.length<=i/\u=Iv i/\L.map (·.k)++yN t f i=R/\Dy w wr v L) (λ_ u _=>t.n-(intOf u).toNat)
 ·exact⟨t.n+1,i0,[],ao,oM,sM,rfl,HR.o,Dy.nil zM⟩
 obtain⟨f,i,L,hi,hf,hL,rfl,he,X⟩:=hrel;obtain⟨f,rfl⟩:∃q,f=q+1:=⟨f-1,oM⟩;obtain⟨va,vc,rfl⟩:=X.a;have HE:=ua he;have S:=ua X;have ae:Hid (Do Q wr a t):=by
  obtain⟨P,h⟩:=X;exact U.m h.m
 by_cases N:i<t.n
 ·have hlt':(i:Int)<t.n:=oM;have ab:=ua (Rj t N);have O:Hid (L.map (·.k)++(if (vF t i).1.e=0 then [(vF t i).1] else (vF t i).1::yN t f (skip t (vF t i).2))=R):=by
   have:=HE;rw[yN,Zp N]at this;exact this
  go_wp2_with fail;refine(G0 Q t a c i wr ae N).mono ?_;generalize vF t i=r at *;obtain⟨⟨kk,g,l,o⟩,j⟩:=r;rintro e W ⟨na,nc,sa,sc,rfl,h1,h2,A⟩;simp only at h1 h2 O ab;unfold Jh;simp only;have aq:=ua (ae.m A);obtain⟨P,y⟩:=S;have HP:=ua y;have ac:Hid (∀W1 v5 p,Kf W W1->wC (λb=>P b\/W1.heap.size<=b) p v5 4 (L.length+1) (L.flatMap Fc++Fc ⟨⟨kk,g,l,o⟩,na,nc,sa,sc⟩)->wS P W1 p->Dy w p v5 (L++[⟨⟨kk,g,l,o⟩,na,nc,sa,sc⟩])/\(∀b,W.heap.size<=b->b<W1.heap.size->p.heap[b]?=W1.heap[b]?)):=λW1 v5 p Z ho hg =>
   ⟨K0 (x:=⟨⟨kk,g,l,o⟩,na,nc,sa,sc⟩) y A Z h1 h2 ho hg,λb au am=>hg.d b am (λq=>oG ((y.e b q).2) A.h)⟩
  have aj:Hid (∀W1,Kf W W1->wC P W1 (Sl va L.length vc) 4 L.length (L.flatMap Fc)):=λW1 Z=>y.r.on (λb hb=>(Z.d b (oG ((y.e b hb).2) A.h) (λe=>e)).trans (A.d b (y.e b hb).2 (λe=>e)))
  have ak:Hid (∀W1:Wl,Src prog 4 64 (Sl (Sm W1.heap.size 0) 1 1) 1 (Fc ⟨⟨kk,g,l,o⟩,na,nc,sa,sc⟩) (W1.alloc (Oc #[Bv kk,Iv g,Sl na l.length nc,Sl sa o.length sc] 70))):=λW1=>K1 W1 ⟨⟨kk,g,l,o⟩,na,nc,sa,sc⟩
  have T:Hid (Kf W ((W.alloc (Oc #[Bv kk,Iv g,Sl na l.length nc,Sl sa o.length sc] 70)).alloc (Oc #[Bv kk,Iv g,Sl na l.length nc,Sl sa o.length sc] 70))):=wU.c wU;have aa:Hid (((W.alloc (Oc #[Bv kk,Iv g,Sl na l.length nc,Sl sa o.length sc] 70)).alloc (Oc #[Bv kk,Iv g,Sl na l.length nc,Sl sa o.length sc] 70)).heap[W.heap.size]?=some (Oc #[Bv kk,Iv g,Sl na l.length nc,Sl sa o.length sc] 70)):=Qs (xq W _ _ rfl) _;have ad:Hid (Src prog 4 64 (Sl (Sm (W.heap.size+1) 0) 1 1) 1 (Fc ⟨⟨kk,g,l,o⟩,na,nc,sa,sc⟩) ((W.alloc (Oc #[Bv kk,Iv g,Sl na l.length nc,Sl sa o.length sc] 70)).alloc (Oc #[Bv kk,Iv g,Sl na l.length nc,Sl sa o.length sc] 70))):=by
   have:=ak (W.alloc (Oc #[Bv kk,Iv g,Sl na l.length nc,Sl sa o.length sc] 70));rwa [show(W.alloc (Oc #[Bv kk,Iv g,Sl na l.length nc,Sl sa o.length sc] 70)).heap.size=W.heap.size+1 by simp]at this
  have G:=aj _ T;have ah:L.length+1<=16777216:=oM;by_cases J:kk=0
  ·subst J;have e:=O;rw[Zp rfl]at e;go_wp2_with (at_builtin;refine Jt rfl _ _ 64 64 rfl rfl rfl KF (Q:=P) (n:=L.length) (cs:=L.flatMap Fc) (m:=1) (news:=Fc ⟨⟨0,g,l,o⟩,na,nc,sa,sc⟩) G ad ah ?_;intro v5 p F D Y;obtain⟨s,B⟩:=ac _ _ _ T F D;have C:=(B W.heap.size wF sO).trans aa;have V:p.cell? (Ad W.heap.size 0)=some (Bv 0):=uP C rfl;have ap:=ud V;obtain⟨H,I,rfl⟩:=s.a;have z:Hid (Dy w p (Sl H (L++[(⟨⟨0,g,l,o⟩,na,nc,sa,sc⟩:TC)]).length I) (L++[(⟨⟨0,g,l,o⟩,na,nc,sa,sc⟩:TC)])):=s;clear F D Y s B C G);go_ret;have E:(L++[(⟨⟨0,g,l,o⟩,na,nc,sa,sc⟩:TC)]).length=R.length:=(by rw[<-e];simp);have h5:=z;rw[E]at h5;exact⟨H,I,_,by rw[<-E,wK];rfl,by rw[Cl];exact e,h5⟩
  have hk0':(kk==0)=false:=by simpa using J
  have e:=O;rw[Zn J]at e;obtain⟨av,ag⟩:=ab J;have ai:Hid (L.map (·.k)++(⟨kk,g,l,o⟩::yN t f (skip t j))=R):=e;have ax:=Ui t j;have an:=Uj t ag;go_wp2_with (at_builtin;refine Jt rfl _ _ 64 64 rfl rfl rfl KF (Q:=P) (n:=L.length) (cs:=L.flatMap Fc) (m:=1) (news:=Fc ⟨⟨kk,g,l,o⟩,na,nc,sa,sc⟩) G ad.o ah ?_;intro v5 p F D Y;obtain⟨s,B⟩:=ac.o _ _ _ T F D;have C:=(B W.heap.size wF sO).trans aa;have V:p.cell? (Ad W.heap.size 0)=some (Bv kk):=uP C rfl;have ap:=ud V;obtain⟨H,I,rfl⟩:=s.a;have z:Hid (Dy w p (Sl H (L++[(⟨⟨kk,g,l,o⟩,na,nc,sa,sc⟩:TC)]).length I) (L++[(⟨⟨kk,g,l,o⟩,na,nc,sa,sc⟩:TC)])):=s;clear F D Y s B C G);obtain⟨P5,af⟩:=z.o;have al:Hid (Do Q p a t):=U.o.m af.m;clear af;refine(KC Q t a c j p al.o ag).mono ?_;rintro e W6 ⟨rfl,hw⟩;subst W6;generalize skip t j=j2 at *;go_wp2;go_roundw
  ·exact⟨f,j2,L++[(⟨⟨kk,g,l,o⟩,na,nc,sa,sc⟩:TC)],an,oM,sO,rfl,by rw[Cl,zU];exact ai.o,by rw[wK]at z;exact z.o⟩
  simp[intOf];omega
 have hlt':¬(i:Int)<t.n:=oM;go_wp2;go_ret;have e:=HE;rw[yN,Zn N,Ca]at e;have E:L.length=R.length:=by rw[<-e];simp
 rw[E]at S;exact⟨va,vc,L,by rw[E];rfl,e,S⟩
def uK(s d:Nat)(k:Int):Nat×Nat :=
 if s=0 then (if k=94 then (1,0) else if k=110 then (2,0) else (7,0))
 else if s=1 then (if k=110 then (2,0) else (7,0))
 else if s=2 then (if k=61 then (3,0) else (7,0))
 else if s=5 then (if k=110 then (6,d) else (7,0))
 else if k=33\/k=38 then (4,d)
 else if k=110\/k=34\/k=91\/k=46 then (6,d)
 else if k=94 then (5,d)
 else if k=40 then (3,d+1)
 else if s=4 then (7,0)
 else if s=6/\(k=42\/k=63) then (3,d)
 else if k=47 then (3,d)
 else if k=41/\0<d then (6,d-1)
 else if k=59/\d=0 then (0,0)
 else (7,0)
def Rf(r:Nat×Nat)(w:Wl)(e:Ending)(w':Wl):Prop:=e=Rt (.tuple #[Iv r.1,Iv r.2])/\w'=w
def Nr{r:Nat×Nat}{x y w}(h:r=(x,y)):Rf r w (Rt (.tuple #[Iv x,Iv y])) w:=by subst h;exact⟨rfl,rfl⟩
def F0(s d:Nat)(k:Int)w(e:s=0\/s=1\/s=2\/s=5)(j:d<=1048576) :
  Cs 56 #[Iv s,Iv d,Bv k] w (Rf (uK s d k) w):=by
 rcases(show(k=94\/k=110\/k=61)\/(¬k=94/\¬k=110/\¬k=61) by omega) with h|⟨a,b,c⟩
 ·rcases h with rfl|rfl|rfl<;>rcases e with rfl|rfl|rfl|rfl
  all_goals (
   go_enter func56,ntmps56;go_wp2;go_ret2;exact Nr rfl)
 have f:=beq_false_of_ne a;have g:=beq_false_of_ne b;have i:=beq_false_of_ne c;rcases e with rfl|rfl|rfl|rfl;all_goals (
  go_enter func56,ntmps56;go_wp2;go_ret2;exact Nr (x:=7) (y:=0) (by simp[uK,a,b,c]))
def F1(s d:Nat)(k:Int)w(a:s=3\/s=4\/s=6)(O:d<=1048576) :
  Cs 56 #[Iv s,Iv d,Bv k] w (Rf (uK s d k) w):=by
 rcases(show(k=33\/k=38\/k=110\/k=34\/k=91\/k=46\/k=94\/k=40\/k=42\/k=63\/k=47)\/(¬k=33/\¬k=38/\¬k=110/\¬k=34/\¬k=91/\¬k=46/\¬k=94/\¬k=40/\¬k=42/\¬k=63/\¬k=47) by omega) with h|⟨f,j,l,m,n,o,p,r,t,g,i⟩
 ·rcases h with rfl|rfl|rfl|rfl|rfl|rfl|rfl|rfl|rfl|rfl|rfl<;>rcases a with rfl|rfl|rfl
  all_goals (
   go_enter func56,ntmps56;go_wp2;go_ret2;exact Nr rfl)
 have z:=beq_false_of_ne f;have E:=beq_false_of_ne j;have F:=beq_false_of_ne l;have G:=beq_false_of_ne m;have H:=beq_false_of_ne n;have I:=beq_false_of_ne o;have J:=beq_false_of_ne p;have L:=beq_false_of_ne r;have N:=beq_false_of_ne t;have A:=beq_false_of_ne g;have B:=beq_false_of_ne i;by_cases c:k=41
 ·subst c;by_cases b:d=0
  ·subst b;rcases a with rfl|rfl|rfl;all_goals (
    go_enter func56,ntmps56;go_wp2;go_ret2;exact Nr rfl)
  obtain⟨q,rfl⟩:∃q,d=q+1:=⟨d-1,oM⟩;have u:(0:Int)<((q+1:Nat):Int):=oM;have v:((q+1:Nat):Int)-1=(q:Int):=oM;rcases a with rfl|rfl|rfl;all_goals (
   go_enter func56,ntmps56;go_wp2;go_ret2;exact⟨by congr 3<;>simp[uK],rfl⟩)
 have C:=beq_false_of_ne c;by_cases e:k=59
 ·subst e;by_cases b:d=0
  ·subst b;rcases a with rfl|rfl|rfl;all_goals (
    go_enter func56,ntmps56;go_wp2;go_ret2;exact Nr rfl)
  have u:((d:Int)==0)=false:=by simpa using b
  have v:¬(d:Int)=0:=oM;rcases a with rfl|rfl|rfl;all_goals (
   go_enter func56,ntmps56;go_wp2;go_ret2;exact Nr (x:=7) (y:=0) (by simp[uK,b]))
 have D:=beq_false_of_ne e;rcases a with rfl|rfl|rfl;all_goals (
  go_enter func56,ntmps56;go_wp2;go_ret2;exact Nr (x:=7) (y:=0) (by simp[uK,f,j,l,m,n,o,p,r,t,g,i,c,e]))
def F2(s d:Nat)(k:Int)w(b:s<7)(a:d<=1048576) :
  Cs 56 #[Iv s,Iv d,Bv k] w (Rf (uK s d k) w):=by
 rcases(show(s=0\/s=1\/s=2\/s=5)\/(s=3\/s=4\/s=6) by omega) with h|h
 ·exact F0 s d k w h a
 exact F1 s d k w h a
def F3{α:Type}(P:α->Prop){p:Prop}[Decidable p]{a b:α}(c:P a)(d:P b):P (if p then a else b):=by
 split
 ·exact c
 exact d
def F4 s d k:(uK s d k).1<=7/\(uK s d k).2<=d+1:=by
 show(λr:Nat×Nat=>r.1<=7/\r.2<=d+1) (uK s d k);unfold uK;repeat' (refine F3 (λr:Nat×Nat=>r.1<=7/\r.2<=d+1) ?_ ?_)
 all_goals (refine⟨?_,?_⟩<;>simp<;>omega)
structure Gg(Q:Np)(w:Wl)(b o:Nat)(k:wH):Prop where
 e:w.cell? (Ad b o)=some (Bv k.e)
 f:w.cell? (Ad b (o+1))=some (Iv k.f)
 nm:∃a c,w.cell? (Ad b (o+2))=some (Sl a k.nm.length c)/\wB Q .u8 w a k.nm.length (lf k.nm)
 set:∃a c,w.cell? (Ad b (o+3))=some (Sl a k.set.length c)/\wB Q .i64 w a k.set.length (lf k.set)
def zK(Q:Np)(w:Wl)(a:Oa)(l:List wH):Prop:=l = []\/∃b off,a=some (Ad b off)/\∀i x,l[i]?=some x->Gg Q w b (off+i*4) x
def Gg.q{Q w w' b o k}(h:Gg Q w b o k)(t:Bw w w'):Gg Q w' b o k:=by
 obtain⟨f,g,⟨a,c,i,j⟩,⟨d,e,l,m⟩⟩:=h;exact⟨ue f t,ue g t,⟨a,c,ue i t,j.q t⟩,⟨d,e,ue l t,m.q t⟩⟩
def zK.q{Q w w' a l}(h:zK Q w a l)(t:Bw w w'):zK Q w' a l:=by
 rcases h with h|⟨b,off,e,h⟩
 ·exact .inl h
 exact .inr ⟨b,off,e,λi x c=>(h i x c).q t⟩
def zK.at{Q w a l}(h:zK Q w a l){i}(c:i<l.length):∃b off,a=some (Ad b off)/\∀i x,l[i]?=some x->Gg Q w b (off+i*4) x:=by
 rcases h with h|h
 ·subst h;simp at c
 exact h
def Dy.b{w0 wr a n c L}(h:Dy w0 wr (Sl a n c) L):zK (wM w0 wr) wr a (L.map (·.k)):=by
 obtain⟨P,h⟩:=h;rcases h.r with⟨_,q,_⟩|⟨g,cap,e,z,t,u,o,v⟩
 ·exact .inl (by rw[Hh q];rfl)
 injection e with e1 e2 e3;subst e1;refine .inr ⟨g,0,rfl,λi x m=>?_⟩;rw[Du]at m;obtain⟨y,f,rfl⟩:=Gu.1 m;have w:=(zT.1 f).1;have s:=ki Fc 4 KE L;have d:∀j,j<4->wr.cell? (Ad g (0+i*4+j))=(Fc y)[j]?:=λj p=>by
  rw[zL,o (i*4+j) (by rw[s];omega),yu Fc 4 KE L i j y f p]
 have l:=h.nm y (Be f);exact⟨d 0 oM,d 1 oM,⟨y.na,y.nc,d 2 oM,l.1.g (λb q=>q.1)⟩,⟨y.sa,y.sc,d 3 oM,l.2.g (λb q=>q.1)⟩⟩
def uD(n:Nat):List wH->Nat->Nat->Int
 |[],s,_=>if s=0 then -1 else n
 |x::r,s,d=>if x.e=0 then x.f else if (uK s d x.e).1=7 then x.f else uD n r (uK s d x.e).1 (uK s d x.e).2
def vD{α:Type}{l:List α}{i:Nat}{x:α}(h:l[i]?=some x):l.drop i=x::l.drop (i+1):=by
 obtain⟨a,e⟩:=zT.1 h;rw[Qj a,e]
def K8 Q l a(c n:Nat)w(C:zK Q w a l)(L:l.length<=1048576) :
  Cs 28 #[Sl a l.length c,Iv n] w λe w'=>e=Rt (Iv (uD n l 0 0))/\w'=w:=by
 have A:=ua C;obtain⟨R,t⟩:=nm (uD n l 0 0);rw[t];go_enter func28,ntmps28;go_wp2;go_loopw [5,6,7] (λH G q wr=>∃(s d i:Nat),s<7/\d<=i/\i<=l.length/\H=Iv s/\G=Iv d/\q=Iv i/\wr=w/\uD n (l.drop i) s d=R) (λ_ _ q _=>l.length-(intOf q).toNat)
 ·exact⟨0,0,0,oM,oM,oM,rfl,rfl,rfl,rfl,t⟩
 obtain⟨s,d,i,E,I,J,rfl,rfl,rfl,rfl,D⟩:=hrel;have k:=ua D;by_cases v:i<l.length
 ·have hlt':(i:Int)<l.length:=oM;obtain⟨b,off,rfl,u⟩:=A.at v;obtain⟨x,o⟩:∃x,l[i]?=some x:=⟨_,zG v⟩;have m:=u i x o;have F:=m.e;have O:=m.f;have h:Hid ((if x.e=0 then (x.f:Int) else if (uK s d x.e).1=7 then (x.f:Int) else uD n (l.drop (i+1)) (uK s d x.e).1 (uK s d x.e).2)=R):=by
   have:=k.o;rw[vD o,uD]at this;exact this
  clear k m u o;by_cases g:x.e=0
  ·have e:=h.o;rw[Zp g]at e;rw[g]at F;clear h;go_wp2;go_ret;exact⟨uW rfl,rfl⟩
  have h0':(x.e==0)=false:=by simpa using g
  have e:=h.o;rw[Zn g]at e;have j:Hid ((if (uK s d x.e).1=7 then (x.f:Int) else uD n (l.drop (i+1)) (uK s d x.e).1 (uK s d x.e).2)=R):=e;clear e h;have z:Hid (∀w,Cs 56 #[Iv s,Iv d,Bv x.e] w (Rf (uK s d x.e) w)):=λw=>F2 s d x.e w E oM
  obtain⟨r1,r2⟩:=F4 s d x.e;generalize uK s d x.e=p at *;obtain⟨s',B⟩:=p;simp only at r1 r2 j;go_wp2_with fail;refine(z.o wr).mono ?_;rintro e W ⟨rfl,N⟩;subst W;by_cases r:s'=7
  ·subst r;have e:=j.o;rw[Zp rfl]at e;clear j;go_wp2;go_ret;exact⟨uW rfl,rfl⟩
  have h7':((s':Int)==7)=false:=sO;have h7'':¬(s':Int)=7:=oM;have e:=j;rw[Zn r]at e;have y:=ua e;go_wp2;go_roundw
  ·exact⟨s',B,i+1,oM,oM,oM,rfl,rfl,by go_num,by trivial,y.o⟩
  simp[intOf];omega
 have hlt':¬(i:Int)<l.length:=oM;have e:=k.o;rw[Jq oM,uD]at e;by_cases g:s=0
 ·subst g;rw[Zp rfl]at e;go_wp2;go_ret;exact⟨uW rfl,rfl⟩
 have h0':((s:Int)==0)=false:=sO;have h0'':¬(s:Int)=0:=oM;rw[Zn g]at e;go_wp2;go_ret;exact⟨uW rfl,rfl⟩
def Dn(Q:Np)(w:Wl)(a:Oa)(c:List LI):Prop :=
 c = []\/∃b off,a=some (Ad b off)/\∀i z,c[i]?=some z->∃na nc,w.cell? (Ad b (off+i))=some (Sl na z.length nc)/\wB Q .u8 w na z.length (lf z)
def Dn.q{Q w w' a c}(h:Dn Q w a c)(t:Bw w w'):Dn Q w' a c:=by
 rcases h with h|⟨b,off,e,h⟩
 ·exact .inl h
 refine .inr ⟨b,off,e,λi z g=>?_⟩;obtain⟨na,nc,d,f⟩:=h i z g;exact⟨na,nc,ue d t,f.q t⟩
def Dn.at{Q w a c}(h:Dn Q w a c){i}(d:i<c.length):∃b off,a=some (Ad b off)/\∀i z,c[i]?=some z->∃na nc,w.cell? (Ad b (off+i))=some (Sl na z.length nc)/\wB Q .u8 w na z.length (lf z):=by
 rcases h with h|h
 ·subst h;simp at d
 exact h
def wW(z:LI):Prop:=∀x∈z,0<=x/\x<=255
def wW.j{z}(h:wW z):Fe z.length (lf z):=λi a=>by
 unfold lf;rw[Cx,zG a];exact h _ (Gb a)
def Yo{y z}(e:wW y)(f:wW z):str y.length (lf y)=str z.length (lf z)↔y=z:=by
 rw[utU _ _ _ _ e.j f.j];constructor
 ·rintro⟨b,c⟩;refine List.ext_getElem b (λi a d=>?_);have:=c i a;unfold lf at this;simpa[Cx,a,d] using this
 rintro rfl;exact⟨rfl,λ_ _=>rfl⟩
def HX{a b:ByteArray}(h:a.toList=b.toList):a=b:=by
 rw[ByteArray.toList_eq,ByteArray.toList_eq]at h;exact ByteArray.ext (Array.ext' h)
def uU(z:LI):List LI->Nat->Int
 |[],_=>-1
 |y::r,i=>if y=z then i else uU z r (i+1)
def jF Q Q' d z a g c j w(G:Dn Q w a d)(H:wB Q' .u8 w g z.length (lf z))(I:∀y∈d,wW y)(J:wW z)(S:d.length<=1048576) :
  Cs 30 #[Sl a d.length c,Sl g z.length j] w λe w'=>e=Rt (Iv (uU z d 0))/\∃m,w'=w.drewN m:=by
 have D:=ua G;have o:Hid (∀m,(convert 22 9 (Sl g z.length j)).run prog (w.drewN m)=.ok (.string (str z.length (lf z))) (w.drewN m)):=λm=>vX Q' g z.length j (lf z) _ (H.q (zB (wI w) m))
 have A:=ua I;obtain⟨R,x⟩:=nm (uU z d 0);rw[x];go_enter func30,ntmps30;go_wp2;go_loopw [5] (λu wr=>∃(i m:Nat),i<=d.length/\u=Iv i/\wr=w.drewN m/\uU z (d.drop i) i=R) (λu _=>d.length-(intOf u).toNat)
 ·exact⟨0,0,oM,rfl,rfl,x⟩
 obtain⟨i,m,P,rfl,rfl,N⟩:=hrel;have v:=ua N;by_cases p:i<d.length
 ·have hlt':(i:Int)<d.length:=oM;obtain⟨b,off,rfl,L⟩:=D.at p;obtain⟨y,r⟩:∃y,d[i]?=some y:=⟨_,zG p⟩;obtain⟨na,nc,X,F⟩:=L i y r;have l:Hid (∀m,(convert 22 9 (Sl na y.length nc)).run prog (w.drewN m)=.ok (.string (str y.length (lf y))) (w.drewN m)):=λm=>vX Q na y.length nc (lf y) _ (F.q (zB (wI w) m))
  have k:=ua (Yo (A y (Be r)) J);have h:Hid ((if y=z then (i:Int) else uU z (d.drop (i+1)) (i+1))=R):=by
   have:=v;rw[vD r,uU]at this;exact this
  have T:∀n,(convert 22 9 (Sl na y.length nc)).run prog ((w.drewN m).drewN n)=.ok (.string (str y.length (lf y))) ((w.drewN m).drewN n):=λn=>by rw[Nc];exact l _
  have V:∀n,(convert 22 9 (Sl g z.length j)).run prog ((w.drewN m).drewN n)=.ok (.string (str z.length (lf z))) ((w.drewN m).drewN n):=λn=>by rw[Nc];exact o.o _
  have E:Hid (∀n,∃q,(w.drewN m).drewN n=w.drewN q):=λn=>⟨_,Nc _ _ _⟩
  have U:=l.o;have W:=o.o;clear l o;generalize str y.length (lf y)=s at *;generalize str z.length (lf z)=t at *;by_cases f:y=z
  ·have e:=h.o;rw[Zp f]at e;have C:Hid ((i:Int)=R):=e;obtain rfl:s=t:=k.o.2 f;clear h e f k;go_wp2;go_quiet (fail);go_wp2;go_ret;exact⟨uW C.o,E.o _⟩
  have e:=h.o;rw[Zn f]at e;have B:Hid (uU z (d.drop (i+1)) (i+1)=R):=e;have O:¬s=t:=λq=>f (k.o.1 q)
  have hs':(s.toList==t.toList)=false:=by
   rw[Ht];exact λq=>O (HX q)
  clear h e f;go_wp2;go_quiet (fail);go_wp2;exact⟨⟨i+1,m+nq,p,sM,rfl,B.o⟩,by simp[intOf];omega⟩
 have hlt':¬(i:Int)<d.length:=oM;have e:=v.o;rw[Jq oM,uU]at e;go_wp2;go_ret;exact⟨uW rfl,m,rfl⟩
inductive PE where
 |ref (t:wH)
 |thr (c t:wH)
 |str (t:wH)
 |cls (t:wH)
 |dot (t:wH)
 |grp (o:wH) (e:PE) (c:wH)
 |star (e:PE) (t:wH)
 |opt (e:PE) (t:wH)
 |not (t:wH) (e:PE)
 |amp (t:wH) (e:PE)
 |emp
 |seq (a b:PE)
 |alt (a:PE) (t:wH) (b:PE)
def PE.tk:PE->List wH
 |.ref t=>[t]
 |.thr c t=>[c,t]
 |.str t=>[t]
 |.cls t=>[t]
 |.dot t=>[t]
 |.grp o e c=>o::(e.tk++[c])
 |.star e t=>e.tk++[t]
 |.opt e t=>e.tk++[t]
 |.not t e=>t::e.tk
 |.amp t e=>t::e.tk
 |.emp=>[]
 |.seq a b=>a.tk++b.tk
 |.alt a t b=>a.tk++t::b.tk
def PE.ok:PE->Nat->Prop
 |.ref t,_=>t.e=110
 |.thr c t,_=>c.e=94/\t.e=110
 |.str t,_=>t.e=34
 |.cls t,_=>t.e=91
 |.dot t,_=>t.e=46
 |.grp o e c,_=>o.e=40/\c.e=41/\e.ok 5
 |.star e t,l=>1<=l/\t.e=42/\e.ok 0
 |.opt e t,l=>1<=l/\t.e=63/\e.ok 0
 |.not t e,l=>2<=l/\t.e=33/\e.ok 2
 |.amp t e,l=>2<=l/\t.e=38/\e.ok 2
 |.emp,l=>4<=l
 |.seq a b,l=>3<=l/\a.ok 3/\b.ok 2
 |.alt a t b,l=>5<=l/\t.e=47/\a.ok 5/\b.ok 4
def PE.c(e:PE){l m:Nat}(a:l<=m)(h:e.ok l):e.ok m:=by
 cases e<;>first|exact h|exact wN h a|exact⟨wN h.1 a,h.2⟩
def yi:List Int->List OpD
 |[]=>uN 0 0
 |x::r=>r.foldl (λout y=>out++vr (yB y)++[zY 4 0]) (vr (yB x))
def PE.e(rs ls:List LI):PE->List OpD
 |.ref t=>uN 2 (uU t.nm rs 0)
 |.thr _ t=>uN 3 (uU t.nm ls 0)
 |.str t=>yi t.nm
 |.cls t=>vr t.set
 |.dot _=>vr [0,255]
 |.grp _ e _=>e.e rs ls
 |.star e _=>Bu 6 (e.e rs ls)
 |.opt e _=>vU 5 (e.e rs ls) (uN 0 0)
 |.not _ e=>Bu 7 (e.e rs ls)
 |.amp _ e=>Bu 7 (Bu 7 (e.e rs ls))
 |.emp=>uN 0 0
 |.seq a b=>vU 4 (a.e rs ls) (b.e rs ls)
 |.alt a _ b=>vU 5 (a.e rs ls) (b.e rs ls)
def xx(k:Int)(d:Int):Int:=if k=40 then d+1 else if k=41 then d-1 else d
def jd:Int->List wH->Nat
 |_,[]=>0
 |d,x::r=>if xx x.e d=0 then 1 else jd (xx x.e d) r+1
def xP:Nat->Int->Int->List wH->Int
 |_,_,bar,[]=>bar
 |i,d,bar,x::r=>xP (i+1) (xx x.e d) (if x.e=47/\d=0 then i else bar) r
def uO{k}(h:k≠40)(a:k≠41)d:xx k d=d:=by unfold xx;rw[Zn h,Zn a]
def xQ d:xx 40 d=d+1:=rfl
def kS d:xx 41 d=d-1:=rfl
def qN{d x r}(h:xx x.e d≠0):jd d (x::r)=jd (xx x.e d) r+1:=by rw[jd,Zn h]
def xU i d a x r:xP i d a (x::r)=xP (i+1) (xx x.e d) (if x.e=47/\d=0 then i else a) r:=rfl
def Nt(l:List wH)(d:Int):Prop:=(0<d->∀r,jd d (l++r)=l.length+jd d r)/\∀i a r,xP i d a (l++r)=xP (i+l.length) d a r
def Nt.app{a b:List wH}{d:Int}(h:Nt a d)(c:Nt b d):Nt (a++b) d :=
 ⟨λe r=>by rw[zU,h.1 e,c.1 e,wK];omega,λi f r=>by rw[zU,h.2,c.2,wK,Eo]⟩
def Nt.one{t:wH}{d:Int}(h:t.e≠40/\t.e≠41/\(t.e=47->d≠0)):Nt [t] d :=
 ⟨λb r=>by rw[Jn,qN (by rw[uO h.1 h.2.1];omega),uO h.1 h.2.1,Bs];omega,λi a r=>by rw[Jn,xU,uO h.1 h.2.1,Zn (λq=>h.2.2 q.1 q.2)];rfl⟩
def Nt.grp{o c:wH}{l:List wH}{d:Int}(b:o.e=40)(a:c.e=41)(f:0<=d)(h:Nt l (d+1)):Nt (o::(l++[c])) d:=by
 have e:d+1-1=d:=oM;refine⟨λf r=>?_,λi g r=>?_⟩
 ·rw[Cb,qN (by rw[b,xQ];omega),b,xQ,zU,h.1 oM,Jn,qN (by rw[a,kS];omega),a,kS,e];simp;omega
 rw[Cb,xU,Zn oM,b,xQ,zU,h.2,Jn,xU,Zn oM,a,kS,e];congr 1;simp;omega
def KH(e:PE)(l:Nat)(h:e.ok l)(d:Int)(q:l<=4\/0<d)(f:0<=d):Nt e.tk d:=by
 induction e generalizing l d with
 |grp o e c g=>exact .grp h.1 h.2.1 f (g 5 h.2.2 (d+1) (.inr oM) oM)
 |thr c t=>obtain⟨n,j⟩:=h;exact Nt.app (.one oM) (.one (t:=t) oM)
 |emp=>exact⟨λ_ r=>(zL _).symm,λ_ _ _=>rfl⟩
 |seq a b k m=>exact(k 3 h.2.1 d (.inl oM) f).app (m 2 h.2.2 d (.inl oM) f)
 |alt a t b k m=>obtain⟨p,n,j,i⟩:=h;exact(k 5 j d (.inr oM) f).app (Nt.app (.one (t:=t) oM) (m 4 i d (.inl oM) f))
 |star e t g|opt e t g=>obtain⟨_,j,i⟩:=h;exact(g 0 i d (.inl oM) f).app (.one oM)
 |not t e g|amp t e g=>obtain⟨_,j,i⟩:=h;exact Nt.app (.one (t:=t) oM) (g 2 i d (.inl oM) f)
 |_ t=>exact .one (by have:t.e=_:=h;omega)
def K4(e:PE)(l:Nat)(h:e.ok l)(d:Int)(r:List wH)(a:0<d):jd d (e.tk++r)=e.tk.length+jd d r:=(KH e l h d (.inr a) oM).1 a r
def Uk(e:PE)(l:Nat)(h:e.ok l)(i:Nat)(d a:Int)(r:List wH)(c:l<=4\/0<d)(b:0<=d):xP i d a (e.tk++r)=xP (i+e.tk.length) d a r:=(KH e l h d c b).2 i a r
def K5(e:PE)(h:e.ok 5)(i:Nat)(c:Int):∃d,∀r,xP i 0 c (e.tk++r)=xP (i+e.tk.length) 0 d r:=by
 induction e generalizing i c with
 |alt a t b l m =>
  obtain⟨_,g,j,k⟩:=h;obtain⟨b1,f⟩:=l j i c;refine⟨((i+a.tk.length:Nat):Int),λr=>?_⟩;show xP i 0 c ((a.tk++t::b.tk)++r)=xP (i+(a.tk++t::b.tk).length) 0 _ r;rw[zU,f,Cb,xU,Zp ⟨g,rfl⟩,uO oM oM,Uk b 4 k _ 0 _ _ (.inl oM) oM,wK,zQ];congr 1;omega
 |_=>exact⟨c,λr=>Uk _ 4 (by first|exact h|exact⟨oM,h.2⟩|exact Sv 4) i 0 c r (.inl oM) oM⟩
def K6(e:PE)(h:e.ok 4):xP 0 0 (-1) e.tk = -1:=by
 have:=Uk e 4 h 0 0 (-1) [] (.inl oM) oM;rw[Ca]at this;exact this
def K7 a t b(h:(PE.alt a t b).ok 5):xP 0 0 (-1) (PE.alt a t b).tk=(a.tk.length:Int):=by
 obtain⟨_,d,e,f⟩:=h;obtain⟨b1,c⟩:=K5 a e 0 (-1);show xP 0 0 (-1) (a.tk++t::b.tk)=_;rw[c,xU,Zp ⟨d,rfl⟩,uO oM oM];have:=Uk b 4 f (0+a.tk.length+1) 0 ((0+a.tk.length:Nat):Int) [] (.inl oM) oM;rw[Ca]at this;rw[this,xP];omega
def kAt(l:List wH)(i:Nat):Int:=match l[i]? with|some x=>x.e|none=>0
def yV:List wH->Nat
 |[]=>0
 |x::r=>if x.e=33\/x.e=38 then yV r+1 else 0
def jT(l:List wH):Nat:=if kAt l 0=94 then 1+jd 0 (l.drop 1) else jd 0 l
def Rk(l:List wH)(i:Nat):Nat:=if kAt l i=42\/kAt l i=63 then i+1 else i
def jk(l:List wH):Nat:=yV l+Rk (l.drop (yV l)) (jT (l.drop (yV l)))
def Ul(e:PE)(h:e.ok 0)(r:List wH):yV (e.tk++r)=0/\jT (e.tk++r)=e.tk.length:=by
 have one:∀(t:wH),t.e≠33/\t.e≠38/\t.e≠94/\t.e≠40/\t.e≠41->yV (t::r)=0/\jT (t::r)=1:=λt ⟨a,b,d,f,g⟩=>by
  refine⟨by rw[yV,Zn oM],?_⟩;unfold jT;rw[Zn (by show ¬t.e=94;exact d),jd,uO f g,Zp rfl]
 cases e with
 |thr c t =>
  obtain⟨a,b⟩:=h;refine⟨by show yV (c::t::r)=0;rw[yV,Zn oM],?_⟩;show jT (c::t::r)=2;unfold jT;rw[Zp (by show c.e=94;exact a)];show 1+jd 0 (t::r)=2;rw[jd,uO oM oM,Zp rfl]
 |grp o e c =>
  obtain⟨a,b,d⟩:=h;refine⟨by show yV (o::_)=0;rw[yV,Zn oM],?_⟩;show jT (o::((e.tk++[c])++r))=(e.tk++[c]).length+1;unfold jT;rw[Zn (by show ¬o.e=94;omega),qN (by rw[a,xQ];omega),a,xQ,zU,K4 e 5 d _ _ oM];show e.tk.length+jd (0+1) (c::r)+1=_;rw[jd,b,kS,Zp oM,wK,Bs]
 |_=>first|exact absurd h.1 oM|exact absurd h (by show ¬(4<=0);omega)|(rename_i t;exact one t (by have:t.e=_:=h;omega))
def KI l r:kAt (l++r) l.length=kAt r 0:=by unfold kAt;rw[Di wF,Nat.sub_self]
def KJ:∀(e:PE),e.ok 2->∀(r:List wH),kAt r 0≠42->kAt r 0≠63->jk (e.tk++r)=e.tk.length:=by
 have f:∀(e:PE),e.ok 0->∀(r:List wH),kAt r 0≠42->kAt r 0≠63->jk (e.tk++r)=e.tk.length:=λe h r a b=>by
  obtain⟨p1,p2⟩:=Ul e h r;unfold jk;rw[p1,Ks,p2];unfold Rk;rw[KI,Zn (λq=>q.elim a b)];omega
 have g:∀(e:PE) (t:wH),e.ok 0->(t.e=42\/t.e=63)->∀(r:List wH),jk ((e.tk++[t])++r)=(e.tk++[t]).length:=λe t h c r=>by
  rw[zU];obtain⟨p1,p2⟩:=Ul e h ([t]++r);unfold jk;rw[p1,Ks,p2];unfold Rk;rw[KI,Zp (by exact c),wK,Bs];omega
 have pre:∀(t:wH) (l:List wH),(t.e=33\/t.e=38)->jk (t::l)=jk l+1:=λt l c=>by
  unfold jk;rw[yV,Zp c];show yV l+1+Rk (l.drop (yV l)) (jT (l.drop (yV l)))=_;omega
 intro e;induction e with
 |not t e ih|amp t e ih =>
  intro h r a b;obtain⟨_,i,d⟩:=h;show jk (t::(e.tk++r))=e.tk.length+1;rw[pre t _ oM,ih d r a b]
 |star e t _|opt e t _=>intro h r _ _;exact g e t h.2.2 (oH h.2.1) r
 |_=>intro h r a b;first|exact f _ h r a b|exact absurd h.1 oM|exact absurd h (by show ¬(4<=2);omega)
def yF:∀(e:PE),e.ok 2->∀(r:List wH),kAt (e.tk++r) 0≠42/\kAt (e.tk++r) 0≠63/\0<e.tk.length:=by
 have one:∀(t:wH) (l r:List wH),t.e≠42/\t.e≠63->kAt (t::l++r) 0≠42/\kAt (t::l++r) 0≠63/\0<(t::l).length:=λt l r h=>⟨h.1,h.2,sM⟩
 intro e;induction e with
 |not t e ih|amp t e ih=>intro h r;have:=h.2.1;exact one t _ r oM
 |star e t ih|opt e t ih =>
  intro h r;have:=ih (PE.c e oM h.2.2) ([t]++r);rw[<-zU]at this;exact⟨this.1,this.2.1,by simp[PE.tk]⟩
 |thr c t=>intro h r;have:=h.1;exact one c _ r oM
 |grp o e c _=>intro h r;have:=h.1;exact one o _ r oM
 |_=>intro h r;first|exact absurd h.1 oM|exact absurd h (by show ¬(4<=2);omega)|(rename_i t;exact one t [] r (by have:t.e=_:=h;omega))
def jZ:Int->List wH->Prop
 |_,[]=>False
 |d,x::r=>xx x.e d=0\/jZ (xx x.e d) r
def G3:∀(e:PE) (l:Nat),e.ok l->∀(d:Int) (r:List wH),0<d->jZ d r->jZ d (e.tk++r):=by
 have one:∀(t:wH) (d:Int) (r:List wH),t.e≠40->t.e≠41->jZ d r->jZ d (t::r):=λt d r h q f=>.inr (by rw[uO h q];exact f)
 intro e;induction e with
 |ref t=>intro l h d r g f;have:t.e=110:=h;exact one t d r oM oM f
 |str t=>intro l h d r g f;have:t.e=34:=h;exact one t d r oM oM f
 |cls t=>intro l h d r g f;have:t.e=91:=h;exact one t d r oM oM f
 |dot t=>intro l h d r g f;have:t.e=46:=h;exact one t d r oM oM f
 |thr c t =>
  intro l h d r g f;obtain⟨m,j⟩:=h;exact one c d _ oM oM (one t d r oM oM f)
 |grp o e c k =>
  intro l h d r g f;obtain⟨m,j,i⟩:=h;show jZ d (o::((e.tk++[c])++r));refine .inr ?_;rw[m,xQ,zU];refine k 5 i (d+1) _ oM (.inr ?_);rw[j,kS,show d+1-1=d by omega];exact f
 |star e t k =>
  intro l h d r g f;obtain⟨_,j,i⟩:=h;show jZ d ((e.tk++[t])++r);rw[zU];exact k 0 i d _ g (one t d r oM oM f)
 |opt e t k =>
  intro l h d r g f;obtain⟨_,j,i⟩:=h;show jZ d ((e.tk++[t])++r);rw[zU];exact k 0 i d _ g (one t d r oM oM f)
 |not t e k =>
  intro l h d r g f;obtain⟨_,j,i⟩:=h;exact one t d _ oM oM (k 2 i d r g f)
 |amp t e k =>
  intro l h d r g f;obtain⟨_,j,i⟩:=h;exact one t d _ oM oM (k 2 i d r g f)
 |emp=>intro l h d r g f;exact f
 |seq a b n p =>
  intro l h d r g f;obtain⟨_,j,i⟩:=h;show jZ d ((a.tk++b.tk)++r);rw[zU];exact n 3 j d _ g (p 2 i d r g f)
 |alt a t b n p =>
  intro l h d r g f;obtain⟨_,m,j,i⟩:=h;show jZ d ((a.tk++t::b.tk)++r);rw[zU];exact n 5 j d _ g (one t d _ oM oM (p 4 i d r g f))
def jG(l:List wH):Prop:=yV l<l.length/\(kAt (l.drop (yV l)) 0=94->jZ 0 (l.drop (yV l+1)))/\(¬kAt (l.drop (yV l)) 0=94->jZ 0 (l.drop (yV l)))
def JC(e:PE)(h:e.ok 0)(r:List wH):jG (e.tk++r):=by
 have f:=(Ul e h r).1;unfold jG;rw[f,Ks,zL];have g:=(yF e (PE.c e oM h) r).2.2;refine⟨by rw[wK];omega,?_⟩;cases e with
 |ref t=>have:t.e=110:=h;exact⟨λq=>absurd (show t.e=94 from q) oM,λ_=>.inl (uO oM oM 0)⟩
 |str t=>have:t.e=34:=h;exact⟨λq=>absurd (show t.e=94 from q) oM,λ_=>.inl (uO oM oM 0)⟩
 |cls t=>have:t.e=91:=h;exact⟨λq=>absurd (show t.e=94 from q) oM,λ_=>.inl (uO oM oM 0)⟩
 |dot t=>have:t.e=46:=h;exact⟨λq=>absurd (show t.e=94 from q) oM,λ_=>.inl (uO oM oM 0)⟩
 |thr c t =>
  obtain⟨a,b⟩:=h;exact⟨λ_=>.inl (uO oM oM 0),λq=>aB a q⟩
 |grp o e c =>
  obtain⟨a,b,d⟩:=h;refine⟨λq=>aB (show o.e=94 from q) oM,λ_=>?_⟩;show jZ 0 (o::((e.tk++[c])++r));refine .inr ?_;rw[a,xQ,zU];refine G3 e 5 d _ _ oM (.inl ?_);rw[b,kS];omega
 |star _ _=>exact absurd h.1 oM
 |opt _ _=>exact absurd h.1 oM
 |not _ _=>exact absurd h.1 oM
 |amp _ _=>exact absurd h.1 oM
 |emp=>exact absurd h (by show ¬(4<=0);omega)
 |seq _ _=>exact absurd h.1 oM
 |alt _ _ _=>exact absurd h.1 oM
def JD t l(c:t.e=33\/t.e=38)(h:jG l):jG (t::l):=by
 obtain⟨d,a,b⟩:=h;unfold jG;rw[yV,Zp c];exact⟨by rw[zQ];omega,a,b⟩
def JE:∀(e:PE),e.ok 2->∀(r:List wH),jG (e.tk++r):=by
 intro e;induction e with
 |not t e d=>intro h r;exact JD t _ (.inl h.2.1) (d h.2.2 r)
 |amp t e d=>intro h r;exact JD t _ (.inr h.2.1) (d h.2.2 r)
 |star e t _|opt e t _=>intro h r;show jG ((e.tk++[t])++r);rw[zU];exact JC e h.2.2 _
 |emp=>intro h;exact absurd h (by show ¬(4<=2);omega)
 |seq a b _ _|alt a t b _ _=>intro h;exact absurd h.1 oM
 |ref t|thr c t|str t|cls t|dot t|grp o e c _=>intro h r;exact JC _ h r
def Rh{l i x}(h:l[i]?=some x):kAt l i=x.e:=by unfold kAt;rw[h]
def JF l i:kAt (l.drop i) 0=kAt l i:=by unfold kAt;rw[List.getElem?_drop,Cc]
def G4 l i k:kAt (l.drop i) k=kAt l (i+k):=by unfold kAt;rw[List.getElem?_drop]
def G5{l:List wH}{i:Nat}{x:wH}(h:l[i]?=some x):yV (l.drop i)=if x.e=33\/x.e=38 then yV (l.drop (i+1))+1 else 0:=by rw[vD h,yV]
def G6 Q l a c w(hT:zK Q w a l)(hl:l.length<=1048576)(hP:jG l) :
  Cs 59 #[Sl a l.length c] w λe w'=>e=Rt (Iv (jk l:Nat))/\w'=w:=by
 obtain⟨p1,p2,W⟩:=hP;obtain⟨b,off,rfl,hc⟩:=hT.at (i:=0) oM;have N:Hid (∀i,i<l.length->∃x,l[i]?=some x/\w.cell? (Ad b (off+i*4))=some (Bv x.e)):=λi V=>⟨_,zG V,(hc i _ (zG V)).e⟩
 obtain⟨I,ac⟩:=nm (yV l);obtain⟨R,F⟩:=nm (jk l);rw[F];unfold jk at F;rw[ac]at p1 p2 W F;rw[JF]at p2 W;have HR:=ua F;have ae:=ua p2;have af:=ua W;go_enter func59,ntmps59;go_wp2;go_loopw [3] (λu wr=>∃i:Nat,i<=I/\u=Iv i/\wr=w/\i+yV (l.drop i)=I) (λu _=>l.length-(intOf u).toNat)
 ·exact⟨0,oM,rfl,rfl,by rw[Ks,ac];omega⟩
 obtain⟨i,V,rfl,rfl,s⟩:=hrel;have ag:i<l.length:=oM;have hil':(i:Int)<l.length:=oM;obtain⟨x,hx,k0⟩:=N i ag;have HK:=ua (Rh hx);rw[G5 hx]at s;have o:=ua s;by_cases D:x.e=33\/x.e=38
 ·have Z:Hid (i+1+yV (l.drop (i+1))=I):=by
   have:=o.o;rw[Zp D]at this;show _=_;omega
  generalize x.e=kx at *;rcases D with rfl|rfl;all_goals (
   go_wp2;go_roundw
   ·exact⟨i+1,by have:=Z.o;omega,by go_num,by trivial,Z.o⟩
   simp[intOf];omega)
 have y1:(x.e==33)=false:=by simpa using λq=>D (.inl q)
 have y2:(x.e==38)=false:=by simpa using λq=>D (.inr q)
 obtain rfl:i=I:=by
  have:=o.o;rw[Zn D]at this;omega
 obtain⟨m,C⟩:=nm (if x.e=94 then i+1 else i);have HI:=ua C;have O:Hid (jZ 0 (l.drop m)/\m+jd 0 (l.drop m)=i+jT (l.drop i)/\i<=m):=by
  have j:=ae;have r:=af;rw[HK.o]at j r;unfold jT;rw[JF,HK.o,List.drop_drop];by_cases h:x.e=94
  ·rw[Zp h]at C;subst C;rw[Zp h];exact⟨j h,oM,oM⟩
  rw[Zn h]at C;subst C;rw[Zn h];exact⟨r h,rfl,wF⟩
 go_upto_if 26 with fail;go_cut [3] (λv wc=>v=Iv m/\wr=wc)
 ·by_cases h:x.e=94
  ·have e:=HI;rw[Zp h]at e;subst e;generalize x.e=kx at *;subst h;go_wp2;go_meet
   case rel=>exact⟨by go_num,rfl⟩
  have e:=HI;rw[Zn h]at e;have y3:(x.e==94)=false:=by simpa using h
  subst e;go_wp2;go_meet
  case rel=>exact⟨rfl,rfl⟩
 obtain⟨rfl,rfl⟩:=hcut;obtain⟨E,hE⟩:=nm (i+jT (l.drop i));have ad:Hid ((if kAt l E=42\/kAt l E=63 then E+1 else E)=R):=by
  have:=HR;unfold Rk at this;rw[G4,hE]at this;show _=R;rw[<-this];split<;>omega
 have aa:Hid (jZ 0 (l.drop m)/\m+jd 0 (l.drop m)=E):=⟨O.1,O.2.1.trans hE⟩;have aj:m<l.length:=by
  by_cases h:m<l.length
  ·exact h
  have:=O.1;rw[Jq oM]at this;exact this.elim
 go_wp2;go_loopw [3,4] (λv3 v4 w'=>∃(f:Nat) (d:Int),m<=f/\f<l.length/\v3=Iv f/\v4=Iv d/\w'=wr/\-(f:Int)<=d/\d<=f/\jZ d (l.drop f)/\f+jd d (l.drop f)=E) (λv3 _ _=>l.length-(intOf v3).toNat)
 ·exact⟨m,0,wF,aj,rfl,rfl,rfl,oM,oM,aa.1,aa.2⟩
 obtain⟨f,d,hi2,ai,rfl,rfl,rfl,T,al,U,s⟩:=hrel;have hl2':(f:Int)<l.length:=oM;obtain⟨t,ak,k2⟩:=N f ai;rw[vD ak]at U s;have ab:=ua U;have o:=ua s;obtain⟨k,S⟩:=nm (xx t.e d);have z:=ua S;have db:d-1<=k/\k<=d+1:=by rw[<-S];unfold xx;split;omega;split<;>omega
 have X:Hid (k=0->f+1=E):=λh=>by have:=o.o;rw[jd,z.o,Zp h]at this;exact this
 have Y:Hid (k≠0->f+1+jd k (l.drop (f+1))=E/\jZ k (l.drop (f+1))/\f+1<l.length):=λh=>by
  have B:=o.o;have j:=ab.o;rw[jd,z.o,Zn h]at B;rw[jZ,z.o]at j;have r:=j.resolve_left h;refine⟨oM,r,?_⟩;by_cases q:f+1<l.length
  ·exact q
  rw[Jq oM]at r;exact r.elim
 obtain⟨n,T⟩:=nm (if t.e=40 then d+1 else d);have A:=ua T;clear U s S T o ab;go_upto_if 34 with fail;go_cut [4] (λv wc=>v=Iv n/\wr=wc)
 case first =>
  by_cases h:t.e=40
  ·have g:Hid (d+1=n):=(by have:=A.o;rw[Zp h]at this;exact this);rw[h]at k2 ⊢;go_wp2;go_meet;exact⟨by rw[g.o],rfl⟩
  have g:Hid (d=n):=by have:=A.o;rw[Zn h]at this;exact this
  have y:(t.e==40)=false:=by simpa using h
  go_wp2;go_meet;exact⟨by rw[g.o],rfl⟩
 case rest =>
 obtain⟨rfl,rfl⟩:=hcut;have b1:d-1<=n/\n<=d+1:=by have:=A.o;split at this<;>omega
 go_upto_if 42 with fail;go_cut [4] (λv wc=>v=Iv k/\wr=wc)
 case first =>
  by_cases h:t.e=41
  ·have g:Hid (n-1=k):=(by have B:=A.o;have j:=z.o;unfold xx at j;rw[Zn oM]at B j;rw[Zp h]at j;show _=_;omega);rw[h]at k2 ⊢;go_wp2;go_meet;exact⟨by rw[g.o],rfl⟩
  have g:Hid (n=k):=by have B:=A.o;have j:=z.o;unfold xx at j;rw[Zn h]at j;exact B.symm.trans j
  have y:(t.e==41)=false:=by simpa using h
  go_wp2;go_meet;exact⟨by rw[g.o],rfl⟩
 case rest =>
 obtain⟨rfl,rfl⟩:=hcut;by_cases H:k=0
 rotate_left
 ·have am:(k==0)=false:=by simpa using H
  have G:=ua (Y.o H);go_wp2;go_roundw
  ·exact⟨f+1,k,oM,G.o.2.2,by go_num,rfl,by trivial,oM,oM,G.o.2.1,G.o.1⟩
  simp[intOf];omega
 have HF:Hid ((if kAt l (f+1)=42\/kAt l (f+1)=63 then f+1+1 else f+1)=R):=by rw[X.o H];exact ad.o
 subst H;obtain⟨q,hq⟩:=nm (decide (kAt l (f+1)=42\/kAt l (f+1)=63));have p:=ua hq;clear hq X Y;go_upto_region 13 with fail;go_cut [68] (λv wc=>v=.bool q/\wr=wc)
 case first =>
  by_cases ah:f+1<l.length
  ·have hin':(f:Int)+1<l.length:=oM;obtain⟨y,hy,k9⟩:=N.o (f+1) ah;have P:=ua (Rh hy);clear hy;by_cases J:y.e=42
   ·have g:Hid (q=true):=(by show _=_;rw[<-p.o,P.o];simp[J]);rw[J]at k9;go_wp2;go_meet;exact⟨by rw[g.o],rfl⟩
   by_cases L:y.e=63
   ·have g:Hid (q=true):=(by show _=_;rw[<-p.o,P.o];simp[L]);rw[L]at k9;go_wp2;go_meet;exact⟨by rw[g.o],rfl⟩
   have g:Hid (q=false):=(by show _=_;rw[<-p.o,P.o];simp[J,L]);have z1':(y.e==42)=false:=(by simpa using J);have z2':(y.e==63)=false:=(by simpa using L);go_wp2;go_meet;exact⟨by rw[g.o],rfl⟩
  have hin':¬(f:Int)+1<l.length:=oM;have g:Hid (q=false):=by show _=_;rw[<-p.o,show kAt l (f+1)=0 by unfold kAt;rw[Oj oM]];simp
  go_wp2;go_meet;exact⟨by rw[g.o],rfl⟩
 case rest =>
 obtain⟨rfl,rfl⟩:=hcut;cases q with
 |true =>
  have g:Hid (f+1+1=R):=by have:=HF.o;rw[Zp (of_decide_eq_true p.o)]at this;exact this
  go_wp2;go_ret;exact⟨uW (oH g.o),rfl⟩
 |false =>
  have g:Hid (f+1=R):=by have:=HF.o;rw[Zn (of_decide_eq_false p.o)]at this;exact this
  go_wp2;go_ret;exact⟨uW (oH g.o),rfl⟩
end Go.Proofs.YtoihadcablknpaaGreatDoor
