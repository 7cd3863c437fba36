import Derived.Test.YtmlblamikgkdcaaGreatT05
import Derived.Test.YtmlblamikgkdcaaGreatT04
import Derived.Shelf.Small.Strs
import Derived.Shelf.SlMaps.Clone
import Derived.Shelf.SlIter.Nil
import Derived.Shelf.SortM.Plain
import Derived.Shelf.SortM.SortNone
import Derived.Test.YtmlblamikgkdcaaGreatProg
set_option linter.unusedVariables false
set_option linter.unusedSimpArgs false
set_option linter.defProp false
set_option maxHeartbeats 40000000
set_option maxRecDepth 100000
namespace Go.Proofs.YtmlblamikgkdcaaGreat
open Go.RowKit
open Go.Proofs.Tryz
open M (OpD ug Gr)
def yX(t:Tx):Nat->Nat->List zI
 |0,_=>[]
 |f+1,i=>if i<t.n then (if (vO t i).1.e=0 then [(vO t i).1] else (vO t i).1::yX t f (skip t (vO t i).2)) else []
def uY(t:Tx):List zI:=yX t (t.n+1) (skip t 0)
def GT t:∀f i,i<=Hh t f i
 |0,i=>zD
 |f+1,i=>by
  rw[Hh];split
  .split
   .exact zP (Gx i) (GT t f (i+1))
   split
   .exact zP (GD t _ i) (GT t f _)
   exact zD
  exact zD
def GU t:∀f i,i<=t.n->Hh t f i<=t.n
 |0,i,h=>h
 |f+1,i,h=>by
  rw[Hh];split
  .split
   .exact GU t f (i+1) oM
   split
   .exact GU t f _ (GE t _ i h)
   exact h
  exact h
def Zz t i:i<=skip t i:=GT t _ i
def AA t{i}(h:i<=t.n):skip t i<=t.n:=GU t _ i h
def GV t:∀(f j:Nat) (z:LI),j<=t.n->j<=(vQ t f j z).2/\(vQ t f j z).2<=t.n
 |0,j,z,h=>⟨zD,h⟩
 |f+1,j,z,h=>by
  rw[vQ];split
  .have:=GV t f (j+1) (z++[t.T j]) oM;omega
  exact⟨zD,h⟩
def Wz t{i}(b:i<t.n)(a:(vO t i).1.e≠0):i<(vO t i).2/\(vO t i).2<=t.n:=by
 unfold vO at a ⊢;split
 .rename_i d;have g:t.n-i=(t.n-i-1)+1:=oM;rw[g,vQ,Zp ⟨b,.inl d⟩];have:=GV t (t.n-i-1) (i+1) ([]++[t.T i]) b;simp only at this ⊢;omega
 rename_i d;rw[Zn d]at a;split
 .rename_i c;rw[Zp c]at a;cases h:Ks t i with
  |none=>rw[h]at a;exact absurd rfl a
  |some q=>have:=GH b h;simp only;omega
 rename_i c;rw[Zn c]at a;split
 .rename_i f;rw[Zp f]at a;cases h:Hr t i with
  |none=>rw[h]at a;exact absurd rfl a
  |some q=>have:=GJ b h;simp only;omega
 rename_i f;split
 .simp only;omega
 simp only;omega
structure TC where
 k:zI
 na:Option Addr
 nc:Nat
 sa:Option Addr
 sc:Nat
def Hj(x:TC):List Value:=[Bv x.k.e,Iv x.k.f,Sl x.na x.k.nm.length x.nc,Sl x.sa x.k.set.length x.sc]
def SO x:(Hj x).length=4:=rfl
def usf:(prog.info? 140).map (λi=>(i.zero,i.size,i.bytes))=some (some (.agg #[Bv 0,Iv 0,nS,nS]),4,64):=rR
def SP:vJ 134 140 4 64:=⟨underlying134,⟨_,usf,rfl⟩,oM⟩
def SQ(w0 wr:Wl)(P:Np)(x:TC):Prop:=Ints (λb=>zF w0 wr b/\¬P b) .u8 wr x.na x.k.nm.length (lf x.k.nm)/\Ints (λb=>zF w0 wr b/\¬P b) .i64 wr x.sa x.k.set.length (lf x.k.set)
abbrev ux2(w0 wr:Wl)(v:Vl)(l:List TC)(P:Np):Prop:=Ue Hj 4 (SQ w0) w0 wr v l P
abbrev Hs(w0 wr:Wl)(v:Vl)(l:List TC):Prop:=Ii Hj 4 (SQ w0) w0 wr v l
def unp{w0 wr W W1 i v v5 l x P}(h:ux2 w0 wr v l P)(o:Kf wr W)(n:Kf W W1)(s:Ints (zF wr W) .u8 W x.na x.k.nm.length (lf x.k.nm))(u:Ints (zF wr W) .i64 W x.sa x.k.set.length (lf x.k.set))(t:zB (λb=>P b\/W1.heap.size<=b) i v5 4 (l.length+1) (l.flatMap Hj++Hj x))(m:zT P W1 i):Hs w0 i v5 (l++[x]):=by
 have z:=h.y.l;have A:=o.l;have B:=n.l;have C:=m.l;refine h.d oM (o.c n) t m (λy w=>?_) ?_
 .obtain⟨p,q⟩:=w;have st:zS (λb=>zF w0 wr b/\¬P b) wr i:=λb f=>(m.d b (oH f.1.2) f.2).trans ((n.d b (oH f.1.2) (λe=>e)).trans (o.d b f.1.2 (λe=>e)));have j:∀b,(zF w0 wr b/\¬P b)->zF w0 i b/\¬((P b\/W1.heap.size<=b)/\b<i.heap.size):=λb f=>⟨⟨f.1.1,by have:=f.1.2;omega⟩,λr=>r.1.elim f.2 (λr=>oH f.1.2)⟩;exact⟨(p.on st).g j,(q.on st).g j⟩
 have st:zS (zF wr W) W i:=λb f=>(m.d b (oH f.2) (λr=>oG ((h.a b r).2) f.1)).trans (n.d b f.2 (λe=>e));have j:∀b,zF wr W b->zF w0 i b/\¬((P b\/W1.heap.size<=b)/\b<i.heap.size):=λb f=>⟨⟨by have:=f.1;omega,by have:=f.2;omega⟩,λr=>r.1.elim (λr=>oG ((h.a b r).2) f.1) (λr=>oH f.2)⟩;exact⟨(s.on st).g j,(u.on st).g j⟩
def usg(W:Wl)(x:TC){ty}:Src prog 4 134 (Sl (Sm W.heap.size 0) 1 1) 1 (Hj x) (W.alloc (Oc #[Bv x.k.e,Iv x.k.f,Sl x.na x.k.nm.length x.nc,Sl x.sa x.k.set.length x.sc] ty)):=qg underlying134 rfl rfl rfl
def uvg(l:List zI)(w:Wl)(e:Ending)(w':Wl):Prop:=∃a c L,e=Rt (Sl a l.length c)/\L.map (·.k)=l/\Hs w w' (Sl a l.length c) L
def uhb Q t a c w(hT:Ei Q w a t) :
  Cs 69 #[Sl a t.n c] w (uvg (uY t) w):=by
 have ax:=t.le;have X:=ua hT;let⟨R,hR⟩:=nm (uY t);rw[hR];have HR:Hid (yX t (t.n+1) (skip t 0)=R):=hR;go_enter func69,ntmps69;go_wp2_with fail;refine(SM Q t a c 0 w X zK).mono ?_;rintro e W ⟨rfl,hw⟩;subst W;have ap:=AA t (LL t.n);generalize skip t 0=i0 at *;go_wp2_with fail;go_loopw [3,4] (λv u wr=>∃(f i:Nat) (L:List TC),i<=t.n/\t.n-i<f/\L.length<=i/\u=Iv i/\L.map (·.k)++yX t f i=R/\Hs w wr v L) (λ_ u _=>t.n-(intOf u).toNat)
 .exact⟨t.n+1,i0,[],ap,oM,sM,rfl,HR.o,Ii.nil Cc⟩
 obtain⟨f,i,L,hi,hf,hL,rfl,he,Z⟩:=hrel;obtain⟨f,rfl⟩:∃q,f=q+1:=⟨f-1,oM⟩;obtain⟨va,vc,rfl⟩:=Z.a;have HE:=ua he;have U:=ua Z;have af:Hid (Ei Q wr a t):=by
  obtain⟨P,h⟩:=Z;exact X.y h.y
 by_cases S:i<t.n
 .have hlt':(i:Int)<t.n:=oM;have ac:=ua (Wz t S);have T:Hid (L.map (·.k)++(if (vO t i).1.e=0 then [(vO t i).1] else (vO t i).1::yX t f (skip t (vO t i).2))=R):=by
   have:=HE;rw[yX,Zp S]at this;exact this
  go_wp2_with fail;refine(z7 Q t a c i wr af S).mono ?_;generalize vO t i=r at *;obtain⟨⟨kk,g,o,p⟩,j⟩:=r;rintro e W ⟨na,nc,sa,sc,rfl,h1,h2,C⟩;simp only at h1 h2 T ac;unfold Jv;simp only;have au:=ua (af.y C);obtain⟨P,A⟩:=U;have HP:=ua A;have ad:Hid (∀W1 v5 s,Kf W W1->zB (λb=>P b\/W1.heap.size<=b) s v5 4 (L.length+1) (L.flatMap Hj++Hj ⟨⟨kk,g,o,p⟩,na,nc,sa,sc⟩)->zT P W1 s->Hs w s v5 (L++[⟨⟨kk,g,o,p⟩,na,nc,sa,sc⟩])/\(∀b,W.heap.size<=b->b<W1.heap.size->s.heap[b]?=W1.heap[b]?)):=λW1 v5 s k2 ho hg =>
   ⟨unp (x:=⟨⟨kk,g,o,p⟩,na,nc,sa,sc⟩) A C k2 h1 h2 ho hg,λb av an=>hg.d b an (λq=>oG ((A.a b q).2) C.l)⟩
  have ak:Hid (∀W1,Kf W W1->zB P W1 (Sl va L.length vc) 4 L.length (L.flatMap Hj)):=λW1 k2=>A.k.on (λb hb=>(k2.d b (oG ((A.a b hb).2) C.l) (λe=>e)).trans (C.d b (A.a b hb).2 (λe=>e)));have al:Hid (∀W1:Wl,Src prog 4 134 (Sl (Sm W1.heap.size 0) 1 1) 1 (Hj ⟨⟨kk,g,o,p⟩,na,nc,sa,sc⟩) (W1.alloc (Oc #[Bv kk,Iv g,Sl na o.length nc,Sl sa p.length sc] 140))):=λW1=>usg W1 ⟨⟨kk,g,o,p⟩,na,nc,sa,sc⟩;have V:Hid (Kf W ((W.alloc (Oc #[Bv kk,Iv g,Sl na o.length nc,Sl sa p.length sc] 140)).alloc (Oc #[Bv kk,Iv g,Sl na o.length nc,Sl sa p.length sc] 140))):=zY.c zY;have ab:Hid (((W.alloc (Oc #[Bv kk,Iv g,Sl na o.length nc,Sl sa p.length sc] 140)).alloc (Oc #[Bv kk,Iv g,Sl na o.length nc,Sl sa p.length sc] 140)).heap[W.heap.size]?=some (Oc #[Bv kk,Iv g,Sl na o.length nc,Sl sa p.length sc] 140)):=Vr (xC W _ _ rfl) _;have ae:Hid (Src prog 4 134 (Sl (Sm (W.heap.size+1) 0) 1 1) 1 (Hj ⟨⟨kk,g,o,p⟩,na,nc,sa,sc⟩) ((W.alloc (Oc #[Bv kk,Iv g,Sl na o.length nc,Sl sa p.length sc] 140)).alloc (Oc #[Bv kk,Iv g,Sl na o.length nc,Sl sa p.length sc] 140))):=by
   have:=al (W.alloc (Oc #[Bv kk,Iv g,Sl na o.length nc,Sl sa p.length sc] 140));rwa [show(W.alloc (Oc #[Bv kk,Iv g,Sl na o.length nc,Sl sa p.length sc] 140)).heap.size=W.heap.size+1 by simp]at this
  have I:=ak _ V;have ai:L.length+1<=16777216:=oM;by_cases O:kk=0
  .subst O;have e:=T;rw[Zp rfl]at e;go_wp2_with (at_builtin;refine jM rfl _ _ 134 134 rfl rfl rfl SP (Q:=P) (n:=L.length) (cs:=L.flatMap Hj) (m:=1) (news:=Hj ⟨⟨0,g,o,p⟩,na,nc,sa,sc⟩) I ae ai ?_;intro v5 s H F aa;let⟨z,D⟩:=ad _ _ _ V H F;have E:=(D W.heap.size zD sO).trans ab;have Y:s.cell? (Ad W.heap.size 0)=some (Bv 0):=uN E rfl;have aq:=ud Y;obtain⟨J,N,rfl⟩:=z.a;have B:Hid (Hs w s (Sl J (L++[(⟨⟨0,g,o,p⟩,na,nc,sa,sc⟩:TC)]).length N) (L++[(⟨⟨0,g,o,p⟩,na,nc,sa,sc⟩:TC)])):=z;clear H F aa z D E I);go_ret;have G:(L++[(⟨⟨0,g,o,p⟩,na,nc,sa,sc⟩:TC)]).length=R.length:=(by rw[<-e];simp);have h5:=B;rw[G]at h5;exact⟨J,N,_,by rw[<-G,zJ];rfl,by rw[Dt];exact e,h5⟩
  have hk0':(kk==0)=false:=by simpa using O
  have e:=T;rw[Zn O]at e;let⟨aw,ah⟩:=ac O;have aj:Hid (L.map (·.k)++(⟨kk,g,o,p⟩::yX t f (skip t j))=R):=e;have ay:=Zz t j;have ao:=AA t ah;go_wp2_with (at_builtin;refine jM rfl _ _ 134 134 rfl rfl rfl SP (Q:=P) (n:=L.length) (cs:=L.flatMap Hj) (m:=1) (news:=Hj ⟨⟨kk,g,o,p⟩,na,nc,sa,sc⟩) I ae.o ai ?_;intro v5 s H F aa;let⟨z,D⟩:=ad.o _ _ _ V H F;have E:=(D W.heap.size zD sO).trans ab;have Y:s.cell? (Ad W.heap.size 0)=some (Bv kk):=uN E rfl;have aq:=ud Y;obtain⟨J,N,rfl⟩:=z.a;have B:Hid (Hs w s (Sl J (L++[(⟨⟨kk,g,o,p⟩,na,nc,sa,sc⟩:TC)]).length N) (L++[(⟨⟨kk,g,o,p⟩,na,nc,sa,sc⟩:TC)])):=z;clear H F aa z D E I);let⟨P5,ag⟩:=B.o;have am:Hid (Ei Q s a t):=X.o.y ag.y;clear ag;refine(SM Q t a c j s am.o ah).mono ?_;rintro e W6 ⟨rfl,hw⟩;subst W6;generalize skip t j=j2 at *;go_wp2;go_roundw
  .exact⟨f,j2,L++[(⟨⟨kk,g,o,p⟩,na,nc,sa,sc⟩:TC)],ao,oM,sO,rfl,by rw[Dt,Ce];exact aj.o,by rw[zJ]at B;exact B.o⟩
  simp[intOf];omega
 have hlt':¬(i:Int)<t.n:=oM;go_wp2;go_ret;have e:=HE;rw[yX,Zn S,Dl]at e;have G:L.length=R.length:=by rw[<-e];simp
 rw[G]at U;exact⟨va,vc,L,by rw[G];rfl,e,U⟩
def uU(s d:Nat)(k:Int):Nat×Nat :=
 if s=0 then (if k=94 then (1,0) else if k=110 then (2,0) else (7,0))
 else if s=1 then (if k=110 then (2,0) else (7,0))
 else if s=2 then (if k=61 then (3,0) else (7,0))
 else if s=5 then (if k=110 then (6,d) else (7,0))
 else if k=33\/k=38 then (4,d)
 else if k=110\/k=34\/k=91\/k=46 then (6,d)
 else if k=94 then (5,d)
 else if k=40 then (3,d+1)
 else if s=4 then (7,0)
 else if s=6/\(k=42\/k=63) then (3,d)
 else if k=47 then (3,d)
 else if k=41/\0<d then (6,d-1)
 else if k=59/\d=0 then (0,0)
 else (7,0)
def Wt(r:Nat×Nat)(w:Wl)(e:Ending)(w':Wl):Prop:=e=Rt (.tuple #[Iv r.1,Iv r.2])/\w'=w
def Ry{r:Nat×Nat}{x y w}(h:r=(x,y)):Wt r w (Rt (.tuple #[Iv x,Iv y])) w:=by subst h;exact⟨rfl,rfl⟩
def zz(s d:Nat)(k:Int)w(e:s=0\/s=1\/s=2\/s=5)(j:d<=1048576) :
  Cs 132 #[Iv s,Iv d,Bv k] w (Wt (uU s d k) w):=by
 rcases(show(k=94\/k=110\/k=61)\/(¬k=94/\¬k=110/\¬k=61) by omega) with h|⟨a,b,c⟩
 .rcases h with rfl|rfl|rfl<;>rcases e with rfl|rfl|rfl|rfl
  all_goals (
   go_enter func132,ntmps132;go_wp2;go_ret2;exact Ry rfl)
 have f:=beq_false_of_ne a;have g:=beq_false_of_ne b;have i:=beq_false_of_ne c;rcases e with rfl|rfl|rfl|rfl;all_goals (
  go_enter func132,ntmps132;go_wp2;go_ret2;exact Ry (x:=7) (y:=0) (by simp[uU,a,b,c]))
def y1(s d:Nat)(k:Int)w(a:s=3\/s=4\/s=6)(O:d<=1048576) :
  Cs 132 #[Iv s,Iv d,Bv k] w (Wt (uU s d k) w):=by
 rcases(show(k=33\/k=38\/k=110\/k=34\/k=91\/k=46\/k=94\/k=40\/k=42\/k=63\/k=47)\/(¬k=33/\¬k=38/\¬k=110/\¬k=34/\¬k=91/\¬k=46/\¬k=94/\¬k=40/\¬k=42/\¬k=63/\¬k=47) by omega) with h|⟨f,j,l,m,n,o,p,r,t,g,i⟩
 .rcases h with rfl|rfl|rfl|rfl|rfl|rfl|rfl|rfl|rfl|rfl|rfl<;>rcases a with rfl|rfl|rfl
  all_goals (
   go_enter func132,ntmps132;go_wp2;go_ret2;exact Ry rfl)
 have z:=beq_false_of_ne f;have E:=beq_false_of_ne j;have F:=beq_false_of_ne l;have G:=beq_false_of_ne m;have H:=beq_false_of_ne n;have I:=beq_false_of_ne o;have J:=beq_false_of_ne p;have L:=beq_false_of_ne r;have N:=beq_false_of_ne t;have A:=beq_false_of_ne g;have B:=beq_false_of_ne i;by_cases c:k=41
 .subst c;by_cases b:d=0
  .subst b;rcases a with rfl|rfl|rfl;all_goals (
    go_enter func132,ntmps132;go_wp2;go_ret2;exact Ry rfl)
  obtain⟨q,rfl⟩:∃q,d=q+1:=⟨d-1,oM⟩;have u:(0:Int)<((q+1:Nat):Int):=oM;have v:((q+1:Nat):Int)-1=(q:Int):=oM;rcases a with rfl|rfl|rfl;all_goals (
   go_enter func132,ntmps132;go_wp2;go_ret2;exact⟨by congr 3<;>simp[uU],rfl⟩)
 have C:=beq_false_of_ne c;by_cases e:k=59
 .subst e;by_cases b:d=0
  .subst b;rcases a with rfl|rfl|rfl;all_goals (
    go_enter func132,ntmps132;go_wp2;go_ret2;exact Ry rfl)
  have u:((d:Int)==0)=false:=by simpa using b
  have v:¬(d:Int)=0:=oM;rcases a with rfl|rfl|rfl;all_goals (
   go_enter func132,ntmps132;go_wp2;go_ret2;exact Ry (x:=7) (y:=0) (by simp[uU,b]))
 have D:=beq_false_of_ne e;rcases a with rfl|rfl|rfl;all_goals (
  go_enter func132,ntmps132;go_wp2;go_ret2;exact Ry (x:=7) (y:=0) (by simp[uU,f,j,l,m,n,o,p,r,t,g,i,c,e]))
def y2(s d:Nat)(k:Int)w(b:s<7)(a:d<=1048576) :
  Cs 132 #[Iv s,Iv d,Bv k] w (Wt (uU s d k) w):=by
 rcases(show(s=0\/s=1\/s=2\/s=5)\/(s=3\/s=4\/s=6) by omega) with h|h
 .exact zz s d k w h a
 exact y1 s d k w h a
def y4{α:Type}(P:α->Prop){p:Prop}[Decidable p]{a b:α}(c:P a)(d:P b):P (if p then a else b):=by
 split
 .exact c
 exact d
def y5 s d k:(uU s d k).1<=7/\(uU s d k).2<=d+1:=by
 show(λr:Nat×Nat=>r.1<=7/\r.2<=d+1) (uU s d k);unfold uU;repeat' (refine y4 (λr:Nat×Nat=>r.1<=7/\r.2<=d+1) ?_ ?_)
 all_goals (refine⟨?_,?_⟩<;>simp<;>omega)
structure Hc(Q:Np)(w:Wl)(b o:Nat)(k:zI):Prop where
 e:w.cell? (Ad b o)=some (Bv k.e)
 f:w.cell? (Ad b (o+1))=some (Iv k.f)
 nm:∃a c,w.cell? (Ad b (o+2))=some (Sl a k.nm.length c)/\Ints Q .u8 w a k.nm.length (lf k.nm)
 set:∃a c,w.cell? (Ad b (o+3))=some (Sl a k.set.length c)/\Ints Q .i64 w a k.set.length (lf k.set)
def Bh(Q:Np)(w:Wl)(a:Oa)(l:List zI):Prop:=l = []\/∃b off,a=some (Ad b off)/\∀i x,l[i]?=some x->Hc Q w b (off+i*4) x
def Hc.h{Q w w' b o k}(h:Hc Q w b o k)(t:Bw w w'):Hc Q w' b o k:=by
 obtain⟨e,f,⟨a,c,g,i⟩,⟨d,c',j,l⟩⟩:=h;exact⟨ue e t,ue f t,⟨a,c,ue g t,i.h t⟩,⟨d,c',ue j t,l.h t⟩⟩
def Bh.h{Q w w' a l}(h:Bh Q w a l)(t:Bw w w'):Bh Q w' a l:=by
 rcases h with h|⟨b,off,e,h⟩
 .exact .inl h
 exact .inr ⟨b,off,e,λi x c=>(h i x c).h t⟩
def Bh.at{Q w a l}(h:Bh Q w a l){i}(c:i<l.length):∃b off,a=some (Ad b off)/\∀i x,l[i]?=some x->Hc Q w b (off+i*4) x:=by
 rcases h with h|h
 .subst h;simp at c
 exact h
def Hs.a{w0 wr a n c L}(h:Hs w0 wr (Sl a n c) L):Bh (zF w0 wr) wr a (L.map (·.k)):=by
 obtain⟨P,h⟩:=h;rcases h.k with⟨_,q,_⟩|⟨g,cap,e,w,s,t,o,u⟩
 .exact .inl (by rw[Ic q];rfl)
 injection e with e1 e2 e3;subst e1;refine .inr ⟨g,0,rfl,λi x m=>?_⟩;rw[Ev]at m;obtain⟨y,f,rfl⟩:=Hn.1 m;have v:=(Bz.1 f).1;have r:=xL Hj 4 SO L;have d:∀j,j<4->wr.cell? (Ad g (0+i*4+j))=(Hj y)[j]?:=λj p=>by
  rw[Bp,o (i*4+j) (by rw[r];omega),yA Hj 4 SO L i j y f p]
 have l:=h.nm y (Cn f);exact⟨d 0 oM,d 1 oM,⟨y.na,y.nc,d 2 oM,l.1.g (λb q=>q.1)⟩,⟨y.sa,y.sc,d 3 oM,l.2.g (λb q=>q.1)⟩⟩
def uI(n:Nat):List zI->Nat->Nat->Int
 |[],s,_=>if s=0 then -1 else n
 |x::r,s,d=>if x.e=0 then x.f else if (uU s d x.e).1=7 then x.f else uI n r (uU s d x.e).1 (uU s d x.e).2
def yd{α:Type}{l:List α}{i:Nat}{x:α}(h:l[i]?=some x):l.drop i=x::l.drop (i+1):=by
 let⟨a,e⟩:=Bz.1 h;rw[Tb a,e]
def uiF Q l a(c n:Nat)w(C:Bh Q w a l)(L:l.length<=1048576) :
  Cs 70 #[Sl a l.length c,Iv n] w λe w'=>e=Rt (Iv (uI n l 0 0))/\w'=w:=by
 have A:=ua C;let⟨R,t⟩:=nm (uI n l 0 0);rw[t];go_enter func70,ntmps70;go_wp2;go_loopw [5,6,7] (λH G q wr=>∃(s d i:Nat),s<7/\d<=i/\i<=l.length/\H=Iv s/\G=Iv d/\q=Iv i/\wr=w/\uI n (l.drop i) s d=R) (λ_ _ q _=>l.length-(intOf q).toNat)
 .exact⟨0,0,0,oM,oM,oM,rfl,rfl,rfl,rfl,t⟩
 obtain⟨s,d,i,E,I,J,rfl,rfl,rfl,rfl,D⟩:=hrel;have k:=ua D;by_cases v:i<l.length
 .have hlt':(i:Int)<l.length:=oM;obtain⟨b,off,rfl,u⟩:=A.at v;obtain⟨x,o⟩:∃x,l[i]?=some x:=⟨_,Bb v⟩;have m:=u i x o;have F:=m.e;have O:=m.f;have h:Hid ((if x.e=0 then (x.f:Int) else if (uU s d x.e).1=7 then (x.f:Int) else uI n (l.drop (i+1)) (uU s d x.e).1 (uU s d x.e).2)=R):=by
   have:=k.o;rw[yd o,uI]at this;exact this
  clear k m u o;by_cases g:x.e=0
  .have e:=h.o;rw[Zp g]at e;rw[g]at F;clear h;go_wp2;go_ret;exact⟨vk rfl,rfl⟩
  have h0':(x.e==0)=false:=by simpa using g
  have e:=h.o;rw[Zn g]at e;have j:Hid ((if (uU s d x.e).1=7 then (x.f:Int) else uI n (l.drop (i+1)) (uU s d x.e).1 (uU s d x.e).2)=R):=e;clear e h;have z:Hid (∀w,Cs 132 #[Iv s,Iv d,Bv x.e] w (Wt (uU s d x.e) w)):=λw=>y2 s d x.e w E oM;let⟨r1,r2⟩:=y5 s d x.e;generalize uU s d x.e=p at *;obtain⟨s',B⟩:=p;simp only at r1 r2 j;go_wp2_with fail;refine(z.o wr).mono ?_;rintro e W ⟨rfl,N⟩;subst W;by_cases r:s'=7
  .subst r;have e:=j.o;rw[Zp rfl]at e;clear j;go_wp2;go_ret;exact⟨vk rfl,rfl⟩
  have h7':((s':Int)==7)=false:=sO;have h7'':¬(s':Int)=7:=oM;have e:=j;rw[Zn r]at e;have y:=ua e;go_wp2;go_roundw
  .exact⟨s',B,i+1,oM,oM,oM,rfl,rfl,by go_num,by trivial,y.o⟩
  simp[intOf];omega
 have hlt':¬(i:Int)<l.length:=oM;have e:=k.o;rw[Ki oM,uI]at e;by_cases g:s=0
 .subst g;rw[Zp rfl]at e;go_wp2;go_ret;exact⟨vk rfl,rfl⟩
 have h0':((s:Int)==0)=false:=sO;have h0'':¬(s:Int)=0:=oM;rw[Zn g]at e;go_wp2;go_ret;exact⟨vk rfl,rfl⟩
def Ff(Q:Np)(w:Wl)(a:Oa)(c:List LI):Prop :=
 c = []\/∃b off,a=some (Ad b off)/\∀i z,c[i]?=some z->∃na nc,w.cell? (Ad b (off+i))=some (Sl na z.length nc)/\Ints Q .u8 w na z.length (lf z)
def Ff.h{Q w w' a c}(h:Ff Q w a c)(t:Bw w w'):Ff Q w' a c:=by
 rcases h with h|⟨b,off,e,h⟩
 .exact .inl h
 refine .inr ⟨b,off,e,λi z g=>?_⟩;let⟨na,nc,d,f⟩:=h i z g;exact⟨na,nc,ue d t,f.h t⟩
def Ff.at{Q w a c}(h:Ff Q w a c){i}(d:i<c.length):∃b off,a=some (Ad b off)/\∀i z,c[i]?=some z->∃na nc,w.cell? (Ad b (off+i))=some (Sl na z.length nc)/\Ints Q .u8 w na z.length (lf z):=by
 rcases h with h|h
 .subst h;simp at d
 exact h
def zW(z:LI):Prop:=∀x∈z,0<=x/\x<=255
def zW.h{z}(h:zW z):Cz z.length (lf z):=λi a=>by
 unfold lf;rw[El,Bb a];exact h _ (Gi a)
def FT{y z}(e:zW y)(f:zW z):str y.length (lf y)=str z.length (lf z)↔y=z:=by
 rw[uwd _ _ _ _ e.h f.h];constructor
 .rintro⟨b,c⟩;refine List.ext_getElem b (λi a d=>?_);have:=c i a;unfold lf at this;simpa[El,a,d] using this
 rintro rfl;exact⟨rfl,λ_ _=>rfl⟩
def QQ{a b:ByteArray}(h:a.toList=b.toList):a=b:=by
 rw[ByteArray.toList_eq,ByteArray.toList_eq]at h;exact ByteArray.ext (Array.ext' h)
def vN(z:LI):List LI->Nat->Int
 |[],_=>-1
 |y::r,i=>if y=z then i else vN z r (i+1)
def qH Q Q' d z a g c c' w(G:Ff Q w a d)(H:Ints Q' .u8 w g z.length (lf z))(I:∀y∈d,zW y)(J:zW z)(S:d.length<=1048576) :
  Cs 72 #[Sl a d.length c,Sl g z.length c'] w λe w'=>e=Rt (Iv (vN z d 0))/\∃m,w'=w.drewN m:=by
 have D:=ua G;have o:Hid (∀m,(convert 22 9 (Sl g z.length c')).run prog (w.drewN m)=.ok (.string (str z.length (lf z))) (w.drewN m)):=λm=>vg Q' g z.length c' (lf z) _ (H.h (Be (zH w) m));have A:=ua I;let⟨R,x⟩:=nm (vN z d 0);rw[x];go_enter func72,ntmps72;go_wp2;go_loopw [5] (λu wr=>∃(i m:Nat),i<=d.length/\u=Iv i/\wr=w.drewN m/\vN z (d.drop i) i=R) (λu _=>d.length-(intOf u).toNat)
 .exact⟨0,0,oM,rfl,rfl,x⟩
 obtain⟨i,m,P,rfl,rfl,N⟩:=hrel;have v:=ua N;by_cases p:i<d.length
 .have hlt':(i:Int)<d.length:=oM;obtain⟨b,off,rfl,L⟩:=D.at p;obtain⟨y,r⟩:∃y,d[i]?=some y:=⟨_,Bb p⟩;let⟨na,nc,X,F⟩:=L i y r;have l:Hid (∀m,(convert 22 9 (Sl na y.length nc)).run prog (w.drewN m)=.ok (.string (str y.length (lf y))) (w.drewN m)):=λm=>vg Q na y.length nc (lf y) _ (F.h (Be (zH w) m));have k:=ua (FT (A y (Cn r)) J);have j:Hid ((if y=z then (i:Int) else vN z (d.drop (i+1)) (i+1))=R):=by
   have:=v;rw[yd r,vN]at this;exact this
  have T:∀n,(convert 22 9 (Sl na y.length nc)).run prog ((w.drewN m).drewN n)=.ok (.string (str y.length (lf y))) ((w.drewN m).drewN n):=λn=>by rw[Qw];exact l _
  have V:∀n,(convert 22 9 (Sl g z.length c')).run prog ((w.drewN m).drewN n)=.ok (.string (str z.length (lf z))) ((w.drewN m).drewN n):=λn=>by rw[Qw];exact o.o _
  have E:Hid (∀n,∃q,(w.drewN m).drewN n=w.drewN q):=λn=>⟨_,Qw _ _ _⟩;have U:=l.o;have W:=o.o;clear l o;generalize str y.length (lf y)=s at *;generalize str z.length (lf z)=t at *;by_cases f:y=z
  .have e:=j.o;rw[Zp f]at e;have C:Hid ((i:Int)=R):=e;obtain rfl:s=t:=k.o.2 f;clear j e f k;go_wp2;go_quiet (fail);go_wp2;go_ret;exact⟨vk C.o,E.o _⟩
  have e:=j.o;rw[Zn f]at e;have B:Hid (vN z (d.drop (i+1)) (i+1)=R):=e;have O:¬s=t:=λq=>f (k.o.1 q);have hs':(s.toList==t.toList)=false:=by
   rw[Ra];exact λq=>O (QQ q)
  clear j e f;go_wp2;go_quiet (fail);go_wp2;exact⟨⟨i+1,m+nq,p,sM,rfl,B.o⟩,by simp[intOf];omega⟩
 have hlt':¬(i:Int)<d.length:=oM;have e:=v.o;rw[Ki oM,vN]at e;go_wp2;go_ret;exact⟨vk rfl,m,rfl⟩
open Go.Shelf
def Tryz.fJ:Go.Shelf.Ren:=⟨fun|137=>212|217=>224|266=>239|n=>n,fun|9=>9|5=>5|3=>3|n=>n,fun|n=>n⟩
def Tryz.lays92:Go.Proofs.Lays.n137 prog Tryz.fJ:={
 mixed:=rR
 f137:=func212.trans (Bj some rR)
 f217:=func224.trans (Bj some rR)
 f266:=func239.trans (Bj some rR)
 t3:=underlying3
 a3:=isAgg3
 z3:=sizeOf3
 v3:=zeroValue3
 t5:=underlying5
 a5:=isAgg5
 z5:=sizeOf5
 v5:=zeroValue5
 t9:=underlying9
 a9:=isAgg9
 z9:=sizeOf9
 v9:=zeroValue9 }
def Tryz.fI:Go.Shelf.Ren:=⟨fun|5=>145|7=>194|n=>n,fun|23=>82|25=>9|3=>3|4=>4|20=>20|n=>n,fun|n=>n⟩
def Tryz.clone67:Go.Proofs.SlLaysW.n5 prog Tryz.fI:={
 mixed:=rR
 f5:=⟨f145.name,dC,func145.trans (Bj some rR)⟩
 f7:=func194.trans (Bj some rR)
 t4:=underlying4
 a4:=isAgg4
 z4:=sizeOf4
 v4:=zeroValue4
 t20:=underlying20
 a20:=isAgg20
 z20:=sizeOf20
 v20:=zeroValue20
 t23:=underlying82
 a23:=isAgg82
 z23:=sizeOf82
 v23:=zeroValue82 }
def Tryz.eB:Go.Shelf.Ren:=⟨fun|7=>147|10=>197|n=>n,fun|23=>82|26=>9|3=>3|28=>247|0=>0|27=>246|33=>282|4=>4|n=>n,fun|n=>n⟩
def Tryz.eA:Go.Proofs.SlLaysZ.n7 prog Tryz.eB:={
 mixed:=rR
 f7:=⟨f147.name,dC,func147.trans (Bj some rR)⟩
 f10:=⟨f197.name,dC,func197.trans (Bj some rR)⟩
 t0:=underlying0
 a0:=isAgg0
 z0:=sizeOf0
 v0:=zeroValue0
 t4:=underlying4
 a4:=isAgg4
 z4:=sizeOf4
 v4:=zeroValue4
 t23:=underlying82
 a23:=isAgg82
 z23:=sizeOf82
 v23:=zeroValue82
 t26:=underlying9
 a26:=isAgg9
 z26:=sizeOf9
 v26:=zeroValue9
 t27:=underlying246
 a27:=isAgg246
 z27:=sizeOf246
 v27:=zeroValue246
 t28:=underlying247
 a28:=isAgg247
 z28:=sizeOf247
 v28:=zeroValue247
 t33:=underlying282
 a33:=isAgg282
 z33:=sizeOf282
 v33:=zeroValue282 }
def Tryz.eD:Go.Shelf.Ren:=⟨fun|6=>146|8=>195|9=>196|11=>215|13=>217|12=>216|23=>235|24=>236|14=>226|15=>227|16=>228|17=>229|18=>230|19=>231|20=>232|21=>233|22=>234|25=>241|26=>242|27=>243|28=>244|29=>245|30=>246|31=>248|n=>n,fun|26=>9|28=>247|24=>213|0=>0|3=>3|37=>313|48=>330|50=>89|4=>4|40=>323|39=>322|45=>175|5=>5|9=>9|51=>334|55=>338|57=>341|58=>37|33=>282|n=>n,fun|n=>n⟩
def Tryz.fH:Go.Proofs.SlLaysZ.n6 prog Tryz.eD:={
 mixed:=rR
 f6:=⟨f146.name,dC,func146.trans (Bj some rR)⟩
 f8:=⟨f195.name,dC,func195.trans (Bj some rR)⟩
 f11:=⟨f215.name,dC,func215.trans (Bj some rR)⟩
 t0:=underlying0
 a0:=isAgg0
 z0:=sizeOf0
 v0:=zeroValue0
 t24:=underlying213
 a24:=isAgg213
 z24:=sizeOf213
 v24:=zeroValue213
 t26:=underlying9
 a26:=isAgg9
 z26:=sizeOf9
 v26:=zeroValue9
 t28:=underlying247
 a28:=isAgg247
 z28:=sizeOf247
 v28:=zeroValue247
 i26:=by kernel_rfl }
def Tryz.fK:Go.Shelf.Ren:=⟨fun|6=>196|8=>217|9=>216|19=>235|20=>236|21=>226|22=>227|23=>228|24=>229|25=>230|26=>231|27=>232|28=>233|29=>234|36=>241|31=>242|32=>243|37=>244|38=>245|39=>246|41=>248|n=>n,fun|27=>213|29=>9|3=>3|32=>313|26=>213|0=>0|44=>330|46=>89|4=>4|36=>323|35=>322|41=>175|5=>5|9=>9|53=>334|57=>338|63=>341|64=>37|n=>n,fun|n=>n⟩
def Tryz.eC:Go.Proofs.SlLaysM.n6 prog Tryz.fK:={
 mixed:=rR
 f6:=⟨f196.name,dC,func196.trans (Bj some rR)⟩
 f8:=func217.trans (Bj some rR)
 f9:=⟨f216.name,dC,func216.trans (Bj some rR)⟩
 f19:=func235.trans (Bj some rR)
 f20:=func236.trans (Bj some rR)
 f21:=⟨f226.name,dC,func226.trans (Bj some rR)⟩
 f22:=⟨f227.name,dC,func227.trans (Bj some rR)⟩
 f23:=⟨f228.name,dC,func228.trans (Bj some rR)⟩
 f24:=⟨f229.name,dC,func229.trans (Bj some rR)⟩
 f25:=⟨f230.name,dC,func230.trans (Bj some rR)⟩
 f26:=⟨f231.name,dC,func231.trans (Bj some rR)⟩
 f27:=⟨f232.name,dC,func232.trans (Bj some rR)⟩
 f28:=⟨f233.name,dC,func233.trans (Bj some rR)⟩
 f29:=⟨f234.name,dC,func234.trans (Bj some rR)⟩
 f31:=func242.trans (Bj some rR)
 f32:=func243.trans (Bj some rR)
 f36:=⟨f241.name,dC,func241.trans (Bj some rR)⟩
 f37:=⟨f244.name,dC,func244.trans (Bj some rR)⟩
 f38:=⟨f245.name,dC,func245.trans (Bj some rR)⟩
 f39:=⟨f246.name,dC,func246.trans (Bj some rR)⟩
 f41:=⟨f248.name,dC,func248.trans (Bj some rR)⟩
 t0:=underlying0
 a0:=isAgg0
 z0:=sizeOf0
 v0:=zeroValue0
 t3:=underlying3
 a3:=isAgg3
 z3:=sizeOf3
 v3:=zeroValue3
 t4:=underlying4
 a4:=isAgg4
 z4:=sizeOf4
 v4:=zeroValue4
 t5:=underlying5
 a5:=isAgg5
 z5:=sizeOf5
 v5:=zeroValue5
 t9:=underlying9
 a9:=isAgg9
 z9:=sizeOf9
 v9:=zeroValue9
 t26:=underlying213
 a26:=isAgg213
 z26:=sizeOf213
 v26:=zeroValue213
 t27:=underlying213
 a27:=isAgg213
 z27:=sizeOf213
 v27:=zeroValue213
 t29:=underlying9
 a29:=isAgg9
 z29:=sizeOf9
 v29:=zeroValue9
 t32:=underlying313
 a32:=isAgg313
 z32:=sizeOf313
 v32:=zeroValue313
 t35:=underlying322
 a35:=isAgg322
 z35:=sizeOf322
 v35:=zeroValue322
 t36:=underlying323
 a36:=isAgg323
 z36:=sizeOf323
 v36:=zeroValue323
 t41:=underlying175
 a41:=isAgg175
 z41:=sizeOf175
 v41:=zeroValue175
 t44:=underlying330
 a44:=isAgg330
 z44:=sizeOf330
 v44:=zeroValue330
 t46:=underlying89
 a46:=isAgg89
 z46:=sizeOf89
 v46:=zeroValue89
 t53:=underlying334
 a53:=isAgg334
 z53:=sizeOf334
 v53:=zeroValue334
 t57:=underlying338
 a57:=isAgg338
 z57:=sizeOf338
 v57:=zeroValue338
 t63:=underlying341
 a63:=isAgg341
 z63:=sizeOf341
 v63:=zeroValue341
 t64:=underlying37
 a64:=isAgg37
 z64:=sizeOf37
 v64:=zeroValue37 }
section
open M (OpD ug Gr)
structure Rv where
 ta:Option Addr
 tc:Nat
 v2:Value
 v3:Value
 v4:Value
 v5:Value
 v6:Value
 v7:Value
 v8:Value
abbrev Ut(t:Tx)(r:Rv)(a:Oa)(i:Int):Array Value:=#[Sl a t.n r.tc,Iv i,r.v2,r.v3,r.v4,r.v5,r.v6,r.v7,r.v8]
def BJ(rb:Nat)(w:Wl)(a:Oa)(t:Tx):Prop:=Ints (λb=>b<w.heap.size/\b≠rb) .u8 w a t.n t.T
abbrev KB(rb:Nat)(W W':Wl):Prop:=zA (λb=>b=rb) W W'
structure Sc(rb:Nat)(t:Tx)(r:Rv)(i:Nat)(W:Wl):Prop where
 e:zG W rb (Ut t r r.ta (i:Nat))
 s:BJ rb W r.ta t
 le:i<=t.n
abbrev rp(rb:Nat):Vl:=.pointer (Sm rb 0)
section
variable {rb:Nat} {t:Tx} {r:Rv} {i j:Nat} {fr:Int} {W W':Wl} {P:Ew}
def jd{w w':Wl}(k:Kf w w'):KB rb w w':=k.h (λb q=>q.elim)
def Kw{w W:Wl}(k:KB rb w W)(o:Nat)(v:Vl):KB rb w (W.setCell (Ad rb o) v):=k.c (Dh (C:=λb=>b=rb) rfl)
def BJ.y{a:Oa}(h:BJ rb W a t)(k:KB rb W W'):BJ rb W' a t:=(Ints.on h (λb c=>k.d b c.1 c.2)).g (λb c=>⟨Ba c.1 k.l,c.2⟩)
def Sc.kp(h:Sc rb t r i W)(k:Kf W W'):Sc rb t r i W':=⟨h.e.on k.q,h.s.y (jd k),h.le⟩
def Sc.to(h:Sc rb t r i W)(k:KB rb W W')(a:zG W' rb (Ut t r r.ta (j:Nat)))(b:j<=t.n):Sc rb t r j W':=⟨a,h.s.y k,b⟩
def Sc.set(h:Sc rb t r i W){x:Int}(c:x=(j:Nat))(a:j<=t.n):Sc rb t r j (W.setCell (Ad rb 1) (Iv x)):=by
 subst c;exact h.to (Dh (C:=λb=>b=rb) rfl) (h.e.set 1 _) a
def Sc.at(h:Sc rb t r j W)(c:i<t.n):∃b off,r.ta=some (Ad b off)/\b≠rb/\b<W.heap.size/\∀j,j<t.n->W.cell? (Ad b (off+j))=some (Bv (t.T j)):=by
 rcases h.s with h|⟨b,off,e,a,h⟩
 .omega
 exact⟨b,off,e,a.2,a.1,h⟩
def JP(h:Sc rb t r i W)(a:i<t.n)(q:∀W',Sc rb t r (i+1) W'->KB rb W W'->P (Rt (Bv (t.T i))) W') :
  Cs 210 #[rp rb,Iv fr] W P:=by
 have w:=t.le;have v:=h.le;have H:=ua h;have k:=ua q;let⟨z,p,l⟩:=h.e.x;go_enter func210,ntmps210;go_upto_region 1 with fail;let⟨b,off,e,m,o,f⟩:=H.at a;have u:=ua (f i a);have hlt':(i:Int)<t.n:=oM;have y:((i:Int)==(t.n:Int))=false:=sO;go_quiet (fail);go_upto_region 4 with fail;have d:=ua ((H.kp (ur W nq)).set (j:=i+1) (x:=(i:Int)+1) sM a);have g:=ua (Kw (rb:=rb) (jd (ur W nq)) 1 (Iv ((i:Int)+1)));generalize (W.drewN nq).setCell (Ad rb 1) (Iv ((i:Int)+1))=V at *;let⟨z,p,l⟩:=d.e.x;let⟨b,off,e,m,o,f⟩:=d.at a;have s:=f i a;have A:IntKind.i64.wrap (((i+1:Nat):Int)-1)=(i:Int):=by rw[show((i+1:Nat):Int)-1=i by omega];exact Rr oM oM
 rw[e]at z;go_quiet (fail);go_wp2;exact k _ (d.kp (ur _ _)) (g.c (jd (ur _ _)))
def JQ{c:Int}(h:Sc rb t r i W)(m:∀W',i<t.n->t.T i=c->Sc rb t r (i+1) W'->KB rb W W'->P (Rt Bt) W')(k:∀W',¬(i<t.n/\t.T i=c)->Sc rb t r i W'->KB rb W W'->P (Rt Bf) W') :
  Cs 189 #[rp rb,Bv c] W P:=by
 have v:=t.le;have u:=h.le;have H:=ua h;have Y:=ua m;have N:=ua k;let⟨z,p,l⟩:=h.e.x;go_enter func189,ntmps189;go_upto_region 1 with fail;by_cases a:i<t.n
 .let⟨b,off,e,o,s,j⟩:=H.at a;have g:=j i a;have hlt':(i:Int)<t.n:=oM;have w:((i:Int)==(t.n:Int))=false:=sO;rw[e]at z;by_cases d:t.T i=c
  .have f:=ua d;rw[d]at g;go_quiet (fail);go_wp2;exact Y _ a f ((H.kp (ur W _)).set sM a) (Kw (jd (ur W _)) _ _)
  have hc':(t.T i != c)=true:=by simpa using d
  go_quiet (fail);go_wp2;exact N _ (λq=>d q.2) (H.kp (ur W _)) (jd (ur W _))
 obtain rfl:i=t.n:=oM;go_quiet (fail);go_wp2;exact N _ (λq=>a q.1) (H.kp (ur W _)) (jd (ur W _))
def YG{c:Int}(h:Sc rb t r i W)(e:∀W' d j,((d=true/\i<t.n/\t.T i=c/\j=i+1)\/(d=false/\¬(i<t.n/\t.T i=c)/\j=i))->Sc rb t r j W'->KB rb W W'->P (Rt (.bool d)) W'):Cs 189 #[rp rb,Bv c] W P :=
 JQ h (λW' a b s k=>e W' true _ (.inl ⟨rfl,a,b,rfl⟩) s k) (λW' a s k=>e W' false _ (.inr ⟨rfl,a,rfl⟩) s k)
def YH c:xM c=if 48<=c/\c<=57 then c-48 else if 97<=c/\c<=102 then c-87 else if 65<=c/\c<=70 then c-55 else -1:=by
 unfold xM Kq;repeat' split
 all_goals simp_all<;>omega
def YI(h:Sc rb t r i W)(m:i<t.n)(e:0<=xM (t.T i))(o:∀W' x,xM (t.T i)=x->0<=x->x<=15->Sc rb t r (i+1) W'->KB rb W W'->P (Rt (Bv x)) W') :
  Cs 223 #[rp rb,Iv fr] W P:=by
 have g:=ua o;go_enter func223,ntmps223;go_wp2_with fail;refine JP h m λV v k=>?_;let⟨l,b1⟩:=t.h i;let⟨c,a⟩:=nm (t.T i);have f:=ua a;rw[a,YH]at e;rw[a]at l b1 ⊢;rcases(show(48<=c/\c<=57)\/(97<=c/\c<=102)\/(65<=c/\c<=70) by (repeat' split at e)<;>omega) with⟨b,d⟩|⟨b,d⟩|⟨b,d⟩
 case' inr.inl=>have j:¬c<=57:=oM
 case' inr.inr=>have j:¬c<=57:=oM
 case' inr.inr=>have p:¬97<=c:=oM
 all_goals
  go_wp2;show P (Rt (Bv _)) _;exact g _ _ (by rw[f.o,YH];(repeat' split)<;>omega) oM oM v k
end
end
section
open M (OpD ug Gr)
def uxm:∀h l:Fin 16,bits BinOp.or IntKind.u8 ((h.val:Int)*16) (l.val:Int)=(h.val:Int)*16+l.val:=by decide +kernel
def uyj{h l}(a:0<=h)(b:h<=15)(c:0<=l)(d:l<=15):bits BinOp.or IntKind.u8 (h*16) l=h*16+l:=by
 have:=uxm ⟨h.toNat,oM⟩ ⟨l.toNat,oM⟩;simp only[show((h.toNat:Nat):Int)=h by omega,show((l.toNat:Nat):Int)=l by omega]at this;exact this
def Xi(cls:Bool):ByteArray:=if cls then ⟨#[93,45,94,10]⟩ else ⟨#[10]⟩
def Xj(cls:Bool)(c:Int):Prop:=c=10\/(cls=true/\(c=93\/c=45\/c=94))
instance (cls:Bool) (c:Int):Decidable (Xj cls c):=by unfold Xj;infer_instance
def uyk cls:∀c:Fin 256,(0<=Lib.indexByte (Xi cls).data.toList c.val.toUInt8)↔Xj cls (c.val:Int):=by cases cls<;>decide +kernel
def us4 cls{c}(a:0<=c)(b:c<=255):0<=Lib.indexByte (Xi cls).data.toList c.toNat.toUInt8↔Xj cls c:=by
 have:=uyk cls ⟨c.toNat,oM⟩;rwa [show(((⟨c.toNat,oM⟩:Fin 256).val:Nat):Int)=c by simp;omega]at this
section
variable {rb:Nat} {t:Tx} {r:Rv} {i j:Nat} {fr:Int} {W W':Wl} {P:Ew}
def uqw(h:Sc rb t r (i+1) W)(E:t.T i=92)(l:Hg t i≠(0,0))(J:∀W' x n,Hg t i=(x,n+1)->Sc rb t r (i+n+1) W'->KB rb W W'->P (Rt (Bv x)) W') :
  Cs 211 #[rp rb,Iv fr] W P:=by
 have m:=ua J;have G:i+1<t.n:=Nat.lt_of_not_le λq=>l (by unfold Hg;rw[Zp (.inl q)]);have b:Hid (Hg t i=_):=(by unfold Hg;exact Zn (λq=>q.elim (λq=>oM) (λq=>q E)));go_enter func211,ntmps211;go_wp2_with fail;refine JP h G λV v k=>?_;let⟨c,F⟩:=nm (t.T (i+1));rw[F]at b ⊢;rcases(show c=110\/c=116\/c=114\/c=92\/c=34\/c=91\/c=93\/c=45\/c=94\/c=120\/(¬c=110/\¬c=116/\¬c=114/\¬c=92/\¬c=34/\¬c=91/\¬c=93/\¬c=45/\¬c=94/\¬c=120) by omega) with rfl|rfl|rfl|rfl|rfl|rfl|rfl|rfl|rfl|rfl|⟨e,a,f,g,z,A,B,C,D,w⟩
 case inr.inr.inr.inr.inr.inr.inr.inr.inr.inl =>
  have d:Hg t i=if i+3<t.n/\0<=xM (t.T (i+2))/\0<=xM (t.T (i+3)) then (xM (t.T (i+2))*16+xM (t.T (i+3)),4) else (0,0):=b.o.trans (by simp[Rx])
  by_cases j:i+3<t.n/\0<=xM (t.T (i+2))/\0<=xM (t.T (i+3))
  .have d:=ua (d.trans (Zp j));obtain⟨e,a,f⟩:=j;go_wp2_with fail;refine YI v oM a λL x p a g v2 H=>?_;have o:=ua (k.c H);go_wp2_with fail;refine YI v2 e f λN y s u g4 v3 I=>?_;go_wp2;rw[uyj a g u g4];exact m _ _ 3 (d.trans (by rw[<-p,<-s])) v3 (o.c I)
  exact aB (d.trans (Zn j)) l
 case inr.inr.inr.inr.inr.inr.inr.inr.inr.inr=>exact aB (b.o.trans (by simp[Rx,e,a,f,g,z,A,B,C,D,w])) l
 all_goals (
  go_wp2;exact m _ _ 1 b v k)
def JI(cls:Bool)(h:Sc rb t r i W)(B:cls=false->i<t.n->t.T i≠34)(f:Bc t i cls≠(0,0))(D:∀W' x n,Bc t i cls=(x,n+1)->Sc rb t r (i+n+1) W'->KB rb W W'->P (Rt (Bv x)) W') :
  Cs 190 #[rp rb,Iv fr,.string (Xi cls)] W P:=by
 have j:=ua D;have o:i<t.n:=Nat.lt_of_not_le λq=>f (by unfold Bc;rw[Zp (.inl q)]);have u:=ua (λ(c:Int) (w:Wl)=>(⟨Any.strings_IndexByte Tryz.lays92 (Xi cls) c w,λz A=>us4 cls z A⟩:_/\(0<=c->c<=255->_)));generalize Xi cls=bs at *;go_enter func190,ntmps190;go_wp2_with fail;refine JP h o λV v k=>?_;have l:=t.h i;let⟨c,b⟩:=nm (t.T i);have g:=ua b;rw[b]at l ⊢;by_cases d:c=92
 .subst d;have p:Bc t i cls=Hg t i:=by unfold Bc;rw[Zn (by rw[g.o];omega),Zp g.o]
  rw[p]at j f;go_wp2_with fail;refine uqw v g f λF x n e v2 C=>?_;go_wp2;exact j _ _ _ e v2 (k.c C)
 have h92':(c==92)=false:=by simpa using d
 have a:¬Xj cls c:=λa=>f (by
  unfold Bc;rw[b,Zn d];rcases a with e|e
  .rw[Zp (.inr e)]
  rw[Zp e];exact ite_self _)
 have s:Hid (Bc t i cls=(c,1)):=(by
  show _=_;unfold Bc;rw[b,Zn (λq=>q.elim oM (λq=>a (.inl q))),Zn d,Zn (λq=>a (.inr q)),Zn (λq=>B q.1 o (b.trans q.2))])
 let⟨E,m⟩:=u c V;replace m:=m l.1 l.2;generalize Lib.indexByte bs.data.toList c.toNat.toUInt8=q at *;have G:=Ix (λq=>a (m.1 q));have y:=ua E;go_wp2_with fail;refine y.mono ?_;rintro e W2 ⟨rfl,H⟩;subst W2;go_wp2;exact j _ _ 0 s v k
end
end
inductive PE where
 |ref (t:zI)
 |thr (c t:zI)
 |str (t:zI)
 |cls (t:zI)
 |dot (t:zI)
 |grp (o:zI) (e:PE) (c:zI)
 |star (e:PE) (t:zI)
 |opt (e:PE) (t:zI)
 |not (t:zI) (e:PE)
 |amp (t:zI) (e:PE)
 |emp
 |seq (a b:PE)
 |alt (a:PE) (t:zI) (b:PE)
def PE.tk:PE->List zI
 |.ref t=>[t]
 |.thr c t=>[c,t]
 |.str t=>[t]
 |.cls t=>[t]
 |.dot t=>[t]
 |.grp o e c=>o::(e.tk++[c])
 |.star e t=>e.tk++[t]
 |.opt e t=>e.tk++[t]
 |.not t e=>t::e.tk
 |.amp t e=>t::e.tk
 |.emp=>[]
 |.seq a b=>a.tk++b.tk
 |.alt a t b=>a.tk++t::b.tk
def PE.ok:PE->Nat->Prop
 |.ref t,_=>t.e=110
 |.thr c t,_=>c.e=94/\t.e=110
 |.str t,_=>t.e=34
 |.cls t,_=>t.e=91
 |.dot t,_=>t.e=46
 |.grp o e c,_=>o.e=40/\c.e=41/\e.ok 5
 |.star e t,l=>1<=l/\t.e=42/\e.ok 0
 |.opt e t,l=>1<=l/\t.e=63/\e.ok 0
 |.not t e,l=>2<=l/\t.e=33/\e.ok 2
 |.amp t e,l=>2<=l/\t.e=38/\e.ok 2
 |.emp,l=>4<=l
 |.seq a b,l=>3<=l/\a.ok 3/\b.ok 2
 |.alt a t b,l=>5<=l/\t.e=47/\a.ok 5/\b.ok 4
def PE.c(e:PE){l m:Nat}(a:l<=m)(h:e.ok l):e.ok m:=by
 cases e<;>first|exact h|exact zP h a|exact⟨zP h.1 a,h.2⟩
def yE:List Int->List OpD
 |[]=>uv 0 0
 |x::r=>r.foldl (λa y=>a++uL (vB y)++[Cq 4 0]) (uL (vB x))
def PE.e(rs ls:List LI):PE->List OpD
 |.ref t=>uv 2 (vN t.nm rs 0)
 |.thr _ t=>uv 3 (vN t.nm ls 0)
 |.str t=>yE t.nm
 |.cls t=>uL t.set
 |.dot _=>uL [0,255]
 |.grp _ e _=>e.e rs ls
 |.star e _=>Bq 6 (e.e rs ls)
 |.opt e _=>uM 5 (e.e rs ls) (uv 0 0)
 |.not _ e=>Bq 7 (e.e rs ls)
 |.amp _ e=>Bq 7 (Bq 7 (e.e rs ls))
 |.emp=>uv 0 0
 |.seq a b=>uM 4 (a.e rs ls) (b.e rs ls)
 |.alt a _ b=>uM 5 (a.e rs ls) (b.e rs ls)
def xO(k:Int)(d:Int):Int:=if k=40 then d+1 else if k=41 then d-1 else d
def jH:Int->List zI->Nat
 |_,[]=>0
 |d,x::r=>if xO x.e d=0 then 1 else jH (xO x.e d) r+1
def kz:Nat->Int->Int->List zI->Int
 |_,_,bar,[]=>bar
 |i,d,bar,x::r=>kz (i+1) (xO x.e d) (if x.e=47/\d=0 then i else bar) r
def uX{k}(h:k≠40)(a:k≠41)d:xO k d=d:=by unfold xO;rw[Zn h,Zn a]
def kB d:xO 40 d=d+1:=rfl
def ju d:xO 41 d=d-1:=rfl
def AB{d x r}(h:xO x.e d≠0):jH d (x::r)=jH (xO x.e d) r+1:=by rw[jH,Zn h]
def kK i d a x r:kz i d a (x::r)=kz (i+1) (xO x.e d) (if x.e=47/\d=0 then i else a) r:=rfl
def Nt(l:List zI)(d:Int):Prop:=(0<d->∀r,jH d (l++r)=l.length+jH d r)/\∀i a r,kz i d a (l++r)=kz (i+l.length) d a r
def Nt.app{a b d}(h:Nt a d)(c:Nt b d):Nt (a++b) d :=
 ⟨λe r=>by rw[Ce,h.1 e,c.1 e,zJ];omega,λi f r=>by rw[Ce,h.2,c.2,zJ,Gy]⟩
def Nt.one{t d}(h:t.e≠40/\t.e≠41/\(t.e=47->d≠0)):Nt [t] d :=
 ⟨λb r=>by rw[Mb,AB (by rw[uX h.1 h.2.1];omega),uX h.1 h.2.1,Dd];omega,λi a r=>by rw[Mb,kK,uX h.1 h.2.1,Zn (λq=>h.2.2 q.1 q.2)];rfl⟩
def Nt.grp{o c l d}(b:o.e=40)(a:c.e=41)(f:0<=d)(h:Nt l (d+1)):Nt (o::(l++[c])) d:=by
 have e:d+1-1=d:=oM;refine⟨λf r=>?_,λi g r=>?_⟩
 .rw[Fc,AB (by rw[b,kB];omega),b,kB,Ce,h.1 oM,Mb,AB (by rw[a,ju];omega),a,ju,e];simp;omega
 rw[Fc,kK,Zn oM,b,kB,Ce,h.2,Mb,kK,Zn oM,a,ju,e];congr 1;simp;omega
def SR(e:PE)(l:Nat)(h:e.ok l)(d:Int)(q:l<=4\/0<d)(f:0<=d):Nt e.tk d:=by
 induction e generalizing l d with
 |grp o e c g=>exact .grp h.1 h.2.1 f (g 5 h.2.2 (d+1) (.inr oM) oM)
 |thr c t=>obtain⟨n,j⟩:=h;exact Nt.app (.one oM) (.one (t:=t) oM)
 |emp=>exact⟨λ_ r=>(Bp _).symm,λ_ _ _=>rfl⟩
 |seq a b k m=>exact(k 3 h.2.1 d (.inl oM) f).app (m 2 h.2.2 d (.inl oM) f)
 |alt a t b k m=>obtain⟨p,n,j,i⟩:=h;exact(k 5 j d (.inr oM) f).app (Nt.app (.one (t:=t) oM) (m 4 i d (.inl oM) f))
 |star e t g|opt e t g=>obtain⟨_,j,i⟩:=h;exact(g 0 i d (.inl oM) f).app (.one oM)
 |not t e g|amp t e g=>obtain⟨_,j,i⟩:=h;exact Nt.app (.one (t:=t) oM) (g 2 i d (.inl oM) f)
 |_ t=>exact .one (by have:t.e=_:=h;omega)
def ush(e:PE)(l:Nat)(h:e.ok l)(d:Int)(r:List zI)(a:0<d):jH d (e.tk++r)=e.tk.length+jH d r:=(SR e l h d (.inr a) oM).1 a r
def AC(e:PE)(l:Nat)(h:e.ok l)(i:Nat)(d a:Int)(r:List zI)(c:l<=4\/0<d)(b:0<=d):kz i d a (e.tk++r)=kz (i+e.tk.length) d a r:=(SR e l h d c b).2 i a r
def unq(e:PE)(h:e.ok 5)(i:Nat)(c:Int):∃d,∀r,kz i 0 c (e.tk++r)=kz (i+e.tk.length) 0 d r:=by
 induction e generalizing i c with
 |alt a t b l m =>
  obtain⟨_,g,j,k⟩:=h;let⟨b1,f⟩:=l j i c;refine⟨((i+a.tk.length:Nat):Int),λr=>?_⟩;show kz i 0 c ((a.tk++t::b.tk)++r)=kz (i+(a.tk++t::b.tk).length) 0 _ r;rw[Ce,f,Fc,kK,Zp ⟨g,rfl⟩,uX oM oM,AC b 4 k _ 0 _ _ (.inl oM) oM,zJ,Db];congr 1;omega
 |_=>exact⟨c,λr=>AC _ 4 (by first|exact h|exact⟨oM,h.2⟩|exact Ya 4) i 0 c r (.inl oM) oM⟩
def upo(e:PE)(h:e.ok 4):kz 0 0 (-1) e.tk = -1:=by
 have:=AC e 4 h 0 0 (-1) [] (.inl oM) oM;rw[Dl]at this;exact this
def usi a t b(h:(PE.alt a t b).ok 5):kz 0 0 (-1) (PE.alt a t b).tk=(a.tk.length:Int):=by
 obtain⟨_,d,e,f⟩:=h;let⟨b1,c⟩:=unq a e 0 (-1);show kz 0 0 (-1) (a.tk++t::b.tk)=_;rw[c,kK,Zp ⟨d,rfl⟩,uX oM oM];have:=AC b 4 f (0+a.tk.length+1) 0 ((0+a.tk.length:Nat):Int) [] (.inl oM) oM;rw[Dl]at this;rw[this,kz];omega
def kAt(l:List zI)(i:Nat):Int:=match l[i]? with|some x=>x.e|none=>0
def xt:List zI->Nat
 |[]=>0
 |x::r=>if x.e=33\/x.e=38 then xt r+1 else 0
def qX(l:List zI):Nat:=if kAt l 0=94 then 1+jH 0 (l.drop 1) else jH 0 l
def Xa(l:List zI)(i:Nat):Nat:=if kAt l i=42\/kAt l i=63 then i+1 else i
def jZ(l:List zI):Nat:=xt l+Xa (l.drop (xt l)) (qX (l.drop (xt l)))
def AD(e:PE)(h:e.ok 0)(r:List zI):xt (e.tk++r)=0/\qX (e.tk++r)=e.tk.length:=by
 have one:∀(t:zI),t.e≠33/\t.e≠38/\t.e≠94/\t.e≠40/\t.e≠41->xt (t::r)=0/\qX (t::r)=1:=λt ⟨a,b,d,f,g⟩=>by
  refine⟨by rw[xt,Zn oM],?_⟩;unfold qX;rw[Zn (by show ¬t.e=94;exact d),jH,uX f g,Zp rfl]
 cases e with
 |thr c t =>
  obtain⟨a,b⟩:=h;refine⟨by show xt (c::t::r)=0;rw[xt,Zn oM],?_⟩;show qX (c::t::r)=2;unfold qX;rw[Zp (by show c.e=94;exact a)];show 1+jH 0 (t::r)=2;rw[jH,uX oM oM,Zp rfl]
 |grp o e c =>
  obtain⟨a,b,d⟩:=h;refine⟨by show xt (o::_)=0;rw[xt,Zn oM],?_⟩;show qX (o::((e.tk++[c])++r))=(e.tk++[c]).length+1;unfold qX;rw[Zn (by show ¬o.e=94;omega),AB (by rw[a,kB];omega),a,kB,Ce,ush e 5 d _ _ oM];show e.tk.length+jH (0+1) (c::r)+1=_;rw[jH,b,ju,Zp oM,zJ,Dd]
 |_=>first|exact absurd h.1 oM|exact absurd h (by show ¬(4<=0);omega)|(rename_i t;exact one t (by have:t.e=_:=h;omega))
def SS l r:kAt (l++r) l.length=kAt r 0:=by unfold kAt;rw[Fb zD,Nat.sub_self]
def SU:∀(e:PE),e.ok 2->∀(r:List zI),kAt r 0≠42->kAt r 0≠63->jZ (e.tk++r)=e.tk.length:=by
 have f:∀(e:PE),e.ok 0->∀(r:List zI),kAt r 0≠42->kAt r 0≠63->jZ (e.tk++r)=e.tk.length:=λe h r a b=>by
  let⟨p1,p2⟩:=AD e h r;unfold jZ;rw[p1,Mc,p2];unfold Xa;rw[SS,Zn (λq=>q.elim a b)];omega
 have g:∀(e:PE) (t:zI),e.ok 0->(t.e=42\/t.e=63)->∀(r:List zI),jZ ((e.tk++[t])++r)=(e.tk++[t]).length:=λe t h c r=>by
  rw[Ce];let⟨p1,p2⟩:=AD e h ([t]++r);unfold jZ;rw[p1,Mc,p2];unfold Xa;rw[SS,Zp (by exact c),zJ,Dd];omega
 have pre:∀(t:zI) (l:List zI),(t.e=33\/t.e=38)->jZ (t::l)=jZ l+1:=λt l c=>by
  unfold jZ;rw[xt,Zp c];show xt l+1+Xa (l.drop (xt l)) (qX (l.drop (xt l)))=_;omega
 intro e;induction e with
 |not t e ih|amp t e ih =>
  intro h r a b;obtain⟨_,i,d⟩:=h;show jZ (t::(e.tk++r))=e.tk.length+1;rw[pre t _ oM,ih d r a b]
 |star e t _|opt e t _=>intro h r _ _;exact g e t h.2.2 (oH h.2.1) r
 |_=>intro h r a b;first|exact f _ h r a b|exact absurd h.1 oM|exact absurd h (by show ¬(4<=2);omega)
def yK:∀(e:PE),e.ok 2->∀(r:List zI),kAt (e.tk++r) 0≠42/\kAt (e.tk++r) 0≠63/\0<e.tk.length:=by
 have one:∀(t:zI) (l r:List zI),t.e≠42/\t.e≠63->kAt (t::l++r) 0≠42/\kAt (t::l++r) 0≠63/\0<(t::l).length:=λt l r h=>⟨h.1,h.2,sM⟩;intro e;induction e with
 |not t e ih|amp t e ih=>intro h r;have:=h.2.1;exact one t _ r oM
 |star e t ih|opt e t ih =>
  intro h r;have:=ih (PE.c e oM h.2.2) ([t]++r);rw[<-Ce]at this;exact⟨this.1,this.2.1,by simp[PE.tk]⟩
 |thr c t=>intro h r;have:=h.1;exact one c _ r oM
 |grp o e c _=>intro h r;have:=h.1;exact one o _ r oM
 |_=>intro h r;first|exact absurd h.1 oM|exact absurd h (by show ¬(4<=2);omega)|(rename_i t;exact one t [] r (by have:t.e=_:=h;omega))
def Hi:Int->List zI->Prop
 |_,[]=>False
 |d,x::r=>xO x.e d=0\/Hi (xO x.e d) r
def urY:∀(e:PE) (l:Nat),e.ok l->∀(d:Int) (r:List zI),0<d->Hi d r->Hi d (e.tk++r):=by
 have one:∀(t:zI) (d:Int) (r:List zI),t.e≠40->t.e≠41->Hi d r->Hi d (t::r):=λt d r h q f=>.inr (by rw[uX h q];exact f);intro e;induction e with
 |ref t=>intro l h d r g f;have:t.e=110:=h;exact one t d r oM oM f
 |str t=>intro l h d r g f;have:t.e=34:=h;exact one t d r oM oM f
 |cls t=>intro l h d r g f;have:t.e=91:=h;exact one t d r oM oM f
 |dot t=>intro l h d r g f;have:t.e=46:=h;exact one t d r oM oM f
 |thr c t =>
  intro l h d r g f;obtain⟨m,j⟩:=h;exact one c d _ oM oM (one t d r oM oM f)
 |grp o e c k =>
  intro l h d r g f;obtain⟨m,j,i⟩:=h;show Hi d (o::((e.tk++[c])++r));refine .inr ?_;rw[m,kB,Ce];refine k 5 i (d+1) _ oM (.inr ?_);rw[j,ju,show d+1-1=d by omega];exact f
 |star e t k =>
  intro l h d r g f;obtain⟨_,j,i⟩:=h;show Hi d ((e.tk++[t])++r);rw[Ce];exact k 0 i d _ g (one t d r oM oM f)
 |opt e t k =>
  intro l h d r g f;obtain⟨_,j,i⟩:=h;show Hi d ((e.tk++[t])++r);rw[Ce];exact k 0 i d _ g (one t d r oM oM f)
 |not t e k =>
  intro l h d r g f;obtain⟨_,j,i⟩:=h;exact one t d _ oM oM (k 2 i d r g f)
 |amp t e k =>
  intro l h d r g f;obtain⟨_,j,i⟩:=h;exact one t d _ oM oM (k 2 i d r g f)
 |emp=>intro l h d r g f;exact f
 |seq a b n p =>
  intro l h d r g f;obtain⟨_,j,i⟩:=h;show Hi d ((a.tk++b.tk)++r);rw[Ce];exact n 3 j d _ g (p 2 i d r g f)
 |alt a t b n p =>
  intro l h d r g f;obtain⟨_,m,j,i⟩:=h;show Hi d ((a.tk++t::b.tk)++r);rw[Ce];exact n 5 j d _ g (one t d _ oM oM (p 4 i d r g f))
def qI(l:List zI):Prop:=xt l<l.length/\(kAt (l.drop (xt l)) 0=94->Hi 0 (l.drop (xt l+1)))/\(¬kAt (l.drop (xt l)) 0=94->Hi 0 (l.drop (xt l)))
def RN(e:PE)(h:e.ok 0)(r:List zI):qI (e.tk++r):=by
 have f:=(AD e h r).1;unfold qI;rw[f,Mc,Bp];have g:=(yK e (PE.c e oM h) r).2.2;refine⟨by rw[zJ];omega,?_⟩;cases e with
 |ref t=>have:t.e=110:=h;exact⟨λq=>absurd (show t.e=94 from q) oM,λ_=>.inl (uX oM oM 0)⟩
 |str t=>have:t.e=34:=h;exact⟨λq=>absurd (show t.e=94 from q) oM,λ_=>.inl (uX oM oM 0)⟩
 |cls t=>have:t.e=91:=h;exact⟨λq=>absurd (show t.e=94 from q) oM,λ_=>.inl (uX oM oM 0)⟩
 |dot t=>have:t.e=46:=h;exact⟨λq=>absurd (show t.e=94 from q) oM,λ_=>.inl (uX oM oM 0)⟩
 |thr c t =>
  obtain⟨a,b⟩:=h;exact⟨λ_=>.inl (uX oM oM 0),λq=>aB a q⟩
 |grp o e c =>
  obtain⟨a,b,d⟩:=h;refine⟨λq=>aB (show o.e=94 from q) oM,λ_=>?_⟩;show Hi 0 (o::((e.tk++[c])++r));refine .inr ?_;rw[a,kB,Ce];refine urY e 5 d _ _ oM (.inl ?_);rw[b,ju];omega
 |star _ _=>exact absurd h.1 oM
 |opt _ _=>exact absurd h.1 oM
 |not _ _=>exact absurd h.1 oM
 |amp _ _=>exact absurd h.1 oM
 |emp=>exact absurd h (by show ¬(4<=0);omega)
 |seq _ _=>exact absurd h.1 oM
 |alt _ _ _=>exact absurd h.1 oM
def RO t l(c:t.e=33\/t.e=38)(h:qI l):qI (t::l):=by
 obtain⟨d,a,b⟩:=h;unfold qI;rw[xt,Zp c];exact⟨by rw[Db];omega,a,b⟩
def RP:∀(e:PE),e.ok 2->∀(r:List zI),qI (e.tk++r):=by
 intro e;induction e with
 |not t e d=>intro h r;exact RO t _ (.inl h.2.1) (d h.2.2 r)
 |amp t e d=>intro h r;exact RO t _ (.inr h.2.1) (d h.2.2 r)
 |star e t _|opt e t _=>intro h r;show qI ((e.tk++[t])++r);rw[Ce];exact RN e h.2.2 _
 |emp=>intro h;exact absurd h (by show ¬(4<=2);omega)
 |seq a b _ _|alt a t b _ _=>intro h;exact absurd h.1 oM
 |ref t|thr c t|str t|cls t|dot t|grp o e c _=>intro h r;exact RN _ h r
def Ww{l i x}(h:l[i]?=some x):kAt l i=x.e:=by unfold kAt;rw[h]
def RQ l i:kAt (l.drop i) 0=kAt l i:=by unfold kAt;rw[List.getElem?_drop,Dy]
def unj l i k:kAt (l.drop i) k=kAt l (i+k):=by unfold kAt;rw[List.getElem?_drop]
def unk{l:List zI}{i:Nat}{x:zI}(h:l[i]?=some x):xt (l.drop i)=if x.e=33\/x.e=38 then xt (l.drop (i+1))+1 else 0:=by rw[yd h,xt]
def uko Q l a c w(hT:Bh Q w a l)(hl:l.length<=1048576)(hP:qI l) :
  Cs 133 #[Sl a l.length c] w λe w'=>e=Rt (Iv (jZ l:Nat))/\w'=w:=by
 obtain⟨p1,p2,W⟩:=hP;obtain⟨b,off,rfl,hc⟩:=hT.at (i:=0) oM;have N:Hid (∀i,i<l.length->∃x,l[i]?=some x/\w.cell? (Ad b (off+i*4))=some (Bv x.e)):=λi V=>⟨_,Bb V,(hc i _ (Bb V)).e⟩;let⟨I,ac⟩:=nm (xt l);let⟨R,F⟩:=nm (jZ l);rw[F];unfold jZ at F;rw[ac]at p1 p2 W F;rw[RQ]at p2 W;have HR:=ua F;have ae:=ua p2;have af:=ua W;go_enter func133,ntmps133;go_wp2;go_loopw [3] (λu wr=>∃i:Nat,i<=I/\u=Iv i/\wr=w/\i+xt (l.drop i)=I) (λu _=>l.length-(intOf u).toNat)
 .exact⟨0,oM,rfl,rfl,by rw[Mc,ac];omega⟩
 obtain⟨i,V,rfl,rfl,s⟩:=hrel;have ag:i<l.length:=oM;have hil':(i:Int)<l.length:=oM;let⟨x,hx,k0⟩:=N i ag;have HK:=ua (Ww hx);rw[unk hx]at s;have o:=ua s;by_cases D:x.e=33\/x.e=38
 .have Z:Hid (i+1+xt (l.drop (i+1))=I):=by
   have:=o.o;rw[Zp D]at this;show _=_;omega
  generalize x.e=kx at *;rcases D with rfl|rfl;all_goals (
   go_wp2;go_roundw
   .exact⟨i+1,by have:=Z.o;omega,by go_num,by trivial,Z.o⟩
   simp[intOf];omega)
 have y1:(x.e==33)=false:=by simpa using λq=>D (.inl q)
 have y2:(x.e==38)=false:=by simpa using λq=>D (.inr q)
 obtain rfl:i=I:=by
  have:=o.o;rw[Zn D]at this;omega
 let⟨m,C⟩:=nm (if x.e=94 then i+1 else i);have HI:=ua C;have O:Hid (Hi 0 (l.drop m)/\m+jH 0 (l.drop m)=i+qX (l.drop i)/\i<=m):=by
  have j:=ae;have r:=af;rw[HK.o]at j r;unfold qX;rw[RQ,HK.o,List.drop_drop];by_cases h:x.e=94
  .rw[Zp h]at C;subst C;rw[Zp h];exact⟨j h,oM,oM⟩
  rw[Zn h]at C;subst C;rw[Zn h];exact⟨r h,rfl,zD⟩
 go_upto_if 26 with fail;go_cut [3] (λv wc=>v=Iv m/\wr=wc)
 .by_cases h:x.e=94
  .have e:=HI;rw[Zp h]at e;subst e;generalize x.e=kx at *;subst h;go_wp2;go_meet
   case rel=>exact⟨by go_num,rfl⟩
  have e:=HI;rw[Zn h]at e;have y3:(x.e==94)=false:=by simpa using h
  subst e;go_wp2;go_meet
  case rel=>exact⟨rfl,rfl⟩
 obtain⟨rfl,rfl⟩:=hcut;let⟨E,hE⟩:=nm (i+qX (l.drop i));have ad:Hid ((if kAt l E=42\/kAt l E=63 then E+1 else E)=R):=by
  have:=HR;unfold Xa at this;rw[unj,hE]at this;show _=R;rw[<-this];split<;>omega
 have aa:Hid (Hi 0 (l.drop m)/\m+jH 0 (l.drop m)=E):=⟨O.1,O.2.1.trans hE⟩;have aj:m<l.length:=by
  by_cases h:m<l.length
  .exact h
  have:=O.1;rw[Ki oM]at this;exact this.elim
 go_wp2;go_loopw [3,4] (λv3 v4 w'=>∃(f:Nat) (d:Int),m<=f/\f<l.length/\v3=Iv f/\v4=Iv d/\w'=wr/\-(f:Int)<=d/\d<=f/\Hi d (l.drop f)/\f+jH d (l.drop f)=E) (λv3 _ _=>l.length-(intOf v3).toNat)
 .exact⟨m,0,zD,aj,rfl,rfl,rfl,oM,oM,aa.1,aa.2⟩
 obtain⟨f,d,an,ai,rfl,rfl,rfl,T,al,U,s⟩:=hrel;have hl2':(f:Int)<l.length:=oM;let⟨t,ak,k2⟩:=N f ai;rw[yd ak]at U s;have ab:=ua U;have o:=ua s;let⟨k,S⟩:=nm (xO t.e d);have z:=ua S;have db:d-1<=k/\k<=d+1:=by rw[<-S];unfold xO;split;omega;split<;>omega
 have X:Hid (k=0->f+1=E):=λh=>by have:=o;rw[jH,z.o,Zp h]at this;exact this
 have Y:Hid (k≠0->f+1+jH k (l.drop (f+1))=E/\Hi k (l.drop (f+1))/\f+1<l.length):=λh=>by
  have B:=o.o;have j:=ab.o;rw[jH,z.o,Zn h]at B;rw[Hi,z.o]at j;have r:=j.resolve_left h;refine⟨oM,r,?_⟩;by_cases q:f+1<l.length
  .exact q
  rw[Ki oM]at r;exact r.elim
 let⟨n,T⟩:=nm (if t.e=40 then d+1 else d);have A:=ua T;clear U s S T o ab;go_upto_if 34 with fail;go_cut [4] (λv wc=>v=Iv n/\wr=wc)
 case first =>
  by_cases h:t.e=40
  .have g:Hid (d+1=n):=(by have:=A;rw[Zp h]at this;exact this);rw[h]at k2 ⊢;go_wp2;go_meet;exact⟨by rw[g.o],rfl⟩
  have g:Hid (d=n):=by have:=A;rw[Zn h]at this;exact this
  have y:(t.e==40)=false:=by simpa using h
  go_wp2;go_meet;exact⟨by rw[g.o],rfl⟩
 case rest =>
 obtain⟨rfl,rfl⟩:=hcut;have b1:d-1<=n/\n<=d+1:=by have:=A.o;split at this<;>omega
 go_upto_if 42 with fail;go_cut [4] (λv wc=>v=Iv k/\wr=wc)
 case first =>
  by_cases h:t.e=41
  .have g:Hid (n-1=k):=(by have B:=A.o;have j:=z.o;unfold xO at j;rw[Zn oM]at B j;rw[Zp h]at j;show _=_;omega);rw[h]at k2 ⊢;go_wp2;go_meet;exact⟨by rw[g.o],rfl⟩
  have g:Hid (n=k):=by have B:=A;have j:=z;unfold xO at j;rw[Zn h]at j;exact B.symm.trans j
  have y:(t.e==41)=false:=by simpa using h
  go_wp2;go_meet;exact⟨by rw[g.o],rfl⟩
 case rest =>
 obtain⟨rfl,rfl⟩:=hcut;by_cases H:k=0
 rotate_left
 .have am:(k==0)=false:=by simpa using H
  have G:=ua (Y H);go_wp2;go_roundw
  .exact⟨f+1,k,oM,G.2.2,by go_num,rfl,by trivial,oM,oM,G.2.1,G.1⟩
  simp[intOf];omega
 have HF:Hid ((if kAt l (f+1)=42\/kAt l (f+1)=63 then f+1+1 else f+1)=R):=by rw[X.o H];exact ad
 subst H;let⟨q,hq⟩:=nm (decide (kAt l (f+1)=42\/kAt l (f+1)=63));have p:=ua hq;clear hq X Y;go_upto_region 13 with fail;go_cut [68] (λv wc=>v=.bool q/\wr=wc)
 case first =>
  by_cases ah:f+1<l.length
  .have hin':(f:Int)+1<l.length:=oM;let⟨y,hy,k9⟩:=N (f+1) ah;have P:=ua (Ww hy);clear hy;by_cases J:y.e=42
   .have g:Hid (q=true):=(by show _=_;rw[<-p.o,P.o];simp[J]);rw[J]at k9;go_wp2;go_meet;exact⟨by rw[g.o],rfl⟩
   by_cases L:y.e=63
   .have g:Hid (q=true):=(by show _=_;rw[<-p.o,P.o];simp[L]);rw[L]at k9;go_wp2;go_meet;exact⟨by rw[g.o],rfl⟩
   have g:Hid (q=false):=(by show _=_;rw[<-p.o,P.o];simp[J,L]);have z1':(y.e==42)=false:=(by simpa using J);have z2':(y.e==63)=false:=(by simpa using L);go_wp2;go_meet;exact⟨by rw[g.o],rfl⟩
  have hin':¬(f:Int)+1<l.length:=oM;have g:Hid (q=false):=by show _=_;rw[<-p.o,show kAt l (f+1)=0 by unfold kAt;rw[List.getElem?_eq_none oM]];simp
  go_wp2;go_meet;exact⟨by rw[g.o],rfl⟩
 case rest =>
 obtain⟨rfl,rfl⟩:=hcut;cases q with
 |true =>
  have g:Hid (f+1+1=R):=by have:=HF;rw[Zp (of_decide_eq_true p.o)]at this;exact this
  go_wp2;go_ret;exact⟨vk (oH g.o),rfl⟩
 |false =>
  have g:Hid (f+1=R):=by have:=HF;rw[Zn (of_decide_eq_false p.o)]at this;exact this
  go_wp2;go_ret;exact⟨vk (oH g.o),rfl⟩
open M (uw)
def uvh:(prog.info? 298).map (λi=>(i.zero,i.size,i.bytes))=some (some .nilIface,1,16):=rR
def uvi:vJ 109 298 1 16:=⟨underlying109,⟨_,uvh,rfl⟩,oM⟩
def uny{Y:Wl}(v:Vl)(y:Nat)(b:y=Y.heap.size)(a:v.oneCell'=true):Src prog 1 109 (Sl (Sm y 0) 1 1) 1 [v] (Y.alloc (Oc #[v] 298)):=by
 subst b;exact qg underlying109 rfl rfl (by simp[a])
def upA{K L b s r il ic mO D E la lc w Y W f n c'}(i:zR K L w b s r il ic mO D E la lc)(p:Bw w Y)(o:zT (λx=>K x) Y W)(v:zB (λx=>K x\/Y.heap.size<=x) W (Sl n (s.st.length+1) c') 1 (s.st.length+1) (vo false s.st++[Hx f (s.j||f.e==1)]))(C:¬(s.st.length:Int) ≥ mO)(A:s.e=false) :
  zN (s.m f mO) K L b r il ic mO w (Rt (Iv (-1))) (W.setCell (Ad b 4) (Sl n (s.st.length+1) c')):=by
 have u:s.m f mO={ s with st:=s.st++[f] }:=by unfold zC.m;rw[Zn C]
 have z:=i.bl;have G:=p.size;have F:=o.l;have Gl:∀x,x<w.heap.size->¬K x->W.heap[x]?=w.heap[x]?:=λx k B=>(o.d x oM B).trans (p.block x k);have y:=Gl b z i.kb;rw[u];refine⟨by unfold qd;simp[A],s.f,s.st++[f],n,c',la,lc,λx=>(K x\/Y.heap.size<=x)/\x<W.heap.size,L,λ_=>⟨rfl,rfl⟩,⟨?_,?_,?_,?_,?_,?_,i.lb⟩,?_,λx k=>.inl k,?_⟩
 .show zX _ b _ r il ic mO n (s.st++[f]).length c' la s.a.length lc;rw[zJ,Dd];have h:=(i.c.on y).d n (s.st.length+1) c';exact⟨h.c0,h.c1,h.c2,h.c3,h.c4,h.c5,h.c6,h.ex,h.c8,h.c9,h.a,h.fz⟩
 .show zB _ _ (Sl n (s.st++[f]).length c') 1 (s.st++[f]).length (vo false (s.st++[f]));rw[TS,zJ,Dd,Qz];exact zB.on (v.a oM (λx q k=>⟨q,k⟩)) (λx q=>Bn (λe=>by subst e;exact q.1.elim i.kb oM))
 .exact i.a.on (λx k=>(Bn (λe=>i.lb (by simp at e;exact e▸k))).trans (Gl x (i.lt x (.inr k)) (λq=>i.kl x q k)))
 .intro x k;rw[uh];rcases k with q|q
  .exact q.2
  have:=i.lt x (.inr q);omega
 .rintro x ⟨q|q,_⟩ h
  .exact i.kl x q h
  have:=i.lt x (.inr h);omega
 .rintro⟨q|q,_⟩
  .exact i.kb q
  omega
 .rintro x ⟨q|q,h⟩
  .exact .inl q
  exact .inr ⟨oM,by rw[uh];exact h⟩
 refine⟨o.os.trans p.os,o.g.trans p.tape,o.f.trans p.output,by rw[uh];omega,λx k t=>(Bn (λe=>t (.inr (.inr e)))).trans (Gl x k (λq=>t (.inl q)))⟩
def upB{K L b s g il ic mO i j la lc w W f}(k:zR K L w b s g il ic mO i j la lc)(e:Bw w W)(o:(s.st.length:Int) ≥ mO) :
  zN (s.m f mO) K L b g il ic mO w (Rt (Iv 3)) W:=by
 have n:s.m f mO=s.l 3:=by unfold zC.m;rw[Zp o]
 rw[n];have h:=k.h e;exact⟨rfl,s.f,s.st,i,j,la,lc,K,L,(λq=>by cases q),⟨⟨h.c.c0,h.c.c1,h.c.c2,h.c.c3,h.c.c4,h.c.c5,h.c.c6,h.c.ex,h.c.c8,h.c.c9,h.c.a,h.c.fz⟩,h.st,h.a,h.lt,h.kl,h.kb,h.lb⟩,λx d=>.inl d,λx d=>.inl d,Kept.of e⟩
def AF K L b s f i k B il ic mO r t la lc w(q:zR K L w b s B il ic mO r t la lc)(R:s.st.length<=1000)(Q:(s.st.length:Int)<=mO)(P:s.e=false)(D : .iface i k=Hx f (s.j||f.e==1)) :
  Cs 204 #[.pointer (Sm b 0),.iface i k] w (zN (s.m f mO) K L b B il ic mO w):=by
 have l:Hid (zR K L w b s B il ic mO r t la lc):=q;have U:(Value.iface i k).oneCell'=true:=rfl;have I:=ua D;let⟨n,z⟩:=nm s.st.length;have p:Hid (s.st.length=n):=z;have N:=q.c.c1;have v:=q.c.c4;have lb:=q.bl;rw[z]at v R Q;clear q D z;by_cases o:(n:Int)=mO
 .have S:((n:Int)==mO)=true:=by simp[o]
  have u:=ua o;clear o;go_enter func204,ntmps204;go_wp2;go_quiet (fail);have g:Bw w (w.drewN nq):=Be (zH _) nq;generalize w.drewN nq=Y at *;go_wp2;go_ret;exact upB l g (by rw[p.o,u.o];exact Ft _)
 have S:((n:Int)==mO)=false:=by simp[o]
 have u:Hid (¬(n:Int)=mO):=o;clear o;go_enter func204,ntmps204;go_wp2;go_quiet (fail);have g:Bw w (w.drewN nq):=Be (zH _) nq;generalize w.drewN nq=Y at *;have Z:=ue v g;have aa:=Ba lb g.size;have J:Hid (Bw w Y):=g;have H:Hid (zB K (Y.alloc (Oc #[.iface i k] 298)) (Sl r n t) 1 n (vo false s.st)):=by
  have h:=l.st;rw[p.o]at h;exact h.on (λx V=>(uf g (zO Y)).block x (l.lt x (.inl V)))
 have E:Hid (∀W,zT (λx=>K x) (Y.alloc (Oc #[.iface i k] 298)) W->W.cell? (Ad b 4)=some (Sl r n t)/\W.frozen? (Ad b 4)=false):=λW O=>by
  have e:W.heap[b]?=w.heap[b]?:=(O.d b sO l.kb).trans ((uf g (zO Y)).block b lb);exact⟨(Bd (a:=(Ad b 4)) e).trans (by have:=l.c.c4;rw[p.o]at this;exact this),(Dp (a:=(Ad b 4)) e).trans (l.c.fz 4)⟩
 clear g N v;go_wp2_with (at_builtin;refine jM rfl _ _ 109 109 rfl rfl rfl uvi H (uny (.iface i k) Y.heap.size rfl U) oM ?_;intro v' W4 A y T;obtain⟨X,c',rfl⟩:=uj A;have G:Hid _:=A;have F:Hid _:=y;let⟨k4,k5⟩:=E W4 y;clear A y T);go_ret;have e:vo false s.st++[Hx f (s.j||f.e==1)]=vo false s.st++[.iface i k]:=by rw[I.o]
 have C:=G;rw[<-p.o]at C ⊢;exact upA (Y:=Y.alloc (Oc #[.iface i k] 298)) l.o (uf J.o (zO Y)) F.o (by rw[e];exact C) (by rw[p.o];have:=u.o;omega) P
structure TT(b:Nat)(s:zC)(ia:Oa)(il ic:Nat)(mO:Int)(ka:Oa)(kn kc:Nat)(la:Oa)(ln lc:Nat)(w:Wl)(e:Ending)(w':Wl):Prop where
 k:e=Rt (Iv (-1))
 c:zX w' b s ia il ic mO ka kn kc la ln lc
 m:Kept (λx=>x=b) w w'
def vK{w W b}(h:Kept (λx=>x=b) w W)j{v}:Kept (λx=>x=b) w (W.setCell (Ad b j) v) :=
 ⟨h.os,h.g,h.f,by rw[uh];exact h.l,λx c a=>(Bn a).trans (h.d x c a)⟩
def vX{P w W}(h:Kept P w W){o}:Kept P w (W.alloc o) :=
 ⟨h.os,h.g,h.f,by rw[Ck];exact Nat.le_succ_of_le h.l,λx a b=>(Jo (Ba a h.l)).trans (h.d x a b)⟩
def kM{P} w:Kept P w w:=⟨rfl,rfl,rfl,zD,λ_ _ _=>rfl⟩
def HI{P w W}(h:Kept P w W){n}:Kept P w (W.drewN n):=⟨h.os,h.g,h.f,h.l,h.d⟩
def TU{P w W}(h:Kept P w W):Kept P w W.drew:=⟨h.os,h.g,h.f,h.l,h.d⟩
def uky(b:Nat)s h(il ic:Nat)(mO:Int)i(k j:Nat)la(ln lc:Nat)(g:Int)(pos d:Nat)w(a:zX w b s h il ic mO i k j la ln lc)(r:d<=lc) :
  Cs 221 #[.pointer (Sm b 0),Iv g,.agg #[Iv (pos:Int),Iv (d:Int)]] w (TT b { s with f:=g,c:=pos } h il ic mO i k j la d lc w):=by
 have l:=ua a;have lb:=ud a.c0;have m:=a.c2;have c3:=a.c3;have n:=a.c5;have o:=a.fz 2;have p:=a.fz 3;have q:=a.fz 5;have t:(0:Int)<=(d:Int):=oM;have u:(d:Int)<=(lc:Int):=oM;go_enter func221,ntmps221;go_wp2;go_region;all_goals
  go_wp2;go_ret;refine⟨rfl,?_,TU (vX (vK (vK (vK (kM w) 2) 3) 5))⟩;exact(((l.c g).f pos).e la d lc).on (Jo (by rw[uh,uh,uh];exact lb))
def HJ w:(zeroValue 295).run prog w=.ok (.agg #[Iv 0,Bf,Iv 0,Iv 0]) w:=(zero_of_info (P:=prog) (t:=295) (v:=.agg #[Iv 0,Bf,Iv 0,Iv 0]) (n:=4) rR).1 w
def HO w:(zeroValue 300).run prog w=.ok (.agg #[Iv 0,Bf,Iv 0,Iv 0]) w:=(zero_of_info (P:=prog) (t:=300) (v:=.agg #[Iv 0,Bf,Iv 0,Iv 0]) (n:=4) rR).1 w
def HP w:(zeroValue 303).run prog w=.ok (.agg #[Iv 0,Bf]) w:=(zero_of_info (P:=prog) (t:=303) (v:=.agg #[Iv 0,Bf]) (n:=2) rR).1 w
def uma w:(Instr.typeAssert .nilIface 298 295 true).run prog w=.ok (.tuple #[.agg #[Iv 0,Bf,Iv 0,Iv 0],Bf]) w:=by simp[Instr.typeAssert,run_underlying underlying295,HJ]
def upD v w:(Instr.typeAssert (.iface 295 v) 298 295 true).run prog w=.ok (.tuple #[v,Bt]) w:=by simp[Instr.typeAssert,run_underlying underlying295]
def upE v w:(Instr.typeAssert (.iface 300 v) 298 295 true).run prog w=.ok (.tuple #[.agg #[Iv 0,Bf,Iv 0,Iv 0],Bf]) w:=by simp[Instr.typeAssert,run_underlying underlying295,HJ]
def upF v w:(Instr.typeAssert (.iface 303 v) 298 295 true).run prog w=.ok (.tuple #[.agg #[Iv 0,Bf,Iv 0,Iv 0],Bf]) w:=by simp[Instr.typeAssert,run_underlying underlying295,HJ]
def umb w:(Instr.typeAssert .nilIface 298 300 true).run prog w=.ok (.tuple #[.agg #[Iv 0,Bf,Iv 0,Iv 0],Bf]) w:=by simp[Instr.typeAssert,run_underlying underlying300,HO]
def upG v w:(Instr.typeAssert (.iface 295 v) 298 300 true).run prog w=.ok (.tuple #[.agg #[Iv 0,Bf,Iv 0,Iv 0],Bf]) w:=by simp[Instr.typeAssert,run_underlying underlying300,HO]
def upH v w:(Instr.typeAssert (.iface 300 v) 298 300 true).run prog w=.ok (.tuple #[v,Bt]) w:=by simp[Instr.typeAssert,run_underlying underlying300]
def upI v w:(Instr.typeAssert (.iface 303 v) 298 300 true).run prog w=.ok (.tuple #[.agg #[Iv 0,Bf,Iv 0,Iv 0],Bf]) w:=by simp[Instr.typeAssert,run_underlying underlying300,HO]
def umc w:(Instr.typeAssert .nilIface 298 303 true).run prog w=.ok (.tuple #[.agg #[Iv 0,Bf],Bf]) w:=by simp[Instr.typeAssert,run_underlying underlying303,HP]
def upJ v w:(Instr.typeAssert (.iface 295 v) 298 303 true).run prog w=.ok (.tuple #[.agg #[Iv 0,Bf],Bf]) w:=by simp[Instr.typeAssert,run_underlying underlying303,HP]
def upK v w:(Instr.typeAssert (.iface 300 v) 298 303 true).run prog w=.ok (.tuple #[.agg #[Iv 0,Bf],Bf]) w:=by simp[Instr.typeAssert,run_underlying underlying303,HP]
def upL v w:(Instr.typeAssert (.iface 303 v) 298 303 true).run prog w=.ok (.tuple #[v,Bt]) w:=by simp[Instr.typeAssert,run_underlying underlying303]
attribute [local go_sem] uma upD upE upF umb upG upH upI umc upJ upK upL
def HQ(wr:World)(b:Nat):Nat:=match wr.cell? (Ad b 4) with|some (.slice _ n _)=>n|_=>0
def TV{wr b n c a}(h:wr.cell? (Ad b 4)=some (Sl a n c)):HQ wr b=n:=by unfold HQ;rw[h]
structure HR(w:Wl)(b:Nat)(s:zC)(ia:Oa)(il ic:Nat)(mO:Int)(ka:Oa)(kc:Nat)(la:Oa)(ln lc k:Nat)(wr:Wl):Prop where
 le:k<=s.st.length
 un:vr s.st.reverse=vr (s.st.take k).reverse
 c:zX wr b s ia il ic mO ka k kc la ln lc
 a:Ct (λx=>x=b) w wr
def ux3(w:Wl)(b:Nat)(s:zC)(a:Oa)(il ic:Nat)(mO:Int)(c:Oa)(d:Nat)(la:Oa)(ln lc:Nat)(wr:Wl):Prop:=∃k,HR w b s a il ic mO c d la ln lc k wr
def zX.re{w b s t e il ic mO g k j la ln lc}(h:zX w b s e il ic mO g k j la ln lc)(l:t.f=s.f)(m:t.c=s.c)(n:t.i=s.i)(o:t.t=s.t)(p:t.b=s.b)(q:t.d=s.d)(r:t.s=s.s):zX w b t e il ic mO g k j la ln lc :=
 ⟨h.c0,h.c1,by rw[l];exact h.c2,by rw[m];exact h.c3,h.c4,h.c5,by rw[n];exact h.c6,by rw[o];exact h.ex,by rw[p];exact h.c8,by rw[q];exact h.c9,by rw[r];exact h.a,h.fz⟩
def upN{K L:Np}{b:Nat}{s:zC}{f:Cf}{u:Oa}{il ic:Nat}{mO:Int}{q:Oa}{r:Nat}{la:Oa}{lc j:Nat}{w wr W:Wl}{e:Ending}(n:zR K L w b s u il ic mO q r la lc)(B:s.e=false)(v:s.st[j]?=some f)(C:f.e≠2)(D:f.a<=s.a.length)
  (F:vr s.st.reverse=vr (s.st.take (j+1)).reverse) (p:Kept (λx=>x=b) w wr) (o:TT b { s with f:=f.to,c:=f.c } u il ic mO q j r la f.a lc wr e W):zN s.h K L b u il ic mO w e W:=by
 have I:=(Bz.1 v).1;have E:vr s.st.reverse=some (f,(s.st.take j).reverse):=by
  rw[F,JT v,List.reverse_append];show vr (f::(s.st.take j).reverse)=_;rw[vr,Zn C]
 have A:s.h={ s with st:=s.st.take j,c:=f.c,a:=s.a.take f.a,f:=f.to }:=by
  unfold zC.h;rw[E];simp only[List.reverse_reverse]
 have y:(s.st.take j).length=j:=by rw[Fw];omega
 have z:(s.a.take f.a).length=f.a:=by rw[Fw];omega
 have kk:∀x,x<w.heap.size->x≠b->W.heap[x]?=w.heap[x]?:=λx i t=>(o.m.d x (Ba i p.l) t).trans (p.d x i t);rw[A];refine⟨by rw[o.k];unfold qd;simp[B],f.to,s.st.take j,q,r,la,lc,K,L,λ_=>⟨rfl,rfl⟩,⟨?_,?_,?_,?_,n.kl,n.kb,n.lb⟩,λx i=>.inl i,λx i=>.inl i,?_⟩
 .show zX W b _ u il ic mO q (s.st.take j).length r la (s.a.take f.a).length lc;rw[y,z];exact o.c.re rfl rfl rfl rfl rfl rfl rfl
 .show zB K W (Sl q (s.st.take j).length r) 1 (s.st.take j).length (vo false (s.st.take j));rw[y,HG];have h:=ja n.st (j:=j) oM;rw[Pb]at h;exact h.on (λx i=>kk x (n.lt x (.inl i)) (λe=>n.kb (e▸i)))
 .show zB L W (Sl la (s.a.take f.a).length lc) 3 (s.a.take f.a).length (vb (s.a.take f.a));rw[z,ujl];exact(ja n.a (j:=f.a) D).on (λx i=>kk x (n.lt x (.inr i)) (λe=>n.lb (e▸i)))
 .intro x i;have G:=o.m.l;have H:=p.l;have:=n.lt x i;omega
 exact⟨o.m.os.trans p.os,o.m.g.trans p.g,o.m.f.trans p.f,zP p.l o.m.l,λx i t=>kk x i (λe=>t (.inr (.inr e)))⟩
def ukC{K L b s o il ic mO p r la lc w wr}(k:zR K L w b s o il ic mO p r la lc)(n:HR w b s o il ic mO p r la s.a.length lc 0 wr):zN s.h K L b o il ic mO w (Rt (Iv 1)) wr:=by
 have t:s.h=s.l 1:=by
  unfold zC.h;rw[n.un];rfl
 rw[t];have m:=n.a;refine⟨rfl,s.f,[],p,r,la,lc,K,L,(λq=>by cases q),⟨n.c.re rfl rfl rfl rfl rfl rfl rfl,?_,?_,?_,k.kl,k.kb,k.lb⟩,λx i=>.inl i,λx i=>.inl i,⟨m.os,m.g,m.f,by rw[m.l];exact zD,λx i u=>m.d x (λe=>u (.inr (.inr e)))⟩⟩
 .have h:=ja k.st (j:=0) oM;exact h.on (λx i=>m.d x (λe=>k.kb (e▸i)))
 .exact k.a.on (λx i=>m.d x (λe=>k.lb (e▸i)))
 intro x i;rw[m.l];exact k.lt x i
def qe K L b s q il ic mO v i la lc{w}(B:zR K L w b s q il ic mO v i la lc)(E:s.st.length<=1000)(hd:s.e=false)(ad:∀f,f∈s.st->f.e≠2->f.a<=s.a.length)(ac:∀f,f∈s.st->f.e=0\/f.e=1\/f.e=2) :
  Cs 203 #[.pointer (Sm b 0)] w (zN s.h K L b q il ic mO w):=by
 have r:=ua B;have Z:=ua ad;have Y:=ua ac;have HN:=ua E;let⟨ln,R⟩:=nm s.a.length;have y:=ua R;have X:=ua hd;have lb:=B.bl;have h0:HR w b s q il ic mO v i la ln lc s.st.length w:=⟨zD,by rw[Kg (zD)],by have:=B.c;rw[R]at this;exact this,Ct.e _ _⟩;have T:=ua h0;go_enter func203,ntmps203;go_wp2;go_loopw [7] (λ_ wr=>ux3 w b s q il ic mO v i la ln lc wr) (λ_ wr=>HQ wr b)
 .exact⟨_,T⟩
 obtain⟨k,p⟩:=hrel;have o:=ua p;have ag:b<wr.heap.size:=by rw[p.a.l];exact lb
 have A:=p.c.c4;have I:=p.c.fz 4;rcases Nn k with S|S
 .subst S;go_wp2_with (go_at_call 207;refine(UO b v i _ A).mono ?_;rintro e W ⟨rfl,N⟩;subst W);go_ret;have h:=o;rw[<-y.o]at h;exact ukC r h
 obtain⟨j,rfl⟩:∃j,k=j+1:=⟨k-1,oM⟩;have Q:=p.le;have C:=Bb Q;have D:=Gi Q;generalize s.st[j]=fr at C D;have t:=Z fr D;rw[y.o]at t;have m:=Y fr D;have G:=ua C;have H:=ua p.un;obtain⟨g,rfl,hg,af,n⟩:∃g,v=some (Ad g 0)/\K g/\s.st.length<=i/\w.cell? (Ad g j)=some (Hx fr ((s.st.take (j+1)).any (λf=>f.e==1))):=by
  rcases r.st with⟨_,e,_⟩|⟨g,cap,e,hq,h3,h4,h5,h6⟩
  .omega
  injection e with e1 e2 e3;exact⟨g,e1,hq,oM,by rw[h5 j (by rw[HE];omega),HH s.st false j fr C,Qz]⟩
 have O:j<=1000:=oH HN;have P:j+1<=i:=oM;have ab:g≠b:=λe=>r.kb (e▸hg);replace n:=(Bd (a:=(Ad g j)) (p.a.d g ab)).trans n;generalize (s.st.take (j+1)).any (λf=>f.e==1)=nn at n;have lg:=ud n;unfold Hx at n;rcases m with m|m|m
 rotate_right
 .rw[Zn (by rw[m];decide),Zn (by rw[m];decide)]at n;have z:=ua m;go_wp2_with (go_at_call 207;refine(HS b g j i _ A I n O P).mono ?_;rintro e W ⟨rfl,N⟩;subst W);go_roundw
  .refine⟨j,?_,?_,o.c.d _ _ _,o.a.set b 4 _ rfl⟩
   .have:=o.le;omega
   rw[H.o,JT G.o,ujm _ _ z.o]
  rw[TV (o.o.c.d (Sm g 0) j i).c4,TV o.o.c.c4];omega
 all_goals
  first|rw[Zp m]at n|rw[Zn (by rw[m];decide),Zp m]at n
  have z:Hid (fr.e≠2):=by show fr.e≠2;rw[m];decide
  rw[m]at t;replace t:=t dC;go_wp2_with fail;refine(HS b g j i _ A I n O P).mono ?_;rintro e W ⟨rfl,N⟩;subst W;have aa:Hid (Ct (λx=>x=b) w (wr.setCell (Ad b 4) (Sl (Sm g 0) j i))):=o.o.a.set b 4 _ rfl;have F:Hid (zX (wr.setCell (Ad b 4) (Sl (Sm g 0) j i)) b s q il ic mO (Sm g 0) j i la ln lc):=o.o.c.d _ _ _;generalize wr.setCell (Ad b 4) (Sl (Sm g 0) j i)=V at *;have ae:=ud F.c0;go_wp2_with fail;refine(uky b s q il ic mO (Sm g 0) j i la ln lc fr.to fr.c fr.a _ (F.on (Jo ae)) (by have:=kC r.a;rw[y.o]at this;omega)).mono ?_;rintro e W J;obtain rfl:=J.k;have U:=ua J;go_wp2;go_ret;refine upN r X G z (by rw[y.o];exact t) H ?_ U;have u:=aa;exact vX ⟨u.os,u.g,u.f,by rw[u.l];exact zD,λx hx E=>u.d x E⟩
end Go.Proofs.YtmlblamikgkdcaaGreat
