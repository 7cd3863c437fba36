import Derived.Test.YtoihadcablknpaaGreatDoorT16
import Derived.Test.YtoihadcablknpaaGreatDoorT23
set_option linter.unusedVariables false
set_option linter.unusedSimpArgs false
set_option linter.defProp false
set_option maxHeartbeats 40000000
set_option maxRecDepth 100000
namespace Go.Proofs.YtoihadcablknpaaGreatDoor
open Go.RowKit
open Go.Proofs.Tryz
section
open M (OpD uh Gr)
def Ov(f:Nat->Bool):Nat->NS
 |0=>nz
 |k+1=>if f k then (Ov f k).k k else Ov f k
def TY f k v(c:k<=256)(b:v<256):(Ov f k).h v=(decide (v<k)&&f v):=by
 induction k with
 |zero=>rw[Ov,xD];simp
 |succ k a =>
  rw[Ov];by_cases e:f k=true
  ·rw[Zp e,qT oM b,a oM];by_cases q:v=k
   ·subst q;simp[e]
   have:(v<k+1)=(v<k):=(by rw[eq_iff_iff];omega);simp[q,this]
  rw[Zn e,a oM];by_cases q:v=k
  ·subst q;simp at e;simp[e]
  have:(v<k+1)=(v<k):=by rw[eq_iff_iff];omega
  simp[this]
def Kv(g:Gr)(S:NS)(p:Nat):Ee:=M.top (M.stk (uC g.nr S) (nd g p).e (nd g p).bl)
def uid{nr S a o}(h:M.bI o->S.h (M.tg nr o)=a.h (M.tg nr o))x y:uC nr S o x y=uC nr a o x y:=by
 unfold uC;by_cases e:M.bI o
 ·rw[h e]
 simp[e]
def TZ{g S a p}(d:jQ g p)(h:∀v,v<g.nr+g.nb->S.h v=a.h v):Kv g S p=Kv g a p:=by
 unfold Kv;rw[M.fR (uC g.nr S) (uC g.nr a)];intro j b x y;exact uid (λc=>h _ (Rp d ⟨j,b,c,rfl⟩)) x y
def UA(s:NS)(u:Nat)(h:256<=u):s.h u=false:=by
 unfold NS.h NS.w;rw[Zn oM,Zn oM,Zn oM,Zn oM];simp
def By(T:Nat)(x:Ee):Prop:=x.f.OK/\∀u,x.f.h u=true->u<T
def By.a T:By T default:=⟨NS.OK.f,λu h=>by rw[show(default:Ee).f=nz from rfl,xD]at h;cases h⟩
def Xa{T nr S o x y}(k:T<=256)(j:M.bI o->M.tg nr o<T)(b:By T x)(c:By T y):By T (uC nr S o x y):=by
 refine⟨Wo nr S o x y b.1 c.1,λu a=>?_⟩;have zero:nz.h u=true->u<T:=λq=>by rw[xD]at q;cases q
 have d:(x.f.e y.f).h u=true->u<T:=λq=>by
  rw[MX,Ma]at q;rcases q with q|q
  ·exact b.2 u q
  exact c.2 u q
 unfold uC at a;split at a
 ·exact zero a
 split at a
 ·rename_i g;by_cases i:256<=u
  ·rw[UA _ u i]at a;cases a
  have l:=j g;simp only at a;rw[qT oM oM,xD]at a;simp at a;omega
 split at a
 ·simp only at a;split at a
  ·exact d a
  exact b.2 u a
 split at a
 ·exact d a
 split at a
 ·exact b.2 u a
 split at a
 ·exact b.2 u a
 exact zero a
def UC{T nr S B}(d:T<=256)i(h:∀j,j<i->M.bI (B j)->M.tg nr (B j)<T):∀p,p∈M.stk (uC nr S) B i->By T p.2:=by
 induction i with
 |zero=>intro p c;simp[M.stk]at c
 |succ i f =>
  have I:=f (λj g=>h j oM);have e:=h i oM;intro p c;rw[M.stk]at c;generalize M.stk (uC nr S) B i=l at *;unfold M.stp at c;split at c
  ·match l,I,c with
   |[],_,c=>simp at c
   |[(a,x)],_,c=>simp at c
   |(a,x)::(b,y)::r,I,c =>
    simp at c;rcases c with rfl|c
    ·exact Xa d e (I (b,y) sM) (I (a,x) sM)
    exact I p (by simp[c])
  split at c
  ·match l,I,c with
   |[],_,c=>simp at c
   |(a,x)::r,I,c =>
    simp at c;rcases c with rfl|c
    ·exact Xa d e (I (a,x) sM) (By.a T)
    exact I p (by simp[c])
  simp at c;rcases c with rfl|c
  ·exact Xa d e (By.a T) (By.a T)
  exact I p c
def UD{T l}(h:∀p,p∈l->By T p.2):By T (M.top l):=by
 match l,h with
 |[],_=>exact By.a T
 |(s,x)::r,h=>exact h (s,x) sM
def Xb(g:Gr):Nat->Bool:=M.rnd (vW g) (g.nr+g.nb)
def S0(g:Gr):NS:=Ov (Xb g) (g.nr+g.nb)
def UB(g:Gr)(p:Nat):NS:=if p<g.nr+g.nb then (Kv g (S0 g) p).f else nz
def LB(g:Gr)(p:Nat):Prop:=M.Pk (RU (UB g)) (g.nr+g.nb) p p
def OB(g:Gr)(p:Nat):Prop:=(Kv g (S0 g) p).loop=true
def EM{g}(a:M.Valid g){v}(b:v<g.nr+g.nb):(S0 g).h v=Xb g v:=by
 have:=a.r2;have:=a.l2;unfold S0;rw[TY _ _ _ oM oM];simp[b]
def EN{g}(a:M.Valid g)S{p}(d:p<g.nr+g.nb):By (g.nr+g.nb) (Kv g S p):=by
 have:=a.r2;have:=a.l2;exact UD (UC oM _ (λj b c=>Rp (vM a d) ⟨j,b,c,rfl⟩))
def UE{g}(a:M.Valid g)p:(UB g p).OK:=by
 unfold UB;split
 ·rename_i b;exact(EN a _ b).1
 exact NS.OK.f
def UF{g}(a:M.Valid g):M.cO (RU (UB g)) (g.nr+g.nb):=λi j h=>by
 unfold RU UB at h;split at h
 ·rename_i b;exact(EN a _ b).2 j h
 rw[xD]at h;cases h
inductive Ans(g:Gr):Int->Int->Prop
 |bad:¬M.Valid g->Ans g 4 0
 |ok {a b:Int}:M.Valid g->M.Chk (g.nr+g.nb) (LB g) (OB g) a b->Ans g a b
def Ans.a{g a b c d}(h:Ans g a b)(e:Ans g c d):a=c/\b=d:=by
 cases h with
 |bad h =>
  cases e with
  |bad _=>exact⟨rfl,rfl⟩
  |ok k _=>exact absurd k h
 |ok h f =>
  cases e with
  |bad k=>exact absurd h k
  |ok _ i=>exact f.a i
structure EO(g:Gr)(w:Wl)(e:Ending)(w':Wl):Prop where
 k:∃a b,Ans g a b/\e=Rt (.tuple #[Iv a,Iv b])
 u:Bw w w'
def UG nr S o x y:(uC nr S o x y).loop=(if o.e=6 then x.e||x.loop else if M.ar o.e=2 then x.loop||y.loop else if M.ar o.e=1 then x.loop else false):=by
 unfold uC;by_cases b:o.e=0
 ·rw[Zp b,Zn (show ¬o.e=6 by omega),b];rfl
 rw[Zn b];by_cases g:M.bI o
 ·rw[Zp g];rcases g with e|e<;>rw[e]<;>rfl
 rw[Zn g];by_cases c:o.e=4
 ·rw[Zp c,Zn (show ¬o.e=6 by omega),c];rfl
 rw[Zn c];by_cases d:o.e=5
 ·rw[Zp d,Zn (show ¬o.e=6 by omega),d];rfl
 rw[Zn d];by_cases a:o.e=6
 ·rw[Zp a,Zp a]
 rw[Zn a,Zn a];by_cases f:o.e=7
 ·rw[Zp f,f];rfl
 rw[Zn f];have i:¬M.ar o.e=2:=by unfold M.ar;split;omega;split<;>omega
 have h:¬M.ar o.e=1:=by unfold M.ar;split;omega;split;omega;omega
 rw[Zn i,Zn h]
end
section
open M (OpD uh Gr)
inductive Lz0(O:Np)(k:Nat):Int->Prop
 |none:(∀q,q<k->¬O q)->Lz0 O k (-1)
 |some (p:Nat):p<k->O p->(∀q,q<p->¬O q)->Lz0 O k p
def Lz0.skip{O k l}(h:Lz0 O k l)(n:¬(O k/\l<0)):Lz0 O (k+1) l:=by
 cases h with
 |none h=>exact .none (λq d=>if e:q=k then (λo=>n ⟨e▸o,dC⟩) else h q oM)
 |some p c a b=>exact .some p oM a b
def Lz0.k{O k l}(h:Lz0 O k l)(n:O k)(d:l<0):Lz0 O (k+1) k:=by
 cases h with
 |none h=>exact .some k oM n h
 |some p a b c=>omega
def Sy(W1:Wl)(a n:Nat)(g:Gr)(c b:Vl)(wr:Wl):Prop :=
 ∃(k:Nat) (l:Int),k<=n/\b=Iv (k:Int)/\c=Iv l/\Lz0 (OB g) k l/\Row wr a 191 (n*4)/\Dz wr a 0 k (UB g)/\Below a W1 wr
def UH Q ra la rc lc g w(hG:Bl Q w ra la g)(hs:yg g)(ad:M.Valid g->Vd ra la g rc lc) :
  Cs 71 #[.agg #[Sl ra g.nr rc,Sl la g.nb lc]] w (EO g w):=by
 have HG:=ua hG;have HS:=ua hs;have ai:=ua ad;go_enter func71,ntmps71;go_wp2_with fail;refine(jy Q ra la rc lc g _ (HG.q (wG w)) HS).mono ?_;rintro e W1 ⟨⟨r,rfl,hr⟩,z⟩;have F:=ue (a:=(Ad w.heap.size 0)) (v:=Sl ra g.nr rc) (cN w.heap.size rfl rfl) z;have H:=ue (a:=(Ad w.heap.size 1)) (v:=Sl la g.nb lc) (cN w.heap.size rfl rfl) z;have X:=ua (uf (wG w) z);cases r with
 |false =>
  have A:Hid (¬M.Valid g):=λq=>aB (hr.2 q) dC
  go_wp2;refine wL (by simp[results,f71,go_sem];rfl) rfl ?_;exact⟨⟨4,0,.bad A,rfl⟩,X⟩
 |true =>
  have A:=ua (hr.1 rfl);clear hr;have h1:=A.o.r2;have h2:=A.o.l2;have h0:=A.o.r1;go_wp2_with fail;refine(VT Q ra la rc lc g _ (HG.o.q X.o) h0 h1 h2).mono ?_;rintro e W2 ⟨⟨b,cap,rfl,hB⟩,z⟩;replace F:=ue F z;replace H:=ue H z;have B2:Hid (Bw w W2):=uf X.o z;have P:Hid (Db Q W2 b g (g.nr+g.nb)):=hB;clear z hB;obtain⟨n,U⟩:∃n,g.nr+g.nb=n:=⟨_,rfl⟩;have B:Hid (g.nr+g.nb=n):=U;rw[U]at P;rw[U];have ao:n<=200:=oM;have an:0<n:=oM;clear U;go_wp2_with fail;refine(Y9 Q ra la rc lc g b n cap _ A.o (SH HS.o) B.o P.o (ai.o A.o)).mono ?_;rintro e y ⟨⟨S,hS,hL,rfl⟩,z⟩;replace F:=ue F z;replace H:=ue H z;have B3:Hid (Bw w y):=uf B2.o z;have a2:Hid S.OK:=hS;have ay:Hid (∀p,p<n->Kv g S p=Kv g (S0 g) p):=λp hp=>TZ (vM A.o (oH B.o)) (λv hv=>by
   rw[EM A.o hv];exact hL.a (M.iL (NH A.o)) v hv)
  have Z:Hid (Db Q y b g n):=P.o.q z;have s3:w.heap.size<y.heap.size:=ud F;clear z hL hS;have a5:=NM n ao;have A4:Hid (At (y.alloc (zA S)) y.heap.size S):=At.e y S;have s4:Hid ((y.alloc (zA S)).heap.size=y.heap.size+1):=by show _=_;simp
  go_wp2;rw[show(Obj.cells #[Uv S.a,Uv S.b,Uv S.c,Uv S.d] 191)=zA S from rfl];have k0:((y.alloc (zA S)).alloc (Oc (madeCells #[Uv 0,Uv 0,Uv 0,Uv 0] (n*4)) 191)).cell? (Ad w.heap.size 0)=some (Sl ra g.nr rc):=uv _ (uv _ F);have k1:((y.alloc (zA S)).alloc (Oc (madeCells #[Uv 0,Uv 0,Uv 0,Uv 0] (n*4)) 191)).cell? (Ad w.heap.size 1)=some (Sl la g.nb lc):=uv _ (uv _ H);have A5:Hid (At ((y.alloc (zA S)).alloc (Oc (madeCells #[Uv 0,Uv 0,Uv 0,Uv 0] (n*4)) 191)) y.heap.size S):=A4.o.q (wG _);have R5:Hid (Row ((y.alloc (zA S)).alloc (Oc (madeCells #[Uv 0,Uv 0,Uv 0,Uv 0] (n*4)) 191)) (y.heap.size+1) 191 (n*4)):=by
   have:=GQ (y.alloc (zA S)) #[Uv 0,Uv 0,Uv 0,Uv 0] (n*4) 191 sM;rw[s4.o]at this;exact this
  have Y:Hid (Bw y ((y.alloc (zA S)).alloc (Oc (madeCells #[Uv 0,Uv 0,Uv 0,Uv 0] (n*4)) 191))):=Bn y;generalize (y.alloc (zA S)).alloc (Oc (madeCells #[Uv 0,Uv 0,Uv 0,Uv 0] (n*4)) 191)=D at *;have aw:Hid (Db Q D b g n):=Z.o.q Y.o;have B5:Hid (Bw w D):=uf B3.o Y.o;have a3:b<y.heap.size:=by obtain⟨a,c,hc,_⟩:=Z.o 0 an;exact ud hc
  obtain⟨t,V⟩:∃x,y.heap.size=x:=⟨_,rfl⟩;rw[V]at A5 R5 a3 s3;have a1:Hid (y.heap.size=t):=V;clear A4 s4 a5 P aw F H;rw[V];clear V;go_loopw [7,25] (λlv iv wr=>Sy D (t+1) n g lv iv wr) (λ_ iv _=>n-(intOf iv).toNat)
  ·exact⟨0,-1,wP,rfl,rfl,.none (λq O=>aB O Ct),R5.o,λj hj=>aB hj Ct,wI _⟩
  obtain⟨k,l,hk,rfl,rfl,al,au,av,I⟩:=hrel;have ag:Hid (Row wr (t+1) 191 (n*4)):=au;have ah:Hid (Dz wr (t+1) 0 k (UB g)):=av;have ae:Hid (Below (t+1) D wr):=I;have R:Hid (Lz0 (OB g) k l):=al;have AS:Hid (At wr t S):=A5.o.m (I.block _ oM);have ax:Hid (Bw w wr):=B5.o.trans (I.mono oM);have j0:wr.cell? (Ad w.heap.size 0)=some (Sl ra g.nr rc):=(I.cell (p:=(Ad w.heap.size 0)) (show w.heap.size<t+1 by omega)).trans k0;have j1:wr.cell? (Ad w.heap.size 1)=some (Sl la g.nb lc):=(I.cell (p:=(Ad w.heap.size 1)) (show w.heap.size<t+1 by omega)).trans k1;obtain⟨m0,m1,m2,m3⟩:=AS.o.c;have ls:=AS.o.lt;clear au av I al;by_cases am:k<n
  ·obtain⟨a,c,a7,L⟩:=(Z.o.q (Y.o.trans (ae.o.mono (oH a1.o)))) k am;have HO:Hid (wT Q wr a (nd g k).bl (nd g k).e):=L;have a6:t+1<wr.heap.size:=(by obtain⟨u,hu⟩:=ag.o.p (i:=0) oM;exact ud hu);have a9:b<wr.heap.size:=oM;clear L;go_wp2_with fail;refine(NQ Q ra la a g.nr rc g.nb lc (nd g k).bl c (nd g k).e S _ HO.o (vM A.o (oH B.o)) (SH HS.o k (oH B.o)) (ai.o A.o S a2.o)).mono ?_;rintro e W ⟨rfl,z⟩;have ab:Hid (M.top (M.stk (uC g.nr S) (nd g k).e (nd g k).bl)=Kv g (S0 g) k):=ay.o k am;have G:Hid (Bw wr W):=z;have C:Hid (Row W (t+1) 191 (n*4)):=ag.o.a (z.block _ a6);obtain⟨u0,r0⟩:=C.o.p (i:=k*4) oM;obtain⟨u1,r1⟩:=C.o.p (i:=k*4+1) oM;obtain⟨u2,r2⟩:=C.o.p (i:=k*4+2) oM;obtain⟨u3,r3⟩:=C.o.p (i:=k*4+3) oM;have z0:=C.o.n (k*4);have z1:=C.o.n (k*4+1);have z2:=C.o.n (k*4+2);have z3:=C.o.n (k*4+3);have ba:t+1<W.heap.size:=ud r0;clear z;generalize M.top (M.stk (uC g.nr S) (nd g k).e (nd g k).bl)=v at *;unfold It;have rel:∀(l' x:Int) (o:Obj),x=((k+1:Nat):Int)->Lz0 (OB g) (k+1) l'->Sy D (t+1) n g (Iv l') (Iv x) (((((W.setCell (Ad (t+1) (k*4)) (Uv v.f.a)).setCell (Ad (t+1) (k*4+1)) (Uv v.f.b)).setCell (Ad (t+1) (k*4+2)) (Uv v.f.c)).setCell (Ad (t+1) (k*4+3)) (Uv v.f.d)).alloc o):=λl' x o hx a4=>by
    show Sy D (t+1) n g (Iv l') (Iv x) ((yX W (t+1) (k*4) v.f).alloc o);have RP:Row (yX W (t+1) (k*4) v.f) (t+1) 191 (n*4):=NJ C.o;have BP:Below (t+1) D (yX W (t+1) (k*4) v.f):=NK (ae.o.trans (G.o.mono oM)) wF;have sP:(yX W (t+1) (k*4) v.f).heap.size=W.heap.size:=(by unfold yX;simp only[uj]);refine⟨k+1,l',oM,by rw[hx],rfl,a4,RP.a (Hj oM),λj hj=>?_,BP.alloc oM _⟩;have E:∀q:Nat,∀u,(yX W (t+1) (k*4) v.f).cell? (Ad (t+1) q)=some u->((yX W (t+1) (k*4) v.f).alloc o).cell? (Ad (t+1) q)=some u:=λq u h=>uv _ h
    by_cases e:j=k
    ·subst e;obtain⟨p0,p1,p2,p3⟩:=NI (s:=v.f) C.o (o:=j*4) oM;have hu:UB g j=v.f:=(by unfold UB;rw[Zp (oH B.o),ab.o]);rw[hu];simp only[zL];exact⟨E _ _ p0,E _ _ p1,E _ _ p2,E _ _ p3⟩
    obtain⟨q0,q1,q2,q3⟩:=(ah.o.q G.o) j oM;exact⟨E _ _ ((vR oM).trans q0),E _ _ ((vR oM).trans q1),E _ _ ((vR oM).trans q2),E _ _ ((vR oM).trans q3)⟩
   have ac:Hid (∀(l' x:Int) (o:Obj),x=((k+1:Nat):Int)->Lz0 (OB g) (k+1) l'->Sy D (t+1) n g (Iv l') (Iv x) (((((W.setCell (Ad (t+1) (k*4)) (Uv v.f.a)).setCell (Ad (t+1) (k*4+1)) (Uv v.f.b)).setCell (Ad (t+1) (k*4+2)) (Uv v.f.c)).setCell (Ad (t+1) (k*4+3)) (Uv v.f.d)).alloc o)):=rel;clear rel;by_cases T:v.loop=true
   ·have a0:Hid (OB g k):=(by show _=_;rw[<-ab.o];exact T);by_cases ap:l<0
    ·have aa:Hid (l<0):=ap;go_wp2;go_roundw
     ·exact ac.o _ _ _ oM (R.o.k a0.o aa.o)
     simp[intOf];omega
    have aa:Hid (¬l<0):=ap;go_wp2;go_roundw
    ·exact ac.o _ _ _ oM (R.o.skip (λq=>by have h8:=aa.o;have h9:=q.2;omega))
    simp[intOf];omega
   have a8:v.loop=false:=(by simpa using T);have az:Hid (¬OB g k):=(by show ¬(_=_);rw[<-ab.o];exact T);clear T;go_wp2;go_roundw
   ·exact ac.o _ _ _ oM (R.o.skip (λq=>az.o q.1))
   simp[intOf];omega
  obtain rfl:k=n:=oM;have HW:Hid (M.cO (RU (UB g)) k):=B.o▸UF A.o;go_wp2_with fail;refine(W0 (t+1) 0 k k (UB g) _ ah.o (λi _=>UE A.o i) an ao HW.o).mono ?_;rintro e W6 ⟨ad,z⟩;have G:Hid (Bw w W6):=uf ax.o z;clear z;rcases ad with⟨p,hp,aj,N,rfl⟩|⟨aq,rfl⟩
  ·have J:Hid (Ans g 8 p):=.ok A.o (by rw[B.o];exact .left p hp (by unfold LB;rw[B.o];exact aj) (λq O h=>N q O (by unfold LB at h;rw[B.o]at h;exact h)));clear aj N;go_wp2;refine wL (by simp[results,f71,go_sem];rfl) rfl ?_;exact⟨⟨8,p,J.o,rfl⟩,G.o⟩
  have af:Hid (∀q,q<g.nr+g.nb->¬LB g q):=λq O h=>aq q (oH B.o) (by unfold LB at h;rw[B.o]at h;exact h)
  clear aq;rcases R.o with L|⟨p,hp,ak,N⟩
  ·have J:Hid (Ans g 0 0):=.ok A.o (.fine af.o (λq O=>L q (oH B.o)));clear L;go_wp2;refine wL (by simp[results,f71,go_sem];rfl) rfl ?_;exact⟨⟨0,0,J.o,rfl⟩,G.o⟩
  have J:Hid (Ans g 9 p):=.ok A.o (.loop p af.o (oH B.o) ak N);clear ak N;go_wp2;refine wL (by simp[results,f71,go_sem];rfl) rfl ?_;exact⟨⟨9,p,J.o,rfl⟩,G.o⟩
end
section
open M (OpD uh Gr)
def Pz(nr:Nat)(mk:Nat->Bool)(B:Nat->OpD)(i:Nat):Prop:=(B i).e=6/\M.top (M.stk (M.fN nr mk) B i)=true
def lpI(X:Wl)(n:Nat)(P:Np)(a:Vl)(wr:Wl):Prop :=
  ∃k:Nat,1<=k/\(k<=n\/k=1)/\a=Iv (k:Int)/\(∀i,i<k->¬P i)/\Bw X wr
theorem uri{α}[Inhabited α](f:OpD->α->α->α)(B:Nat->OpD)(k n:Nat)(a:M.Fed B n)(m:k<n)(i:(B k).e=6) :
    ∃s y,s<k/\M.stk f B k=(s,y)::M.stk f B s/\M.dep B s+1=M.dep B k/\∀j,s<j->j<=k->M.dep B k<=M.dep B j:=by
  have l:=a k m;rw[i,M.ar6]at l;have b:=M.bR f B k (a.g oM);match hs:M.stk f B k with
  | []=>rw[hs]at b;simp at b;omega
  | (s,y)::r =>
    obtain⟨d,c,h⟩:=M.cI f B k (a.g oM) s y r hs;have l2:=M.bR f B s (a.g oM);rw[hs]at b;rw[<-c]at l2;simp at b;exact⟨s,y,d,by rw[c],oM,h⟩
theorem ujw{Q ra la nr rc c lc b off n d k s p q mc B mk y w}(r:nr<=100)(t:c<=100)(F:n<=2000)(m:M.bF nr c n B)(x:k<=n)(G:s<=k)(o:M.stk (M.fN nr mk) B k=(s,y)::M.stk (M.fN nr mk) B s)(v:∀i,i<n->Em Q w b (off+i*3) (B i))(C:k-s<=d)(u:zS w p q (nr+c) mk) :
    Cs 64 #[.agg #[Sl ra nr rc,Sl la c lc],Sl (Sm b (off+s*3)) (k-s) d,Sl (Sm p q) (nr+c) mc] w (Wh y w):=by
  have z:M.stk (fun _ _ _=>()) B k=(s,())::M.stk (fun _ _ _=>()) B s:=by
    rw[M.eY (M.fN nr mk) (fun _ _ _=>()) (fun _=>()) rfl (fun _ _ _=>rfl) B k,M.eY (M.fN nr mk) (fun _ _ _=>()) (fun _=>()) rfl (fun _ _ _=>rfl) B s,o]
    rfl
  obtain⟨T,e,l,f⟩:=TI k s (M.Fed.g m.2.1 x) (fun i D=>m.1 i oM) z
  have A:y=T.a (M.fN nr mk):=by
    have:=Sq (M.fN nr mk) T s l f;rw[e,o]at this;injection this with h _
    injection h
  rw[A];exact DI r t T (off+s*3) d (k-s) w oM l oM oM (My f (fun j E=>v (s+j) oM)) u
theorem uh4 Q ra la a nr rc d lc n c B N O mc mk w(h1:nr<=100)(h2:d<=100)(hn:n<=2000)(hc:n<=c)(F:wT Q w a n B)(L:n=0\/M.bF nr d n B)(G:zS w N O (nr+d) mk) :
    Cs 38 #[.agg #[Sl ra nr rc,Sl la d lc],Sl a n c,Sl (Sm N O) (nr+d) mc] w (yz (∃i,i<n/\Pz nr mk B i) w):=by
  have S:=ua F;have U:=ua G;have T:=ua L;have V:Hid (Bw w (w.alloc (Oc #[Sl ra nr rc,Sl la d lc] 37))):=wG w;have ab:(w.alloc (Oc #[Sl ra nr rc,Sl la d lc] 37)).cell? (Ad w.heap.size 0)=some (Sl ra nr rc):=cN w.heap.size rfl rfl;have ac:(w.alloc (Oc #[Sl ra nr rc,Sl la d lc] 37)).cell? (Ad w.heap.size 1)=some (Sl la d lc):=cN w.heap.size rfl rfl;clear F G L;go_enter func38,ntmps38;go_wp2;generalize w.alloc (Oc #[Sl ra nr rc,Sl la d lc] 37)=X at *;go_loopw [7] (fun t wr=>lpI X n (Pz nr mk B) t wr) (fun t _=>n-(intOf t).toNat)
  case atStart =>
    refine⟨1,wF,.inr rfl,rfl,fun i g q=>?_,wI _⟩
    obtain rfl:i=0:=oM;have:=q.2;simp[M.stk,M.top]at this
  case round =>
    obtain⟨k,ae,hk,rfl,J,h⟩:=hrel;have o:Hid (∀i,i<k->¬Pz nr mk B i):=J;have v:Hid (Bw X wr):=h;have g0:=ue ab h;have g1:=ue ac h;have l:Hid (Bw w wr):=uf V.o h;clear J h;by_cases r:k<n
    · obtain⟨b,off,rfl,hq,p⟩:∃b off,a=some (Ad b off)/\Q b/\∀i,i<n->Em Q wr b (off+i*3) (B i):=by
        rcases (S.o.q l.o) with q | q
        · omega
        · exact q
      have z:Hid (∀i,i<n->Em Q wr b (off+i*3) (B i)):=p;have H:M.bF nr d n B:=by
        rcases T.o with q | q
        · omega
        · exact q
      have x:Hid (M.bF nr d n B):=H;obtain⟨Z,_,_⟩:=p k r;have ad:b<wr.heap.size:=ud Z;clear p H hq;by_cases f:(B k).e=6
      · have f6:((B k).e==6)=true:=by simp[f]
        have m:Hid ((B k).e=6):=f;obtain⟨s,y,aa,st,C,D⟩:=uri (M.fN nr mk) B k n x.o.2.1 r f;have Y:Hid (M.stk (M.fN nr mk) B k=(s,y)::M.stk (M.fN nr mk) B s):=st;have P:Hid (M.dep B s+1=M.dep B k):=C;have R:Hid (∀j,s<j->j<=k->M.dep B k<=M.dep B j):=D;have A:Hid (M.top (M.stk (M.fN nr mk) B k)=y):=by show _=_;rw[st];rfl
        have z1:¬c=s:=oM;have z2:s<=k:=oM;have z3:k<=c:=oM;have z4:s<=c:=oM;have z5:¬c=0:=oM;have z6:=uM k oM;have z7:=uM s oM;clear f st C D;go_wp2;go_region_with (first|(go_at_call 66;refine (SM b off n c B _ Q (fun i g=>(z.o i g).q (wI wr).drew) oM k s oM aa P.o R.o).mono ?_;rintro e W ⟨rfl,hw⟩;subst W)|(go_at_call 64;refine (ujw h1 h2 hn x.o oM oM Y.o (fun i g=>(z.o i g).q (wI wr).drew) oM (U.o.q l.o.drew)).mono ?_;rintro e W2 ⟨rfl,I⟩;have u:Hid (Bw wr W2):=(wI wr).drew.trans I;clear I))
        all_goals (cases y
                   · go_wp2
                     go_roundw
                     case rel=>exact⟨k+1,oM,.inl oM,by go_num,fun i g q=>if e:i=k then (by subst e;have E:=q.2;rw[A.o]at E;cases E) else o.o i oM q,uf v.o u.o⟩
                     case measure=>simp[intOf];omega
                   · go_wp2
                     go_ret;exact⟨⟨_,rfl,fun _=>⟨k,r,m.o,A.o⟩,fun _=>rfl⟩,uf l.o u.o⟩)
      · have f6:((B k).e==6)=false:=by simp[f]
        have m:Hid (¬(B k).e=6):=f;clear f;go_wp2;go_region;go_wp2;go_roundw
        case rel=>exact⟨k+1,oM,.inl oM,by go_num,fun i g q=>if e:i=k then m.o (e▸q.1) else o.o i oM q,v.o.drew⟩
        case measure=>simp[intOf];omega
    · go_wp2
      go_ret;refine⟨⟨_,rfl,?_⟩,l.o⟩;simp;exact fun i g q=>o.o i oM q
end
section
open M (OpD uh Gr)
structure Tab(w:Wl)(B sb:Nat)(rb:Nat->Nat)(m n:Nat)(T:Nat->Nat->Bool):Prop where
  h:∀i,i<m->w.cell? (Ad sb i)=some (Sl (Sm (rb i) 0) n n)
  y:∀i,i<m->w.rowIs (rb i) 4 n (fun j=>.bool (T i j))
  inj:∀i j,i<m->j<m->rb i=rb j->i=j
  a:∀i,i<m->sb<rb i
  lo:B<=sb
def Qa(T:Nat->Nat->Bool)(i j:Nat):Nat->Nat->Bool:=fun a b=>if a=i/\b=j then true else T a b
theorem Tab.set{w B d rb m n T}(h:Tab w B d rb m n T){i}(g:i<m)j:Tab (w.setCell (Ad (rb i) j) Bt) B d rb m n (Qa T i j):=by
  refine⟨fun a c=>?_,fun a c=>?_,h.inj,h.a,h.lo⟩
  · have:=h.a i g
    rw[yH (show rb i≠d by omega)]
    exact h.h a c
  · by_cases e:a=i
    · subst e
      refine ((h.y a c).set j Bt).congr (fun b k=>?_)
      unfold Qa;by_cases f:b=j
      · simp[f]
      · simp[f]
    · have l:rb a≠rb i:=fun q=>e (h.inj a i c g q)
      refine ((h.y a c).setOther (a:=(Ad (rb i) j)) l Bt).congr (fun b k=>?_)
      unfold Qa;simp[e]
theorem Tab.p{w B c rb m n T}(h:Tab w B c rb m n T){i j}(a:i<m)(b:j<n):w.cell? (Ad (rb i) j)=some (.bool (T i j)):=(h.y i a).cell b
theorem Tab.s{w B b rb m n T}(h:Tab w B b rb m n T){i}(a:i<m)j:w.frozen? (Ad (rb i) j)=false:=(h.y i a).frozen j
def Col(T c:Nat->Nat->Bool)(i k j:Nat):Prop:=∀a b,c a b=if a=i/\b<j then T a b||(T i k&&T k b) else T a b
theorem Col.f T i k:Col T T i k 0:=fun a b=>by simp
theorem Col.ik{T a i k j}(h:Col T a i k j):a i k=T i k:=by
  rw[h i k];split
  · cases T i k<;>simp
  · rfl
theorem Col.kj{T a i k j}(h:Col T a i k j):a k j=T k j:=by
  rw[h k j,Zn (fun q=>Jc _ q.2)]
theorem Col.skip{T d i k j}(h:Col T d i k j)(e:T k j=false):Col T d i k (j+1):=fun a b=>by
  rw[h a b];by_cases c:a=i/\b<j
  · rw[Zp c,Zp ⟨c.1,oM⟩]
  · rw[Zn c]
    by_cases f:a=i/\b<j+1
    · rw[Zp f]
      obtain rfl:b=j:=oM;rw[e];simp
    · rw[Zn f]
theorem Col.k{T f i k j}(h:Col T f i k j)(e:T k j=true)(g:T i k=true):Col T (Qa f i j) i k (j+1):=fun a b=>by
  unfold Qa;by_cases c:a=i/\b=j
  · rw[Zp c,Zp ⟨c.1,oM⟩,c.2,e,g]
    simp
  · rw[Zn c,h a b]
    by_cases d:a=i/\b<j
    · rw[Zp d,Zp ⟨d.1,oM⟩]
    · rw[Zn d,Zn oM]
def Ig(T c:Nat->Nat->Bool)(n k i:Nat):Prop:=∀a b,b<n->c a b=if a<i then T a b||(T a k&&T k b) else T a b
theorem Ig.f T n k:Ig T T n k 0:=fun a b _=>by simp
theorem Ig.kb{T a n k i}(h:Ig T a n k i){b}(c:b<n):a k b=T k b:=by
  rw[h k b c];split
  · cases T k b<;>simp
  · rfl
theorem Ig.b{T d g n k i j}(r:k<n)(h:Ig T d n k i)(c:Col d g i k j)(f:j=n\/d i k=false):Ig T g n k (i+1):=fun a b e=>by
  have l:d i k=T i k:=by rw[h i k r,Zn oM]
  rw[c a b];by_cases p:a=i
  · subst p
    rw[Zp (show a<a+1 by omega)]
    have m:d a b=T a b:=by rw[h a b e,Zn oM]
    split
    · rw[m,l,h.kb e]
    · rename_i s
      rw[m];rcases f with rfl | f
      · exact aB ⟨rfl,e⟩ s
      · rw[<-l,f];simp
  · rw[Zn (fun q=>p q.1),h a b e]
    by_cases o:a<i
    · rw[Zp o,Zp oM]
    · rw[Zn o,Zn oM]
theorem Ig.e{R T a n k}(h:M.Warsh R n k T)(f:k<n)(r:Ig T a n k n):M.Warsh R n (k+1) a :=
  h.b f (fun i j c d=>by rw[r i j d,Zp c])
end
section
open M (OpD uh Gr)
theorem utJ:(prog.info? 81).map (fun i=>(i.zero,i.size,i.bytes))=some (some nS,1,24):=rR
theorem ueu(Q:Np)(V:Wl)(ra la a:Oa)(nr rc d lc n c N:Nat)(B:Nat->OpD)(o p mc e F:Nat)(S:NS)(out:Nat->Bool)(w:Wl)(x:nr+d=N)(s:nr<=100)(t:d<=100)(H:n<=2000)(G:n<=c)(k:wT Q V a n B)(l:n=0\/M.bF nr d n B)(v:zS V o p N S.h)(E:V.heap.size<=e)(z:Bw V w)(m:w.rowIs e 4 N (fun j=>.bool (out j))) :
    Cs 36 #[.agg #[Sl ra nr rc,Sl la d lc],Sl a n c,Sl (Sm o p) N mc,Sl (Sm e 0) N F] w (RY N e (fun j=>out j||(M.top (M.stk (uC nr S) B n)).f.h j) w):=by
  subst x;by_cases g:n=0
  · subst g
    have r:=ua m;go_enter func36,ntmps36;go_wp2;go_end0;exact⟨⟨_,rfl⟩,qE (yy r (wG w)) (fun j C=>by rw[show (M.top (M.stk (uC nr S) B 0)).f=nz from rfl,xD,Nd]),vw (wG w)⟩
  · rcases l with q | l
    · exact aB q g
    rcases k with q | ⟨b,off,rfl,I,k⟩
    · exact aB q g
    obtain⟨T,y,D,u,A⟩:=Wt l;have:=My (off:=off) (i:=0) u (fun j C=>by rw[zL];exact k j oM)
    rw[Ge,Cc]at this;rw[A];exact ura s t v E T off c n out w y.symm D oM oM this z m
def utK(Q:Np)(V:Wl)(d:uh)(w:Wl)(e:Ending)(w':Wl):Prop:=(∃a c,e=Rt (Sl a d.bl c)/\wT Q V a d.bl d.e/\d.bl<=c)/\Bw w w'
theorem SN Q V ra la rc lc g w(r:zC Q V ra la g)(s:Bw V w)(x:g.nr<=100)(y:g.nb<=100)p(A:p<g.nr+g.nb) :
    Cs 37 #[.agg #[Sl ra g.nr rc,Sl la g.nb lc],Iv (p:Int)] w (utK Q V (nd g p) w):=by
  by_cases e:p<g.nr
  · rw[vJ g e]
    rcases r.a with t | ⟨b,off,rfl,v,m⟩
    · omega
    obtain⟨⟨_,⟨h,j,f,o⟩⟩,⟨ba,bc,d,q⟩⟩:=m p e;have n:h=ba/\j=bc:=by rw[d]at f;simp at f;exact⟨f.1.symm,f.2.symm⟩
    obtain⟨rfl,rfl⟩:=n;have k:=ua o;replace d:=ue d s;have u:=ud d;have l:=ua q;go_enter func37,ntmps37;go_wp2;go_ret;exact⟨⟨h,j,rfl,k,l⟩,wG w⟩
  · obtain⟨i,rfl⟩:∃i,p=g.nr+i:=⟨p-g.nr,oM⟩
    rw[yo];rcases r.c with t | ⟨b,off,rfl,v,m⟩
    · omega
    obtain⟨⟨_,_,⟨h,j,f,o⟩⟩,⟨ba,bc,d,q⟩⟩:=m i oM;have n:h=ba/\j=bc:=by rw[d]at f;simp at f;exact⟨f.1.symm,f.2.symm⟩
    obtain⟨rfl,rfl⟩:=n;have k:=ua o;replace d:=ue d s;have u:=ud d;have l:=ua q;have z:i<g.nb:=oM;have B:¬((g.nr+i:Nat):Int)<(g.nr:Int):=oM;have C:((g.nr+i:Nat):Int)-(g.nr:Int)=(i:Int):=oM;go_enter func37,ntmps37;go_wp2;go_ret;exact⟨⟨h,j,rfl,k,l⟩,wG w⟩
theorem utL{g p}(j:jQ g p):OB g p↔∃i,i<(nd g p).bl/\Pz g.nr (S0 g).h (nd g p).e i:=by
  unfold OB Kv;rcases j with f | d
  · rw[f]
    constructor
    · intro h;cases h
    · rintro⟨i,k,_⟩;omega
  · have:=M.lL (uC g.nr (S0 g)) (nd g p).e Ee.loop Ee.e (UG g.nr (S0 g)) (nd g p).bl 0 _ d.2.1 (DK _ _ _ d.2)
    rw[this];unfold M.Loop Pz;constructor
    · rintro⟨i,_,b,c,a⟩
      rw[BF]at a;exact⟨i,b,c,a⟩
    · rintro⟨i,b,c,a⟩
      refine⟨i,wP,b,c,?_⟩;rw[BF];exact a
theorem ul6 Q ra la a nr rc b lc n c N B d e mc mk w(k:nr+b=N)(f:nr<=100)(g:b<=100)(m:n<=2000)(l:n<=c)(h:wT Q w a n B)(o:n=0\/M.bF nr b n B)(j:zS w d e N mk) :
    Cs 38 #[.agg #[Sl ra nr rc,Sl la b lc],Sl a n c,Sl (Sm d e) N mc] w (yz (∃i,i<n/\Pz nr mk B i) w):=by
  subst k;exact uh4 Q ra la a nr rc b lc n c B d e mc mk w f g m l h o j
def Mx(rb:Nat->Nat)(n k:Nat)(i:Nat):Vl:=if i<k then Sl (Sm (rb i) 0) n n else nS
theorem ujx{w:Wl}{a n k c:Nat}{rb:Nat->Nat}(h:w.rowIs a 81 n (Mx rb n k)):(w.setCell (Ad a k) (Sl (Sm c 0) n n)).rowIs a 81 n (Mx (fun i=>if i=k then c else rb i) n (k+1)):=by
  refine (h.set k _).congr fun i _=>?_
  unfold Mx;by_cases e:i=k
  · subst e;simp
  · rw[Zn e]
    by_cases b:i<k
    · rw[Zp b,Zp oM];simp[e]
    · rw[Zn b,Zn oM]
structure Iy(w:Wl)(sb:Nat)(rb:Nat->Nat)(k n:Nat)(R:Nat->Nat->Bool):Prop where
  h:w.rowIs sb 81 n (Mx rb n k)
  y:∀i,i<k->w.rowIs (rb i) 4 n (fun j=>.bool (R i j))
  inj:∀i j,i<k->j<k->rb i=rb j->i=j
  a:∀i,i<k->sb<rb i
theorem Iy.b{w c rb n R}(h:Iy w c rb n n R):Tab w c c rb n n R :=
  ⟨fun i d=>by rw[h.h.cell d];simp[Mx,d],h.y,h.inj,h.a,wF⟩
def stI(W4:Wl)(a n:Nat)(R:Nat->Nat->Bool)(b:Vl)(wr:Wl):Prop :=
  ∃(k:Nat) (rb:Nat->Nat),k<=n/\b=Iv (k:Int)/\Iy wr a rb k n R/\Below a W4 wr
end
end Go.Proofs.YtoihadcablknpaaGreatDoor
