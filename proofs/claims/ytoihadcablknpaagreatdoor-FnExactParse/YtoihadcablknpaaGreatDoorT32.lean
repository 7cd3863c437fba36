import Derived.Test.YtoihadcablknpaaGreatDoorT29
import Derived.Test.YtoihadcablknpaaGreatDoorT28
set_option linter.unusedVariables false
set_option linter.unusedSimpArgs false
set_option linter.defProp false
set_option maxHeartbeats 40000000
set_option maxRecDepth 100000
namespace Go.Proofs.YtoihadcablknpaaGreatDoor
open Go.RowKit
open Go.Proofs.Tryz
section
open M (OpD uh Gr)
def PPq t:∀f g i,t.n-i<f->t.n-i<g->yN t f i=yN t g i
 |0,g,i,h,_=>absurd h oM
 |f+1,0,i,_,h=>absurd h oM
 |f+1,g+1,i,h,k=>by
  rw[yN,yN];by_cases b:i<t.n
  ·rw[Zp b,Zp b];by_cases a:(vF t i).1.e=0
   ·rw[Zp a,Zp a]
   rw[Zn a,Zn a];have c:=Rj t b a;have d:=Ui t (vF t i).2;rw[PPq t f g _ oM oM]
  rw[Zn b,Zn b]
def Ka(t:Tx)(i:Nat):List wH:=yN t (t.n+1) (skip t i)
def uoD{t i}(h:¬skip t i<t.n):Ka t i = []:=by
 unfold Ka;rw[yN,Zn h]
def uoE{t i}(h:skip t i<t.n)(a:(xA t i).1.e=0):Ka t i = [(xA t i).1]:=by
 unfold xA at a ⊢;rw[Zp h]at a ⊢;unfold Ka;rw[yN,Zp h,Zp a]
def ulQ{t i}(h:skip t i<t.n)(a:(xA t i).1.e≠0):Ka t i=(xA t i).1::Ka t (xA t i).2:=by
 unfold xA at a ⊢;rw[Zp h]at a ⊢;have b:=Rj t h a;have c:=Ui t (vF t (skip t i)).2;unfold Ka;rw[yN,Zp h,Zn a,PPq t t.n (t.n+1) _ oM oM]
def uqY t{i}(b:i<=t.n)(a:skip t i<t.n->(xA t i).1.e≠0):(xA t i).2<=t.n:=by
 unfold xA at a ⊢;by_cases h:skip t i<t.n
 ·rw[Zp h]at a ⊢;exact(Rj t h (a h)).2
 rw[Zn h];exact wF
def Left(t:Tx)(k:wH)(i:Nat)(l:List wH):Prop:=(l=k::Ka t i/\k.e≠0/\i<=t.n)\/(l = []/\k=⟨0,t.n,[],[]⟩/\i=t.n)
def Left.e{t k i l}(h:Left t k i l):(l = []↔k.e=0):=by
 rcases h with⟨a,b,_⟩|⟨a,b,_⟩
 ·subst a;exact⟨(λq=>by cases q),λq=>aB q b⟩
 subst a b;exact⟨λ_=>rfl,λ_=>rfl⟩
def PQ{t k i l}(h:Left t k i (k::l))(c:skip t i<t.n->(xA t i).1.e≠0):Left t (xA t i).1 (xA t i).2 l:=by
 rcases h with⟨b,f,d⟩|⟨b,_⟩
 ·injection b with _ b;subst b;by_cases a:skip t i<t.n
  ·exact .inl ⟨ulQ a (c a),c a,uqY t d c⟩
  refine .inr ⟨uoD a,?_,?_⟩
  ·unfold xA;rw[Zn a]
  unfold xA;rw[Zn a]
 cases b
def PR{t k i l}(h:Left t k i (k::l))(b:skip t i<t.n)(a:(xA t i).1.e=0):∃x,l = [x]/\x.e=0/\x.f=skip t i:=by
 rcases h with⟨e,c,d⟩|⟨e,_⟩
 ·injection e with _ e;subst e;refine⟨_,uoE b a,a,?_⟩;unfold xA;rw[Zp b];unfold vF;split
  ·rfl
  split
  ·cases Jj t (skip t i)<;>rfl
  split
  ·cases jY t (skip t i)<;>rfl
  split<;>rfl
 cases e
def PE.b:PE->List wH
 |.ref t=>[t]
 |.thr _ _=>[]
 |.str _=>[]
 |.cls _=>[]
 |.dot _=>[]
 |.grp _ e _=>e.b
 |.star e _=>e.b
 |.opt e _=>e.b
 |.not _ e=>e.b
 |.amp _ e=>e.b
 |.emp=>[]
 |.seq a b=>a.b++b.b
 |.alt a _ b=>a.b++b.b
def PE.a:PE->List wH
 |.ref _=>[]
 |.thr _ t=>[t]
 |.str _=>[]
 |.cls _=>[]
 |.dot _=>[]
 |.grp _ e _=>e.a
 |.star e _=>e.a
 |.opt e _=>e.a
 |.not _ e=>e.a
 |.amp _ e=>e.a
 |.emp=>[]
 |.seq a b=>a.a++b.a
 |.alt a _ b=>a.a++b.a
def Lu(x:wH)(s:Vl):List Value:=[Bv (kk x.e),Iv (x.f:Nat),.string (str x.nm.length (lf x.nm)),s]
def Fp:List wH->List Value->Prop
 |[],cs=>cs = []
 |x::r,cs=>∃a n c d,cs=Lu x (.slice a n c)++d/\Fp r d
def Fp.d{x a n c}:∀{l:List wH} {cs:List Value},Fp l cs->Fp (l++[x]) (cs++Lu x (Sl a n c))
 |[],cs,h=>by
  have h:=h;subst h;exact⟨a,n,c,[],sM,rfl⟩
 |y::r,cs,h=>by
  obtain⟨b,g,f,d,e,h⟩:=h;subst e;exact⟨b,g,f,d++Lu x (Sl a n c),sM,Fp.d h⟩
def Ci(Q:Np)(w:Wl)(v:Vl)(l:List wH):Prop:=∃cs,wC Q w v 4 l.length cs/\Fp l cs
def Ci.on{Q Q' w w' v l}(h:Ci Q w v l)(k:wQ Q w w')(t:∀b,Q b->Q' b):Ci Q' w' v l:=by
 obtain⟨cs,h,a⟩:=h;exact⟨cs,uA (h.on k) t,a⟩
def uoF t i:(vF t i).1.e≠97:=by
 unfold vF;split
 ·show(110:Int)≠97;omega
 split
 ·cases Jj t i with
  |none=>show(0:Int)≠97;omega
  |some p=>show(34:Int)≠97;omega
 split
 ·cases jY t i with
  |none=>show(0:Int)≠97;omega
  |some p=>show(91:Int)≠97;omega
 split
 ·rename_i h;intro q;have q:t.T i=97:=q;rw[q]at h;simp[Ba]at h
 show(0:Int)≠97;omega
def PS t i:Ar t.n (xA t i).1/\(xA t i).1.e≠97:=by
 unfold xA;split
 ·rename_i h;exact⟨(JM t h).1,uoF t _⟩
 exact⟨⟨(λy a=>by cases a),wP,.inl rfl,(λh=>aB h (by show(0:Int)≠91;omega)),(λh=>aB h (by show(0:Int)≠110;omega))⟩,by show(0:Int)≠97;omega⟩
def qz{k c}(a:k≠97)(b:c≠97)(d:c≠110):(kk k=c↔k=c):=by
 unfold kk;split
 ·omega
 exact Iff.rfl
def Vv{k}(a:k≠97):(kk k=97↔k=110):=by
 unfold kk;split
 ·omega
 omega
structure RZ where
 v7:Value
 v8:Value
 k:wH
 sa:Option Addr
 sc:Nat
 i:Nat
 l:List wH
 rf:List wH
 th:List wH
 A:Nat->Prop
 B:Nat->Prop
structure RK where
 rb:Nat
 t:Tx
 ta:Option Addr
 tc:Nat
 v6:Value
 D:Nat->Prop
def RK.rv(K:RK)(z:RZ):Rv:=⟨K.ta,K.tc,Bv (kk z.k.e),Iv (z.k.f:Nat),.string (str z.k.nm.length (lf z.k.nm)),Sl z.sa z.k.set.length z.sc,K.v6,z.v7,z.v8⟩
def RK.C(K:RK)(z:RZ):Nat->Prop:=λb=>b=K.rb\/z.A b\/z.B b
def RK.X(K:RK)(z:RZ):Nat->Prop:=λb=>K.C z b\/K.D b
structure RK.S(K:RK)(z:RZ)(W:Wl):Prop where
 sc:Sc K.rb K.t (K.rv z) z.i W
 q:wB (Out (K.X z) W) .u8 W K.ta K.t.n K.t.T
 set:wB (Out (K.X z) W) .i64 W z.sa z.k.set.length (lf z.k.set)
 j:Ci z.A W z.v7 z.rf
 m:Ci z.B W z.v8 z.th
 left:Left K.t z.k z.i z.l
 a:∀b,z.A b->b<W.heap.size/\b≠K.rb/\¬z.B b/\¬K.D b
 b:∀b,z.B b->b<W.heap.size/\b≠K.rb/\¬K.D b
 d:∀b,K.D b->b<W.heap.size/\b≠K.rb
 p:K.t.n<=K.tc
 r:Ar K.t.n z.k
 e:z.k.e≠97
 u:z.rf.length+z.th.length+z.l.length<=1000000
 tn:K.t.n<=1000000
structure RK.M(K:RK)(z:RZ)(W:Wl)(z':RZ)(W':Wl)(R T:List wH):Prop where
 kp:wA (K.C z) W W'
 a:∀b,z'.A b->z.A b\/W.heap.size<=b
 b:∀b,z'.B b->z.B b\/W.heap.size<=b
 rf:z'.rf=z.rf++R
 th:z'.th=z.th++T
section
variable {K:RK} {z z1 z2 z':RZ} {W W1 W2 W':Wl} {R T R' T':List wH} {W0:Wl} {P:Ew} {β:Int} {k':wH} {sa':Oa} {sc' j':Nat} {l':List wH}
def RK.M.cc(m:K.M z W z1 W1 R T):∀b,K.C z1 b->K.C z b\/W.heap.size<=b
 |_,.inl q=>.inl (.inl q)
 |b,.inr (.inl q)=>(m.a b q).imp (λq=>.inr (.inl q)) id
 |b,.inr (.inr q)=>(m.b b q).imp (λq=>.inr (.inr q)) id
def RK.M.d(m:K.M z W z1 W1 R T):Ay (K.X z) W (K.X z1) W1:=⟨m.kp.l (λ_ q=>.inl q),λb q=>q.elim (λq=>(m.cc b q).imp .inl id) (λq=>.inl (.inr q))⟩
def RK.M.m(m:K.M z W z1 W1 R T)(k:wA (K.C z1) W1 W2):wA (K.C z) W W2:=((⟨m.kp,m.cc⟩:Ay (K.C z) W (K.C z1) W1).c (Ay.d k)).kp
def RK.M.c(m:K.M z W z1 W1 R T)(k:K.M z1 W1 z2 W2 R' T'):K.M z W z2 W2 (R++R') (T++T') :=
 ⟨m.m k.kp,λb q=>(k.a b q).elim (m.a b) (λq=>.inr (wN m.kp.h q)),λb q=>(k.b b q).elim (m.b b) (λq=>.inr (wN m.kp.h q)),by rw[k.rf,m.rf,zU],by rw[k.th,m.th,zU]⟩
def RK.S.x(s:K.S z W):∀b,K.X z b->b<W.heap.size
 |_,.inl (.inl q)=>q▸s.sc.e.x.2.2
 |b,.inl (.inr (.inl q))=>(s.a b q).1
 |b,.inl (.inr (.inr q))=>(s.b b q).1
 |b,.inr q=>(s.d b q).1
def RK.S.cons(s:K.S z W)(a:z.k.e≠0):∃b,z.l=z.k::b:=by
 rcases s.left with q|q
 ·exact⟨_,q.1⟩
 exact aB (by rw[q.2.1]) a
def RK.S.c(s:K.S z W):z.k.f=pos K.t.n z.l:=by
 rcases s.left with q|q
 ·rw[q.1];rfl
 rw[q.1,q.2.1];rfl
def RK.S.y(s:K.S z W)(β:KB K.rb W W')(h:Sc K.rb K.t (K.rv { z with k:=k',sa:=sa',sc:=sc' }) j' W')(o:wB (Out (K.X z) W') .i64 W' sa' k'.set.length (lf k'.set))(r:Left K.t k' j' l')(g:Ar K.t.n k'/\k'.e≠97)(v:l'.length<=z.l.length) :
  K.S { z with k:=k',sa:=sa',sc:=sc',i:=j',l:=l' } W'/\K.M z W { z with k:=k',sa:=sa',sc:=sc',i:=j',l:=l' } W' [] []:=by
 have m:K.M z W { z with k:=k',sa:=sa',sc:=sc',i:=j',l:=l' } W' [] []:=⟨β.l (λ_ q=>.inl q),λ_ q=>.inl q,λ_ q=>.inl q,sM,sM⟩;have f:=β.h;refine⟨⟨h,ym s.q m.d,o,s.j.on (λb q=>β.d b (s.a b q).1 (s.a b q).2.1) (λb q=>q),s.m.on (λb q=>β.d b (s.b b q).1 (s.b b q).2.1) (λb q=>q),r,λb q=>⟨wX (s.a b q).1 f,(s.a b q).2⟩,λb q=>⟨wX (s.b b q).1 f,(s.b b q).2⟩,λb q=>⟨wX (s.d b q).1 f,(s.d b q).2⟩,s.p,g.1,g.2,?_,s.tn⟩,m⟩;have:=s.u;show z.rf.length+z.th.length+l'.length<=_;omega
def RK.S.o(s:K.S z W){β:IntKind}{a:Oa}{n:Nat}{T:Nat->Int}(h:wB (wM W W') β W' a n T):wB (Out (K.X z) W') β W' a n T:=h.g (λb q=>⟨q.2,λx=>by have:=s.x b x;have:=q.1;omega⟩)
def RK.S.kp(s:K.S z W)(k:Kf W W'):K.S z W':=(s.y (xI k) (s.sc.kp k) (ym s.set (Ay.d (k.l (λ_ q=>q.elim)))) s.left ⟨s.r,s.e⟩ wF).1
abbrev RK.r(K:RK)(W W0:Wl):RK:={ K with D:=λb=>K.D b\/(W.heap.size<=b/\b<W0.heap.size) }
def RK.S.more(s:K.S z W)(k:Kf W W0):(K.r W W0).S z W0:=by
 have s0:=s.kp k;have f:∀{i:IntKind} {a:Oa} {n:Nat} {T:Nat->Int},wB (Out (K.X z) W) i W a n T->wB (Out ((K.r W W0).X z) W0) i W0 a n T:=λh=>(h.on (λb β=>k.d b β.1 (λe=>e))).g (λb β=>⟨wX β.1 k.h,λq=>q.elim (λq=>β.2 (.inl q)) (λq=>q.elim (λq=>β.2 (.inr q)) (λq=>oH β.1))⟩)
 exact⟨s0.sc,f s.q,f s.set,s0.j,s0.m,s.left,λb q=>⟨(s0.a b q).1,(s0.a b q).2.1,(s0.a b q).2.2.1,λx=>x.elim (s0.a b q).2.2.2 (λx=>oH ((s.a b q).1))⟩,λb q=>⟨(s0.b b q).1,(s0.b b q).2.1,λx=>x.elim (s0.b b q).2.2 (λx=>oH ((s.b b q).1))⟩,λb q=>q.elim (s0.d b) (λq=>⟨q.2,λe=>by have e':b=K.rb:=e;have:=s.sc.e.x.2.2;omega⟩),s.p,s.r,s.e,s.u,s.tn⟩
def RK.S.g{V i:Wl}(s:(K.r V i).S z W)(k:wA (λb=>V.heap.size<=b/\b<i.heap.size) W W'):K.S z W':=by
 have f:∀{l:IntKind} {a:Oa} {n:Nat} {T:Nat->Int},wB (Out ((K.r V i).X z) W) l W a n T->wB (Out (K.X z) W') l W' a n T:=λh=>(h.on (λb β=>k.d b β.1 (λe=>β.2 (.inr (.inr e))))).g (λb β=>⟨wX β.1 k.h,λq=>β.2 (q.imp id .inl)⟩)
 have n:∀{A:Np},(∀b,A b->b<W.heap.size/\¬(K.r V i).D b)->wQ A W W':=λh b q=>k.d b (h b q).1 (λe=>(h b q).2 (.inr e))
 exact⟨⟨s.sc.e.a (k.d _ s.sc.e.x.2.2 (λe=>(s.d _ (.inr e)).2 rfl)),(f s.q).g (λb β=>⟨β.1,λe=>β.2 (.inl (.inl e))⟩),s.sc.le⟩,f s.q,f s.set,s.j.on (n (λb q=>⟨(s.a b q).1,(s.a b q).2.2.2⟩)) (λb q=>q),s.m.on (n (λb q=>⟨(s.b b q).1,(s.b b q).2.2⟩)) (λb q=>q),s.left,λb q=>⟨wX (s.a b q).1 k.h,(s.a b q).2.1,(s.a b q).2.2.1,λx=>(s.a b q).2.2.2 (.inl x)⟩,λb q=>⟨wX (s.b b q).1 k.h,(s.b b q).2.1,λx=>(s.b b q).2.2 (.inl x)⟩,λb q=>⟨wX (s.d b (.inl q)).1 k.h,(s.d b (.inl q)).2⟩,s.p,s.r,s.e,s.u,s.tn⟩
def Sa(s:K.S z W)(A:z.k.e≠0)(ok:∀g W' v,z.l=z.k::g.l->K.S g W'->K.M z W g W' [] []->P (Rt v) W')(bad:∀y W',z.l = [z.k,y]->y.e=0->wA (K.C z) W W'->P (.panicked (Fq 5 (y.f:Nat))) W') :
  Cs 124 #[rp K.rb] W P:=by
 obtain⟨E,a⟩:=s.cons A;have b:=s.left;rw[a]at b;refine ON s.sc s.p ⟨λW' k j sa sc v e d h D β=>?_,λW' B d β=>?_⟩
 ·have m:=PQ b (by rw[e];exact d);have n:=PS K.t z.i;rw[e]at m n;obtain⟨o,r⟩:=s.y (l':=E) β h (s.o D) m n (by rw[a];simp);exact ok _ _ v a o r
 obtain⟨x,rfl,u,w⟩:=PR b B d;rw[<-w];exact bad x W' a u (β.l (λ_ q=>.inl q))
def jr(s:K.S z W)(r:β≠0)(i:β≠97)(j:β≠110)(n:z.k.e≠β->P (Rt Bf) W)(yes:∀b W',z.k.e=β->z.l=z.k::b.l->K.S b W'->K.M z W b W' [] []->P (Rt Bt) W')(bad:∀y W',z.k.e=β->z.l = [z.k,y]->y.e=0->wA (K.C z) W W'->P (.panicked (Fq 5 (y.f:Nat))) W') :
  Cs 158 #[rp K.rb,Bv β] W P:=by
 have p:=ua s;have Y:=ua yes;have N:=ua n;have o:=ua bad;have t:W.cell? (Ad K.rb 2)=some (Bv (kk z.k.e)):=s.sc.e.x.1 2;have h:=ua (qz s.e i j);clear yes n bad s i j;generalize kk z.k.e=x at *;go_enter func158,ntmps158;by_cases g:x=β
 ·subst g;have a:=ua (h.o.1 rfl);go_wp2_with fail;refine Sa p.o (by rw[a.o];exact r) (λb W' v e s' m=>?_) (λy W' e d m=>?_)
  ·have e:=ua e;go_wp2;exact Y.o _ _ a e s' m
  have e:=ua e;have d:=ua d;go_wp2;exact⟨rfl,o.o _ _ a.o e.o d.o m⟩
 have a:=ua (λq=>g (h.o.2 q));have hk':(x != β)=true:=by simpa using g
 go_wp2;exact N.o a.o
def js{d:Int}(s:K.S z W)(h0:β≠0)(V:kk z.k.e=d↔z.k.e=β)(ok:∀o W',z.k.e=β->z.l=z.k::o.l->K.S o W'->K.M z W o W' [] []->P (Rt (Ic z.k z.sa z.sc)) W')
  (bad:∀p W',((z.k.e≠β/\p=pos K.t.n z.l)\/∃y,z.k.e=β/\z.l = [z.k,y]/\y.e=0/\p=y.f)->wA (K.C z) W W'->P (.panicked (Fq 5 (p:Nat))) W'):Cs 159 #[rp K.rb,Bv d] W P:=by
 have Z:=ua ok;have L:=ua bad;have E:=ua V;have X:=ua s.c;have aa:=s.sc.e.x.2.2;have BX:=ua s.sc.e;obtain⟨q,p,l⟩:=s.sc.e.x;have R:W.cell? (Ad K.rb 2)=some (Bv (kk z.k.e)):=q 2;have c3:W.cell? (Ad K.rb 3)=some (Iv (z.k.f:Nat)):=q 3;have T:W.cell? (Ad K.rb 4)=some (.string (str z.k.nm.length (lf z.k.nm))):=q 4;have U:W.cell? (Ad K.rb 5)=some (Sl z.sa z.k.set.length z.sc):=q 5;have Q:=ua s;obtain⟨x,J⟩:=nm (kk z.k.e);obtain⟨j,I⟩:=nm (str z.k.nm.length (lf z.k.nm));obtain⟨sn,H⟩:=nm z.k.set.length;have Y:Hid (Ic z.k z.sa z.sc=.agg #[Bv x,Iv (z.k.f:Nat),.string j,Sl z.sa sn z.sc]):=(by show _=_;rw[Ic,J,I,H]);rw[J]at R E;rw[I]at T;rw[H]at U;clear ok bad V s q J I H;go_enter func159,ntmps159;go_upto_region 2 with fail;have A:=ua ((wA.a (λ_=>False) W (Oc Hc 177)).c (wA.a _ _ (Oc #[Bv x,Iv (z.k.f:Nat),.string j,Sl z.sa sn z.sc] 177)));have B:=ua ((um W Hc 177).al (Oc #[Bv x,Iv (z.k.f:Nat),.string j,Sl z.sa sn z.sc] 177));have D:=ua (uV (W.alloc (Oc Hc 177)) #[Bv x,Iv (z.k.f:Nat),.string j,Sl z.sa sn z.sc] 177 (W.heap.size+1) sM);generalize (W.alloc (Oc Hc 177)).alloc (Oc #[Bv x,Iv (z.k.f:Nat),.string j,Sl z.sa sn z.sc] 177)=u at *;clear R c3 T U p l;obtain⟨q,p,l⟩:=D.o.x;by_cases G:x=d
 ·subst G;have w:=ua (E.o.1 rfl);have S0:=ua (Q.o.more A.o);have O:Hid (∀W1,wA (K.C z) u W1->wA (K.C z) W W1):=λW1 k=>(A.o.l (λ_ q=>q.elim)).c k
  clear q p l;obtain⟨q,p,l⟩:=D.o.x;go_wp2_with fail;refine Sa (K:=K.r W u) S0.o (by rw[w.o];exact h0) (λo W' v e s' m=>?_) (λy W' e F m=>?_)
  ·have e:=ua e;have st:∀b,W.heap.size<=b->b<u.heap.size->W'.heap[b]?=u.heap[b]?:=λb h1 h2=>m.kp.d b h2 (λq=>oH (Q.x b (.inl q)))
   obtain⟨q2,p2,l2⟩:=(D.a (st _ oM l)).x;obtain⟨q3,p3,l3⟩:=(B.a (st _ oM B.x.2.2)).x;have N:Hid (∀v0 v1 v2 v3,K.S o (Sd W' W.heap.size v0 v1 v2 v3)/\K.M z W o (Sd W' W.heap.size v0 v1 v2 v3) [] []):=λv0 v1 v2 v3=>(by
    have i:W.heap.size<=W.heap.size/\W.heap.size<u.heap.size:=⟨wF,B.x.2.2⟩;exact⟨s'.g ((((zP i).c (zP i)).c (zP i)).c (zP i)),⟨xB (xB (xB (xB (O.o _ m.kp) i.1) i.1) i.1) i.1,λb x=>(m.a b x).imp id (λx=>wN A.o.h x),λb x=>(m.b b x).imp id (λx=>wN A.h x),m.rf,m.th⟩⟩)
   clear q p s' m st;go_wp2;refine wL (v:=.agg #[Bv x,Iv (z.k.f:Nat),.string j,Sl z.sa sn z.sc]) (by simp[results,f159,go_sem, *]) rfl ?_;rw[<-Y.o];exact Z.o _ _ w.o e.o (N.o _ _ _ _).1 (N.o _ _ _ _).2
  have e:=ua e;have F:=ua F;go_wp2;exact⟨rfl,L.o _ _ (.inr ⟨y,w.o,e.o,F.o,rfl⟩) (O.o _ m)⟩
 have w:=ua (λq=>G (E.o.2 q));have hk':(x != d)=true:=by simpa using G
 go_wp2;exact⟨rfl,X.o▸L.o _ _ (.inl ⟨w.o,rfl⟩) (A.o.l (λ_ q=>q.elim))⟩
end
def Ib(R:Sum Nat (PE×List wH))(p:Nat):Prop:=R=.inl p\/∃x y l,R=.inr (x,y::l)/\y.e=0/\y.f=p
def PT{y l}(h:y.e=0):¬beg (kAt (y::l) 0):=by
 have:kAt (y::l) 0=0:=h;rw[this];unfold beg;omega
def vL n:∀(f m:Nat) (acc:PE) (y:wH) (l:List wH),y.e=0->Ib (rd n f m acc (y::l)) y.f
 |0,m,acc,y,l,h=>.inl (by rw[rd];rfl)
 |f+1,0,acc,y,l,h=>.inl (by
   rw[rd.eq_def];simp only[h];rfl)
 |f+1,1,acc,y,l,h=>by
  rw[rd];rcases vL n f 0 .emp y l h with q|⟨x,z,l',q,b,c⟩
  ·rw[q];exact .inl rfl
  rw[q];simp only[b];exact .inr ⟨x,z,l',rfl,b,c⟩
 |f+1,2,acc,y,l,h=>by
  rw[rd];simp only[h];exact vL n f 1 .emp y l h
 |f+1,3,acc,y,l,h=>by
  rw[rd,Zn (PT h)];exact .inr ⟨_,_,_,rfl,h,rfl⟩
 |f+1,4,acc,y,l,h=>by
  rw[rd,Zn (PT h)];exact .inr ⟨_,_,_,rfl,h,rfl⟩
 |f+1,5,acc,y,l,h=>by
  rw[rd];rcases vL n f 4 .emp y l h with q|⟨x,z,l',q,b,c⟩
  ·rw[q];exact .inl rfl
  rw[q];rw[<-c];exact vL n f 6 x z l' b
 |f+1,6,acc,y,l,h=>by
  rw[rd];simp only[h];exact .inr ⟨_,_,_,rfl,h,rfl⟩
 |f+1,m+7,acc,y,l,h=>.inl (by rw[rd];rfl)
end
section
open M (OpD uh Gr)
structure RK.Rd(K:RK)(z:RZ)(W:Wl)(d:Nat)(R:Sum Nat (PE×List wH))(P:Ew):Prop where
 ok:∀x z' ty u W',R=.inr (x,z'.l)->K.S z' W'->K.M z W z' W' x.b x.a->Ev (K.X z') W' x (.iface ty u)->z'.l.length+d<=z.l.length->P (Rt (.iface ty u)) W'
 bad:∀p W',Ib R p->wA (K.C z) W W'->P (.panicked (Fq 5 (p:Nat))) W'
def Ho(a:FuncId)(m c d f:Nat):Prop:=∀(K:RK) (z:RZ) (W:Wl) (P:Ew),K.S z W->8*z.l.length+c<f->K.Rd z W d (rd K.t.n f m .emp z.l) P->Cs a #[rp K.rb] W P
section
variable {K:RK} {z z1 z2:RZ} {W W1 W2:Wl} {R T R' T':List wH} {n β:Nat} {l r:List wH} {x acc:PE} {y:wH} {p:Nat}
def RK.M.e(K:RK)(z:RZ)(W:Wl):K.M z W z W [] []:=⟨zM,λ_ q=>.inl q,λ_ q=>.inl q,sM,sM⟩
def RK.M.f(m:K.M z W z1 W1 R T)(k:K.M z1 W1 z2 W2 [] []):K.M z W z2 W2 R T:=by
 have:=m.c k;rwa [Ca,Ca]at this
def RK.S.C(s:K.S z W):kAt z.l 0=z.k.e:=by
 rcases s.left with q|q
 ·rw[q.1];rfl
 rw[q.1,q.2.1];rfl
def RK.S.h(s:K.S z W)(h:z.l=y::r):y=z.k:=by
 rcases s.left with q|q
 ·rw[q.1]at h;injection h with h;exact h.symm
 rw[q.1]at h;cases h
def RK.S.f(s:K.S z W):Ob (kk z.k.e)=true↔beg (Go.Proofs.YtoihadcablknpaaGreatDoor.kAt z.l 0):=by
 rw[s.C];have:=s.e;unfold Ob Go.Proofs.YtoihadcablknpaaGreatDoor.beg kk;rw[decide_eq_true_iff];split<;>omega
def lenM(t:Tx)(rb:Nat)(w:World):Nat:=match w.cell? (Ad rb 2) with|some (.int _ x)=>if x=0 then 0 else (Ka t (Lw rb w)).length+1|_=>0
def RK.S.s(s:K.S z W):lenM K.t K.rb W=z.l.length:=by
 unfold Go.Proofs.YtoihadcablknpaaGreatDoor.lenM;rw[s.sc.e.x.1 2,s.sc.f];show(if kk z.k.e=0 then 0 else (Ka K.t z.i).length+1)=_;have a:(kk z.k.e=0↔z.k.e=0):=qz s.e oM oM;rcases s.left with q|q
 ·rw[Zn (λz=>q.2.1 (a.1 z)),q.1];rfl
 rw[Zp (a.2 (by rw[q.2.1])),q.1];rfl
def qy{m:Nat}{R:Sum Nat (PE×List wH)}(g:PE->PE)(h:Ib R p):Ib (match (generalizing:=false) R with|.inl p=>.inl p|.inr (e,r)=>rd n β m (g e) r) p:=by
 rcases h with q|⟨x,y,l',q,b,a⟩
 ·rw[q];exact .inl rfl
 rw[q,<-a];exact vL n β m (g x) y l' b
def Vu{R:Sum Nat (PE×List wH)}(g:PE->PE)(h:Ib R p):Ib (match (generalizing:=false) R with|.inl p=>.inl p|.inr (e,r')=>.inr (g e,r')) p:=by
 rcases h with q|⟨x,y,l',q,b,a⟩
 ·rw[q];exact .inl rfl
 rw[q];exact .inr ⟨g x,y,l',rfl,b,a⟩
def y9(h:Ib (rd n β 0 .emp l) p):Ib (rd n (β+1) 1 .emp l) p:=by
 rw[rd];rcases h with q|⟨x,y,l',q,a,b⟩
 ·rw[q];exact .inl rfl
 rw[q];simp only[a];exact .inr ⟨x,y,l',rfl,a,b⟩
def z6(h:rd n β 0 .emp l=.inr (x,y::r)):rd n (β+1) 1 .emp l=if y.e=42 then .inr (.star x y,r) else if y.e=63 then .inr (.opt x y,r) else .inr (x,y::r):=by rw[rd,h]
def z7(h:rd n β 0 .emp l=.inr (x,[])):rd n (β+1) 1 .emp l=.inr (x,[]):=by rw[rd,h]
def z8(F:Ho 260 0 1 1 β):Ho 240 1 2 1 (β+1):=by
 intro K z W P s O N;have G:=ua (λH=>F K z W H s oM);have i:=ua N;go_enter func240,ntmps240;go_wp2_with fail;refine G _ ⟨λx j ty u W1 e v o C L=>?_,λp W1 I J=>?_⟩
 rotate_left
 ·go_wp2;exact⟨rfl,i.bad _ _ (y9 I) J⟩
 have E:=ua e;have n:Hid (∀r,j.l=j.k::r->_):=λr q=>z6 (e.trans (by rw[q]))
 go_wp2_with fail;refine jr v oM oM oM (λb=>?_) (λD W2 b a B t=>?_) (λy W2 b a w A=>?_)
 ·have b:=ua b;go_wp2_with fail;refine jr v oM oM oM (λg=>?_) (λD W2 g a B t=>?_) (λy W2 g a w A=>?_)
  ·have g:=ua g;go_wp2;refine i.ok x j ty u W1 ?_ v o C L;cases q:j.l with
   |nil=>exact z7 (q▸E.o)
   |cons y r =>
    obtain rfl:=v.h q;rw[n.o r q,Zn b.o,Zn g.o]
  ·have c:=ua (i.ok (.opt x j.k) D 285 (.agg #[.iface ty u,Mu]) W2 (by rw[n.o _ a,Zn b.o,Zp g]) B (o.f t) ⟨_,rfl,C.mv t.d⟩ (by have:=zD List.length a;simp at this;omega));go_wp2;exact c
  have c:=ua (i.bad y.f W2 (.inr ⟨_,y,[],by rw[n.o _ a,Zn b.o,Zp g],w,rfl⟩) (o.m A));go_wp2;exact⟨rfl,c⟩
 ·have c:=ua (i.ok (.star x j.k) D 287 (.agg #[.iface ty u]) W2 (by rw[n.o _ a,Zp b]) B (o.f t) ⟨_,rfl,C.mv t.d⟩ (by have:=zD List.length a;simp at this;omega));go_wp2;exact c
 have c:=ua (i.bad y.f W2 (.inr ⟨_,y,[],by rw[n.o _ a,Zp b],w,rfl⟩) (o.m A));go_wp2;exact⟨rfl,c⟩
def uqX n:∀β,rd n β 1 .emp []=.inl n
 |0=>by rw[rd];rfl
 |1=>by rw[rd,rd];rfl
 |β+2=>by rw[rd,rd.eq_def]
def PN:rd n (β+1) 2 .emp (y::r)=if y.e=33 then (match rd n β 2 .emp r with|.inl p=>.inl p|.inr (e,r')=>.inr (.not y e,r')) else if y.e=38 then (match rd n β 2 .emp r with|.inl p=>.inl p|.inr (e,r')=>.inr (.amp y e,r')) else rd n β 1 .emp (y::r):=by
 rw[rd.eq_def];rfl
def uhH(V:Ho 240 1 2 1 β)(X:Ho 223 2 3 1 β):Ho 223 2 3 1 (β+1):=by
 intro K z W P s Y Z;have H:=ua s;have I:=ua Y;have U:=ua V;have T:=ua X;have i:=ua Z;have v:Hid (∀r,z.l=z.k::r->rd K.t.n (β+1) 2 .emp z.l=_):=λr q=>(zD _ q).trans PN
 go_enter func223,ntmps223;go_wp2_with fail;refine jr H oM oM oM (λb=>?_) (λR W2 b g Q C=>?_) (λy W2 b g L N=>?_)
 rotate_left
 ·have b:=ua b;have w:=ua g;have J:=zD List.length g;simp at J;go_wp2_with fail;refine T K R W2 _ Q (oH I) ⟨λx G ty u j e E D F O=>?_,λp j A B=>?_⟩
  ·have d:=ua (i.ok (.not z.k x) G 288 (.agg #[.iface ty u]) j (by rw[v.o _ w.o,Zp b.o,e]) E (C.c D) ⟨_,rfl,F⟩ oM);go_wp2;exact d
  go_wp2;exact⟨rfl,i.bad _ _ (by rw[v.o _ w.o,Zp b.o];exact Vu (.not z.k) A) (C.m B)⟩
 ·have d:=ua (i.bad y.f W2 (by rw[v.o _ g,Zp b];exact Vu (.not z.k) (vL _ β 2 .emp y [] L)) N);go_wp2;exact⟨rfl,d⟩
 have b:=ua b;go_wp2_with fail;refine jr H oM oM oM (λo=>?_) (λR W2 o g Q C=>?_) (λy W2 o g L N=>?_)
 rotate_left
 ·have o:=ua o;have w:=ua g;have J:=zD List.length g;simp at J;go_wp2_with fail;refine T K R W2 _ Q (oH I) ⟨λx G ty u j e E D F O=>?_,λp j A B=>?_⟩
  ·have d:=ua (i.ok (.amp z.k x) G 288 (.agg #[.iface 288 (.agg #[.iface ty u])]) j (by rw[v.o _ w.o,Zn b.o,Zp o.o,e]) E (C.c D) ⟨_,rfl,F⟩ oM);go_wp2;exact d
  go_wp2;exact⟨rfl,i.bad _ _ (by rw[v.o _ w.o,Zn b.o,Zp o.o];exact Vu (.amp z.k) A) (C.m B)⟩
 ·have d:=ua (i.bad y.f W2 (by rw[v.o _ g,Zn b.o,Zp o];exact Vu (.amp z.k) (vL _ β 2 .emp y [] L)) N);go_wp2;exact⟨rfl,d.o⟩
 have S:Hid (rd K.t.n (β+1) 2 .emp z.l=rd K.t.n β 1 .emp z.l):=(by
  show _=_;cases q:z.l with
  |nil=>rw[uqX,rd.eq_def]
  |cons y r =>
   obtain rfl:=H.o.h q;rw[PN,Zn b.o,Zn o])
 go_wp2_with fail;refine U K z W _ H (oH I) ⟨λx G ty u j e E D F O=>?_,λp j A B=>?_⟩
 ·have d:=ua (i.ok x G ty u j (S.trans e) E D F O);go_wp2;exact d
 go_wp2;exact⟨rfl,i.bad _ _ (S.o▸A) B⟩
def Km:rd n (β+1) 4 .emp l=if beg (kAt l 0) then (match rd n β 2 .emp l with|.inl p=>.inl p|.inr (e,r)=>rd n β 3 e r) else .inr (.emp,l):=by rw[rd];rfl
def Kn:rd n (β+1) 3 acc l=if beg (kAt l 0) then (match rd n β 2 .emp l with|.inl p=>.inl p|.inr (e,r)=>rd n β 3 (.seq acc e) r) else .inr (acc,l):=by rw[rd];rfl
def Pp(K:RK)(z:RZ)(W:Wl)(F d m c:Nat)(R:Sum Nat (PE×List wH))(v:Vl)(wr:Wl):Prop :=
 ∃β acc e ty u,v=.iface ty u/\β+1<=F/\R=rd K.t.n (β+1) m acc e.l/\8*e.l.length+c<β+1/\K.S e wr/\K.M z W e wr acc.b acc.a/\Ev (K.X e) wr acc (.iface ty u)/\e.l.length+d<=z.l.length
def uoA{F}(A:∀g,g<=F->Ho 223 2 3 1 g):Ho 196 4 4 0 (F+1):=by
 intro K z W P s J N;have E:=ua s;have C:=ua J;have y:=ua A;have j:=ua N;have H:W.cell? (Ad K.rb 2)=some (Bv (kk z.k.e)):=s.sc.e.x.1 2;have b:=ua s.f;clear s J A N;generalize kk z.k.e=c at *;go_enter func196,ntmps196;go_wp2_with fail;refine(QM c W).mono ?_;rintro e V ⟨rfl,v⟩;obtain rfl:=v.symm;cases a:Ob c with
 |false =>
  have r:=ua (Km.trans (Zn (λq=>by have:=b.o.2 q;rw[a]at this;cases this)):rd K.t.n (F+1) 4 .emp z.l=_);clear a;go_wp2;exact j.o.ok .emp z 355 (.agg #[]) _ r.o E.o (RK.M.e _ _ _) rfl wF
 |true =>
  have h:=ua (Km.trans (Zp (b.o.1 a)):rd K.t.n (F+1) 4 .emp z.l=_);clear a b;go_wp2_with fail;refine y.o F wF K z _ _ E.o (oH C.o) ⟨λx z1 ty u W1 e s1 Z t1 n1=>?_,λp W1 a X=>?_⟩
  rotate_left
  ·go_wp2;exact⟨rfl,j.o.bad _ _ (by rw[h.o];exact qy id a) X⟩
  have D:Hid (Pp K z W F 1 3 4 (rd K.t.n (F+1) 4 .emp z.l) (.iface ty u) W1):=(by
   have h1:=C.o;obtain⟨β,rfl⟩:∃β,F=β+1:=⟨F-1,oM⟩;exact⟨β,x,z1,ty,u,rfl,wF,by rw[h.o,e],oM,s1,Z,t1,n1⟩)
  clear e H;go_wp2;go_loopw [3] (Pp K z W F 1 3 4 (rd K.t.n (F+1) 4 .emp z.l)) (λ_ wr=>lenM K.t K.rb wr)
  ·exact D.o
  obtain⟨β,acc,o,R,u2,rfl,hF,I,ab,i,w,Q,n2⟩:=hrel;have B:=ua I;have S:=ua i.s;have H:wr.cell? (Ad K.rb 2)=some (Bv (kk o.k.e)):=i.sc.e.x.1 2;have b:=ua i.f;clear I D;generalize kk o.k.e=c at *;go_wp2_with fail;refine(QM _ wr).mono ?_;rintro e V ⟨rfl,v⟩;obtain rfl:=v.symm;cases a:Ob _ with
  |false =>
   have r:=ua (B.o.trans (Kn.trans (Zn (λq=>by have:=b.o.2 q;rw[a]at this;cases this))));clear a;go_wp2;exact j.o.ok acc o R u2 _ r.o i w Q oM
  |true =>
   have h:=ua (B.o.trans (Kn.trans (Zp (b.o.1 a))));clear a b;go_wp2_with fail;refine y.o β oM K o _ _ i oM ⟨λx z3 aa u3 G e O L t3 n3=>?_,λp G a Y=>?_⟩
   ·have U:Hid (Pp K z W F 1 3 4 (rd K.t.n (F+1) 4 .emp z.l) (.iface 284 (.agg #[.iface R u2,.iface aa u3])) G):=(by
     obtain⟨β,rfl⟩:∃g,β=g+1:=⟨β-1,oM⟩;exact⟨β,.seq acc x,z3,_,_,rfl,oM,by rw[h.o,e],oM,O,w.c L,⟨_,_,rfl,Q.mv L.d,t3⟩,oM⟩)
    have T:=ua O.s;clear e;go_wp2;go_roundw
    ·exact U.o
    rw[S.o,T.o];omega
   go_wp2;exact⟨rfl,j.o.bad _ _ (by rw[h.o];exact qy (.seq acc) a) (w.m Y)⟩
def PO:rd n (β+1) 5 .emp l=(match rd n β 4 .emp l with|.inl p=>.inl p|.inr (e,r)=>rd n β 6 e r):=by rw[rd];rfl
def Ia:rd n (β+1) 6 acc (y::r)=if y.e=47 then (match rd n β 4 .emp r with|.inl p=>.inl p|.inr (e,r')=>rd n β 6 (.alt acc y e) r') else .inr (acc,y::r):=by rw[rd.eq_def];rfl
def uoC{F}(O:∀g,g<=F->Ho 196 4 4 0 g):Ho 160 5 6 0 (F+1):=by
 intro K z W P s hf nx;have D:=ua O;have j:=ua nx;go_enter func160,ntmps160;go_wp2_with fail;refine D F wF K z _ _ s oM ⟨λx z1 ty u W1 e s1 m1 t1 n1=>?_,λp W1 B Y=>?_⟩
 rotate_left
 ·go_wp2;exact⟨rfl,j.bad _ _ (by rw[PO];exact qy id B) Y⟩
 have Q:Hid (Pp K z W F 0 6 5 (rd K.t.n (F+1) 5 .emp z.l) (.iface ty u) W1):=(by
  obtain⟨β,rfl⟩:∃β,F=β+1:=⟨F-1,oM⟩;exact⟨β,x,z1,ty,u,rfl,wF,by rw[PO,e],oM,s1,m1,t1,n1⟩)
 go_wp2;go_loopw [3] (Pp K z W F 0 6 5 (rd K.t.n (F+1) 5 .emp z.l)) (λ_ wr=>lenM K.t K.rb wr)
 ·exact Q
 obtain⟨β,acc,i,L,u2,rfl,hF,U,ab,w,v,J,n2⟩:=hrel;have A:=ua U;have R:=ua w.s;go_wp2_with fail;refine jr w oM oM oM (λb=>?_) (λz3 G b o s3 C=>?_) (λy G b o X Z=>?_)
 ·have b:=ua b;go_wp2;refine j.ok acc i L u2 _ (A.trans ?_) w v J oM;cases q:i.l with
  |nil=>rw[rd.eq_def]
  |cons y r =>
   obtain rfl:=w.h q;rw[Ia,Zn b.o]
 ·have E:Hid (rd K.t.n (F+1) 5 .emp z.l=_):=A.trans ((zD _ o).trans (Ia.trans (Zp b)));have V:=zD List.length o;simp at V;go_wp2_with fail;refine D β oM K z3 _ _ s3 oM ⟨λx z4 aa u4 W4 e I H t4 n4=>?_,λp W4 B k4=>?_⟩
  ·have T:Hid (Pp K z W F 0 6 5 (rd K.t.n (F+1) 5 .emp z.l) (.iface 285 (.agg #[.iface L u2,.iface aa u4])) W4):=(by
    obtain⟨β,rfl⟩:∃g,β=g+1:=⟨β-1,oM⟩;exact⟨β,.alt acc i.k x,z4,_,_,rfl,oM,by rw[E.o,e],oM,I,(v.f C).c H,⟨_,_,rfl,(J.mv C.d).mv H.d,t4⟩,oM⟩)
   have S:=ua I.s;go_wp2;go_roundw
   ·exact T
   rw[R.o,S.o];omega
  go_wp2;exact⟨rfl,j.bad _ _ (by rw[E.o];exact qy (.alt acc i.k) B) ((v.f C).m k4)⟩
 have N:=ua (j.bad y.f G (by rw[A.o,o,Ia,Zp b];exact qy (.alt acc i.k) (vL _ β 4 .emp y [] X)) (v.m Z));go_wp2;exact⟨rfl,N⟩
end
end
section
open M (OpD uh Gr)
def Pn{ops:Array Oper}{o:Oper}{a:Act}{w W':Wl}{K:Act->World->Prop}{c:Exit->Act->World->Prop}{E:Prop}{t b:TypeId}{v y r:Vl}(d:o.guard=none)(s x:Operand)(e:o.op=.call { callee:=.builtin .append,args:=#[s,x],argTypes:=#[t,b] })(g:a.eval s=v)(i:a.eval x=y)
  (f:(Builtin.append_ #[t,b] o.type #[v,y]).run prog w=.ok r W') (h:K (a.put o.dst r) W'):if Region.wanted o (yielded ops a.tmps)=true then Oper.wp prog o a w K c else E:=by
 rw[Zp (by simp[Region.wanted,d])];unfold Oper.wp execOp;simp only[e,resolve,invoke,builtin,Fa,Gc,Gk,Hs,Er,Gl,g,i,f];exact h
def y1:(prog.info? 177).map (λi=>(i.zero,i.size,i.bytes))=some (some (.agg #[Bv 0,Iv 0,.string ⟨#[]⟩,nS]),4,56):=rR
def y2:vA 179 177 4 56:=⟨underlying179,⟨_,y1,rfl⟩,oM⟩
section
variable {K:RK} {z z':RZ} {W W':Wl} {x:wH} {β:Vl} {A:Np} {l:List wH} {sa:Oa} {sn sc:Nat} {n f:Nat} {r:List wH} {y:wH} {p:Nat}
abbrev Vt(x:wH)(sa:Oa)(sn sc:Nat):Obj:=.cells #[Bv (kk x.e),Iv (x.f:Nat),.string (str x.nm.length (lf x.nm)),Sl sa sn sc] 177
def qW{t e:TypeId}{k s n:Nat}{cs news:List Value}{o:Obj}(C:vA t e k s)(h:wC A W β k n cs)(B:∀b,A b->b<W.heap.size)(G:Src prog k t (Sl (Sm W.heap.size 0) 1 1) 1 news (W.alloc o))(J:n<=1000000)(I:0<k) :
  ∃a c W',(Builtin.append_ #[t,t] t #[β,Sl (Sm W.heap.size 0) 1 1]).run prog (W.alloc o)=.ok (Sl a (n+1) c) W'/\wC (λb=>(A b\/W.heap.size<=b)/\b<W'.heap.size) W' (Sl a (n+1) c) k (n+1) (cs++news)/\wA A W W':=by
 have i:Kf W (W.alloc o):=wU;obtain⟨N,w',F,p,j,L⟩:=CR t C (h.on (λb l=>i.d b (B b l) (λe=>e))) G oM;obtain⟨r,w,rfl⟩:=uq p;refine⟨r,w,w',F,?_,⟨j.os,j.g,j.f,wN i.h j.h,λb l D=>(j.d b (wX l i.h) D).trans (i.d b l (λe=>e))⟩⟩;rcases p with⟨_,q,_⟩|⟨g,cap,e,E,x,y,z,m⟩
 ·omega
 obtain⟨u,H⟩:=Dt.1 (m 0 (Nat.mul_pos oM I)).1;exact .inr ⟨g,cap,e,⟨E.imp id (wN i.h),ud H⟩,x,y,z,m⟩
def Ci.app(h:Ci A W β l)(i:∀b,A b->b<W.heap.size)(m:l.length<=1000000) :
  ∃a c W',(Builtin.append_ #[179,179] 179 #[β,Sl (Sm W.heap.size 0) 1 1]).run prog (W.alloc (Vt x sa sn sc))=.ok (Sl a (l.length+1) c) W'/\Ci (λb=>(A b\/W.heap.size<=b)/\b<W'.heap.size) W' (Sl a (l.length+1) c) (l++[x])/\wA A W W':=by
 obtain⟨cs,f,g⟩:=h;obtain⟨a,c,W',p,n,k⟩:=qW (o:=Vt x sa sn sc) (news:=Lu x (Sl sa sn sc)) y2 f i (vC underlying179 rfl (λj u e=>by rw[(um W _ 177).x.1 j,<-e];simp[Lu]) (λu e=>by
   simp only[Lu,Bx,Jp,or_false]at e;rcases e with rfl|rfl|rfl|rfl<;>rfl)) m oM
 exact⟨a,c,W',p,⟨_,by rw[wK,Bs];exact n,Fp.d g⟩,k⟩
def RK.S.w(s:K.S z W)(k:wA z.A W W')(h:Ci (λb=>(z.A b\/W.heap.size<=b)/\b<W'.heap.size) W' β (z.rf++[x]))(f:z.rf.length+z.th.length+z.l.length+1<=1000000) :
  ∃n,n.l=z.l/\K.S n (W'.setCell (Ad K.rb 7) β)/\K.M z W n (W'.setCell (Ad K.rb 7) β) [x] []/\wJ W' K.rb (Pq K.t (K.rv z) K.ta z.i):=by
 have D:=k.h;have C:¬z.A K.rb:=λq=>(s.a _ q).2.1 rfl
 have o:=s.sc.e.a (k.d _ s.sc.e.x.2.2 C);have st:∀b,b≠K.rb->(W'.setCell (Ad K.rb 7) β).heap[b]?=W'.heap[b]?:=λb f=>zJ _ f
 refine⟨{ z with v7:=β,rf:=z.rf++[x],A:=λb=>(z.A b\/W.heap.size<=b)/\b<W'.heap.size },rfl,?_⟩;have m:K.M z W { z with v7:=β,rf:=z.rf++[x],A:=λb=>(z.A b\/W.heap.size<=b)/\b<W'.heap.size } (W'.setCell (Ad K.rb 7) β) [x] [] :=
  ⟨(k.l (λ_ q=>.inr (.inl q))).c (zP (.inl rfl)),λ_ q=>q.1,λ_ q=>.inl q,sM,sM⟩
 refine⟨⟨⟨o.set 7 β,(ym s.q m.d).g (λb f=>⟨f.1,λe=>f.2 (.inl (.inl e))⟩),s.sc.le⟩,ym s.q m.d,ym s.set m.d,h.on (λb q=>st b (λe=>q.1.elim (λq=>(s.a b q).2.1 e) (λq=>oH s.sc.e.x.2.2))) (λ_ q=>q),s.m.on (λb q=>(st b (s.b b q).2.1).trans (k.d b (s.b b q).1 (λa=>(s.a b a).2.2.1 q))) (λ_ q=>q),s.left,?_,?_,λb q=>⟨by rw[uj];have:=(s.d b q).1;omega,(s.d b q).2⟩,s.p,s.r,s.e,?_,s.tn⟩,m,o⟩
 ·rintro b q;rw[uj];have y:=s.d b;have j:=s.b b;have u:=s.a b;have B:=s.sc.e.x.2.2;exact q.1.elim (λa=>⟨q.2,(u a).2⟩) (λa=>⟨q.2,oM,λx=>by have:=(j x).1;omega,λx=>by have:=(y x).1;omega⟩)
 ·rintro b q;rw[uj];have y:=s.d b;have j:=s.b b;have u:=s.a b;have B:=s.sc.e.x.2.2;exact⟨by have:=(j q).1;omega,(j q).2⟩
 simp;omega
def RK.S.v(s:K.S z W)(k:wA z.B W W')(h:Ci (λb=>(z.B b\/W.heap.size<=b)/\b<W'.heap.size) W' β (z.th++[x]))(n:z.rf.length+z.th.length+z.l.length+1<=1000000) :
  ∃o,o.l=z.l/\K.S o (W'.setCell (Ad K.rb 8) β)/\K.M z W o (W'.setCell (Ad K.rb 8) β) [] [x]/\wJ W' K.rb (Pq K.t (K.rv z) K.ta z.i):=by
 have D:=k.h;have C:¬z.B K.rb:=λq=>(s.b _ q).2.1 rfl
 have u:=s.sc.e.a (k.d _ s.sc.e.x.2.2 C);have st:∀b,b≠K.rb->(W'.setCell (Ad K.rb 8) β).heap[b]?=W'.heap[b]?:=λb n=>zJ _ n
 refine⟨{ z with v8:=β,th:=z.th++[x],B:=λb=>(z.B b\/W.heap.size<=b)/\b<W'.heap.size },rfl,?_⟩;have m:K.M z W { z with v8:=β,th:=z.th++[x],B:=λb=>(z.B b\/W.heap.size<=b)/\b<W'.heap.size } (W'.setCell (Ad K.rb 8) β) [] [x] :=
  ⟨(k.l (λ_ q=>.inr (.inr q))).c (zP (.inl rfl)),λ_ q=>.inl q,λ_ q=>q.1,sM,sM⟩
 refine⟨⟨⟨u.set 8 β,(ym s.q m.d).g (λb n=>⟨n.1,λe=>n.2 (.inl (.inl e))⟩),s.sc.le⟩,ym s.q m.d,ym s.set m.d,s.j.on (λb q=>(st b (s.a b q).2.1).trans (k.d b (s.a b q).1 (λc=>(s.a b q).2.2.1 c))) (λ_ q=>q),h.on (λb q=>st b (λe=>q.1.elim (λq=>(s.b b q).2.1 e) (λq=>oH s.sc.e.x.2.2))) (λ_ q=>q),s.left,?_,?_,λb q=>⟨by rw[uj];have:=(s.d b q).1;omega,(s.d b q).2⟩,s.p,s.r,s.e,?_,s.tn⟩,m,u⟩
 ·rintro b q;rw[uj];have y:=s.d b;have w:=s.b b;have f:=s.a b;have A:=s.sc.e.x.2.2;exact⟨by have:=(f q).1;omega,(f q).2.1,λx=>x.1.elim (f q).2.2.1 (λx=>oH ((f q).1)),(f q).2.2.2⟩
 ·rintro b q;rw[uj];have y:=s.d b;have w:=s.b b;have f:=s.a b;have A:=s.sc.e.x.2.2;exact q.1.elim (λa=>⟨q.2,(w a).2⟩) (λa=>⟨q.2,oM,λx=>by have:=(y x).1;omega⟩)
 simp;omega
def RK.M.of(k:Kf W W'):K.M z W z W' [] []:=⟨k.l (λ_ q=>q.elim),λ_ q=>.inl q,λ_ q=>.inl q,sM,sM⟩
def Po:rd n (f+1) 0 .emp (y::r)=if y.e=110 then .inr (.ref y,r) else if y.e=34 then .inr (.str y,r) else if y.e=91 then .inr (.cls y,r) else if y.e=46 then .inr (.dot y,r) else if y.e=94 then (match r with|[]=>.inl n|y'::r'=>if y'.e=110 then .inr (.thr y y',r') else .inl y'.f)
  else if y.e=40 then (match rd n f 5 .emp r with|.inl p=>.inl p|.inr (e,r')=>match r' with|[]=>.inl n|y'::r''=>if y'.e=41 then .inr (.grp y e y',r'') else .inl y'.f) else .inl y.f:=by rw[rd.eq_def];rfl
def PK{R:Sum Nat (PE×List wH)}(h:Ib R p):Ib (match (generalizing:=false) R with|.inl p=>.inl p|.inr (e,r')=>match r' with|[]=>.inl n|y'::r''=>if y'.e=41 then .inr (.grp y e y',r'') else .inl y'.f) p:=by
 rcases h with q|⟨x,y,l',q,b,a⟩
 ·rw[q];exact .inl rfl
 rw[q];show Ib (if y.e=41 then _ else _) p;rw[Zn oM,a];exact .inl rfl
def y3{F}(H5:Ho 160 5 6 0 F):Ho 260 0 1 1 (F+1):=by
 intro K z W P s hf nx;have HF:=ua hf;have G5:=ua H5;have ap:=s.u;have J:=ua nx;have HK:=ua s.e;have SS:=ua s;obtain⟨q,p,l⟩:=s.sc.e.x;have c2:W.cell? (Ad K.rb 2)=some (Bv (kk z.k.e)):=q 2;have c3:W.cell? (Ad K.rb 3)=some (Iv (z.k.f:Nat)):=q 3;have c4:W.cell? (Ad K.rb 4)=some (.string (str z.k.nm.length (lf z.k.nm))):=q 4;have c5:W.cell? (Ad K.rb 5)=some (Sl z.sa z.k.set.length z.sc):=q 5;obtain⟨x,hx⟩:=nm (kk z.k.e);obtain⟨sz,ah⟩:=nm (str z.k.nm.length (lf z.k.nm));obtain⟨sn,af⟩:=nm z.k.set.length;rw[hx]at c2;rw[ah]at c4;rw[af]at c5;have HX:=ua hx;have ac:=ua ah;have am:=ua af;generalize hW:W.alloc (Oc #[Bv x,Iv (z.k.f:Nat),.string sz,Sl z.sa sn z.sc] 177)=W0;have k0:Kf W W0:=hW▸wU;have S0:=ua (s.kp k0);have I:Hid (K.M z W z W0 [] []):=.of k0;have B0:Hid (wJ W0 W.heap.size #[Bv x,Iv (z.k.f:Nat),.string sz,Sl z.sa sn z.sc]):=hW▸um W _ _;have NI:Hid (∀{z' W' R T},K.M z W0 z' W' R T->¬K.C z' W.heap.size):=λm q=>(m.cc _ q).elim (λq=>oH (SS.o.x _ (.inl q))) (λq=>oH B0.o.x.2.2)
 have BX:Hid (∀{z' W' R T},K.M z W0 z' W' R T->wJ W' W.heap.size #[Bv x,Iv (z.k.f:Nat),.string sz,Sl z.sa sn z.sc]):=λm=>B0.o.a (m.kp.d _ B0.o.x.2.2 (NI.o (.e _ _ _)))
 clear s nx hf H5 q hx ah af k0;obtain⟨q0,p0,l0⟩:=B0.o.x;go_enter func260,ntmps260;go_upto_region 3 with fail;clear q0 p0 l0;clear c2 c3 c4 c5 p l hW;rcases(show x=97\/x=94\/x=34\/x=91\/x=46\/(x≠97/\x≠94/\x≠34/\x≠91/\x≠46) by omega) with rfl|rfl|rfl|rfl|rfl|⟨n1,n2,n3,n4,n5⟩
 ·have HZ:=ua ((Vv HK.o).1 HX.o);have E:Hid (∀r,z.l=z.k::r->rd K.t.n (F+1) 0 .emp z.l=.inr (.ref z.k,r)):=λr q=>(by rw[q,Po,Zp HZ.o])
  go_wp2_with fail;refine Sa S0.o (by rw[HZ.o];omega) (λg W1 β i D o=>?_) (λy W1 i hy N=>?_)
  ·have L:=zD List.length i;have U:=zD List.length o.rf;have V:=zD List.length o.th;simp at L U V;have Y:=D.kp (Bz W1);obtain⟨a,c,W2,hr,aa,B⟩:=Y.j.app (x:=z.k) (sa:=z.sa) (sn:=sn) (sc:=z.sc) (λb q=>(Y.a b q).1) oM;obtain⟨z2,l2,Q,O,bx⟩:=Y.w B aa oM;have HR:=ua hr;rw[Vt,HX.o,ac.o]at HR;obtain⟨q1,p1,l1⟩:=D.sc.e.x;obtain⟨q3,p3,l3⟩:=bx.x;have B1:=BX.o o;obtain⟨q2,p2,ak⟩:=B1.x;obtain⟨q4,p4,l4⟩:=(B1.a (w':=W2) ((B.d _ ak (λq=>NI.o o (.inr (.inl q)))).trans ((wA.j (λ_=>False) W1).d _ ak (λe=>e)))).x;have A:=ua (J.o.ok (.ref z.k) z2 280 (.agg #[.string sz]) _ (by rw[l2];exact E.o _ i) Q (((I.o.c o).c (.of (Bz W1))).c O) (by rw[<-ac.o];rfl) (by rw[l2];omega));clear i D o Y hr aa B Q O l2 L U V bx B1;generalize hn:g.rf.length+1=nn at *;clear hn;go_wp2_with fail;go_region_law (refine Pn rfl (.tmp 20) (.tmp 22) rfl (by simp[Act.eval,Act.put,RK.rv]) (by simp[Act.eval,Act.put]) HR.o ?_);all_goals (
    go_wp2;exact A.o)
  have A:=ua (J.o.bad y.f W1 (.inr ⟨_,y,[],E.o _ i,hy,rfl⟩) (I.o.m N));clear i hy;go_wp2;exact⟨rfl,A.o⟩
 ·have HZ:=ua ((qz HK.o (c:=94) oM oM).1 HX.o);have E:Hid (∀r,z.l=z.k::r->rd K.t.n (F+1) 0 .emp z.l=(match r with|[]=>.inl K.t.n|y'::r'=>if y'.e=110 then .inr (.thr z.k y',r') else .inl y'.f)):=λr q=>(by rw[q,Po,HZ.o];rfl)
  go_wp2_with fail;refine Sa S0.o (by rw[HZ.o];omega) (λg W1 β i D o=>?_) (λy W1 i hy N=>?_)
  ·have Z:=ua i;have L:=zD List.length i;have U:=zD List.length o.rf;have V:=zD List.length o.th;simp at L U V;have HL:=ua (show g.rf.length=z.rf.length/\g.th.length=z.th.length/\z.l.length=g.l.length+1 from ⟨U,V,L⟩);clear i L U V;go_wp2_with fail;refine js D (β:=110) oM (Vv D.e) (λz2 W2 B e2 Q O=>?_) (λp W2 hp B=>?_)
   ·have L:=zD List.length e2;have U:=zD List.length O.rf;have V:=zD List.length O.th;simp at L U V;have E2:=ua (((E.o _ Z.o).trans (by rw[e2])).trans (Zp B));have HN:Hid (kk g.k.e=97):=(Vv D.e).2 B;obtain⟨sy,ag⟩:=nm (str g.k.nm.length (lf g.k.nm));have ai:=ua ag;obtain⟨sm,ae⟩:=nm g.k.set.length;have ao:=ua ae;unfold Ic;rw[HN.o,ag,ae];generalize ad:W2.alloc (Oc #[Bv 97,Iv (g.k.f:Nat),.string sy,Sl g.sa sm g.sc] 177)=S;have k3:Kf W2 S:=ad▸wU;have B3:wJ S W2.heap.size #[Bv 97,Iv (g.k.f:Nat),.string sy,Sl g.sa sm g.sc]:=ad▸um W2 _ _;have s3:=Q.kp k3;have Y:=s3.kp (Bz S);have hL:=HL.o;obtain⟨a,c,W4,hr,aa,k4⟩:=Y.m.app (x:=g.k) (sa:=g.sa) (sn:=sm) (sc:=g.sc) (λb q=>(Y.b b q).1) oM;obtain⟨z4,l4,s4,m4,bx⟩:=Y.v k4 aa oM;have HR:=ua hr;rw[Vt,HN.o,ai.o]at HR;obtain⟨q1,p1,l1⟩:=s3.sc.e.x;obtain⟨q3,p3,l3⟩:=bx.x;obtain⟨q2,p2,l2⟩:=B3.x;obtain⟨q5,p5,l5⟩:=(B3.a (w':=W4) ((k4.d _ l2 (λq=>oH ((Q.b _ q).1))).trans ((wA.j (λ_=>False) S).d _ l2 (λe=>e)))).x;have A:=ua (J.o.ok (.thr z.k g.k) z4 282 (.agg #[.string sy]) _ (by rw[l4];exact E2.o) s4 ((((I.o.c o).c O).c (.of (k3.c (Bz S)))).c m4) (by rw[<-ai.o];rfl) (by rw[l4];omega));clear L U V e2 B Q O D o k3 B3 s3 Y hr aa k4 l4 s4 m4 bx ag ae hL;generalize z2.th.length+1=nn at *;go_wp2_with fail;clear ad;go_region_law (refine Pn rfl (.tmp 40) (.tmp 42) rfl (by simp[Act.eval,Act.put,RK.rv]) (by simp[Act.eval,Act.put]) HR.o ?_);all_goals (
     go_wp2;exact A.o)
   have A:=ua (J.o.bad p W2 (by
    rcases hp with⟨G,H⟩|⟨y,G,H,h3,h4⟩
    ·rw[E.o _ Z.o,H];cases q:g.l with
     |nil=>exact .inl rfl
     |cons y r =>
      obtain rfl:=D.h q;show Ib (if _ then _ else _) _;rw[Zn G];exact .inl rfl
    exact .inr ⟨_,y,[],(E.o _ Z.o).trans (by rw[H];exact Zp G),h3,h4.symm⟩) ((I.o.c o).m B))
   clear hp;go_wp2;exact⟨rfl,A.o⟩
  have A:=ua (J.o.bad y.f W1 (by rw[E.o _ i];show Ib (if _ then _ else _) _;rw[Zn oM];exact .inl rfl) (I.o.m N));clear i hy;go_wp2;exact⟨rfl,A.o⟩
 case' inr.inr.inl=>have HE:Hid (∃e,e=PE.str z.k/\z.k.e≠0/\∀r,z.l=z.k::r->rd K.t.n (F+1) 0 .emp z.l=.inr (e,r)):=(by have h:=(qz HK.o (c:=34) oM oM).1 HX.o;exact⟨_,rfl,oM,λr q=>by rw[q,Po,h];rfl⟩)
 case' inr.inr.inr.inl=>have HE:Hid (∃e,e=PE.cls z.k/\z.k.e≠0/\∀r,z.l=z.k::r->rd K.t.n (F+1) 0 .emp z.l=.inr (e,r)):=(by have h:=(qz HK.o (c:=91) oM oM).1 HX.o;exact⟨_,rfl,oM,λr q=>by rw[q,Po,h];rfl⟩)
 case' inr.inr.inr.inr.inl=>have HE:Hid (∃e,e=PE.dot z.k/\z.k.e≠0/\∀r,z.l=z.k::r->rd K.t.n (F+1) 0 .emp z.l=.inr (e,r)):=(by have h:=(qz HK.o (c:=46) oM oM).1 HX.o;exact⟨_,rfl,oM,λr q=>by rw[q,Po,h];rfl⟩)
 iterate 3
  focus
   obtain⟨e,he,aj,EE⟩:=HE.o;have EE:=ua EE;have al:=ua aj;have ab:=ua he;clear HE he aj;go_wp2_with fail;refine Sa S0.o al.o (λg W1 β i D o=>?_) (λy W1 i hy N=>?_)
   rotate_left
   ·have A:=ua (J.o.bad y.f W1 (.inr ⟨_,y,[],EE.o _ i,hy,rfl⟩) (I.o.m N));clear i hy;go_wp2;exact⟨rfl,A.o⟩
   have Z:=ua i;have HL:=ua (zD List.length i);clear i;obtain⟨q2,p2,l2⟩:=(BX.o o).x;have TR:Hid (∀ty u W2,Kf W1 W2->Ev (K.X g) W2 e (.iface ty u)->P (Rt (.iface ty u)) W2):=λty u W2 B t2=>J.o.ok e g ty u W2 (EE.o _ Z.o) (D.kp B) (by have:=(I.o.c o).c (.of B);rw[ab.o]at *;exact this) t2 (by have:=HL.o;simp at this;omega)
   first
    |(obtain rfl:=ab.o;have ht:=SS.o.r;rw[<-ac.o]at q2;have G:=SS.o.tn;have H:=ht.c;have HB:=ua ht.j;have X1:=ua D.x;clear ht;go_wp2_with fail;refine uf4 (X:=K.X g) X1.o HB.o oM (λty u W2 t2 B=>?_);go_wp2;exact TR.o _ _ _ B t2;done)
    |(obtain rfl:=ab.o;have ST:=ua (ym S0.o.set o.d);go_wp2;exact TR.o _ _ _ zM ⟨_,_,by rw[am.o],ST.o⟩;done)
    |(obtain rfl:=ab.o;have X1:=ua D.x;go_wp2;exact TR.o _ _ _ wU ⟨_,2,rfl,QK X1.o⟩;done)
 have i:(x==97)=false:=by simpa using n1
 have e2:(x==94)=false:=by simpa using n2
 have e3:(x==34)=false:=by simpa using n3
 have e4:(x==91)=false:=by simpa using n4
 have e5:(x==46)=false:=by simpa using n5
 have E:Hid (∀r,z.l=z.k::r->rd K.t.n (F+1) 0 .emp z.l=if z.k.e=40 then (match rd K.t.n F 5 .emp r with|.inl p=>.inl p|.inr (e,r')=>match r' with|[]=>.inl K.t.n|y'::r''=>if y'.e=41 then .inr (.grp z.k e y',r'') else .inl y'.f) else .inl z.k.f):=λr q=>(by
  have h:=HX.o;have h7:=HK.o;unfold kk at h;rw[q,Po,Zn (by intro e;rw[Zp e]at h;omega),Zn (by intro e;rw[Zn oM]at h;omega),Zn (by intro e;rw[Zn oM]at h;omega),Zn (by intro e;rw[Zn oM]at h;omega),Zn (by intro e;rw[Zn oM]at h;omega)])
 clear n1 n2 n3 n4 n5;go_wp2_with fail;refine js S0.o (β:=40) oM (qz HK.o oM oM) (λg W1 N i D o=>?_) (λp W1 hp N=>?_)
 rotate_left
 ·have A:=ua (J.o.bad p W1 (by
   rcases hp with⟨G,H⟩|⟨y,G,H,h3,h4⟩
   ·rw[H];cases q:z.l with
    |nil=>rw[rd.eq_def];exact .inl rfl
    |cons y r =>
     obtain rfl:=SS.o.h q;rw[<-q,E.o _ q,Zn G,<-SS.o.c];exact .inl rfl
   rw[E.o _ H,Zp G,h4];exact PK (vL _ F 5 .emp y [] h3)) (I.o.m N))
  clear hp;go_wp2;exact⟨rfl,A.o⟩
 have Z:=ua ((E.o _ i).trans (Zp N));have L:=zD List.length i;simp at L;clear i N;unfold Ic;go_wp2_with fail;refine G5.o K g W1 _ D (oH HF.o) ⟨λx z2 ty u W2 e Q O t2 n2=>?_,λp W2 hb B=>?_⟩
 rotate_left
 ·go_wp2;exact⟨rfl,J.o.bad _ _ (by rw[Z.o];exact PK hb) ((I.o.c o).m B)⟩
 have E2:=ua (Z.o.trans (by rw[e]));clear e;go_wp2_with fail;refine js Q (β:=41) oM (qz Q.e oM oM) (λz3 S k3 e3 s3 m3=>?_) (λp S hp k3=>?_)
 ·have an:=zD List.length e3;simp at an;have A:=ua (J.o.ok (.grp z.k x z2.k) z3 ty u S (E2.o.trans (by rw[e3];exact Zp k3)) s3 (((I.o.c o).c O).f m3) (t2.mv m3.d) oM);clear e3 k3;unfold Ic;go_wp2;exact A.o
 have A:=ua (J.o.bad p S (by
  rcases hp with⟨G,H⟩|⟨y,G,H,h3,h4⟩
  ·rw[E2.o,H];cases q:z2.l with
   |nil=>exact .inl rfl
   |cons y r =>
    obtain rfl:=Q.h q;show Ib (if _ then _ else _) _;rw[Zn G];exact .inl rfl
  exact .inr ⟨_,y,[],E2.o.trans (by rw[H];exact Zp G),h3,h4.symm⟩) (((I.o.c o).c O).m k3))
 clear hp;go_wp2;exact⟨rfl,A.o⟩
end
def y4(g:Nat):Prop:=Ho 260 0 1 1 g/\Ho 240 1 2 1 g/\Ho 223 2 3 1 g/\Ho 196 4 4 0 g/\Ho 160 5 6 0 g
def CB:∀f g,g<=f->y4 g
 |0,g,a=>by
  obtain rfl:g=0:=oM;refine⟨?_,?_,?_,?_,?_⟩<;>exact λ_ _ _ _ _ h=>aB h oM
 |f+1,g,a=>by
  by_cases h:g<=f
  ·exact CB f g h
  obtain rfl:g=f+1:=oM;have b:=CB f;obtain⟨c,d,e,j,i⟩:=b f wF;exact⟨y3 i,z8 c,uhH d e,uoA (λg a=>(b g a).2.2.1),uoC (λg a=>(b g a).2.2.2.1)⟩
end
end Go.Proofs.YtoihadcablknpaaGreatDoor
