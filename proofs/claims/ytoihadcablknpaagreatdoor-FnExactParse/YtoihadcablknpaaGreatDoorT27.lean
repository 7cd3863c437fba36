import Derived.Test.YtoihadcablknpaaGreatDoorT20
set_option linter.unusedVariables false
set_option linter.unusedSimpArgs false
set_option linter.defProp false
set_option maxHeartbeats 40000000
set_option maxRecDepth 100000
namespace Go.Proofs.YtoihadcablknpaaGreatDoor
open Go.RowKit
open Go.Proofs.Tryz
open M (OpD uh Gr)
def Mk.a{D w w1 w' e}(k:Kf w w1)(h:Mk D w1 e w'):Mk D w e w':=by
 obtain⟨a,c,f,i,j⟩:=h;exact⟨a,c,f,i.g (λb d=>⟨wN k.h d.1,d.2⟩),k.c j⟩
structure Nl(Q:Np)(w:Wl)(ra la:Oa)(rs ls:List LI):Prop where
 r:Dn Q w ra rs
 l:Dn Q w la ls
 rb:∀y∈rs,wW y
 lb:∀y∈ls,wW y
 rl:rs.length<=1048576
 ll:ls.length<=1048576
def Nl.q{Q w w' ra la rs ls}(h:Nl Q w ra la rs ls)(t:Bw w w'):Nl Q w' ra la rs ls :=
 ⟨h.r.q t,h.l.q t,h.rb,h.lb,h.rl,h.ll⟩
def A8 Q t a ra la c rc lc rs ls w(p:zK Q w a [t])(d:Nl Q w ra la rs ls)(u:t.e=110)(q:wW t.nm)(A:1<=c) :
  Cs 60 #[Sl a 1 c,Sl ra rs.length rc,Sl la ls.length lc] w (Mk (uN 2 (uU t.nm rs 0)) w):=by
 obtain⟨b,off,rfl,s⟩:=p.at (i:=0) sM;have g:=s 0 t rfl;have h:=g.e;obtain⟨na,nc,v,n⟩:=g.nm;simp only[Ge,Cc]at h v;rw[u]at h;have j:=ua (jF Q Q rs t.nm ra na rc nc w d.r n d.rb q d.rl);generalize uU t.nm rs 0=x at *;go_enter func60,ntmps60;go_wp2_with fail;refine j.mono ?_;rintro e W ⟨rfl,m,rfl⟩;go_wp2_with fail;refine(kh 2 x (w.drewN m)).mono ?_;intro e W o;have f:Hid (Mk (uN 2 x) w e W):=o.a (ut w m);obtain⟨y,z,rfl,k,l⟩:=f.o;clear k l;go_wp2;go_ret;exact f.o
def A9 Q t a ra la c rc lc nr r w(n:zK Q w a [t])(q:t.e=46)(v:1<=c) :
  Cs 60 #[Sl a 1 c,Sl ra nr rc,Sl la r lc] w (Mk (vr [0,255]) w):=by
 obtain⟨b,off,rfl,o⟩:=n.at (i:=0) sM;have l:=o 0 t rfl;have g:=l.e;simp only[Ge,Cc]at g;rw[q]at g;have h:Hid (Cs 88 #[Sl (Sm w.heap.size 0) 2 2] (w.alloc (Oc #[Iv 0,Iv 255] 3)) (Mk (vr [0,255]) (w.alloc (Oc #[Iv 0,Iv 255] 3)))):=by
  refine Xy (λ_=>True) (Sm w.heap.size 0) 2 [0,255] _ (.inr ⟨w.heap.size,0,rfl,trivial,λi p=>?_⟩) sM;have f:=xq w (Oc #[Iv 0,Iv 255] 3) _ rfl;match i,p with
  |0,_=>exact uP f rfl
  |1,_=>exact uP f rfl
 go_enter func60,ntmps60;go_wp2_with fail;refine h.mono ?_;intro e W m;have d:Hid (Mk (vr [0,255]) w e W):=m.a wU;obtain⟨s,u,rfl,j,k⟩:=d.o;clear j k;go_wp2;go_ret;exact d.o
def B0 Q t a ra la c rc lc nr s w(n:zK Q w a [t])(p:t.e=91)(q:t.set.length<=1048576)(x:1<=c) :
  Cs 60 #[Sl a 1 c,Sl ra nr rc,Sl la s lc] w (Mk (vr t.set) w):=by
 obtain⟨b,off,rfl,o⟩:=n.at (i:=0) sM;have f:=o 0 t rfl;have g:=f.e;obtain⟨na,nc,r,l⟩:=f.set;simp only[Ge,Cc]at g r;rw[p]at g;have h:=ua (Xy Q na nc t.set w l q);go_enter func60,ntmps60;go_wp2_with fail;refine h.mono ?_;intro e W m;have d:Hid (Mk (vr t.set) w e W):=m;obtain⟨u,v,rfl,j,k⟩:=d.o;clear j k;go_wp2;go_ret;exact d.o
def B1 Q d t a ra la c rc lc rs ls w(u:zK Q w a [d,t])(f:Nl Q w ra la rs ls)(y:d.e=94)(z:t.e=110)(v:wW t.nm)(D:2<=c) :
  Cs 60 #[Sl a 2 c,Sl ra rs.length rc,Sl la ls.length lc] w (Mk (uN 3 (uU t.nm ls 0)) w):=by
 obtain⟨b,off,rfl,j⟩:=u.at (i:=0) sM;have k:=(j 0 d rfl).e;have h:=j 1 t rfl;have n:=h.e;obtain⟨na,nc,A,r⟩:=h.nm;simp only[Ge,Cc,Nat.one_mul]at k n A;rw[y]at k;rw[z]at n;have o:=ua (jF Q Q ls t.nm la na lc nc w f.l r f.lb v f.ll);generalize uU t.nm ls 0=x at *;go_enter func60,ntmps60;go_wp2_with fail;refine o.mono ?_;rintro e W ⟨rfl,m,rfl⟩;go_wp2_with fail;refine(kh 3 x (w.drewN m)).mono ?_;intro e W s;have g:Hid (Mk (uN 3 x) w e W):=s.a (ut w m);obtain⟨B,C,rfl,p,q⟩:=g.o;clear p q;go_wp2;go_ret;exact g.o
def zF.nil w w':zF (wM w w') w' nS []:=⟨λ_=>0,[],⟨.inl ⟨rfl,rfl,rfl⟩,λi x a=>by simp at a⟩,rfl⟩
def Tt{ops:Array Oper}{rest:List Oper}{o:Oper}{a:Act}{t:Exit->Act->World->Prop}{w W1 W2:Wl}(P:o.guard=none)(s x:Operand)(R:o.op=.call { callee:=.builtin .append,args:=#[s,x],argTypes:=#[48,48] })
  {v y:Vl} {D e:List OpD} (S:a.eval s=v) (U:a.eval x=y) (J:zF (wM w W1) W1 v D) (F:Kf w W1) (N:zF (wM W1 W2) W2 y e) (k:Kf W1 W2) (V:D.length+e.length<=16777216) (W:0<e.length)
  (h:∀u z p g,Hid (p=(D++e).length)->Hid (zF (wM w g) g (Sl u p z) (D++e))->Hid (Kf w g)->wpList prog ops t rest (a.put o.dst (Sl u p z)) g):wpList prog ops t (o::rest) a W2:=by
 obtain⟨L,l,i,B⟩:=J;obtain⟨L2,l2,j,C⟩:=N;have H:l.length=D.length:=by rw[<-B,zN]
 have I:l2.length=e.length:=by rw[<-C,zN]
 obtain⟨ya,yc,rfl⟩:=uq j.r;refine Jt P s x 48 48 R S U Nh (Q:=λb=>wM w W1 b/\L b=0) (n:=l.length) (cs:=uT l) (m:=l2.length) (news:=uT l2) (i.r.on (λb i=>k.d b i.1.2 (λq=>q))) (GZ underlying48 j.r (Yd _)) oM ?_;intro v3 g E A T;obtain⟨G,c3,rfl⟩:=uq E;have O:=Fk.f i F.h k j.h E A T oM;exact h G c3 _ g (by show _=_;rw[wK,H,I]) ⟨_,_,O,by rw[Cl,B,C]⟩ (yt (F.c k) A (λb q=>q.1.1))
def Ym{ops:Array Oper}{rest:List Oper}{o:Oper}{a:Act}{t:Exit->Act->World->Prop}{w W1 W2:Wl}(E:o.guard=none)(s x:Operand)(G:o.op=.call { callee:=.builtin .append,args:=#[s,x],argTypes:=#[48,48] })
  {v:Vl} {D:List OpD} {k z:Int} {ty:TypeId} (I:a.eval s=v) (N:a.eval x=Sl (Sm W2.heap.size 0) 1 1) (A:zF (wM w W1) W1 v D) (O:Kf w W1) (P:Kf W1 W2) (S:D.length+1<=16777216)
  (h:∀g i p f,Hid (p=(D++[zY k z]).length)->Hid (zF (wM w f) f (Sl g p i) (D++[zY k z]))->Hid (Kf w f)->wpList prog ops t rest (a.put o.dst (Sl g p i)) f):wpList prog ops t (o::rest) a (W2.alloc (Oc #[Iv k,nS,Iv z] ty)):=by
 obtain⟨L,l,j,u⟩:=A;have R:l.length=D.length:=by rw[<-u,zN]
 have y:Kf W1 (W2.alloc (Oc #[Iv k,nS,Iv z] ty)):=P.c wU;refine Jt E s x 48 48 G I N Nh (Q:=λb=>wM w W1 b/\L b=0) (n:=l.length) (cs:=uT l) (m:=1) (news:=uT [⟨zY k z,none,0⟩]) (j.r.on (λb j=>y.d b j.1.2 (λq=>q))) (Xz (Df W2 _)) oM ?_;intro v3 f H F J;obtain⟨g,i,e,B,C⟩:=Yb k z j O y u rfl H F J;injection e with e;subst e;exact h g i _ f rfl B C
def Fl(f:Nat)(Q:Np)(ra la:Oa)(rc lc nr b:Nat)(l:List wH)(D:List OpD)(w:Wl):Prop :=
 ∀a c w',Kf w w'->zK Q w' a l->l.length<=c->Cs f #[Sl a l.length c,Sl ra nr rc,Sl la b lc] w' (Mk D w')
def Gn(D:List OpD):Prop:=D.length<=1000000/\∀x∈D,x.sl<=1048576
def Gn.c{D}(h:Gn D):jD D.length (df D):=by
 refine⟨wN h.1 oM,λi a=>?_⟩;unfold df;rw[Cx,zG a];exact h.2 _ (Gb a)
def zK.a{Q:Np}{w}{b off:Nat}{l:List wH}(h:∀i x,l[i]?=some x->Gg Q w b (off+i*4) x)(k n:Nat):zK Q w (Sm b (off+k*4)) ((l.drop k).take n):=by
 refine .inr ⟨b,off+k*4,rfl,λi x c=>?_⟩;have d:(l.drop k)[i]?=some x:=by
  by_cases e:i<n
  ·rwa [List.getElem?_take_of_lt e]at c
  rw[List.getElem?_take_eq_none oM]at c;cases c
 rw[List.getElem?_drop]at d;have:=h (k+i) x d;rwa [show off+k*4+i*4=off+(k+i)*4 by omega]
def B5(Q:Np)(ra la:Oa)(rc lc nr r:Nat)(t:wH)(l:List wH)(D E:List OpD)(w:Wl)(k:t.e=33/\E=Bu 7 D\/t.e=38/\E=Bu 7 (Bu 7 D)/\Gn (Bu 7 D))(P:l.length+1<=1048576)(R:0<l.length)(m:Gn D)(H:Fl 60 Q ra la rc lc nr r l D w):Fl 60 Q ra la rc lc nr r (t::l) E w:=by
 intro a c w' J G I;rw[zQ]at I;rw[zQ];obtain⟨b,off,rfl,p⟩:=G.at (i:=0) sM;have q:=(p 0 t rfl).e;simp only[Ge,Cc]at q;have F:zK Q w' (Sm b (off+1*4)) l:=by
  have:=zK.a p 1 l.length;rwa [List.drop_succ_cons,Ks,Ll]at this
 have s:=ua (H _ (c-1) w' J F oM);have o:Hid (∀D W d f,Gn D->zF (wM w' W) W (Sl d D.length f) D->Kf w' W->Cs 86 #[Iv 7,Sl d D.length f] W (Mk (Bu 7 D) w')):=λD W d f m g j=>(GW _ 7 d f D W g.e m.c).mono (λe W' h=>h.a j)
 have N:¬c=1:=oM;have O:¬c-1=0:=oM;rcases k with⟨k,rfl⟩|⟨k,rfl,B⟩;all_goals
  rw[k]at q;go_enter func60,ntmps60;go_wp2_with fail;refine s.mono ?_;rintro e W ⟨d,f,rfl,g,j⟩;have u:=ua (o D W d f m g j);go_wp2_with fail;refine u.mono ?_
 rotate_left
 rintro e W' ⟨x,y,rfl,g,j⟩;have v:=ua (o (Bu 7 D) W' x y B g j);go_wp2_with fail;refine v.mono ?_;all_goals
  intro e W2 C;have n:=ua C;obtain⟨L,c3,rfl,z,A⟩:=n.o;clear z A;go_wp2;go_ret;exact n.o
def B6(Q:Np)(ra la:Oa)(rc lc nr J:Nat)(t:wH)(l:List wH)(D E:List OpD)(w:Wl)(n:t.e=42/\E=Bu 6 D\/t.e=63/\E=vU 5 D (uN 0 0))(hl:l.length+1<=1048576)(G:0<l.length)(z:kAt l 0≠33)(A:kAt l 0≠38)(C:Gn D)(H:Fl 60 Q ra la rc lc nr J l D w):Fl 60 Q ra la rc lc nr J (l++[t]) E w:=by
 intro a c w' V R S;rw[wK,Bs]at S;rw[wK,Bs];obtain⟨b,off,rfl,y⟩:=R.at (i:=0) sM;obtain⟨x,I⟩:∃x,l[0]?=some x:=⟨_,zG G⟩;have T:=(y 0 x (by rw[Cr G];exact I)).e;have U:=(y l.length t sM).e;simp only[Ge,Cc]at T;rw[Rh I]at z A;have Y:(x.e==33)=false:=by simpa using z
 have Z:(x.e==38)=false:=by simpa using A
 have P:zK Q w' (Sm b off) l:=by
  have:=zK.a y 0 l.length;rwa [Ks,List.take_left,Ge,Cc]at this
 have N:=ua (H _ c w' V P oM);have v1:((l.length+1:Nat):Int)-1=(l.length:Int):=oM;rcases n with⟨n,rfl⟩|⟨n,rfl⟩;all_goals
  rw[n]at U;go_enter func60,ntmps60;go_wp2_with fail;refine N.mono ?_;rintro e W ⟨k,m,rfl,d,f⟩
 ·have j:Hid (Cs 86 #[Iv 6,Sl k D.length m] W (Mk (Bu 6 D) w')):=(GW _ 6 k m D W d.e C.c).mono (λe W' h=>h.a f);clear d f;go_wp2_with fail;refine j.mono ?_;intro e W' v;have g:Hid (Mk (Bu 6 D) w' e W'):=v;obtain⟨o,p,rfl,r,s⟩:=g.o;clear r s;go_wp2;go_ret;exact g.o
 have L:=ua d;have O:=ua f;clear d f;go_wp2_with fail;refine(kh 0 0 W).mono ?_;rintro e W2 ⟨o,p,rfl,B,u⟩;have j:Hid (Cs 87 #[Iv 5,Sl k D.length m,Sl o (uN 0 0).length p] W2 (Mk (vU 5 D (uN 0 0)) w')):=by
  have d:=L.o;have f:=O.o;exact(ZE _ _ 5 k o m p D (uN 0 0) W2 (d.q u).e C.c B.e ⟨by simp[uN],λi F=>by simp[uN]at F;subst F;simp[df,uN,zY]⟩ (by simp[uN])).mono (λe W' h=>h.a (f.c u))
 generalize (uN 0 0).length=ll at j ⊢;clear B u;go_wp2_with fail;refine j.mono ?_;intro e W' v;have g:Hid (Mk (vU 5 D (uN 0 0)) w' e W'):=v;obtain⟨X,c3,rfl,r,s⟩:=g.o;clear r s;go_wp2;go_ret;exact g.o
def B3 Q ra la rc lc nr h o cl l D w(s:o.e=40)(t:cl.e=41)(C:l.length+2<=1048576)(H:Fl 32 Q ra la rc lc nr h l D w):Fl 60 Q ra la rc lc nr h (o::(l++[cl])) D w:=by
 intro a c w' x q r;have u:(o::(l++[cl])).length=l.length+2:=sM;rw[u]at r ⊢;obtain⟨b,off,rfl,d⟩:=q.at (i:=0) sM;have g:=(d 0 o rfl).e;have v:=(d (l.length+1) cl sM).e;simp only[Ge,Cc]at g;rw[s]at g;rw[t]at v;have p:zK Q w' (Sm b (off+1*4)) l:=by
  have:=zK.a d 1 l.length;rwa [List.drop_succ_cons,Ks,List.take_left]at this
 have j:=ua (H _ (c-1) w' x p oM);have v1:((l.length+2:Nat):Int)-1=((l.length+1:Nat):Int):=oM;have A:¬c=1:=oM;have B:¬c-1=0:=oM;go_enter func60,ntmps60;go_wp2_with fail;refine j.mono ?_;intro e W' n;have f:Hid (Mk D w' e W'):=n;obtain⟨y,z,rfl,k,m⟩:=f.o;clear k m;go_wp2;go_ret;exact f.o
def jE:∀(r:LI) (D:List OpD),(r.foldl (λout y=>out++vr (yB y)++[zY 4 0]) D).length=D.length+2*r.length
 |[],D=>by simp
 |y::r,D=>by
  rw[List.foldl_cons,jE r];simp[vr];omega
def HS x w:∃W,(∀(P:Ew),(∀e w',e=Rt (Sl (Sm w.heap.size 0) 2 2)->w'=W->P e w')->Cs 89 #[Iv x] w P)/\Cs 88 #[Sl (Sm w.heap.size 0) 2 2] W (Mk (vr (yB x)) w):=by
 refine⟨w.alloc (Oc #[Iv x,Iv x] 3),λP c=>(ZA x w).mono (λe w' h=>c e w' h.1 h.2),?_⟩;refine(Xy (λ_=>True) (Sm w.heap.size 0) 2 (yB x) _ (.inr ⟨w.heap.size,0,rfl,trivial,λi d=>?_⟩) (by simp[yB])).mono (λe w' h=>h.a wU);have b:=xq w (Oc #[Iv x,Iv x] 3) _ rfl;match i,d with
 |0,_=>exact uP b rfl
 |1,_=>exact uP b rfl
def B4 Q ra la rc lc nr nl t w(G:t.e=34)(hz:t.nm.length<=400000)(Y:wW t.nm):Fl 60 Q ra la rc lc nr nl [t] (yi t.nm) w:=by
 intro a c w' kw X hc;show Cs 60 #[Sl a 1 c,_,_] w' _;obtain⟨b,off,rfl,aa⟩:=X.at (i:=0) sM;have E:=aa 0 t rfl;have k0:=E.e;obtain⟨na,nc,k2,U⟩:=E.nm;simp only[Ge,Cc]at k0 k2;rw[G]at k0;have HI:Hid (wB Q .u8 w' na t.nm.length (lf t.nm)):=U;clear E aa X U kw G;generalize t.nm=z at *;cases z with
 |nil =>
  go_enter func60,ntmps60;go_wp2_with fail;refine(kh 0 0 w').mono ?_;intro e W' W;have L:Hid (Mk (uN 0 0) w' e W'):=W;clear W;obtain⟨P,R,rfl,h2,h3⟩:=L.o;clear h2 h3;go_wp2;go_ret;exact L.o
 |cons x r =>
  have aq:=Y x sM;rcases HI.o with q|⟨sb,so,rfl,_,Z⟩
  ·simp at q
  have s0:=Z 0 sM;rw[Cc,show lf (x::r) 0=x from rfl]at s0;have ad:Hid (∀i y,r[i]?=some y->w'.cell? (Ad sb (so+(i+1)))=some (Bv y)/\0<=y/\y<=255):=λi y d=>by
   have au:=(zT.1 d).1;refine⟨?_,Y y (On _ (Be d))⟩;rw[Z (i+1) sO];simp[lf,d]
  rw[zQ]at *;have hn:=hz;obtain⟨W1,v,A⟩:=HS x w';have l:=ua v;have m:=ua A;have v0:¬((r.length+1:Nat):Int)=0:=oM;have ao:∀k,(((r.take k).foldl (λout y=>out++vr (yB y)++[zY 4 0]) (vr (yB x)))).length<=1+2*r.length:=λk=>by
   rw[jE,Fy];simp[vr];omega
  have ag:=ua ao;go_enter func60,ntmps60;go_wp2_with fail;refine l _ ?_;rintro e w1 rfl rfl;go_wp2_with fail;refine m.mono ?_;rintro e W2 ⟨n,o,rfl,p,s⟩;have f:=ua p;have g:=ua s;generalize h:(vr (yB x)).length=m0 at f ⊢;go_wp2_with fail;go_loopw [11,12] (λap H wr=>∃(k:Nat) (D:List OpD) (B:Nat) (n:Oa) (o:Nat),k<=r.length/\H=Iv ((k+1:Nat):Int)/\ap=Sl n B o/\B=D.length/\D=(r.take k).foldl (λout y=>out++vr (yB y)++[zY 4 0]) (vr (yB x))/\zF (wM w' wr) wr (Sl n B o) D/\Kf w' wr) (λ_ H _=>r.length+2-(intOf H).toNat)
  ·exact⟨0,vr (yB x),m0,n,o,oM,rfl,rfl,h.symm,rfl,f,g⟩
  obtain⟨k,D,B,ah,ai,G,rfl,rfl,ac,F,p,s⟩:=hrel;clear f g h;have f:=ua p;have g:=ua s;have C:=ua F;have N:=ua ac;have J:Hid (D.length<=1+2*r.length):=F▸ag k;clear p s F ac;by_cases ab:k<r.length
  ·have hlt':((k+1:Nat):Int)<((r.length+1:Nat):Int):=oM;obtain⟨y,d⟩:∃y,r[k]?=some y:=⟨_,zG ab⟩;obtain⟨s1,y0,y1⟩:=ad k y d;have s2:=ue s1 g.u;have ae:Hid (D++vr (yB y)++[zY 4 0]=(r.take (k+1)).foldl (λout y=>out++vr (yB y)++[zY 4 0]) (vr (yB x))):=by
    rw[Hu,d,Option.toList_some,List.foldl_append,<-C.o];rfl
   obtain⟨W3,v,A⟩:=HS y wr;have l:=ua v;have m:Hid (Cs 88 #[Sl (Sm wr.heap.size 0) 2 2] W3 (Mk (vr (yB y)) wr)):=A;clear v A s1 d C;go_wp2_with fail;refine l.o _ ?_;rintro e w1 rfl rfl;go_wp2_with fail;refine m.o.mono ?_;rintro e W4 ⟨P,R,rfl,T,V⟩;have I:Hid (zF (wM wr W4) W4 (Sl P (vr (yB y)).length R) (vr (yB y))):=T;have af:Hid (Kf wr W4):=V;clear T V l m;have j:Hid ((vr (yB y)).length=1):=rfl;generalize h:(vr (yB y)).length=m2 at I j ⊢;go_wp2_with (first|(at_builtin;refine Tt rfl _ _ rfl rfl rfl f.o g.o I.o af.o (by have:=J.o;rw[h,j.o];omega) (by rw[h,j.o];omega) ?_;intro a3 c3 n3 O av aj al)|(at_builtin;refine Ym (W1:=O) (W2:=O) rfl _ _ rfl rfl rfl aj.o al.o zM (by have:=J.o;have:=j.o;rw[wK];omega) ?_;intro a4 c4 n4 W6 an ak am));go_roundw
   ·exact⟨k+1,D++vr (yB y)++[zY 4 0],n4,a4,c4,ab,by go_num,rfl,an.o,ae.o,ak.o,am.o⟩
   simp[intOf];omega
  have hlt':¬((k+1:Nat):Int)<((r.length+1:Nat):Int):=oM;go_wp2;go_ret;have e:D=yi (x::r):=by rw[C.o,Jo oM];rfl
  have S:=f;rw[N.o,e]at S;exact⟨ah,ai,by rw[N.o,e];rfl,S,g⟩
def HM{l:List wH}{i:Nat}{x:wH}(h:l[i]?=some x)(d a:Int):xP i d a (l.drop i)=xP (i+1) (xx x.e d) (if x.e=47/\d=0 then i else a) (l.drop (i+1)):=by rw[vD h,xU]
def A4 Q ra la rc lc nr n t f l2 o m w(hl:f.length+(l2.length+1)<=1048576)(P:xP 0 0 (-1) (f++t::l2)=(f.length:Int))(al:0<m.length)(hD:o.length+m.length+1<=16777216)(U:Fl 32 Q ra la rc lc nr n f o w)(V:Fl 32 Q ra la rc lc nr n l2 m w):Fl 32 Q ra la rc lc nr n (f++t::l2) (vU 5 o m) w:=by
 intro a c w' T hT hc;have y:(f++t::l2).length=f.length+(l2.length+1):=sM;rw[y]at hc ⊢;obtain⟨b,off,rfl,C⟩:=hT.at (i:=0) (by rw[y];omega);have HC:Hid (∀i,i<f.length+(l2.length+1)->∃x,(f++t::l2)[i]?=some x/\w'.cell? (Ad b (off+i*4))=some (Bv x.e)):=λi D=>⟨_,zG (by rw[y];exact D),(C i _ (zG (by rw[y];exact D))).e⟩
 have ac:Hid (Cs 32 #[Sl (Sm b off) f.length c,Sl ra nr rc,Sl la n lc] w' (Mk o w')):=by
  refine U _ c w' T ?_ oM;have:=zK.a C 0 f.length;rwa [Ks,List.take_left,Ge,Cc]at this
 have ad:Hid (∀W g j,Kf w' W->(g=some (Ad b (off+(f.length+1)*4))\/l2 = [])->l2.length<=j->Cs 32 #[Sl g l2.length j,Sl ra nr rc,Sl la n lc] W (Mk m W)):=λW g j R ha ah=>by
  refine V g j W (T.c R) ?_ ah;rcases ha with rfl|h
  ·have:=zK.a C (f.length+1) l2.length;rw[show(f++t::l2).drop (f.length+1)=l2 by rw[<-List.drop_drop,List.drop_left];rfl,Ll]at this;exact this.q R.u
  exact .inl h
 obtain⟨B,I⟩:∃B:Int,B=(f.length:Int):=⟨_,rfl⟩;rw[<-I]at P;have Z:=ua I;generalize hL:f++t::l2=L at *;go_enter func32,ntmps32;go_wp2;go_loopw [7,8,9] (λv7 v8 E wr=>∃(i:Nat) (d l:Int),i<=f.length+(l2.length+1)/\v7=Iv l/\v8=Iv d/\E=Iv i/\wr=w'/\-(i:Int)<=d/\d<=i/\xP i d l (L.drop i)=B) (λ_ _ E _=>f.length+(l2.length+1)-(intOf E).toNat)
 ·exact⟨0,0,-1,oM,rfl,rfl,rfl,rfl,oM,oM,P⟩
 obtain⟨i,d,l,D,rfl,rfl,rfl,rfl,an,ao,v⟩:=hrel;by_cases ak:i<f.length+(l2.length+1)
 ·have hlt':(i:Int)<((f.length+(l2.length+1):Nat):Int):=oM;obtain⟨x,hx,z⟩:=HC i ak;rw[HM hx]at v;have A:=ua v;by_cases p:x.e=40
  ·have e:=A;rw[p,xQ,Zn oM]at e;rw[p]at z;have k:=ua e;go_wp2;go_roundw
   ·exact⟨i+1,d+1,l,oM,rfl,by go_num,by go_num,by trivial,oM,oM,k⟩
   simp[intOf];omega
  have y1:(x.e==40)=false:=by simpa using p
  by_cases r:x.e=41
  ·have e:=A;rw[r,kS,Zn oM]at e;rw[r]at z;have k:=ua e;go_wp2;go_roundw
   ·exact⟨i+1,d-1,l,oM,rfl,by go_num,by go_num,by trivial,oM,oM,k⟩
   simp[intOf];omega
  have y2:(x.e==41)=false:=by simpa using r
  have e:=A;rw[uO p r]at e;by_cases s:x.e=47/\d=0
  ·rw[Zp s]at e;obtain⟨q1,rfl⟩:=s;rw[q1]at z;have k:=ua e;go_wp2;go_roundw
   ·exact⟨i+1,0,i,oM,rfl,rfl,by go_num,by trivial,oM,oM,k⟩
   simp[intOf];omega
  rw[Zn s]at e;have k:=ua e;by_cases h:x.e=47
  ·have am:(d==0)=false:=by simpa using λq=>s ⟨h,q⟩
   rw[h]at z;go_wp2;go_roundw
   ·exact⟨i+1,d,l,oM,rfl,rfl,by go_num,by trivial,oM,oM,k⟩
   simp[intOf];omega
  have y3:(x.e==47)=false:=by simpa using h
  go_wp2;go_roundw
  ·exact⟨i+1,d,l,oM,rfl,rfl,by go_num,by trivial,oM,oM,k⟩
  simp[intOf];omega
 have hlt':¬(i:Int)<((f.length+(l2.length+1):Nat):Int):=oM;have e:l=B:=by
  rw[Jq (by rw[<-hL];simp;omega),xP]at v;exact v
 rw[Z.o]at e;subst e;go_wp2_with fail;refine ac.mono ?_;rintro e W1 ⟨a1,c1,rfl,ae,N⟩;have X:=ua ae;have aa:=ua N;have F:Hid (∀g j,(g=some (Ad b (off+(f.length+1)*4))\/l2 = [])->l2.length<=j->Cs 32 #[Sl g l2.length j,Sl ra nr rc,Sl la n lc] W1 (Mk m W1)):=λg j=>ad W1 g j N
 have hq:f.length+(l2.length+1)-(f.length+1)=l2.length:=oM;go_wp2_with fail;all_goals (
  refine Calls.mono (F _ _ (by first|exact .inl rfl|exact .inr (Hh oM)) oM) ?_;rintro e W2 ⟨a2,c2,rfl,J,O⟩;have Y:=ua J;have ab:=ua O;clear J O F;go_wp2_with (first|(at_builtin;refine Tt rfl _ _ rfl rfl rfl X.o aa.o Y.o ab.o oM al ?_;intro a3 c3 n3 G ap af ai)|(at_builtin;refine Ym (W1:=G) (W2:=G) rfl _ _ rfl rfl rfl af.o ai.o zM (by rw[wK];omega) ?_;intro a4 c4 n4 W6 S ag aj));go_ret;have H:=ag;rw[S.o]at H;exact⟨a4,c4,by rw[S.o];rfl,H,aj⟩)
def Ip:List OpD->List (List wH×List OpD)->List OpD
 |D,[]=>D
 |D,p::r=>Ip (D++p.2++[zY 4 0]) r
def Yn:∀(r:List (List wH×List OpD)) (D:List OpD),D.length<=(Ip D r).length
 |[],D=>wF
 |p::r,D=>by
  have:=Yn r (D++p.2++[zY 4 0]);rw[wK,wK]at this;rw[Ip];omega
def vZ(ps:List (List wH×List OpD)):List wH:=ps.flatMap (·.1)
def Lq(P:List wH->List OpD->Prop):List (List wH×List OpD)->Prop
 |[]=>True
 |p::r=>(jk (p.1++vZ r)=p.1.length/\jG (p.1++vZ r)/\0<p.1.length/\0<p.2.length/\P p.1 p.2)/\Lq P r
def B2 Q ra la rc lc nr v(m:List wH×List OpD)ps D w(hD:Ip m.2 ps=D)(bd:D.length<=1000000)(ab:xP 0 0 (-1) (vZ (m::ps)) = -1)(hl:(vZ (m::ps)).length<=1048576)(hP:Lq (λl D=>Fl 60 Q ra la rc lc nr v l D w) (m::ps)):Fl 32 Q ra la rc lc nr v (vZ (m::ps)) D w:=by
 intro a c w' kw hT hc;have a0:0<(vZ (m::ps)).length:=by
  have:=hP.1.2.2.1;show 0<(m.1++vZ ps).length;rw[wK];omega
 obtain⟨b,off,rfl,O⟩:=hT.at (i:=0) a0;obtain⟨L,hL⟩:∃L,vZ (m::ps)=L:=⟨_,rfl⟩;rw[hL]at hc ab hl a0 O ⊢;have X:Hid (∀i,i<L.length->∃x,L[i]?=some x/\w'.cell? (Ad b (off+i*4))=some (Bv x.e)):=λi hi=>⟨_,zG hi,(O i _ (zG hi)).e⟩
 have HT:Hid (∀W k n,Kf w' W->zK Q W (Sm b (off+k*4)) ((L.drop k).take n)):=λW k n hk=>(zK.a O k n).q hk.u
 have Z:Hid (Lq (λl D=>Fl 60 Q ra la rc lc nr v l D w') (m::ps)):=by
  have go:∀U,Lq (λl D=>Fl 60 Q ra la rc lc nr v l D w) U->Lq (λl D=>Fl 60 Q ra la rc lc nr v l D w') U:=λU=>by
   induction U with
   |nil=>exact λ_=>trivial
   |cons p r ih=>exact λh=>⟨⟨h.1.1,h.1.2.1,h.1.2.2.1,h.1.2.2.2.1,λa c W hk=>h.1.2.2.2.2 a c W (kw.c hk)⟩,ih h.2⟩
  exact go _ hP
 clear O hT hP kw;obtain⟨B,hB⟩:=nm (xP 0 0 (-1) L);have af:=ua (hB.symm.trans ab);clear ab;go_enter func32,ntmps32;go_wp2;go_loopw [7,8,9] (λv7 v8 v9 wr=>∃(i:Nat) (d t:Int),i<=L.length/\v7=Iv t/\v8=Iv d/\v9=Iv i/\wr=w'/\-(i:Int)<=d/\d<=i/\xP i d t (L.drop i)=B) (λ_ _ v9 _=>L.length-(intOf v9).toNat)
 ·exact⟨0,0,-1,oM,rfl,rfl,rfl,rfl,oM,oM,hB⟩
 obtain⟨i,d,t,hi,rfl,rfl,rfl,bb,bg,bh,C⟩:=hrel;obtain rfl:=bb.symm;clear hB;by_cases a9:i<L.length
 ·have hlt':(i:Int)<(L.length:Int):=oM;obtain⟨x,hx,R⟩:=X i a9;rw[HM hx]at C;have y:=ua C;clear C hx X Z;by_cases J:x.e=40
  ·have e:=y;rw[J,xQ,Zn oM]at e;rw[J]at R;have s:=ua e;clear e y;go_wp2;go_roundw
   ·exact⟨i+1,d+1,t,oM,rfl,by go_num,by go_num,by trivial,oM,oM,s⟩
   simp[intOf];omega
  have y1:(x.e==40)=false:=by simpa using J
  by_cases N:x.e=41
  ·have e:=y;rw[N,kS,Zn oM]at e;rw[N]at R;have s:=ua e;clear e y y1;go_wp2;go_roundw
   ·exact⟨i+1,d-1,t,oM,rfl,by go_num,by go_num,by trivial,oM,oM,s⟩
   simp[intOf];omega
  have y2:(x.e==41)=false:=by simpa using N
  have e:=y;rw[uO J N]at e;by_cases E:x.e=47/\d=0
  ·rw[Zp E]at e;obtain⟨T,rfl⟩:=E;rw[T]at R;have s:=ua e;clear e y y1 y2;go_wp2;go_roundw
   ·exact⟨i+1,0,i,oM,rfl,rfl,by go_num,by trivial,oM,oM,s⟩
   simp[intOf];omega
  rw[Zn E]at e;have s:=ua e;clear e y;by_cases h:x.e=47
  ·have bf:(d==0)=false:=by simpa using λq=>E ⟨h,q⟩
   rw[h]at R;clear y1 y2 E h;go_wp2;go_roundw
   ·exact⟨i+1,d,t,oM,rfl,rfl,by go_num,by trivial,oM,oM,s⟩
   simp[intOf];omega
  have y3:(x.e==47)=false:=by simpa using h
  go_wp2;go_roundw
  ·exact⟨i+1,d,t,oM,rfl,rfl,by go_num,by trivial,oM,oM,s⟩
  simp[intOf];omega
 have hlt':¬(i:Int)<(L.length:Int):=oM;have e:t=B:=by
  rw[Jq oM,xP]at C;exact C
 rw[af.o]at e;subst e;clear C X af;have hz:¬(L.length:Int)=0:=oM;have a6:=ua hL;have ah:Hid (Ip m.2 ps=D):=hD;clear hL hD;go_wp2_with fail;go_loopw [12,13] (λbc ad W=>∃(i:Nat) (rest:List (List wH×List OpD)) (g:List OpD) (S:Nat) (G:Oa) (H:Nat),i<=L.length/\ad=Iv i/\bc=Sl G S H/\S=g.length/\L.drop i=vZ rest/\((i=0/\g = []/\rest=m::ps)\/(0<i/\Ip g rest=D))/\Lq (λl D=>Fl 60 Q ra la rc lc nr v l D w') rest/\zF (wM w' W) W (Sl G S H) g/\Kf w' W) (λ_ ad _=>L.length-(intOf ad).toNat)
 ·exact⟨0,m::ps,[],0,none,0,oM,rfl,rfl,rfl,by rw[Ks,a6.o],.inl ⟨rfl,rfl,rfl⟩,Z,zF.nil _ _,zM⟩
 obtain⟨j,rest,g,S,G,H,hj,rfl,rfl,aw,P,a5,ay,am,ao⟩:=hrel;have HN:=ua aw;have V:=ua am;have z:=ua ao;have F:Hid ((j=0/\g = []/\rest=m::ps)\/(0<j/\Ip g rest=D)):=a5;clear aw am ao a5 Z;by_cases bj:j<L.length
 ·have hjl':(j:Int)<(L.length:Int):=oM;cases rest with
  |nil =>
   have:(L.drop j).length=0:=(by rw[P];rfl);rw[Oq]at this;omega
  |cons p r =>
   obtain⟨⟨T,q2,q3,q4,q5⟩,az⟩:=ay;have A:L.drop j=p.1++vZ r:=P;have aq:(L.drop j).length=p.1.length+(vZ r).length:=(by rw[A,wK]);rw[Oq]at aq;have au:L.drop (j+p.1.length)=vZ r:=(by rw[<-List.drop_drop,A,List.drop_left]);have al:Hid (Cs 59 #[Sl (Sm b (off+j*4)) (L.length-j) (c-j)] wr λe w1=>e=Rt (Iv (p.1.length:Nat))/\w1=wr):=by
    have h:=G6 Q (L.drop j) (Sm b (off+j*4)) (c-j) wr (by
     have:=HT wr j (L.drop j).length z;rwa [Ll]at this) (by rw[Oq];omega) (by rw[A];exact q2)
    rw[Oq,A,T]at h;exact h
   have ag:Hid (Cs 60 #[Sl (Sm b (off+j*4)) p.1.length (c-j),Sl ra nr rc,Sl la v lc] wr (Mk p.2 wr)):=by
    refine q5 _ (c-j) wr z ?_ oM;have:=HT wr j p.1.length z;rwa [A,List.take_left]at this
   have bk:j+p.1.length<=L.length:=oM;clear T q2 q5 P A aq;have be:¬c-j=0:=oM;have hcj':¬c=j:=oM;have hq:j+p.1.length-j=p.1.length:=oM;have bl:(j:Int)+(p.1.length:Int)<=(c:Int):=oM;have bm:(j:Int)<=(j:Int)+(p.1.length:Int):=oM;have ak:Hid (Lq (λl D=>Fl 60 Q ra la rc lc nr v l D w') r):=az;have ai:Hid (L.drop (j+p.1.length)=vZ r):=au;have Y:Hid (g.length+p.2.length+1<=16777216):=by
    show g.length+p.2.length+1<=16777216;rcases F.o with⟨_,o,f⟩|⟨_,f⟩
    ·injection f with f I;subst f I o;have:=Yn r p.2;rw[ah.o]at this;simp;omega
    rw[Ip]at f;have:=Yn r (g++p.2++[zY 4 0]);rw[f,wK,wK,Bs]at this;omega
   clear az au;go_wp2_with fail;refine al.mono ?_;rintro e W ⟨rfl,hw⟩;subst W;go_wp2_with fail;refine ag.o.mono ?_;rintro e W4 ⟨a2,c2,rfl,an,ap⟩;have ae:Hid (zF (wM wr W4) W4 (Sl a2 p.2.length c2) p.2):=an;have aj:Hid (Kf wr W4):=ap;clear an ap al ag;by_cases av:j=0
   ·subst av;go_wp2_with (at_builtin;refine Tt rfl _ _ rfl rfl rfl V.o z.o ae.o aj.o (oH Y.o) q4 ?_;intro a3 c3 n3 W5 ax aa ac);go_roundw
    ·rcases F.o with⟨_,o,f⟩|⟨o,_⟩
     ·injection f with f I;refine⟨p.1.length,r,g++p.2,n3,a3,c3,oM,sM,rfl,ax.o,by have:=ai.o;rwa [zL]at this,.inr ⟨q3,?_⟩,ak.o,aa.o,ac.o⟩;rw[o,f,I,Dl];exact ah.o
     omega
    simp[intOf];omega
   have bi:(0:Int)<(j:Int):=oM;go_wp2_with (first|(at_builtin;refine Tt rfl _ _ rfl rfl rfl V.o z.o ae.o aj.o (oH Y.o) q4 ?_;intro a3 c3 n3 W5 ax aa ac)|(at_builtin;refine Ym (W1:=W5) (W2:=W5) rfl _ _ rfl rfl rfl aa.o ac.o zM (by have:=Y.o;rw[wK];omega) ?_;intro a4 c4 n4 W6 ba a7 a8));go_roundw
   ·rcases F.o with⟨o,_⟩|⟨_,f⟩
    ·exact aB o av
    exact⟨j+p.1.length,r,g++p.2++[zY 4 0],n4,a4,c4,oM,sM,rfl,ba.o,ai.o,.inr ⟨oM,by rw[Ip]at f;exact f⟩,ak.o,a7.o,a8.o⟩
   simp[intOf];omega
 have hjl':¬(j:Int)<(L.length:Int):=oM;cases rest with
 |cons p r =>
  have I:=ay.1.2.2.1;have:(L.drop j).length=(p.1++vZ r).length:=by rw[P];rfl
  rw[Oq,wK]at this;omega
 |nil =>
  have e:g=D:=by
   rcases F.o with⟨o,_,f⟩|⟨_,f⟩
   ·omega
   exact f
  go_wp2;go_ret;have o:=V;rw[HN.o,e]at o;exact⟨G,H,by rw[HN.o,e];rfl,o,z⟩
def A5 Q ra la rc lc nr h w:Fl 32 Q ra la rc lc nr h [] (uN 0 0) w:=by
 intro a c w' n l m;show Cs 32 #[Sl a 0 c,_,_] w' _;go_enter func32,ntmps32;go_wp2;go_loopw [7,8,9] (λv7 v8 i wr=>v7=Iv (-1)/\v8=Iv 0/\i=Iv 0/\w'=wr) (λ_ _ _ _=>0)
 ·exact⟨rfl,rfl,rfl,rfl⟩
 obtain⟨rfl,rfl,rfl,rfl⟩:=hrel;go_wp2_with fail;refine(kh 0 0 _).mono ?_;intro e W g;have b:Hid (Mk (uN 0 0) w' e W):=g;obtain⟨j,k,rfl,d,f⟩:=b.o;clear d f;go_wp2;go_ret;exact b.o
def HP(t:wH):Prop:=wW t.nm/\t.nm.length<=400000/\t.set.length<=1048576
def HQ:∀(ps:List (List wH×List OpD)) (D:List OpD) (q:List wH×List OpD),Ip D (ps++[q])=Ip D ps++q.2++[zY 4 0]
 |[],D,q=>rfl
 |p::r,D,q=>by rw[Cb,Ip,Ip,HQ r]
def A6 a b:vZ (a++b)=vZ a++vZ b:=by simp[vZ]
def Tu rs ls:∀e:PE,0<(e.e rs ls).length:=by
 intro e;cases e with
 |str t =>
  show 0<(yi t.nm).length;cases t.nm with
  |nil=>simp[yi,uN]
  |cons x r=>rw[yi,jE];simp[vr];omega
 |grp o e c=>exact Tu rs ls e
 |_=>simp[PE.e,uN,vr,Bu,vU]<;>omega
def Gn.a{D b}(h:Gn D)(c:b.length<=D.length)(d:∀x∈b,x∈D):Gn b:=⟨wN c h.1,λx e=>h.2 x (d x e)⟩
def Ml(f:Nat)(Q:Np)(ra la:Oa)(rc lc:Nat)(rs ls:List LI)(w:Wl)(e:PE):Prop:=Fl f Q ra la rc lc rs.length ls.length e.tk (e.e rs ls) w
def Qz(Q:Np)(ra la:Oa)(rc lc:Nat)(rs ls:List LI)(w:Wl)(e:PE):Prop:=∃b ps,vZ (b::ps)=e.tk/\Ip b.2 ps=e.e rs ls/\∀a,Lq (λl D=>Fl 60 Q ra la rc lc rs.length ls.length l D w) a->kAt (vZ a) 0≠42->kAt (vZ a) 0≠63->Lq (λl D=>Fl 60 Q ra la rc lc rs.length ls.length l D w) (b::ps++a)
def A7 Q ra la rc lc rs ls w(O:Nl Q w ra la rs ls):∀e:PE,(∀t∈e.tk,HP t)->e.tk.length<=1048000->Gn (e.e rs ls) ->
  (e.ok 2->Ml 60 Q ra la rc lc rs ls w e)/\(e.ok 5->Ml 32 Q ra la rc lc rs ls w e)/\(e.ok 3->Qz Q ra la rc lc rs ls w e):=by
 have J:∀e:PE,e.tk.length<=1048000->Gn (e.e rs ls)->e.ok 4->Qz Q ra la rc lc rs ls w e->Ml 32 Q ra la rc lc rs ls w e:=λe f d U ⟨H,ps,D,E,F⟩=>by
  have v:=F [] trivial (by show(0:Int)≠42;omega) (by show(0:Int)≠63;omega);rw[Ca]at v;have i:=K6 e U;unfold Ml;rw[<-D]at i f ⊢;exact B2 Q ra la rc lc rs.length ls.length H ps _ w E d.1 i oM v
 have one:∀e:PE,e.ok 2->Ml 60 Q ra la rc lc rs ls w e->Qz Q ra la rc lc rs ls w e:=λe k i =>
  ⟨(e.tk,e.e rs ls),[],by simp[vZ],rfl,λI y G T=>⟨⟨KJ e k _ G T,JE e k _,(yF e k []).2.2,Tu rs ls e,i⟩,y⟩⟩
 have part:∀e:PE,e.tk.length<=1048000->Gn (e.e rs ls)->(∀l,e.ok l->e.ok 2)->(e.ok 2->Ml 60 Q ra la rc lc rs ls w e)->(e.ok 2->Ml 60 Q ra la rc lc rs ls w e)/\(e.ok 5->Ml 32 Q ra la rc lc rs ls w e)/\(e.ok 3->Qz Q ra la rc lc rs ls w e):=λe f d z i =>
  ⟨i,λh=>J e f d (PE.c e oM (z 5 h)) (one e (z 5 h) (i (z 5 h))),λh=>one e (z 3 h) (i (z 3 h))⟩
 intro e;induction e with
 |ref t=>exact λg f d=>part _ f d (λl h=>h) (λh a c w' C n p=>A8 Q t a ra la c rc lc rs ls w' n (O.q C.u) h (g t (by simp[PE.tk])).1 p)
 |thr c t=>exact λg f d=>part _ f d (λl h=>h) (λh a S w' C n p=>B1 Q c t a ra la S rc lc rs ls w' n (O.q C.u) h.1 h.2 (g t (by simp[PE.tk])).1 p)
 |str t=>exact λg f d=>part _ f d (λl h=>h) (λh=>B4 Q ra la rc lc rs.length ls.length t w h (g t (by simp[PE.tk])).2.1 (g t (by simp[PE.tk])).1)
 |cls t=>exact λg f d=>part _ f d (λl h=>h) (λh a c w' C n p=>B0 Q t a ra la c rc lc rs.length ls.length w' n h (g t (by simp[PE.tk])).2.2 p)
 |dot t=>exact λg f d=>part _ f d (λl h=>h) (λh a c w' C n p=>A9 Q t a ra la c rc lc rs.length ls.length w' n h p)
 |emp=>exact λ_ _ _=>⟨λh=>absurd h (by show ¬(4<=2);omega),λ_=>A5 Q ra la rc lc rs.length ls.length w,λh=>absurd h (by show ¬(4<=3);omega)⟩
 |grp o e c s =>
  intro g f d;have X:(PE.grp o e c).tk.length=e.tk.length+2:=by simp[PE.tk]
  exact part _ f d (λl h=>h) (λh=>B3 Q ra la rc lc rs.length ls.length o c e.tk _ w h.1 h.2.1 oM ((s (λt q=>g t (by simp[PE.tk,q])) oM d).2.1 h.2.2))
 |star e t s|opt e t s =>
  intro g f d;rw[PE.tk,wK,Bs]at f;have hD':Gn (e.e rs ls):=d.a (by simp[PE.e,Bu,vU]) (λx j=>by simp[PE.e,Bu,vU,j]);refine part _ (by simp[PE.tk];omega) d (λl h=>⟨oM,h.2⟩) (λh=>?_);have k:e.ok 2:=PE.c e oM h.2.2;have:=(s (λt q=>g t (by simp[PE.tk,q])) oM hD').1 k;have v:=(Ul e h.2.2 []).1;have m:=(yF e k []).2.2;rw[Ca]at v;have P:¬(kAt e.tk 0=33\/kAt e.tk 0=38):=λq=>by
   cases y:e.tk with
   |nil=>rw[y]at m;simp at m
   |cons x r =>
    rw[y]at v q;rw[yV,Zp (show x.e=33\/x.e=38 from q)]at v;omega
  exact B6 Q ra la rc lc rs.length ls.length t e.tk _ _ w (by first|exact .inl ⟨h.2.1,rfl⟩|exact .inr ⟨h.2.1,rfl⟩) oM m (λq=>P (.inl q)) (λq=>P (.inr q)) hD' this
 |not t e s|amp t e s =>
  intro g f d;rw[PE.tk,zQ]at f;have hD':Gn (e.e rs ls):=d.a (by simp[PE.e,Bu]) (λx j=>by simp[PE.e,Bu,j]);refine part _ (by simp[PE.tk];omega) d (λl h=>⟨oM,h.2⟩) (λh=>?_);have:=(s (λt q=>g t (by simp[PE.tk,q])) oM hD').1 h.2.2;have m:=(yF e h.2.2 []).2.2;exact B5 Q ra la rc lc rs.length ls.length t e.tk _ _ w (by first|exact .inl ⟨h.2.1,rfl⟩|exact .inr ⟨h.2.1,rfl,d.a (by simp[PE.e,Bu]) (λx j=>by simp[PE.e,Bu]at j ⊢;rcases j with h|h<;>simp[h])⟩) oM m hD' this
 |seq a b iha ihb|alt a t b iha ihb =>
  intro g f d;have L:Gn (a.e rs ls):=d.a (by simp[PE.e,vU]) (λx j=>by simp[PE.e,vU,j]);have N:Gn (b.e rs ls):=d.a (by simp[PE.e,vU];omega) (λx j=>by simp[PE.e,vU,j]);have W:=f;simp[PE.tk]at W;have A:=iha (λt q=>g t (by simp[PE.tk,q])) oM L;have B:=ihb (λt q=>g t (by simp[PE.tk,q])) oM N;first
  |have j:=L.1
   have Y:=N.1;exact⟨λh=>aB h.1 oM,λh=>A4 Q ra la rc lc rs.length ls.length t a.tk b.tk _ _ w oM (K7 a t b h) (Tu rs ls b) oM (A.2.1 h.2.2.1) (B.2.1 (PE.c b oM h.2.2.2)),λh=>aB h.1 oM⟩
  |have R:a.ok 3->b.ok 2->Qz Q ra la rc lc rs ls w (PE.seq a b):=λV i=>by
    obtain⟨H,ps,D,E,F⟩:=A.2.2 V;refine⟨H,ps++[(b.tk,b.e rs ls)],?_,?_,λI y G k=>?_⟩
    ·rw[<-Cb,A6,D];simp[vZ,PE.tk]
    ·rw[HQ,E];rfl
    have m:=yF b i (vZ I);have:=F ((b.tk,b.e rs ls)::I) ⟨⟨KJ b i _ G k,JE b i _,(yF b i []).2.2,Tu rs ls b,B.1 i⟩,y⟩ m.1 m.2.1;rw[<-Cb,zU];exact this
   exact⟨λh=>aB h.1 oM,λh=>J _ f d ⟨oM,h.2⟩ (R h.2.1 h.2.2),λh=>R h.2.1 h.2.2⟩
end Go.Proofs.YtoihadcablknpaaGreatDoor
