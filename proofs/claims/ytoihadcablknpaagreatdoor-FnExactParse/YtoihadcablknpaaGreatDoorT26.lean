import Derived.Test.YtoihadcablknpaaGreatDoorT05
import Derived.Test.YtoihadcablknpaaGreatDoorT25
set_option linter.unusedVariables false
set_option linter.unusedSimpArgs false
set_option linter.defProp false
set_option maxHeartbeats 40000000
set_option maxRecDepth 100000
namespace Go.Proofs.YtoihadcablknpaaGreatDoor
open Go.RowKit
open Go.Proofs.Tryz
open M (OpD uh Gr uw EX ins)
def YC(w:Wl)(x:IC):Src prog 4 137 (Sl (Sm w.heap.size 0) 1 1) 1 (Il x) (w.alloc (Oc #[Iv x.d.e,Iv x.d.f,Iv x.d.to,Sl x.a x.d.sl x.c] 202)):=by
 refine Gj (P:=prog) _ underlying137 (Ad w.heap.size 0) 1 1 (Il x) rfl (λj u b=>?_) (λu b=>?_)
 ·have e':((Ad w.heap.size 0):Addr).add j=(Ad w.heap.size j):=by
   by_cases g:j=0
   ·subst g;simp[Addr.add]
   simp[Addr.add,g]
  rw[e'];match j,b with
  |0,b=>exact cN w.heap.size rfl b
  |1,b=>exact cN w.heap.size rfl b
  |2,b=>exact cN w.heap.size rfl b
  |3,b=>exact cN w.heap.size rfl b
  |j+4,b=>simp[Il]at b
 simp[Il]at b;rcases b with rfl|rfl|rfl|rfl<;>rfl
def YD(w0:Wl)(b:Nat)(u0 u1:Vl)(l:List IC)(c:LI)(F S:Np)(d:Vl)(n:Nat)(e:Ending)(w':Wl):Prop :=
 e=Rt (Iv (n:Int))/\∃a f,CP w0 b u0 u1 l [] c w' a F S f d
def Xo w0 b u0 u1 l x j w P F S C n(h:CP w0 b u0 u1 l [x] j w P F S C n)(H:l.length<=200000) :
  Cs 107 #[.pointer (Sm b 0),.agg #[Iv x.d.e,Iv x.d.f,Iv x.d.to,Sl x.a x.d.sl x.c]] w (YD w0 b u0 u1 (l++[x]) j F S n l.length):=by
 obtain⟨m,pc,rfl⟩:=uq h.r;have i:Hid (CP w0 b u0 u1 l [x] j (w.alloc (Oc #[Iv x.d.e,Iv x.d.f,Iv x.d.to,Sl x.a x.d.sl x.c] 202)) P F S (Sl m l.length pc) n):=h.q (wG w);have D:(w.alloc (Oc #[Iv x.d.e,Iv x.d.f,Iv x.d.to,Sl x.a x.d.sl x.c] 202)).cell? (Ad w.heap.size 0)=some (Iv x.d.e):=cN w.heap.size rfl rfl;have R:(w.alloc (Oc #[Iv x.d.e,Iv x.d.f,Iv x.d.to,Sl x.a x.d.sl x.c] 202)).cell? (Ad w.heap.size 1)=some (Iv x.d.f):=cN w.heap.size rfl rfl;have T:(w.alloc (Oc #[Iv x.d.e,Iv x.d.f,Iv x.d.to,Sl x.a x.d.sl x.c] 202)).cell? (Ad w.heap.size 2)=some (Iv x.d.to):=cN w.heap.size rfl rfl;have U:(w.alloc (Oc #[Iv x.d.e,Iv x.d.f,Iv x.d.to,Sl x.a x.d.sl x.c] 202)).cell? (Ad w.heap.size 3)=some (Sl x.a x.d.sl x.c):=cN w.heap.size rfl rfl;clear h;go_enter func107,ntmps107;go_wp2;generalize w.alloc (Oc #[Iv x.d.e,Iv x.d.f,Iv x.d.to,Sl x.a x.d.sl x.c] 202)=X at *;have p2:=i.p;have L:=i.s 2;have I:=i.a.2;have J:=ud D;have g:Hid (CP w0 b u0 u1 l [x] j (X.drew.alloc (Oc #[Iv x.d.e,Iv x.d.f,Iv x.d.to,Sl x.a x.d.sl x.c] 202)) P F S (Sl m l.length pc) n):=i.o.q ((wI X).drew.trans (wG X.drew));have N:(X.alloc (Oc #[Iv x.d.e,Iv x.d.f,Iv x.d.to,Sl x.a x.d.sl x.c] 202)).cell? (Ad b 2)=some (Sl m l.length pc):=uv _ p2;go_region_law (first
  |(refine Qp rfl (.tmp 9) (.tmp 11) 137 137 rfl (v:=Sl m l.length pc) (y:=Sl (Sm X.heap.size 0) 1 1) (by simp[Act.eval]) (by simp[Act.eval]) XJ g.r (YC X.drew x) oM (λ_=>Nat.one_pos) ?_;intro Q W4 u t B;obtain⟨E,G,rfl⟩:=uq u;have z:=g.k u t;have o:=t.d b g.a.2 (λq=>(g.rp b q).2.2.1 rfl);have r2:=(zI (a:=(Ad b 2)) o).trans g.p;have O:=(Ec (a:=(Ad b 2)) o).trans (g.s 2);have A:=ua z;clear u t B z o))
 all_goals go_goals
 all_goals go_wp2
 all_goals go_ret
 all_goals exact⟨uW oM,_,_,A⟩
def Tk w0(b:Nat){u0}{u1}{l} c w(i:Nat)x(h:CS w0 b u0 u1 l [] c w)(f:l[i]?=some x)(C:l.length<=200000) :
  Cs 174 #[.pointer (Sm b 0),Iv (i:Int)] w λe w'=>(∃v,e=Rt v)/\CS w0 b u0 u1 (l.set i (Fb x (l.length:Int))) [] c w':=by
 obtain⟨P,F,S,t,s,h⟩:=h;have B:=(zT.1 f).1;obtain⟨g,cap,rfl,d⟩:∃g cap,t=Sl (Sm g 0) l.length cap/\Wr w g (cap*4)/\l.length<=cap:=by
  rcases h.r with⟨_,q,_⟩|⟨g,cap,e,D,y,k,z,m⟩
  ·omega
  exact⟨g,cap,e,m,k⟩
 have j:Hid (CP w0 b u0 u1 (l.set i (Fb x (l.length:Int))) [] c (w.drew.setCell (Ad g (i*4+2)) (Iv l.length)) P F S (Sl (Sm g 0) l.length cap) s):=(h.q (wI w).drew).n f;have p2:=h.p;have E:=h.a.2;obtain⟨u,o⟩:=Dt.1 (d.1 (i*4+2) oM).1;have A:=(d.1 (i*4+2) oM).2;have G:=ud o;have hi':(i:Int)<(l.length:Int):=oM;go_enter func174,ntmps174;go_wp2;go_region;all_goals go_wp2
 all_goals go_end0
 all_goals exact⟨⟨_,rfl⟩,_,_,_,_,_,j⟩
open M (uJ jW)
def WU b o n c T w Q(u:∀i,i<n->Em Q w b (o+i*3) (T i))(F:n<=1048576)(B:n<=c)s(G:s<n)(r:M.dep T s+1=M.dep T n)(t:∀j,s<j->j<=n->M.dep T n<=M.dep T j) :
  Cs 173 #[Sl (Sm b o) n c] w λp w'=>p=Rt (.tuple #[Sl (Sm b o) s c,Sl (Sm b (o+s*3)) (n-s) (c-s)])/\Bw w w':=by
 have l:=ua u;have g:=ua r;have h:=ua t;go_enter func173,ntmps173;go_wp2;go_loopw [5,4] (λd i wr=>SL w T s n d i wr) (λd i _=>(intOf i).toNat)
 ·exact⟨n,oM,wF,yQ oM,rfl,rfl⟩
 obtain⟨k,E,a,rfl,rfl,rfl⟩:=hrel;by_cases v:s<k
 ·have C:=h k v a;have D:=SK T k n a;obtain⟨q,rfl⟩:∃q,k=q+1:=⟨k-1,oM⟩;obtain⟨x,⟨sa,sc,y,H⟩,z⟩:=l q oM;have A:=M.cP (T q).e;have m:Hid (M.dep T (q+1)=M.dep T q+(1-M.ar (T q).e)):=rfl;have J:(0:Int)<((q+1:Nat):Int):=oM;have f:(0:Int)<1-M.dep T n+M.dep T (q+1):=oM;have L:((q+1:Nat):Int)-1=(q:Int):=oM;have N:(q:Int)<n:=oM;go_wp2_with (go_at_call 170;refine(yT).mono ?_;rintro e W ⟨rfl,I⟩;subst W);go_roundw
  ·exact⟨q,oM,oM,yQ (oH m.o),by first|rfl|go_num,by trivial⟩
  simp[intOf]<;>omega
 obtain rfl:k=s:=oM;have f:1-M.dep T n+M.dep T k=0:=oH g;have O:¬c=k:=oM;have P:k<=n:=oM;have R:k<=c:=oM;have S:¬c=0:=oM;have U:(k:Int)<=(n:Int):=oM;have V:=uM k oM;rw[f];go_wp2;go_region;all_goals go_wp2
 all_goals refine wL (by simp[results,f173,go_sem];rfl) rfl ?_
 all_goals exact⟨rfl,(wI _).drew⟩
def WV(w0:Wl)(a:Nat)(u0 u1:Vl)(L:List IC)(b:LI)(x:EX)(e:Ending)(w':Wl):Prop :=
 (∃v,e=Rt v)/\∃K:List IC,K.map IC.d=uJ (λn=>(n:Int)) x L.length/\CS w0 a u0 u1 (L++K) [] b w'
def FN{K:List IC}{r:Nat->Int}{x:EX}{p:Nat}(h:K.map IC.d=uJ r x p):K.length=x.c:=by
 rw[<-zN (f:=IC.d),h,M.emit_len]
def FO args w:(callFunc 138 args).run prog w=.ok (.enter 138 args) w:=by
 simp[callFunc,func138,f138,go_sem]
def Xk args w:(callFunc 107 args).run prog w=.ok (.enter 107 args) w:=by
 simp[callFunc,func107,f107,go_sem]
def Qv w0 b u0 u1 l c w k a t(h:CS w0 b u0 u1 l [] c w)(j:l.length<=200000) :
  Cs 107 #[.pointer (Sm b 0),.agg #[Iv k,Iv a,Iv t,nS]] w λe w'=>e=Rt (Iv (l.length:Int))/\Hid (CS w0 b u0 u1 (l++[ic k a t]) [] c w'):=by
 obtain⟨P,F,S,m,f,h⟩:=h.d k a t;refine(Xo w0 b u0 u1 l (ic k a t) c w P F S m f h j).mono ?_;rintro e w' ⟨rfl,g,n,i⟩;exact⟨rfl,g,F,S,n,f,i⟩
def WW w0 b u0 u1 l g w x(h:CS w0 b u0 u1 l [x] g w)(m:l.length<=200000) :
  Cs 107 #[.pointer (Sm b 0),.agg #[Iv x.d.e,Iv x.d.f,Iv x.d.to,Sl x.a x.d.sl x.c]] w λe w'=>e=Rt (Iv (l.length:Int))/\Hid (CS w0 b u0 u1 (l++[x]) [] g w'):=by
 obtain⟨P,F,S,n,i,h⟩:=h;refine(Xo w0 b u0 u1 l x g w P F S n i h m).mono ?_;rintro e w' ⟨rfl,j,o,k⟩;exact⟨rfl,j,F,S,o,i,k⟩
section
open M (OpD uh Gr uw EX ins uJ jW)
def WO{L a b:List IC}{x y:IC}{n:Nat}(h:a.length=n):(L++x::(a++[y])++b)[L.length+1+n]?=some y:=by
 subst h;rw[zU,Di oM,show L.length+1+a.length-L.length=a.length+1 by omega];simp
def WQ{L b c x n k a t d}(h:b.length=n):(L++x::(b++[ic k a t])++c).set (L.length+1+n) (Fb (ic k a t) d)=L++(x::(b++ic k a d::c)):=by
 subst h;rw[zU,Qg _ _ oM,show L.length+1+b.length-L.length=b.length+1 by omega];congr 1;simp[Fb,ic,ins]
variable {w0 w:Wl} {cb:Nat} {Q:Np} {ra la:Oa} {rc lc:Nat} {g:Gr} {b:Nat} {u0 u1:Vl} {L:List IC} {fl:LI} {P:Ew} {x y:TR} {o:OpD}
def Kx(x:EX)(n:Nat):List uw:=uJ (λn=>(n:Int)) x n
def PX(w0:Wl)(e:Nat)(Q:Np)(ra la:Oa)(rc lc:Nat)(g:Gr)(b:Nat)(T:TR):Prop :=
 ∀(off c l n:Nat) (L:List IC) (f:LI) (w:Wl) (P:Ew),l=T.n->L.length=n->T.Ok (M.bE g.nr g.nb)->T.n<=c->T.n<=2000->TA Q w0 b T off->CS w0 e (Sl ra g.nr rc) (Sl la g.nb lc) L [] f w->n+(T.a (M.bB g.nr)).c<=100000 ->
  (∀v K W,K.map IC.d=Kx (T.a (M.bB g.nr)) n->CS w0 e (Sl ra g.nr rc) (Sl la g.nb lc) (L++K) [] f W->P (Rt v) W)->Cs 145 #[.pointer (Sm e 0),Sl (Sm b off) l c] w P
def Qu{K:List IC}{x:EX}{p:Nat}(h:K.map IC.d=Kx x p):K.length=x.c:=FN h
def Mh{n:Nat}(k a t:Int)(h:CS w0 cb u0 u1 L [] fl w)(c:L.length=n)(b:n<=200000)(d:∀W,CS w0 cb u0 u1 (L++[ic k a t]) [] fl W->P (Rt (Iv (n:Int))) W) :
  Cs 107 #[.pointer (Sm cb 0),.agg #[Iv k,Iv a,Iv t,nS]] w P:=by
 subst c;exact(Qv w0 cb u0 u1 L fl w k a t h b).mono (by rintro e W ⟨rfl,h⟩;exact d W h.o)
def FM{off c m:Nat}{E:OpD->Prop}(h:TA Q w b (.bn o x y) off)(l:(TR.bn o x y).Ok E)(p:x.n+y.n=m)(t:m<=2000)(k:m<=c) :
  Cs 173 #[Sl (Sm b off) m c] w λg w'=>g=Rt (.tuple #[Sl (Sm b off) x.n c,Sl (Sm b (off+x.n*3)) (m-x.n) (c-x.n)])/\Bw w w':=by
 subst p;obtain⟨f,a,q⟩:=Sp (.bn o x y) (TR.bn o x y).b 0 (λj s=>by rw[zL]);obtain⟨d,e⟩:=Qc y _ l.2.2.2 a;rw[zL]at d e;have u:=y.n0;exact WU b off (x.n+y.n) c (TR.bn o x y).b w Q (λi r=>Sr h i (by simp only[TR.n];omega)) oM k x.n oM d.symm (λj f a=>oH (e j f a))
def WR(ix:PX w0 cb Q ra la rc lc g b x)(iy:PX w0 cb Q ra la rc lc g b y):PX w0 cb Q ra la rc lc g b (.bn o x y):=by
 intro off c l n L s w P hl r N hc hn hT J hp ab;have NX:=ua ab;have U:=ua ix;have V:=ua iy;have HT:=ua hT;have H:=ua N;have d:=ua r;obtain⟨hx,hy,Y⟩:=hT;obtain⟨I,⟨sa,sc,c1,ad⟩,c2⟩:=Y.q J.u;have HX:=ua hx;have HY:=ua hy;have nx:=x.n0;have ny:=y.n0;simp only[TR.n]at hc hn hl;obtain⟨m,O⟩:=nm (x.n+y.n);rw[O]at I c1 c2 hc hn hl;have k:=ua O;subst hl;have x2:((m+1:Nat):Int)-1=(m:Int):=oM;have x3:(m:Int)<((m+1:Nat):Int):=oM;have x5:(m:Int)<=((m+1:Nat):Int):=oM;have z6:=uM m oM;have f1:m<c:=oM;have f2:m<=c:=oM;have f3:¬c=0:=oM;have ae:b<w.heap.size:=ud I;have f:o.e=4\/o.e=5:=by have:=N.1;unfold M.ar at this;split at this<;>(try split at this)<;>omega
 obtain⟨i,B⟩:=nm (x.a (M.bB g.nr)).c;obtain⟨yl,A⟩:=nm (y.a (M.bB g.nr)).c;have v:=ua B;have T:=ua A;have JX:=ua λ(L:List IC) (n:Nat) (W:Wl) (P:Ew) (r:L.length=n) (C:CS w0 cb (Sl ra g.nr rc) (Sl la g.nb lc) L [] s W) (h:n+i<=100000)=>U.o off c x.n n L s W P rfl r H.o.2.2.1 (oH k.o) (oH k.o) HX.o C (oH v.o)
 have JY:=ua λ(L:List IC) (n:Nat) (W:Wl) (P:Ew) (r:L.length=n) (C:CS w0 cb (Sl ra g.nr rc) (Sl la g.nb lc) L [] s W) (h:n+yl<=100000)=>V.o (off+x.n*3) (c-x.n) (m-x.n) n L s W P (oH k.o) r H.o.2.2.2 (oH k.o) (oH k.o) HY.o C (oH T.o)
 have D:=ua (λo:Obj=>J.q ((wI w).drew.trans (uk w.drew o)));rcases f with f|f
 ·have e:TR.a (M.bB g.nr) (.bn o x y)=.seq (x.a (M.bB g.nr)) (y.a (M.bB g.nr)):=by simp[TR.a,M.bB,f]
  have S:=ua e;rw[e,EX.c,B,A]at hp;rw[f]at I;clear f e hx hy Y ad N J ab ix iy B A r O U V;go_enter func145,ntmps145;go_wp2;go_region;all_goals go_wp2_with fail
  all_goals
   refine(FM (HT.o.q (D.o _).u) H.o k.o oM f2).mono ?_;rintro e W1 ⟨rfl,z⟩;have E:=(D.o _).q z;clear z;go_wp2_with fail;refine JX.o L n W1 _ d.o E oM λv2 K2 W2 h2 F=>?_
   have H2:=ua h2;clear h2;go_wp2_with fail;refine JY.o (L++K2) (n+i) W2 _ (by rw[wK,d.o,Qu H2.o,v.o]) F oM λv3 p W3 t G=>?_
   have R:=ua t;clear t;go_wp2;go_end0;exact NX.o _ (K2++p) _ (by rw[S.o,Kx,uJ,Cl,H2.o,R.o,v.o];rfl) (by rw[<-zU];exact G)
 have e:TR.a (M.bB g.nr) (.bn o x y)=.alt (x.a (M.bB g.nr)) (y.a (M.bB g.nr)):=by simp[TR.a,M.bB,f]
 have S:=ua e;rw[e,EX.c,B,A]at hp;rw[f]at I;clear f e hx hy Y ad N J ab ix iy B A r O U V;go_enter func145,ntmps145;go_wp2;go_region;all_goals go_wp2_with fail
 all_goals
  refine(FM (HT.o.q (D.o _).u) H.o k.o oM f2).mono ?_;rintro e W1 ⟨rfl,z⟩;have E:=(D.o _).q z;clear z;go_wp2_with fail;refine Mh 1 0 0 E d.o oM λW2 F=>?_
  go_wp2_with fail;refine JX.o _ (n+1) W2 _ (by simp[d.o]) F oM λv3 p W3 t G=>?_
  have R:=ua t;have j:=ua ((Qu t).trans v.o);clear t;go_wp2_with fail;refine Mh (n:=n+1+i) 2 0 0 G (by simp[d.o,j.o];omega) oM λW4 C4=>?_
  go_wp2_with fail;refine(Tk w0 cb s W4 n (ic 1 0 0) C4 (by simp[d.o]) (by simp[d.o,j.o];omega)).mono ?_;rintro e W5 ⟨⟨v5,rfl⟩,Z⟩;rw[show(L++[ic 1 0 0]++p++[ic 2 0 0]).set n (Fb (ic 1 0 0) ((L++[ic 1 0 0]++p++[ic 2 0 0]).length:Int))=L++ic 1 0 ((n+i+2:Nat):Int)::(p++[ic 2 0 0]) by rw[show((L++[ic 1 0 0]++p++[ic 2 0 0]).length:Int)=((n+i+2:Nat):Int) by simp[d.o,j.o];omega,<-d.o];simp[Fb,ic,ins]]at Z;go_wp2_with fail;refine JY.o _ (n+i+2) W5 _ (by simp[d.o,j.o];omega) Z oM λv6 K6 W6 X C6=>?_
  have H6:=ua X;have ac:=ua ((Qu X).trans T.o);clear X;go_wp2_with fail;refine(Tk w0 cb s W6 (n+1+i) (ic 2 0 0) C6 (by rw[<-d.o];exact WO j.o) (by simp[d.o,j.o,ac.o];omega)).mono ?_;rintro e W7 ⟨⟨v7,rfl⟩,aa⟩;rw[show((L++ic 1 0 ((n+i+2:Nat):Int)::(p++[ic 2 0 0])++K6).length:Int)=((n+i+yl+2:Nat):Int) by simp[d.o,j.o,ac.o];omega,<-d.o,WQ j.o,d.o]at aa;have C7:=ua aa;clear Z aa E F G C4 C6;go_wp2;go_end0;exact NX.o _ _ _ (by rw[S.o,Kx,uJ,Er,Cl,Er,R.o,H6.o,v.o,T.o];rfl) C7.o
def use(U:PX w0 cb Q ra la rc lc g b x):PX w0 cb Q ra la rc lc g b (.un o x):=by
 intro off c l n L D w P S z F hc hn hT E hp V;have Z:=ua V;have O:=ua U;have HK:=ua F;have d:=ua z;obtain⟨T,R⟩:=hT;obtain⟨B,⟨sa,sc,c1,aa⟩,c2⟩:=R.q E.u;have HX:=ua T;simp only[TR.n]at hc hn S;obtain⟨m,G⟩:=nm x.n;rw[G]at B c1 c2 hc hn S;have N:=ua G;subst S;have x2:((m+1:Nat):Int)-1=(m:Int):=oM;have x3:(m:Int)<((m+1:Nat):Int):=oM;have x5:(m:Int)<=((m+1:Nat):Int):=oM;have z6:=uM m oM;have f1:m<c:=oM;have f2:m<=c:=oM;have f3:¬c=0:=oM;have ab:b<w.heap.size:=ud B;have i:o.e=6\/o.e=7:=by have:=F.1;unfold M.ar at this;split at this<;>(try split at this)<;>omega
 obtain⟨r,A⟩:=nm (x.a (M.bB g.nr)).c;have y:=ua A;have Y:=ua λ(L:List IC) (n:Nat) (W:Wl) (P:Ew) (z:L.length=n) (C:CS w0 cb (Sl ra g.nr rc) (Sl la g.nb lc) L [] D W) (h:n+r<=100000)=>O.o off c m n L D W P N.o.symm z HK.o.2.2 (oH N.o) (oH N.o) HX.o C (oH y.o)
 have X:=ua (λo:Obj=>E.q ((wI w).drew.trans (uk w.drew o)));rcases i with i|i
 ·have e:TR.a (M.bB g.nr) (.un o x)=.star (x.a (M.bB g.nr)):=by simp[TR.a,M.bB,i]
  have J:=ua e;rw[e,EX.c,A]at hp;rw[i]at B;clear i e T R aa F E V U A z G O;go_enter func145,ntmps145;go_wp2;go_region;all_goals go_wp2_with fail
  all_goals
   refine Mh 1 0 0 (X.o _) d.o oM λW2 s=>?_
   go_wp2_with fail;refine Y.o _ (n+1) W2 _ (by simp[d.o]) s oM λv3 f W3 k t=>?_
   have I:=ua k;have j:=ua ((Qu k).trans y.o);clear k;go_wp2_with fail;refine Mh (n:=n+1+r) 3 0 ((n:Int)+1) t (by simp[d.o,j.o];omega) oM λW4 v=>?_
   go_wp2_with fail;refine(Tk w0 cb D W4 n (ic 1 0 0) v (by simp[d.o]) (by simp[d.o,j.o];omega)).mono ?_;rintro e W5 ⟨⟨v5,rfl⟩,p⟩;rw[show(L++[ic 1 0 0]++f++[ic 3 0 ((n:Int)+1)]).set n (Fb (ic 1 0 0) ((L++[ic 1 0 0]++f++[ic 3 0 ((n:Int)+1)]).length:Int))=L++ic 1 0 ((n+r+2:Nat):Int)::(f++[ic 3 0 ((n:Int)+1)]) by rw[show((L++[ic 1 0 0]++f++[ic 3 0 ((n:Int)+1)]).length:Int)=((n+r+2:Nat):Int) by simp[d.o,j.o];omega,<-d.o];simp[Fb,ic,ins]]at p;have H:=ua p;clear p s t v;go_wp2;go_end0;exact Z.o _ _ _ (by rw[J.o,Kx,uJ,Er,Cl,I.o,y.o];rfl) H.o
 have e:TR.a (M.bB g.nr) (.un o x)=.not (x.a (M.bB g.nr)):=by simp[TR.a,M.bB,i]
 have J:=ua e;rw[e,EX.c,A]at hp;rw[i]at B;clear i e T R aa F E V U A z G O;go_enter func145,ntmps145;go_wp2;go_region;all_goals go_wp2_with fail
 all_goals
  refine Mh 4 0 0 (X.o _) d.o oM λW2 s=>?_
  go_wp2_with fail;refine Y.o _ (n+1) W2 _ (by simp[d.o]) s oM λv3 f W3 k t=>?_
  have I:=ua k;have j:=ua ((Qu k).trans y.o);clear k;go_wp2_with fail;refine Mh (n:=n+1+r) 5 0 (0) t (by simp[d.o,j.o];omega) oM λW4 v=>?_
  go_wp2_with fail;refine(Tk w0 cb D W4 n (ic 4 0 0) v (by simp[d.o]) (by simp[d.o,j.o];omega)).mono ?_;rintro e W5 ⟨⟨v5,rfl⟩,p⟩;rw[show(L++[ic 4 0 0]++f++[ic 5 0 (0)]).set n (Fb (ic 4 0 0) ((L++[ic 4 0 0]++f++[ic 5 0 (0)]).length:Int))=L++ic 4 0 ((n+r+2:Nat):Int)::(f++[ic 5 0 (0)]) by rw[show((L++[ic 4 0 0]++f++[ic 5 0 (0)]).length:Int)=((n+r+2:Nat):Int) by simp[d.o,j.o];omega,<-d.o];simp[Fb,ic,ins]]at p;have H:=ua p;clear p s t v;go_wp2;go_end0;exact Z.o _ _ _ (by rw[J.o,Kx,uJ,Er,Cl,I.o,y.o];rfl) H.o
def WS(h1:g.nr<=100)(h2:g.nb<=100):PX w0 cb Q ra la rc lc g b (.lf o):=by
 intro off c l n L U w P hl hL hk hc hn hT G hp ac;have E:=ua ac;have N:=ua hL;simp only[TR.n]at hc hn hl;subst hl;obtain⟨C,⟨sa,sc,c1,ab⟩,c2⟩:=Em.q hT G.u;have HS:=ua ab;have HC:=ua G;have f1:0<c:=hc;have f3:¬c=0:=oM;have ag:b<w.heap.size:=ud C;obtain⟨H,i⟩:=hk;have d:o.e=0\/o.e=1\/o.e=2\/o.e=3:=by have:=i.1;have:=i.2.1;unfold M.ar at H;split at H<;>(try split at H)<;>omega
 have k:=i.2.2.2.2.2;have I:=i.2.2.2.2.1;have ah:n<=100000:=oM;have C0:=ua (λo:Obj=>G.q ((wI w).drew.trans (uk w.drew o)));clear ab G H hT ac hL hp;rcases d with d|d|d|d
 ·have s:Hid (TR.a (M.bB g.nr) (.lf o)=.empty):=by show _=_;simp[TR.a,M.bB,d]
  rw[d]at C;clear d k i;go_enter func145,ntmps145;go_wp2;go_region;all_goals go_wp2
  all_goals go_end0
  all_goals exact E.o _ [] _ (by rw[s.o];rfl) (by rw[Ca];exact C0.o _)
 ·have s:Hid (TR.a (M.bB g.nr) (.lf o)=.set o.sl o.set):=by show _=_;simp[TR.a,M.bB,d]
  have ae:o.sl<=1048576:=oH (DG (i.2.2.1 d));rw[d]at C;clear d k i;go_enter func145,ntmps145;go_wp2;go_region;all_goals go_wp2_with fail
  all_goals
   refine(WC Q sa o.sl sc o.set _ (HS.o.q ((wI w).drew.trans (wG w.drew))) ae).mono ?_;rintro e W1 ⟨⟨R,T,rfl,hI⟩,hb,aa⟩;have ad:=ua ((C0.o _).a hb ⟨⟨0,0,0,o.sl,o.set⟩,R,T⟩ hI aa);clear hI hb aa;go_wp2_with fail;refine(WW w0 cb _ _ L U W1 ⟨⟨0,0,0,o.sl,o.set⟩,R,T⟩ ad.o (oH N.o)).mono ?_;rintro e W2 ⟨rfl,A⟩;go_wp2;go_end0;exact E.o _ [⟨⟨0,0,0,o.sl,o.set⟩,R,T⟩] _ (by rw[s.o];rfl) A.o
 ·obtain⟨j,m⟩:=Ws i;obtain⟨p,y⟩:=nm (M.tg g.nr o);have O:=ua y;have D:o.f<=1048576:=by unfold M.bM at k;split at k<;>(try split at k)<;>omega
  have s:Hid (Kx (TR.a (M.bB g.nr) (.lf o)) n = [ins 6 0 p]):=by
   show _=_;rw[<-y];simp[TR.a,M.bB,d,m,Kx,uJ,M.tg]
  have B:=ua (xt ra la sa g.nr rc g.nb lc sc o · I D oM);rw[d,m]at B;rw[d]at C;rw[m]at c2;clear d i m k I D y;go_enter func145,ntmps145;go_wp2;go_region;all_goals go_wp2_with fail
  all_goals
   generalize t:w.alloc _=X;have r:Hid (CS w0 cb (Sl ra g.nr rc) (Sl la g.nb lc) L [] U X):=t▸HC.o.q (wG w);have z:wJ X w.heap.size #[Iv 2,Sl sa o.sl sc,Iv j]:=t▸um w _ _;clear t;have V:X.cell? (Ad cb 0)=some (Sl ra g.nr rc):=(by obtain⟨P,F,S,Y,W,h⟩:=r.o;exact h.g0);have g1:X.cell? (Ad cb 1)=some (Sl la g.nb lc):=(by obtain⟨P,F,S,Y,W,h⟩:=r.o;exact h.g1);have af:=ud V;have xk:X.cell? (Ad w.heap.size 0)=some (Iv 2):=z.x.1 0;have xs:X.cell? (Ad w.heap.size 1)=some (Sl sa o.sl sc):=z.x.1 1;have Z:X.cell? (Ad w.heap.size 2)=some (Iv j):=z.x.1 2;have lx:=ud xk;go_region_law (first
    |(refine Sk FO rfl (.tmp 41) (.tmp 42) 37 128 rfl (y1:=.agg #[Sl ra g.nr rc,Sl la g.nb lc]) (y2:=.agg #[Iv 2,Sl sa o.sl sc,Iv j]) (by simp[Act.eval,Act.put]) (by simp[Act.eval,Act.put]) ((B.o X.drew.drew).mono ?_);rintro e W2 ⟨rfl,v⟩;rw[O.o];have A:=ua (r.o.q ((wI X).drew.drew.trans v));have u2:=ue Z ((wI X).drew.drew.trans v);clear v;refine⟨_,rfl,?_⟩)
    |(refine Sk Xk rfl (.tmp 37) (.tmp 44) 258 202 rfl (y1:=.pointer (Sm cb 0)) (y2:=.agg #[Iv 6,Iv 0,Iv p,nS]) (by simp[Act.eval,Act.put]) (by simp[Act.eval,Act.put]) (Mh 6 0 p A.o N.o oM λW3 J=>⟨_,rfl,?_⟩)))
   all_goals go_goals
   all_goals go_wp2
   all_goals go_end0
   all_goals exact E.o _ [ic 6 0 p] _ s.o.symm J
 obtain⟨j,m⟩:=Ws i;obtain⟨p,y⟩:=nm (M.tg g.nr o);have O:=ua y;have D:o.f<=1048576:=by unfold M.bM at k;split at k<;>(try split at k)<;>omega
 have s:Hid (Kx (TR.a (M.bB g.nr) (.lf o)) n = [ins 8 j p]):=by
  show _=_;rw[<-y];simp[TR.a,M.bB,d,m,Kx,uJ,M.tg]
 have B:=ua (xt ra la sa g.nr rc g.nb lc sc o · I D oM);rw[d,m]at B;rw[d]at C;rw[m]at c2;clear d i m k I D y;go_enter func145,ntmps145;go_wp2;go_region;all_goals go_wp2_with fail
 all_goals
  generalize t:w.alloc _=X;have r:Hid (CS w0 cb (Sl ra g.nr rc) (Sl la g.nb lc) L [] U X):=t▸HC.o.q (wG w);have z:wJ X w.heap.size #[Iv 3,Sl sa o.sl sc,Iv j]:=t▸um w _ _;clear t;have V:X.cell? (Ad cb 0)=some (Sl ra g.nr rc):=by obtain⟨P,F,S,Y,W,h⟩:=r.o;exact h.g0
  have g1:X.cell? (Ad cb 1)=some (Sl la g.nb lc):=by obtain⟨P,F,S,Y,W,h⟩:=r.o;exact h.g1
  have af:=ud V;have xk:X.cell? (Ad w.heap.size 0)=some (Iv 3):=z.x.1 0;have xs:X.cell? (Ad w.heap.size 1)=some (Sl sa o.sl sc):=z.x.1 1;have Z:X.cell? (Ad w.heap.size 2)=some (Iv j):=z.x.1 2;have lx:=ud xk;go_region_law (first
   |(refine Sk FO rfl (.tmp 54) (.tmp 55) 37 128 rfl (y1:=.agg #[Sl ra g.nr rc,Sl la g.nb lc]) (y2:=.agg #[Iv 3,Sl sa o.sl sc,Iv j]) (by simp[Act.eval,Act.put]) (by simp[Act.eval,Act.put]) ((B.o X.drew.drew).mono ?_);rintro e W2 ⟨rfl,v⟩;rw[O.o];have A:=ua (r.o.q ((wI X).drew.drew.trans v));have u2:=ue Z ((wI X).drew.drew.trans v);clear v;refine⟨_,rfl,?_⟩)
   |(refine Sk Xk rfl (.tmp 48) (.tmp 57) 258 202 rfl (y1:=.pointer (Sm cb 0)) (y2:=.agg #[Iv 8,Iv j,Iv p,nS]) (by simp[Act.eval,Act.put]) (by simp[Act.eval,Act.put]) (Mh 8 j p A.o N.o oM λW3 J=>⟨_,rfl,?_⟩)))
  all_goals go_goals
  all_goals go_wp2
  all_goals go_end0
  all_goals exact E.o _ [ic 8 j p] _ s.o.symm J
def WT(a:g.nr<=100)(c:g.nb<=100)(T:TR):PX w0 cb Q ra la rc lc g b T:=by
 induction T with
 |lf o=>exact WS a c
 |un o x d=>exact use d
 |bn o x y e f=>exact WR e f
end
def WX(w0:Wl)(d:Nat)(Q:Np)(ra la a:Oa)(rc lc n c:Nat)(g:Gr)(m:g.nr<=100)(o:g.nb<=100)(B:Nat->OpD)(t:n<=2000)(r:n<=c)(i:M.bF g.nr g.nb n B)(h:wT Q w0 a n B)(L:List IC)(f:LI)(w:Wl)
  (p:CS w0 d (Sl ra g.nr rc) (Sl la g.nb lc) L [] f w) (z:L.length<=50000) :
  Cs 145 #[.pointer (Sm d 0),Sl a n c] w (WV w0 d (Sl ra g.nr rc) (Sl la g.nb lc) L f (M.cD g.nr n B)):=by
 have l:¬n=0:=λq=>by
  have:=i.2.2;rw[q,M.dep]at this;omega
 rcases h with q|⟨b,off,rfl,D,h⟩
 ·exact aB q l
 have A:=DE i;have E:=M.eS B n;obtain⟨T,rfl,u,x,y⟩:=Wt i;have k:=My (Q:=Q) (w:=w0) (b:=b) (off:=off) x (λj s=>by rw[zL];exact h j s);rw[Ge,Cc]at k;rw[M.cD,y]at *;exact WT m o T off c _ _ L f w _ rfl rfl u r t k p oM (λv K W e C=>⟨⟨v,rfl⟩,K,e,C⟩)
def FP(w:Wl)(z:Int):Src prog 1 23 (Sl (Sm w.heap.size 0) 1 1) 1 [Iv z] (w.alloc (Oc #[Iv z] 3)):=by
 refine Gj (P:=prog) _ underlying23 (Ad w.heap.size 0) 1 1 [Iv z] rfl (λj u a=>?_) (λu a=>?_)
 ·match j,a with
  |0,a=>simp at a;subst a;simp[Addr.add]
  |j+1,a=>simp at a
 simp at a;subst a;rfl
def FQ(w0:Wl)(b:Nat)(Q:Np)(ra la a:Oa)(rc lc n c:Nat)(g:Gr)(u:g.nr<=100)(j:g.nb<=100)(B:Nat->OpD)(hn:n<=2000)(hc:n<=c)(G:M.bF g.nr g.nb n B)(O:wT Q w0 a n B)(L:List IC)(h:LI)(k z:Int)(w:Wl)
  (x:CS w0 b (Sl ra g.nr rc) (Sl la g.nb lc) L [] h w) (hL:L.length<=40000) (ae:h.length<=40000) :
  Cs 108 #[.pointer (Sm b 0),.agg #[Iv k,Iv z,Iv 0,nS],Sl a n c] w λe w'=>(∃v,e=Rt v)/\∃K:List IC,K.map IC.d=M.nodeC (λn=>(n:Int)) (ins k z 0) (M.cD g.nr n B) L.length/\CS w0 b (Sl ra g.nr rc) (Sl la g.nb lc) (L++K) [] (h++[(L.length:Int)]) w':=by
 have ab:Hid (M.bF g.nr g.nb n B):=G;have HB:Hid (wT Q w0 a n B):=O;have HC:Hid (CS w0 b (Sl ra g.nr rc) (Sl la g.nb lc) L [] h w):=x;have J:Hid ((M.cD g.nr n B).c<=4000):=by
  show _<=_;have:=M.eS B n;rw[DE G];omega
 have x0:(w.alloc (Oc #[Iv k,Iv z,Iv 0,nS] 202)).cell? (Ad w.heap.size 0)=some (Iv k):=cN w.heap.size rfl rfl;have x1:(w.alloc (Oc #[Iv k,Iv z,Iv 0,nS] 202)).cell? (Ad w.heap.size 1)=some (Iv z):=cN w.heap.size rfl rfl;have x2:(w.alloc (Oc #[Iv k,Iv z,Iv 0,nS] 202)).cell? (Ad w.heap.size 2)=some (Iv 0):=cN w.heap.size rfl rfl;have x3:(w.alloc (Oc #[Iv k,Iv z,Iv 0,nS] 202)).cell? (Ad w.heap.size 3)=some nS:=cN w.heap.size rfl rfl;obtain⟨P,F,S,U,vf,A⟩:=(x.d k z 0).q (uk w (Oc #[Iv k,Iv z,Iv 0,nS] 202));obtain⟨o,p,rfl⟩:=uq A.c;have t:Hid (CP w0 b (Sl ra g.nr rc) (Sl la g.nb lc) L [ic k z 0] h (w.alloc (Oc #[Iv k,Iv z,Iv 0,nS] 202)) P F S U (Sl o h.length p)):=A;clear G O x A;go_enter func108,ntmps108;go_wp2;generalize w.alloc (Oc #[Iv k,Iv z,Iv 0,nS] 202)=X at *;have f3:=t.o.f;have af:=t.o.a.2;have lx:=ud x0;go_region_law (first
  |(refine Sk Xk rfl (.tmp 11) (.tmp 12) 258 202 rfl (y1:=.pointer (Sm b 0)) (y2:=.agg #[Iv k,Iv z,Iv 0,nS]) (by simp[Act.eval,Act.put]) (by simp[Act.eval,Act.put]) ((Xo w0 b _ _ L (ic k z 0) h X.drew P F S U (Sl o h.length p) (t.o.q (wI X).drew) oM).mono ?_);rintro e W2 ⟨rfl,P2,ad,j⟩;have l:Hid (CP w0 b (Sl ra g.nr rc) (Sl la g.nb lc) (L++[ic k z 0]) [] h W2 P2 F S ad (Sl o h.length p)):=j;have u3:=j.f;have ag:=j.a.2;clear j;refine⟨_,rfl,?_⟩)
  |(refine Qp rfl (.tmp 10) (.tmp 14) 23 23 rfl (v:=Sl o h.length p) (y:=Sl (Sm W2.heap.size 0) 1 1) (by simp[Act.eval,Act.put]) (by simp[Act.eval,Act.put]) jz (l.o.q (uk W2 (Oc #[Iv (L.length:Int)] 3))).c (FP W2 (L.length:Int)) oM (λ_=>Nat.one_pos) ?_;intro v' W4 H D ac;have T:=(l.o.q (uk W2 (Oc #[Iv L.length] 3))).m H D;have C:W4.heap[b]?=(W2.alloc (Oc #[Iv L.length] 3)).heap[b]?:=D.d b (l.o.q (uk W2 (Oc #[Iv L.length] 3))).a.2 (λq=>((l.o.q (uk W2 (Oc #[Iv L.length] 3))).rf b q).2.2.1 rfl);have r2:W4.cell? (Ad b 3)=some (Sl o h.length p):=(zI (a:=(Ad b 3)) C).trans (l.o.q (uk W2 (Oc #[Iv L.length] 3))).f;have r3:W4.frozen? (Ad b 3)=false:=(Ec (a:=(Ad b 3)) C).trans ((l.o.q (uk W2 (Oc #[Iv L.length] 3))).s 3);obtain⟨a4,c4,rfl⟩:=uq H;have V:Hid (CS w0 b (Sl ra g.nr rc) (Sl la g.nb lc) (L++[ic k z 0]) [] (h++[(L.length:Int)]) (W4.setCell (Ad b 3) (Sl a4 (h.length+1) c4))):=T;clear H D ac T C))
 all_goals go_goals
 all_goals (
  have r:Hid ((L++[ic k z 0]).length=L.length+1):=by show _=_;simp
  go_wp2_with fail;refine(WX w0 b Q ra la a rc lc n c g u j B hn hc ab.o HB.o (L++[ic k z 0]) (h++[(L.length:Int)]) _ V.o (oH r.o)).mono ?_;rintro e N ⟨⟨v5,rfl⟩,i,E,R⟩;have aa:Hid (i.map IC.d=uJ (λn=>(n:Int)) (M.cD g.nr n B) (L.length+1)):=r.o▸E;have I:Hid (i.length=(M.cD g.nr n B).c):=by show _=_;exact FN E
  have W:Hid (CS w0 b (Sl ra g.nr rc) (Sl la g.nb lc) (L++[ic k z 0]++i) [] (h++[(L.length:Int)]) N):=R;clear E R;go_wp2_with fail;refine(Qv w0 b _ _ (L++[ic k z 0]++i) _ N 11 0 0 W.o (by have u:=I.o;have j:=J.o;have h3:=r.o;rw[wK];omega)).mono ?_;rintro e W6 ⟨rfl,Y⟩;go_wp2_with fail;refine(Qv w0 b _ _ (L++[ic k z 0]++i++[ic 11 0 0]) _ W6 7 0 0 Y.o (by have u:=I.o;have j:=J.o;have h3:=r.o;rw[wK,wK];show _+_+1<=_;omega)).mono ?_;rintro e W7 ⟨rfl,Z⟩;go_wp2;go_end0;refine⟨⟨_,rfl⟩,ic k z 0::(i++[ic 11 0 0,ic 7 0 0]),?_,?_⟩
  ·rw[Er,Cl,aa.o];rfl
  have e:L++ic k z 0::(i++[ic 11 0 0,ic 7 0 0])=L++[ic k z 0]++i++[ic 11 0 0]++[ic 7 0 0]:=sM;rw[e];exact Z.o)
open M (lk)
def Jg(f:Int->Int)(x:IC):IC:=⟨lk f x.d,x.a,x.c⟩
def Fh(f:Int->Int)(l:List IC)(k:Nat):List IC:=(l.take k).map (Jg f)++l.drop k
def WY f l k:(Fh f l k).length=l.length:=by
 unfold Fh;rw[wK,zN,Fy,Oq];omega
def WZ{f l k x}(h:l[k]?=some x):(Fh f l k)[k]?=some x:=by
 have a:=(zT.1 h).1;unfold Fh;rw[Di (by rw[zN,Fy];omega),zN,Fy,show k-min k l.length=0 by omega,List.getElem?_drop];simpa using h
def XA{f l k x}(h:l[k]?=some x):Fh f l (k+1)=(Fh f l k).set k (Jg f x):=by
 have a:=(zT.1 h).1;have b:=(zT.1 h).2;unfold Fh;rw[Qg _ _ (by rw[zN,Fy];omega),zN,Fy,show k-min k l.length=0 by omega,Qj a,List.set_cons_zero,List.take_succ_eq_append_getElem a,Cl,zU,b];rfl
def XC{f x}(h:¬(x.d.e=6\/x.d.e=8)):Jg f x=x:=by
 unfold Jg lk;rw[Zn h]
def XD{f x}(h:x.d.e=6\/x.d.e=8):Jg f x=Fb x (f x.d.to):=by
 unfold Jg lk Fb;rw[Zp h]
def XE f l:Fh f l l.length=l.map (Jg f):=by
 unfold Fh;simp
def XF f l:Fh f l 0=l:=by simp[Fh]
def XG(w0:Wl)(a:Nat)(u0 u1:Vl)(l:List IC)(b:LI)(f:Int->Int)(P F S:Np)(e d:Vl)(c:Vl)(wr:Wl):Prop :=
 ∃k:Nat,k<=l.length/\c=Iv (k:Int)/\CP w0 a u0 u1 (Fh f l k) [] b wr P F S e d
def XH w0 o u0 u1 l b f w(h:CS w0 o u0 u1 l [] b w)(ak:0<l.length)(hl:l.length<=200000)(aj:b.length<=200000)(aa:∀(i:Nat) (x:IC),l[i]?=some x->x.d.e=6\/x.d.e=8->∃n:Nat,x.d.to=(n:Int)/\b[n]?=some (f x.d.to)) :
  Cs 109 #[.pointer (Sm o 0)] w λe w'=>(∃v,e=Rt v)/\CS w0 o u0 u1 (l.map (Jg f)) [] b w':=by
 obtain⟨P,F,S,vp,D,h⟩:=h;obtain⟨g,cap,rfl,ai⟩:∃g cap,vp=Sl (Sm g 0) l.length cap/\l.length<=cap:=by
  rcases h.r with⟨_,q,_⟩|⟨g,cap,e,Z,V,I,B,J⟩
  ·omega
  exact⟨g,cap,e,I⟩
 have ac:=ua aa;have HP:Hid (CP w0 o u0 u1 (Fh f l 0) [] b w P F S (Sl (Sm g 0) l.length cap) D):=by show CP _ _ _ _ _ _ _ _ _ _ _ _ _;rw[XF];exact h
 have p2:=h.p;have al:=h.a.2;clear h aa;go_enter func109,ntmps109;go_wp2;go_loopw [9] (λO wr=>XG w0 o u0 u1 l b f P F S (Sl (Sm g 0) l.length cap) D O wr) (λO _=>l.length-(intOf O).toNat)
 ·exact⟨0,wP,rfl,HP⟩
 clear p2;obtain⟨k,hk,rfl,m⟩:=hrel;have E:Hid (CP w0 o u0 u1 (Fh f l k) [] b wr P F S (Sl (Sm g 0) l.length cap) D):=m;by_cases ag:k<l.length
 ·obtain⟨x,C⟩:∃x,l[k]?=some x:=⟨l[k],zG ag⟩;have N:=WZ (f:=f) C;have y:∀j,j<4->wr.cell? (Ad g (k*4+j))=(Il x)[j]?/\wr.frozen? (Ad g (k*4+j))=false:=λj hj=>by
   rcases m.r with⟨q,_⟩|⟨g',ad,q,Z,V,I,B,J⟩
   ·cases q
   obtain⟨rfl,rfl⟩:g=g'/\cap=ad:=by
    injection q with e1 e2 e3;injection e1 with e1;injection e1 with e1;exact⟨e1,e3⟩
   have X:=FR (Fh f l k);rw[WY]at X;exact⟨by rw[B _ (by rw[X];omega)];exact Xl _ k j x N hj,(J _ oM).2⟩
  have c0:wr.cell? (Ad g (k*4))=some (Iv x.d.e):=(y 0 oM).1;have c1:wr.cell? (Ad g (k*4+1))=some (Iv x.d.f):=(y 1 oM).1;have c2:wr.cell? (Ad g (k*4+2))=some (Iv x.d.to):=(y 2 oM).1;have c3:wr.cell? (Ad g (k*4+3))=some (Sl x.a x.d.sl x.c):=(y 3 oM).1;have cf:=(y 2 oM).2;have lg:=ud c0;have q2:=m.p;have q3:=m.f;have am:=m.a.2;have HX:Hid (l[k]?=some x):=C;have G:Hid (Fh f l (k+1)=(Fh f l k).set k (Jg f x)):=XA C;have R:Hid ((Fh f l k)[k]?=some x):=N;have hk':(k:Int)<(l.length:Int):=oM;clear y N C;by_cases s:x.d.e=6\/x.d.e=8
  ·obtain⟨n,Y,L⟩:=ac.o k x HX.o s;have ah:n<b.length:=(zT.1 L).1;obtain⟨u,z,rfl,W⟩:∃u z,D=Sl (Sm u 0) b.length z/\wr.cell? (Ad u n)=some (Iv (f x.d.to)):=by
    rcases m.c with⟨_,q,_⟩|⟨u,z,e,Z,V,I,B,J⟩
    ·omega
    refine⟨u,z,e,?_⟩;rw[B n (by rw[YE];exact ah)];unfold vB;rw[Du,L];rfl
   have H:Hid (Jg f x=Fb x (f x.d.to)):=XD s;have an:=ud W;rw[Y]at c2 W H;have hn':(n:Int)<(b.length:Int):=oM;have Q:Hid (∀t:Int,CP w0 o u0 u1 ((Fh f l k).set k (Fb x t)) [] b ((wr.setCell (Ad g (k*4+2)) (Iv t)).alloc (Oc #[Iv x.d.e,Iv x.d.f,Iv n,Sl x.a x.d.sl x.c] 202)).drew P F S (Sl (Sm g 0) l.length cap) (Sl (Sm u 0) b.length z)):=λt=>(E.o.n R.o).q (wG _).drew
   clear m L Y;generalize f (n:Int)=U at *;by_cases A:x.d.e=6
   ·have T:(x.d.e==6)=true:=(by simp[A]);clear A s;go_wp2;go_region;all_goals go_wp2
    all_goals go_roundw
    all_goals first
     |exact⟨k+1,oM,by go_num,by rw[G.o,H.o];exact Q.o U⟩
     |(simp[intOf];omega)
   have T:(x.d.e==6)=false:=(by simp[A]);have f8:(x.d.e==8)=true:=sO;clear A s;go_wp2;go_region;all_goals go_wp2
   all_goals go_roundw
   all_goals first
    |exact⟨k+1,oM,by go_num,by rw[G.o,H.o];exact Q.o U⟩
    |(simp[intOf];omega)
  have T:(x.d.e==6)=false:=sO;have f8:(x.d.e==8)=false:=sO;have ab:Hid (Fh f l (k+1)=Fh f l k):=by
   show _=_;rw[G.o,XC s];obtain⟨ae,af⟩:=zT.1 R.o;rw[<-af];exact List.set_getElem_self ae
  clear m s;go_wp2;go_roundw
  ·exact⟨k+1,oM,by go_num,by rw[ab.o];exact E.o.q (wG wr)⟩
  simp[intOf];omega
 obtain rfl:k=l.length:=oM;go_wp2;go_end0;exact⟨⟨_,rfl⟩,_,_,_,_,_,by rw[<-XE];exact E⟩
section
open M (OpD uh Gr uw EX ins uJ emit_len)
variable {K:EC} {m:Nat}
def ZY(O:K.Ok)(hN:∀j,j<m->K.l j)(o:OpD)(I:o.e=3):K.e m (.lf o):=by
 intro bb off c p l pv N nv A s W P hl ak hc hn hT hL ag a0 ah aq he Z hw hA hm hR;simp only[TR.n]at hc hn hl;subst hl a0;obtain⟨c0,⟨sa,sc,c1,a1⟩,c2⟩:=hT;have hb:=hw.u;replace c0:=ue c0 hb;replace c1:=ue c1 hb;replace c2:=ue c2 hb;obtain⟨j,Q⟩:=Ws ak.2;have h6:=ak.2.2.2.2.2.2;unfold M.bM at h6;rw[Zp I,Q]at h6;have ap:j<K.g.nb:=oM;obtain⟨C,ad⟩:=nm (K.g.nr+j);have ab:=ua ad;have hr:=O.a.r2;have ba:=O.a.l2;have TG:=ua (λw=>SF K.ra K.la sa K.g.nr K.rc K.g.nb K.lc sc o w (.inr I) I Q oM oM oM);have au:M.tg K.g.nr o=C:=by unfold M.tg;rw[Zp I,Q];exact ad
 rw[au]at TG;have e:(TR.lf o).a (M.bB K.g.nr)=.thr j C:=by simp[TR.a,M.bB,I,Q,ad]
 rw[I]at c0;rw[Q]at c2;have f1:0<c:=hc;have f3:¬c=0:=oM;have a5:=ud c0;rw[e]at hR hL;obtain⟨hq,hr⟩:=Ax.h hL;have D:=ua O;have T:=ua hR;have aj:W.heap.size≠K.b:=oH hw.lt;generalize hX:W.alloc (Oc #[Iv 3,Sl sa o.sl sc,Iv j] 128)=X;have B:=ua (hX▸um W #[Iv 3,Sl sa o.sl sc,Iv j] 128);have U:Hid (Kf W X):=hX▸wU;have TK:Hid (∀P',_->_->Cs 39 #[.pointer (Sm K.b 0)] X P'):=λP'=>yJ (P:=P') O (hw.m U.o) he Z ag hq
 rw[hr]at TK;have a7:N<=1000:=oG Z.c O.m1;have a6:0<=N:=oM;have a3:IntKind.i64.wrap (N+1)=N+1:=by rw[ah];exact uM (s.st.length+1) oM
 have HD:=ua ah;have ae:=ua aq;have av:=ua ag;have HA:=ua hA;have HM:=ua hm;have HN:=ua hN;have bd:=Z.thr;have bc:=Z.st;have a8:=O.f1;clear hR a1 aq ag Z he hw ak hL hb I e hr ah hA hm hN Q au ad;go_enter func67,ntmps67;obtain⟨z,p',lz⟩:=B.o.x;go_wp2_with fail;clear z p' lz;refine TK.o _ (λW1 w1 S e1 H l1=>?_) (λW1 w1 S=>?_)
 rotate_left
 ·go_wp2;exact wL (by simp[results,f67,go_sem]) rfl (T.o.b (s.c:Int) _ w1 ((vk U.o).c S))
 have aa:=ua S;have r:K.E (if s.g.l then s.g.fail else if Cw K.g C<0 then ({ s.g with d:=s.d+1,label:=(j:Int) }:wD).t 2 else ({ s.g with d:=s.d+1,f:=Cw K.g C }:wD).n ⟨2,s.f+1,0,0⟩ K.a):=e1;obtain⟨z,p',lz⟩:=(jX S B.o aj).x;cases nv with
 |true =>
  rw[show s.g.l=true from ae.o.symm]at r;have G:=ua r;clear r e1;go_wp2;exact wL (by simp[results,f67,go_sem]) rfl (T.o.fail s.g (s.c:Int) _ (.of G.o H rfl rfl (Gw _)) w1 ((vk U.o).c S))
 |false =>
 rw[show s.g.l=false from ae.o.symm]at r;simp only[Kr,if_false]at r;rw[Px,<-ab.o]at r;have ac:=ZU D.o.a ap;rcases D.o.f.c with h0|⟨al,a4,ai,az,af⟩
 ·omega
 have L:=(af j ap).1.h;obtain⟨xa,xn,xc,cd,lb,ps,wx⟩:=w1;replace L:=ue L wx.u;have be:=ud L;have Y:=ua (wx.set (s':={ s.g with d:=s.d+1 }) (o:=8) (v:=Iv ((s.d:Int)+1)) D.o rfl rfl);obtain⟨y,py,ly⟩:=wx.e.x;have ay:al≠K.b:=oG D.o.b (D.o.q al az);simp only[EC.wd,wD.g,ai]at y;have G1:=ua H;by_cases R:0<(nd K.g (K.g.nr+j)).bl
 rotate_left
 ·rw[Gv R]at ac;rw[ac]at L;rw[Zn R]at r;have HT:=ua (Ends.d r rfl);clear r e1 wx af;go_upto_region 29 with fail;go_region;go_wp2;have ST:Hid (K.k ((((W1.setCell (Ad K.b 8) (Iv ((s.d:Int)+1))).setCell (Ad K.b 9) (Iv 2)).setCell (Ad K.b 10) (Iv j)).setCell (Ad K.b 11) (Iv s.c)).drew) :=
   ⟨{ s.g with d:=s.d+1 },xa,xn,xc,j,s.c,by rw[HT.o];exact((((Y.o.set (s':={ s.g with d:=s.d+1 }) (cd':=2) D.o rfl rfl).set (s':={ s.g with d:=s.d+1 }) (lb':=(j:Int)) D.o rfl rfl).set (s':={ s.g with d:=s.d+1 }) (ps':=(s.c:Int)) D.o rfl rfl).m (Bz _)).g (λ_ q=>q.elim),.inr (by rw[HT.o];exact⟨rfl,rfl,rfl,rfl,rfl,rfl,Int.natCast_nonneg _,oM⟩)⟩
  exact wL (by simp[results,f67,go_sem]) rfl (T.o.b (s.c:Int) _ ST.o ((((((((vk U.o).c aa.o).c (EC.d _ _)).c (EC.d _ _)).c (EC.d _ _)).c (EC.d _ _)).c (Bz _))))
 rw[Gi R]at ac;rw[ac]at L;rw[Zp R,Zn oM]at r;generalize hV:W1.setCell (Ad K.b 8) (Iv ((s.d:Int)+1))=V at Y;have F:K.Kp W1 V:=hV▸EC.d _ _;have an:=ua ((((vk U.o).c aa.o).c F).c (Bz _));have aw:=ua ((aa.o.c F).c (wA.j (λx=>x=K.b) _));obtain⟨y',bh,bf⟩:=Y.o.e.x;simp only[EC.wd,wD.g,ai]at y';obtain⟨z',q',bg⟩:=(jX (aa.o.c F) B.o aj).x;have ch':V.cell? (Ad al (a4+j*3+1))=some Bt:=hV▸ulY ay L;have G:Hid (K.E (({ s.g with d:=s.d+1,f:=Cw K.g C }:wD).n ⟨2,s.f+1,0,0⟩ K.a)):=by rw[Px,<-ab.o,Zp R];exact r
 have J:Hid (K.Sg { s.g with d:=s.d+1,f:=Cw K.g C }):=⟨H.e,by show s.d+1<=s.b+1;omega,H.a,H.st,H.c⟩;have HW:Hid (K.Wd A { s.g with d:=s.d+1,f:=Cw K.g C } V.drew):=EC.Wd.d (s:={ s.g with d:=s.d+1 }) ⟨_,_,_,_,_,_,Y.o.m (Bz _)⟩ rfl rfl rfl rfl;clear e1 H S TK r wx af Y G1 F;go_upto_region 29 with fail;go_region;go_wp2_with fail;refine Pa D.o (by rw[HD.o];rfl) HW.o J.o (λW2 w2 k2 l2=>?_) (λW2 h1 h2 k2=>?_)
 rotate_left
 ·have h3:=h2 (Ends.d (by have:=G.o;rw[h1]at this;exact this) rfl);go_wp2;exact wL (by simp[results,f67,go_sem]) rfl (T.o.b (s.c:Int) _ h3 (an.o.c k2))
 obtain⟨z,p',lz⟩:=(jX (aw.o.c k2) B.o aj).x;have am:=ua (an.o.c k2);replace G:=ua (jC ⟨2,s.f+1,0,0⟩ l2▸G.o);have ND:Hid (∀V,Kf W2 V->Cs 41 #[.pointer (Sm K.b 0),Iv C,Iv s.c,Iv (N+1),Bf] V (Ts P)):=λV F=>by
  have a9:(s.b:Int)<K.c:=l1;refine HN.o (m-1) (oH HM.o) C (p+1) _ _ _ _ A s { s.g with d:=s.d+1,f:=Cw K.g C,st:=s.st++[⟨2,((p+1:Nat):Int),0,0⟩] } V _ (oH ab.o) (ab.o▸R) rfl rfl rfl ⟨rfl,rfl⟩ (Gw _) rfl ?_ ?_ ?_ ?_ ((w2.m F).d rfl rfl rfl rfl) (λx hx=>wX (HA.o x hx) (am.o.c (vk F)).h) ?_ (T.o.e (am.o.c (vk F))).d
  ·rw[HD.o];simp
  ·rw[ae.o];simp[wD.l]
  ·have:=G.o;rw[av.o]at this;exact this
  ·exact⟨J.o.e,J.o.thr,J.o.a,J.o.st,by have:=l2;simp;exact this⟩
  show(K.c-((s.b+1:Nat):Int)).toNat<=m-1;have:=HM.o;omega
 obtain⟨xa,xn,xc,cd,lb,ps,w2⟩:=w2;obtain⟨y,py,ly⟩:=w2.e.x;simp only[EC.wd]at y;clear w2 G J HW;go_upto_region 37 with fail;go_region_law (first
  |(refine yp SE rfl #[.tmp 214,.tmp 215] #[37,128] rfl (ys:=#[.agg #[Sl K.ra K.g.nr K.rc,Sl K.la K.g.nb K.lc],.agg #[Iv 3,Sl sa o.sl sc,Iv (j:Int)]]) (by simp[Act.eval,Act.put,ai]) ((TG.o _).mono ?_);rintro e W3 ⟨rfl,ao⟩;have K3:Hid (Kf W2 W3):=(Bz _).c (wA.i ao (λ_ q _=>q));clear ao;refine⟨_,rfl,?_⟩)
  |(refine yp HL rfl #[.tmp 210,.tmp 216,.tmp 217,.tmp 219,.tmp 220] #[87,3,3,3,4] rfl (ys:=#[.pointer (Sm K.b 0),Iv (C:Int),Iv (s.c:Int),Iv (N+1),Bf]) (by simp[Act.eval,Act.put,a3]) ((ND.o _ K3.o).mono ?_);rintro e W4 ⟨h,z2,a2,n2,c2,rfl,HP⟩;have ax:=ua HP;clear HP;unfold yI;refine⟨_,rfl,?_⟩))
 all_goals go_wp2
 all_goals exact wL (by simp[results,f67,go_sem]) rfl ax.o
end
end Go.Proofs.YtoihadcablknpaaGreatDoor
