import Derived.Test.YtoihadcablknpaaGreatDoorT08
import Derived.Deep.RegionHeld3
set_option linter.unusedVariables false
set_option linter.unusedSimpArgs false
set_option linter.defProp false
set_option maxHeartbeats 40000000
set_option maxRecDepth 100000
namespace Go.Proofs.YtoihadcablknpaaGreatDoor
open Go.RowKit
open Go.Proofs.Tryz
open M (OpD uh Gr uw EX ins uJ jW wt)
def kP(g:Gr)(p:Nat):Bool:=decide (0<(nd g p).bl)
def If(g:Gr)(p:Nat):EX:=M.cD g.nr (nd g p).bl (nd g p).e
def Gt(g:Gr)(p:Nat):uw:=if p<g.nr then ins 9 p 0 else ins 10 ((p-g.nr:Nat):Int) 0
def PL(g:Gr)(k:Nat):Nat:=(M.bK (λ_=>0) (Gt g) (If g) (kP g) k).length
def Cw(g:Gr)(p:Nat):Int:=M.fT (Gt g) (If g) (kP g) p
def Px g p:Cw g p=if 0<(nd g p).bl then (PL g p:Int) else -1:=by
 unfold Cw M.fT PL;by_cases h:0<(nd g p).bl
 ·have e:kP g p=true:=by simp[kP,h]
  rw[Zp e,Zp h]
 have e:¬kP g p=true:=by simp[kP,h]
 rw[Zn e,Zn h]
def urc g k:PL g (k+1)=if 0<(nd g k).bl then PL g k+((If g k).c+3) else PL g k:=by
 unfold PL;rw[M.bK];by_cases h:0<(nd g k).bl
 ·have e:kP g k=true:=by simp[kP,h]
  rw[Zp e,Zp h,wK,M.eU]
 have e:¬kP g k=true:=by simp[kP,h]
 rw[Zn e,Zn h]
def DE{nr a n B}(h:M.bF nr a n B):(M.cD nr n B).c=jW B n:=by
 have:=M.fW nr B n 0 _ h.2.1 (DK (M.bB nr) B n h.2) wP;simp only[jW,Cc]at this;exact this
def jP{g}(h:M.Sound g){p}(b:p<g.nr+g.nb):jQ g p:=by
 unfold jQ;by_cases e:p<g.nr
 ·rw[vJ g e];exact .inr (h.rb p e)
 obtain⟨i,rfl⟩:∃i,p=g.nr+i:=⟨p-g.nr,oM⟩;rw[yo];cases a:(g.d i).h with
 |true=>exact .inr (h.lb i oM a)
 |false=>exact .inl (h.lz i oM a)
def DF{g}(c:M.Sound g){p}(f:p<g.nr+g.nb):(nd g p).bl<=2000:=by
 have b:=c.ol;unfold M.ops at b;by_cases e:p<g.nr
 ·rw[vJ g e];have:=M.eG (λi=>(g.a i).bl) e;omega
 obtain⟨i,rfl⟩:∃i,p=g.nr+i:=⟨p-g.nr,oM⟩;rw[yo];have:=M.eG (λi=>(g.d i).bl) (i:=i) (n:=g.nb) oM;omega
def utH{g}k(l:k<=g.nr+g.nb):M.sum (λi=>(nd g i).bl) k<=M.ops g:=by
 unfold M.ops;by_cases e:k<=g.nr
 ·have c:∀j,j<=g.nr->M.sum (λi=>(nd g i).bl) j=M.sum (λi=>(g.a i).bl) j:=by
   intro j;induction j with
   |zero=>intro _;rfl
   |succ j b=>intro h;rw[M.sum,M.sum,b oM,vJ g (show j<g.nr by omega)]
  rw[c k e];have:=M.dV (λi=>(g.a i).bl) e;omega
 have c:∀j,j<=g.nr->M.sum (λi=>(nd g i).bl) j=M.sum (λi=>(g.a i).bl) j:=by
  intro j;induction j with
  |zero=>intro _;rfl
  |succ j b=>intro h;rw[M.sum,M.sum,b oM,vJ g (show j<g.nr by omega)]
 have f:∀j,M.sum (λi=>(nd g i).bl) (g.nr+j)=M.sum (λi=>(g.a i).bl) g.nr+M.sum (λi=>(g.d i).bl) j:=by
  intro j;induction j with
  |zero=>rw[Cc,c g.nr (wF)];rfl
  |succ j b=>rw[<-Eo,M.sum,b,M.sum,yo];omega
 obtain⟨j,rfl⟩:∃j,k=g.nr+j:=⟨k-g.nr,oM⟩;rw[f j];have:=M.dV (λi=>(g.d i).bl) (show j<=g.nb by omega);omega
def uvh{g}(a:M.Sound g)k(j:k<=g.nr+g.nb):PL g k<=2+3*k+2*M.sum (λi=>(nd g i).bl) k:=by
 induction k with
 |zero=>exact wF
 |succ k c =>
  have h:=c oM;rw[urc,M.sum];split
  ·rename_i l;have b:=(jP a (show k<g.nr+g.nb by omega)).elim (λq=>oM) id;have d:=DE b;have f:=M.eS (nd g k).e (nd g k).bl;unfold If;omega
  omega
def SD{g}(a:M.Sound g)k(b:k<=g.nr+g.nb):PL g k<=5000:=by
 have c:=uvh a k b;have d:=utH k b;have e:=a.ol;have f:=a.r2;have h:=a.l2;omega
section
open M (OpD uh Gr uw EX ins uJ jW wt)
def Ws{nr a o}(h:M.bE nr a o):∃j:Nat,o.f=j:=⟨o.f.toNat,by have:=h.2.2.2.2.1;omega⟩
inductive TR where
 |lf (o:OpD)
 |un (o:OpD) (x:TR)
 |bn (o:OpD) (x y:TR)
def TR.n:TR->Nat
 |.lf _=>1
 |.un _ x=>x.n+1
 |.bn _ x y=>x.n+y.n+1
def TR.n0:∀T:TR,0<T.n
 |.lf _=>by simp[TR.n]
 |.un _ x=>by simp[TR.n]
 |.bn _ x y=>by simp[TR.n]
def TR.Ok(E:OpD->Prop):TR->Prop
 |.lf o=>M.ar o.e=0/\E o
 |.un o x=>M.ar o.e=1/\E o/\x.Ok E
 |.bn o x y=>M.ar o.e=2/\E o/\x.Ok E/\y.Ok E
def TR.a{α:Type}[Inhabited α](f:OpD->α->α->α):TR->α
 |.lf o=>f o default default
 |.un o x=>f o (x.a f) default
 |.bn o x y=>f o (x.a f) (y.a f)
def TB(B:Nat->OpD):TR->Nat->Prop
 |.lf o,i=>B i=o
 |.un o x,i=>TB B x i/\B (i+x.n)=o
 |.bn o x y,i=>TB B x i/\TB B y (i+x.n)/\B (i+x.n+y.n)=o
def TR.b:TR->Nat->OpD
 |.lf o,_=>o
 |.un o x,i=>if i<x.n then x.b i else o
 |.bn o x y,i=>if i<x.n then x.b i else if i<x.n+y.n then y.b (i-x.n) else o
def Sp:∀(T:TR) (B:Nat->OpD) (i:Nat),(∀j,j<T.n->B (i+j)=T.b j)->TB B T i
 |.lf o,B,i,h=>h 0 (by simp[TR.n])
 |.un o x,B,i,h=>⟨Sp x B i (λj a=>(h j (by simp[TR.n];omega)).trans (Zp a)),(h x.n (by simp[TR.n])).trans (Zn oM)⟩
 |.bn o x y,B,i,h=>⟨Sp x B i (λj a=>(h j (by simp[TR.n];omega)).trans (Zp a)),Sp y B _ (λj a=>by
   rw[Eo,h (x.n+j) (by simp[TR.n];omega),TR.b,Zn oM,Zp oM,Nat.add_sub_cancel_left]),by
   rw[Eo,h (x.n+y.n) (by simp[TR.n]),TR.b,Zn oM,Zn oM]⟩
variable {B:Nat->OpD} {E:OpD->Prop}
def Sq{α:Type}[Inhabited α](f:OpD->α->α->α):∀(T:TR) (i:Nat),T.Ok E->TB B T i->M.stk f B (i+T.n)=(i,T.a f)::M.stk f B i
 |.lf o,i,hk,h=>by subst h;simp[TR.n,M.stk,M.stp,TR.a,hk.1]
 |.un o x,i,hk,⟨h1,h2⟩=>by
  show M.stp f (B (i+x.n)) _ (M.stk f B (i+x.n))=_;rw[Sq f x i hk.2.2 h1,h2];simp[M.stp,TR.a,hk.1]
 |.bn o x y,i,hk,⟨h1,h2,h3⟩=>by
  show M.stk f B (i+(x.n+y.n)+1)=_;rw[M.stk,<-Eo,h3,Sq f y _ hk.2.2.2 h2,Sq f x i hk.2.2.1 h1];simp[M.stp,TR.a,hk.1]
def Qc:∀(T:TR) (i:Nat),T.Ok E->TB B T i->M.dep B (i+T.n)=M.dep B i+1/\∀j,i<j->j<=i+T.n->M.dep B i+1<=M.dep B j
 |.lf o,i,hk,h=>by
  have e:M.dep B (i+1)=M.dep B i+1:=by rw[M.dep,h,hk.1];omega
  refine⟨e,λj g f=>?_⟩;obtain rfl:j=i+1:=by simp[TR.n]at f;omega
  omega
 |.un o x,i,hk,⟨g,f⟩=>by
  obtain⟨a,b⟩:=Qc x i hk.2.2 g;have e:M.dep B (i+x.n+1)=M.dep B i+1:=by rw[M.dep,f,hk.1,a];omega
  refine⟨e,λj g f=>?_⟩;by_cases q:j<=i+x.n
  ·exact b j g q
  obtain rfl:j=i+x.n+1:=by simp[TR.n]at f;omega
  omega
 |.bn o x y,i,hk,⟨g,f,h3⟩=>by
  obtain⟨a,b⟩:=Qc x i hk.2.2.1 g;obtain⟨c,d⟩:=Qc y _ hk.2.2.2 f;have e:M.dep B (i+x.n+y.n+1)=M.dep B i+1:=by rw[M.dep,h3,hk.1,c,a];omega
  refine⟨by rw[<-e];simp only[TR.n,Eo],λj g f=>?_⟩;by_cases q:j<=i+x.n
  ·exact b j g q
  by_cases k:j<=i+x.n+y.n
  ·have:=d j oM k;omega
  obtain rfl:j=i+x.n+y.n+1:=by simp[TR.n]at f;omega
  omega
def TI(d:Nat):∀lo,M.Fed B d->(∀i,i<d->E (B i))->M.stk (λ_ _ _=>()) B d=(lo,())::M.stk (λ_ _ _=>()) B lo->∃T:TR,lo+T.n=d/\T.Ok E/\TB B T lo:=by
 induction d using Nat.strongRecOn with
 |_ d o =>
  intro lo k j f;obtain⟨C,_,_⟩:=M.cI _ B d k lo () _ f;obtain⟨q,rfl⟩:∃q,d=q+1:=⟨d-1,oM⟩;have m:M.Fed B q:=k.g oM;have l:∀i,i<q->E (B i):=λi h=>j i oM
  rcases M.dD (B q).e with h|h|h
  ·rw[M.stk]at f;simp[M.stp,h]at f;exact⟨.lf (B q),by simp[TR.n];omega,⟨h,j q oM⟩,by show B lo=_;rw[f.1]⟩
  ·obtain⟨z,v,r,_⟩:=ul8 _ B q lo () k h f;obtain⟨x,a,b,c⟩:=o q oM lo m l r;exact⟨.un (B q) x,by simp[TR.n];omega,⟨h,j q oM,b⟩,c,by rw[a]⟩
  obtain⟨s,y,z,v,r,w,A,_,_,_⟩:=ujA _ B q lo () k h f;obtain⟨y,a,b,c⟩:=o q oM s m l w;obtain⟨x,p,t,u⟩:=o s oM lo (m.g oM) (λi h=>l i oM) A;exact⟨.bn (B q) x y,by simp[TR.n];omega,⟨h,j q oM,t,b⟩,u,by rw[p];exact c,by rw[p,a]⟩
def Wt{nr e n:Nat}(h:M.bF nr e n B):∃T:TR,T.n=n/\T.Ok (M.bE nr e)/\TB B T 0/\∀{α:Type} [Inhabited α] (f:OpD->α->α->α),M.top (M.stk f B n)=T.a f:=by
 obtain⟨T,b,c,d⟩:=TI n 0 h.2.1 h.1 (DK (λ_ _ _=>()) B n h.2);rw[zL]at b;exact⟨T,b,c,d,λf=>by have:=Sq f T 0 c d;rw[zL]at this;rw[<-b,this];rfl⟩
def TA(Q:Np)(w:Wl)(b:Nat):TR->Nat->Prop
 |.lf o,off=>Em Q w b off o
 |.un o x,off=>TA Q w b x off/\Em Q w b (off+x.n*3) o
 |.bn o x y,off=>TA Q w b x off/\TA Q w b y (off+x.n*3)/\Em Q w b (off+(x.n+y.n)*3) o
variable {Q:Np} {w W:Wl} {b:Nat}
def TA.q:∀{T:TR} {off:Nat},TA Q w b T off->Bw w W->TA Q W b T off
 |.lf o,off,h,k=>Em.q h k
 |.un o x,off,h,k=>⟨h.1.q k,h.2.q k⟩
 |.bn o x y,off,h,k=>⟨h.1.q k,h.2.1.q k,h.2.2.q k⟩
def My:∀{T:TR} {off i:Nat},TB B T i->(∀j,j<T.n->Em Q w b (off+(i+j)*3) (B (i+j)))->TA Q w b T (off+i*3)
 |.lf o,off,i,h,k=>by have:=k 0 (by simp[TR.n]);rw[Cc,h]at this;exact this
 |.un o x,off,i,h,k=>⟨My h.1 (λj a=>k j (by simp[TR.n];omega)),by
   have:=k x.n (by simp[TR.n]);rw[h.2]at this;rw[show off+i*3+x.n*3=off+(i+x.n)*3 by omega];exact this⟩
 |.bn o x y,off,i,h,k=>⟨My h.1 (λj a=>k j (by simp[TR.n];omega)),by
   have:=My (off:=off) h.2.1 (λj a=>by have:=k (x.n+j) (by simp[TR.n];omega);rw[<-Eo]at this;exact this);rw[show off+i*3+x.n*3=off+(i+x.n)*3 by omega];exact this,by
   have:=k (x.n+y.n) (by simp[TR.n]);rw[<-Eo,h.2.2]at this;rw[show off+i*3+(x.n+y.n)*3=off+(i+x.n+y.n)*3 by omega];exact this⟩
def Sr:∀{T:TR} {off:Nat},TA Q w b T off->∀j,j<T.n->Em Q w b (off+j*3) (T.b j)
 |.lf o,off,h,j,hj=>by
   obtain rfl:j=0:=(by simp[TR.n]at hj;exact hj);exact h
 |.un o x,off,h,j,hj=>by
  rw[TR.b];split
  ·exact Sr h.1 j aS
  obtain rfl:j=x.n:=by simp[TR.n]at hj;omega
  exact h.2
 |.bn o x y,off,h,j,hj=>by
  rw[TR.b];split
  ·exact Sr h.1 j aS
  split
  ·have:=Sr h.2.1 (j-x.n) oM;rw[show off+x.n*3+(j-x.n)*3=off+j*3 by omega]at this;exact this
  obtain rfl:j=x.n+y.n:=by simp[TR.n]at hj;omega
  exact h.2.2
def Wu{o:OpD}{x y:TR}{off c m:Nat}(h:TA Q w b (.bn o x y) off)(i:(TR.bn o x y).Ok E)(l:x.n+y.n=m)(r:m<2000) :
  Cs 66 #[Sl (Sm b off) (m+1) c,Iv (m:Int)] w λk w'=>k=Rt (Iv (x.n:Int))/\w=w':=by
 subst l;obtain⟨f,g,p⟩:=Sp (.bn o x y) (TR.bn o x y).b 0 (λj q=>by rw[zL]);obtain⟨a,_⟩:=Qc x 0 i.2.2.1 f;obtain⟨d,e⟩:=Qc y _ i.2.2.2 g;rw[zL]at a d e;have s:=y.n0;exact SM b off (x.n+y.n+1) c (TR.bn o x y).b w Q (Sr h) oM (x.n+y.n) x.n oM oM d.symm (λj f g=>oH (e j f g))
end
section
open M (OpD uh Gr)
def Py(ra la:Oa)(rc lc nr d e f mc:Nat)(mk:Nat->Bool)(Q:Np)(b:Nat)(T:TR):Prop :=
 ∀(off c l:Nat) (w:Wl),l=T.n->T.Ok (M.bE nr d)->T.n<=c->T.n<=2000->TA Q w b T off->zS w e f (nr+d) mk ->
  Cs 64 #[.agg #[Sl ra nr rc,Sl la d lc],Sl (Sm b off) l c,Sl (Sm e f) (nr+d) mc] w (Wh (T.a (M.fN nr mk)) w)
section
variable {Q:Np} {ra la:Oa} {rc lc nr nb mb mo mc b:Nat} {mk:Nat->Bool}
def ul3(D:nr<=100)(E:nb<=100)(o:OpD):Py ra la rc lc nr nb mb mo mc mk Q b (.lf o):=by
 intro off c l w A z G I k j;obtain⟨i,⟨sa,sc,B,s⟩,C⟩:=k;have F:=ud i;obtain⟨m,g⟩:=z;have x:=g.2.2.2.2.1;have y:o.f<=1048576:=by have:=g.2.2.2.2.2;unfold M.bM at this;split at this<;>(try split at this)<;>omega
 have r:o.e=0\/o.e=1\/o.e=2\/o.e=3:=by have:=g.1;have:=g.2.1;unfold M.ar at m;split at m<;>(try split at m)<;>omega
 subst A;simp only[TR.n]at *;by_cases d:M.bI o
 ·have u:=ua d;have t:=ua (j _ (DL g d));have J:=DL g d;have H:=ud t;have L:((M.tg nr o:Nat):Int)<((nr+nb:Nat):Int):=oM;have h:Hid (TR.a (M.fN nr mk) (.lf o)=mk (M.tg nr o)):=by show _=_;rcases d with q|q<;>simp[TR.a,M.fN,u.o,q]
  have k:=ua λ(W:Wl)=>jR ra la sa nr rc nb lc sc o W d x y oM
  rcases d with q|q;all_goals
   rw[q]at i k;clear q r g j s;go_enter func64,ntmps64;go_wp2_with (go_at_call 65;refine(k _).mono ?_;rintro e W ⟨rfl,p⟩;have N:=ue (uv _ (uv _ t)) p;have v:=ua p;clear p);go_ret;exact⟨yO h.o.symm,uf (Bn w) v⟩
 have h:Hid (TR.a (M.fN nr mk) (.lf o)=decide (o.e=0)):=by
  show _=_;rcases r with q|q|q|q
  ·simp[TR.a,M.fN,d,q]
  ·simp[TR.a,M.fN,q]
  ·exact aB (.inl q) d
  exact aB (.inr q) d
 rcases r with q|q|q|q
 ·rw[q]at i h;clear d g j s q;go_enter func64,ntmps64;go_wp2;go_ret;exact⟨yO h.symm,Bn w⟩
 ·rw[q]at i h;clear d g j s q;go_enter func64,ntmps64;go_wp2;go_ret;exact⟨yO h.symm,Bn w⟩
 ·exact aB (.inl q) d
 exact aB (.inr q) d
def ul4(o:OpD)(x:TR):Py ra la rc lc nr nb mb mo mc mk Q b (.un o x):=by
 intro off c l w h f p r k j;obtain⟨t,d,⟨sa,sc,u,s⟩,v⟩:=k;have y:=ud d;have g:o.e=6\/o.e=7:=by have:=f.1;unfold M.ar at this;split at this<;>(try split at this)<;>omega
 have i:Hid (TR.a (M.fN nr mk) (.un o x)=true):=by show _=_;rcases g with q|q<;>simp[TR.a,M.fN,M.bI,q]
 simp only[TR.n]at p r h;generalize x.n=m at *;subst h;have z:((m+1:Nat):Int)-1=(m:Int):=oM;have A:(m:Int)<((m+1:Nat):Int):=oM;rcases g with q|q;all_goals
  rw[q]at d;clear f j s t q;go_enter func64,ntmps64;go_wp2;go_ret;exact⟨yO i.symm,Bn w⟩
def ul5(o:OpD)(x y:TR)(O:Py ra la rc lc nr nb mb mo mc mk Q b x)(P:Py ra la rc lc nr nb mb mo mc mk Q b y):Py ra la rc lc nr nb mb mo mc mk Q b (.bn o x y):=by
 intro off c l w B A H J G z;have U:=ua G;have t:=ua A;obtain⟨L,N,g,⟨sa,sc,E,Z⟩,F⟩:=G;have nx:=x.n0;have ny:=y.n0;simp only[TR.n]at H J B;obtain⟨m,C⟩:=nm (x.n+y.n);rw[C]at g E F H J B;have T:=ua C;subst B;obtain⟨j,i⟩:=nm x.n;have f:=ua i;rw[i]at nx C;have x2:((m+1:Nat):Int)-1=(m:Int):=oM;have x3:(m:Int)<((m+1:Nat):Int):=oM;have f1:m<c:=oM;have f2:m<=c:=oM;have f3:¬c=0:=oM;have z6:=uM m oM;have aa:=ud g;have jm:(j:Int)<(m:Int):=oM;have ab:(j:Int)<=(m:Int):=oM;have f4:¬c=j:=oM;have f5:j<=m:=oM;have f6:j<=c:=oM;have V:=ua λ(W:Wl) (k:Bw w W)=>O off c j W f.symm t.2.2.1 (oH f) (oH f) (L.q k) (z.q k)
 have Y:=ua λ(W:Wl) (k:Bw w W)=>P (off+j*3) (c-j) (m-j) W oM t.2.2.2 oM oM (i▸N.q k) (z.q k)
 have I:o.e=4\/o.e=5:=by have:=A.1;unfold M.ar at this;split at this<;>(try split at this)<;>omega
 have s:Hid (TR.a (M.fN nr mk) (.bn o x y)=if o.e=4 then x.a (M.fN nr mk)&&y.a (M.fN nr mk) else x.a (M.fN nr mk)||y.a (M.fN nr mk)):=by show _=_;rcases I with q|q<;>simp[TR.a,M.fN,M.bI,q]
 clear A L N Z z O P i;generalize TR.a (M.fN nr mk) (.bn o x y)=r at *;generalize TR.a (M.fN nr mk) x=u at *;generalize TR.a (M.fN nr mk) y=v at *;rcases I with q|q;all_goals
  rw[q]at g s;clear q;go_enter func64,ntmps64;go_wp2_with fail;refine(Wu (U.q (Bn w)) t T oM).mono ?_;rintro e W ⟨rfl,hw⟩;subst W;rw[f.o];go_wp2;generalize h:(w.alloc _).alloc _=X;have D:Hid (Bw w X.drew):=h▸(Bn w).drew;have R:=ua (h▸(um w _ _).al _:wJ X w.heap.size #[Sl ra nr rc,Sl la nb lc]);have xo:=ua (h▸uV _ _ _ (w.heap.size+1) sM:wJ X (w.heap.size+1) _);obtain⟨y0,y1,y2⟩:=R.x;clear h g E F;go_region_with (go_at_call 64;refine(Y _ D).mono ?_;rintro e W2 ⟨rfl,d⟩;have p:=ua (uf D d).drew;have d:=(wI X).drew.trans d;obtain⟨u0,u1,u2⟩:=(R.on d).x;obtain⟨z0,z1,z2⟩:=(xo.on d).x;clear d);cases v;all_goals
   first
   |(go_wp2;go_region;go_wp2;go_ret;exact⟨yO (by rw[s.o];simp),p⟩)
   |(go_wp2;go_region_with (go_at_call 64;refine(V _ p).mono ?_;rintro e W3 ⟨rfl,d⟩;have S:=ua (uf p d);clear d);go_wp2;go_ret;exact⟨yO (by rw[s.o];simp),S⟩)
def DI(a:nr<=100)(c:nb<=100)(T:TR):Py ra la rc lc nr nb mb mo mc mk Q b T:=by
 induction T with
 |lf o=>exact ul3 a c o
 |un o x _=>exact ul4 o x
 |bn o x y d e=>exact ul5 o x y d e
end
def uh0 Q ra la a nr rc d lc n c B g h mc mk w(l:nr<=100)(m:d<=100)(y:n<=2000)(v:n<=c)(e:wT Q w a n B)(f:n=0\/M.bF nr d n B)(r:zS w g h (nr+d) mk) :
  Cs 64 #[.agg #[Sl ra nr rc,Sl la d lc],Sl a n c,Sl (Sm g h) (nr+d) mc] w (Wh (M.cH nr mk n B) w):=by
 rcases f with k|f
 ·subst k;go_enter func64,ntmps64;go_wp2;go_ret;exact⟨rfl,wG w⟩
 obtain⟨T,s,u,p,t⟩:=Wt f;have z:=T.n0;rcases e with q|⟨b,o,rfl,A,e⟩
 ·omega
 have:=My (off:=o) (i:=0) p (λj x=>by rw[zL];exact e j oM);rw[Ge,Cc]at this;unfold M.cH;rw[t];exact DI l m T o c n w s.symm u oM oM this r
end
section
open M (OpD uh Gr uw EX ins uJ jW wt)
section
variable {α:Type} [Inhabited α] (f:OpD->α->α->α) (B:Nat->OpD)
end
def DG{n S}(h:M.bL n S):n<=256:=by
 obtain⟨l,f⟩:=h;obtain⟨k,rfl⟩:∃k,n=2*k:=⟨n / 2,oM⟩;have d:=(M.dW S k).2 f;have i:∀j,j<k->2*(j:Int)<=S (2*j):=by
  intro j;induction j with
  |zero=>intro e;have:=(d 0 e).1;simp[M.bQ]at this;simpa using this
  |succ j g =>
   intro e;have a:=g oM;have b:=(d j oM).2.1;have c:=(d (j+1) e).1;unfold M.bQ at c;rw[Zn oM,show 2*(j+1)-1=2*j+1 by omega]at c
   push_cast
   omega
 by_cases m:k=0
 ·omega
 have a:=i (k-1) oM;have b:=d (k-1) oM;have:=b.2.1;have:=b.2.2;omega
def SE args w:(callFunc 65 args).run prog w=.ok (.enter 65 args) w:=by
 simp[callFunc,func65,f65,go_sem]
def SF ra la sa nr rc b lc sc o w(j:M.bI o){k a}(i:o.e=k)(h:o.f=a)(c:0<=o.f)(d:o.f<=1048576)(g:nr<=1048576) :
  Cs 65 #[.agg #[Sl ra nr rc,Sl la b lc],.agg #[Iv k,Sl sa o.sl sc,Iv a]] w λe w'=>e=Rt (Iv (M.tg nr o:Nat))/\Bw w w':=by
 subst i h;exact jR ra la sa nr rc b lc sc o w j c d g
end
section
open M (OpD uh Gr uw EX ins uJ jW wt)
variable {Q:Np} {ra la:Oa} {rc lc:Nat} {g:Gr} {b:Nat}
end
end Go.Proofs.YtoihadcablknpaaGreatDoor
