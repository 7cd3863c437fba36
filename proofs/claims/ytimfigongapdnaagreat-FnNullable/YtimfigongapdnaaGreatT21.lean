import Derived.Test.YtimfigongapdnaaGreatT20
import Derived.Test.YtimfigongapdnaaGreatT15
set_option linter.unusedVariables false
set_option linter.unusedSimpArgs false
set_option maxHeartbeats 40000000
set_option maxRecDepth 100000
namespace Go.Proofs.YtimfigongapdnaaGreat
open Go.RowKit
open M (OpD ug Gr ur EX ins uH yu wt)
def xQ(g:Gr)(p:Nat):Bool:=decide (0<(nd g p).bl)
def trG(g:Gr)(p:Nat):EX:=M.treeE g.nr (nd g p).bl (nd g p).body
def opG(g:Gr)(p:Nat):ur:=if p<g.nr then ins 9 p 0 else ins 10 ((p-g.nr:Nat):Int) 0
def PL(g:Gr)(k:Nat):Nat:=(M.progC (λ_=>0) (opG g) (trG g) (xQ g) k).length
def plc(g:Gr)(p:Nat):Int:=M.placeC (opG g) (trG g) (xQ g) p
theorem ud5 g p:plc g p=if 0<(nd g p).bl then (PL g p:Int) else -1:=by
 unfold plc M.placeC PL;by_cases h:0<(nd g p).bl
 ·have e:xQ g p=true:=by simp[xQ,h]
  rw[if_pos e,if_pos h]
 have e:¬xQ g p=true:=by simp[xQ,h]
 rw[if_neg e,if_neg h]
theorem ukr g k:PL g (k+1)=if 0<(nd g k).bl then PL g k+((trG g k).len+3) else PL g k:=by
 unfold PL;rw[M.progC];by_cases h:0<(nd g k).bl
 ·have e:xQ g k=true:=by simp[xQ,h]
  rw[if_pos e,if_pos h,List.length_append,M.nodeC_len]
 have e:¬xQ g k=true:=by simp[xQ,h]
 rw[if_neg e,if_neg h]
theorem jz{nr a n B}(h:M.BodyOK nr a n B):(M.treeE nr n B).len=yu B n:=by
 have:=M.top_len nr B n 0 _ h.2.1 (uax (M.nodeE nr) B n h.2) (Nat.zero_le _);simp only[yu,Nat.add_zero]at this;exact this
def utA(w:World)(T:Nat->OpD)(n:Nat)(b a:Value)(wr:World):Prop:=∃k:Nat,k<=n/\a=.int .i64 (k:Int)/\b=.int .i64 ((yu T k:Nat):Int)/\wr=w
theorem ud6 Q a n c T w(d:OpsA Q w a n T)(g:∀i,i<n->0<=(T i).kind/\(T i).kind<=7)(s:n<=2000) :
  Calls Tryz.prog 96 #[.slice a n c] w λe w'=>e=.returned (.int .i64 ((yu T n:Nat):Int))/\w=w':=by
 have j:=ua d;have l:=ua g;go_enter Tryz.func96,Tryz.ntmps96;go_wp2;go_loopw [3,4] (λp f wr=>utA w T n p f wr) (λ_ f _=>n-(intOf f).toNat)
 case atStart=>exact⟨0,Nat.zero_le _,rfl,rfl,rfl⟩
 case round =>
  obtain⟨k,g,rfl,rfl,rfl⟩:=hrel;have u:=M.wsum_bd T k;by_cases h:k<n
  ·rcases j.out with r|⟨b,off,rfl,t,d⟩
   ·omega
   obtain⟨q,_,_⟩:=d k h;obtain⟨v,x⟩:=l k h;have m:Hid (yu T (k+1)=yu T k+wt (T k).kind):=rfl;have hlt':(k:Int)<(n:Int):=(by omega);generalize yu T k=y at *;have o:(T k).kind=0\/(T k).kind=1\/(T k).kind=2\/(T k).kind=3\/(T k).kind=4\/(T k).kind=5\/(T k).kind=6\/(T k).kind=7:=(by omega);generalize (T k).kind=kd at *;rcases o with rfl|rfl|rfl|rfl|rfl|rfl|rfl|rfl;all_goals (
    go_wp2;go_roundw
    case rel=>exact⟨k+1,by omega,by go_num,by rw[m.out];first|rfl|(simp[wt]),rfl⟩
    case measure=>simp[intOf];omega)
  obtain rfl:k=n:=by omega
  go_wp2;go_ret;exact⟨rfl,rfl⟩
theorem ujg{nr b n:Nat}{B:Nat->OpD}(h:∀i,i<n->M.ElemOK nr b (B i)):∀i,i<n->0<=(B i).kind/\(B i).kind<=7:=λi a=>⟨(h i a).1,(h i a).2.1⟩
theorem xt{g}(h:M.Sound g){p}(b:p<g.nr+g.nb):ucd g p:=by
 unfold ucd;by_cases e:p<g.nr
 ·rw[vT g e];exact .inr (h.rb p e)
 obtain⟨i,rfl⟩:∃i,p=g.nr+i:=⟨p-g.nr,by omega⟩;rw[yR];cases a:(g.lab i).has with
 |true=>exact .inr (h.lb i (by omega) a)
 |false=>exact .inl (h.lz i (by omega) a)
theorem uks{g}(b:M.Sound g){p}(c:p<g.nr+g.nb):(nd g p).bl<=2000:=by
 have a:=b.ol;unfold M.ops at a;by_cases e:p<g.nr
 ·rw[vT g e];have:=M.le_sum (λi=>(g.rule i).bl) e;omega
 obtain⟨i,rfl⟩:∃i,p=g.nr+i:=⟨p-g.nr,by omega⟩;rw[yR];have:=M.le_sum (λi=>(g.lab i).bl) (i:=i) (n:=g.nb) (by omega);omega
theorem usg{g}k(f:k<=g.nr+g.nb):M.sum (λi=>(nd g i).bl) k<=M.ops g:=by
 unfold M.ops;by_cases e:k<=g.nr
 ·have b:∀j,j<=g.nr->M.sum (λi=>(nd g i).bl) j=M.sum (λi=>(g.rule i).bl) j:=by
   intro j;induction j with
   |zero=>intro _;rfl
   |succ j a=>intro d;rw[M.sum,M.sum,a (by omega),vT g (show j<g.nr by omega)]
  rw[b k e];have:=M.sum_le (λi=>(g.rule i).bl) e;omega
 have b:∀j,j<=g.nr->M.sum (λi=>(nd g i).bl) j=M.sum (λi=>(g.rule i).bl) j:=by
  intro j;induction j with
  |zero=>intro _;rfl
  |succ j a=>intro d;rw[M.sum,M.sum,a (by omega),vT g (show j<g.nr by omega)]
 have c:∀j,M.sum (λi=>(nd g i).bl) (g.nr+j)=M.sum (λi=>(g.rule i).bl) g.nr+M.sum (λi=>(g.lab i).bl) j:=by
  intro j;induction j with
  |zero=>rw[Nat.add_zero,b g.nr (Nat.le_refl _)];rfl
  |succ j a=>rw[<-Nat.add_assoc,M.sum,a,M.sum,yR];omega
 obtain⟨j,rfl⟩:∃j,k=g.nr+j:=⟨k-g.nr,by omega⟩;rw[c j];have:=M.sum_le (λi=>(g.lab i).bl) (show j<=g.nb by omega);omega
theorem us7{g}(a:M.Sound g)k(f:k<=g.nr+g.nb):PL g k<=2+3*k+2*M.sum (λi=>(nd g i).bl) k:=by
 induction k with
 |zero=>exact Nat.le_refl _
 |succ k c =>
  have h:=c (by omega);rw[ukr,M.sum];split
  ·rename_i j;have b:=(xt a (show k<g.nr+g.nb by omega)).elim (λq=>by omega) id;have d:=jz b;have e:=M.wsum_bd (nd g k).body (nd g k).bl;unfold trG;omega
  omega
theorem ubO{g}(a:M.Sound g)k(b:k<=g.nr+g.nb):PL g k<=5000:=by
 have c:=us7 a k b;have d:=usg k b;have e:=a.ol;have f:=a.r2;have h:=a.l2;omega
def plI(w:World)(g:Gr)(p:Nat)(a b:Value)(wr:World):Prop:=∃k:Nat,k<=p/\b=.int .i64 (k:Int)/\a=.int .i64 ((PL g k:Nat):Int)/\Below w.heap.size w wr
theorem ucC Q b la c lc g(r:M.Sound g)w(R:GramX Q w b la g)p(V:p<g.nr+g.nb) :
  Calls Tryz.prog 94 #[.agg #[.slice b g.nr c,.slice la g.nb lc],.int .i64 (p:Int)] w λe w'=>e=.returned (.int .i64 (plc g p))/\Below w.heap.size w w':=by
 have i:=ua R;have m:=ua r;have n:=r.r2;have o:=r.l2;have y:=ua (ud5 g p);go_enter Tryz.func94,Tryz.ntmps94;go_wp2_with fail;refine(kF Q b la c lc g _ (i.later (ui w _)) n o p V).mono ?_;rintro e W1 ⟨⟨X,Z,rfl,ae,aa⟩,s⟩;have A:=ue (a:=⟨w.heap.size,0,none⟩) (v:=.slice b g.nr c) (cN w.heap.size rfl rfl) s;have P:=ue (a:=⟨w.heap.size,1,none⟩) (v:=.slice la g.nb lc) (cN w.heap.size rfl rfl) s;have d:=ua (uf (ui w _) s);have ah:=ud A;by_cases B:(nd g p).bl=0
 ·have l:Hid (plc g p = -1):=by show _=_;rw[y.out,if_neg (by omega)]
  have O:(((nd g p).bl:Int)==0)=true:=by simp[B]
  go_wp2;go_ret;exact⟨uD l.symm,d⟩
 have l:Hid (plc g p=(PL g p:Int)):=by show _=_;rw[y.out,if_pos (by omega)]
 have O:(((nd g p).bl:Int)==0)=false:=by simp[B]
 have G:=ua A;have H:=ua P;go_wp2;go_loopw [5,6] (λN x wr=>plI W1 g p N x wr) (λ_ x _=>p-(intOf x).toNat)
 case atStart=>exact⟨0,Nat.zero_le _,rfl,rfl,Below.refl _ _⟩
 case round =>
  obtain⟨k,hk,rfl,rfl,u⟩:=hrel;have h:=ua u;have E:=ue G u;have y1:=ue H u;have ag:=ubO m k (by omega);have ai:=ud E;by_cases ad:k<p
  ·have z:=ukr g k;have hlt':(k:Int)<(p:Int):=(by omega);go_wp2_with fail;refine(kF Q b la c lc g _ (i.later (uf d h)) n o k (by omega)).mono ?_;rintro e W2 ⟨⟨Y,c2,rfl,af,ab⟩,t⟩;have f:=ua (uf h t);have z0:=ue E t;have z1:=ue y1 t;by_cases C:0<(nd g k).bl
   ·have hk0':(0:Int)<((nd g k).bl:Int):=(by omega);have D:=(xt m (show k<g.nr+g.nb by omega)).elim (λq=>by omega) id;have J:=ua D;have aj:=M.wsum_bd (nd g k).body (nd g k).bl;have T:=uks m (show k<g.nr+g.nb by omega);have j:Hid (PL g (k+1)=PL g k+(yu (nd g k).body (nd g k).bl+3)):=by
     show _=_;rw[z,if_pos C,show(trG g k).len=yu (nd g k).body (nd g k).bl from jz D]
    go_wp2_with fail;refine(kF Q b la c lc g _ (i.later (uf d f)) n o k (by omega)).mono ?_;rintro e W ⟨⟨L,c3,rfl,U,ac⟩,S⟩;have F:=ua (uf f S);have I:=ua U;go_wp2_with (go_at_call 96;refine(ud6 Q L (nd g k).bl c3 (nd g k).body _ I (ujg J.1) T).mono ?_;rintro e W4 ⟨rfl,hw⟩;subst W4);go_roundw
    case rel=>exact⟨k+1,by omega,by go_num,by rw[j.out];first|go_num|(congr 1;omega),F⟩
    case measure=>simp[intOf];omega
   have hk0':¬(0:Int)<((nd g k).bl:Int):=(by omega);have j:Hid (PL g (k+1)=PL g k):=(by show _=_;rw[z,if_neg C]);go_wp2;go_roundw
   case rel=>exact⟨k+1,by omega,by go_num,by rw[j.out],f⟩
   case measure=>simp[intOf];omega
  obtain rfl:k=p:=by omega
  go_wp2;go_ret;exact⟨uD l.symm,uf d h⟩
section
open Go.RowKit
open M (OpD ug Gr ur EX ins uH yu wt)
theorem ubV{nr a o}(h:M.ElemOK nr a o):∃j:Nat,o.arg=j:=⟨o.arg.toNat,by have:=h.2.2.2.2.1;omega⟩
inductive TR where
 |lf (o:OpD)
 |un (o:OpD) (x:TR)
 |bn (o:OpD) (x y:TR)
def TR.n:TR->Nat
 |.lf _=>1
 |.un _ x=>x.n+1
 |.bn _ x y=>x.n+y.n+1
theorem TR.n0:∀T:TR,0<T.n
 |.lf _=>by simp[TR.n]
 |.un _ x=>by simp[TR.n]
 |.bn _ x y=>by simp[TR.n]
def TR.Ok(E:OpD->Prop):TR->Prop
 |.lf o=>M.ar o.kind=0/\E o
 |.un o x=>M.ar o.kind=1/\E o/\x.Ok E
 |.bn o x y=>M.ar o.kind=2/\E o/\x.Ok E/\y.Ok E
def TR.fold{α:Type}[Inhabited α](f:OpD->α->α->α):TR->α
 |.lf o=>f o default default
 |.un o x=>f o (x.fold f) default
 |.bn o x y=>f o (x.fold f) (y.fold f)
def TB(B:Nat->OpD):TR->Nat->Prop
 |.lf o,i=>B i=o
 |.un o x,i=>TB B x i/\B (i+x.n)=o
 |.bn o x y,i=>TB B x i/\TB B y (i+x.n)/\B (i+x.n+y.n)=o
def TR.get:TR->Nat->OpD
 |.lf o,_=>o
 |.un o x,i=>if i<x.n then x.get i else o
 |.bn o x y,i=>if i<x.n then x.get i else if i<x.n+y.n then y.get (i-x.n) else o
theorem ucj:∀(T:TR) (B:Nat->OpD) (i:Nat),(∀j,j<T.n->B (i+j)=T.get j)->TB B T i
 |.lf o,B,i,h=>h 0 (by simp[TR.n])
 |.un o x,B,i,h=>⟨ucj x B i (λj a=>(h j (by simp[TR.n];omega)).trans (if_pos a)),(h x.n (by simp[TR.n])).trans (if_neg (by omega))⟩
 |.bn o x y,B,i,h=>⟨ucj x B i (λj a=>(h j (by simp[TR.n];omega)).trans (if_pos a)),ucj y B _ (λj a=>by
   rw[Nat.add_assoc,h (x.n+j) (by simp[TR.n];omega),TR.get,if_neg (by omega),if_pos (by omega),Nat.add_sub_cancel_left]),by
   rw[Nat.add_assoc,h (x.n+y.n) (by simp[TR.n]),TR.get,if_neg (by omega),if_neg (by omega)]⟩
variable {B:Nat->OpD} {E:OpD->Prop}
theorem ugs{α:Type}[Inhabited α](f:OpD->α->α->α):∀(T:TR) (i:Nat),T.Ok E->TB B T i->M.stk f B (i+T.n)=(i,T.fold f)::M.stk f B i
 |.lf o,i,hk,h=>by subst h;simp[TR.n,M.stk,M.stp,TR.fold,hk.1]
 |.un o x,i,hk,⟨h1,h2⟩=>by
  show M.stp f (B (i+x.n)) _ (M.stk f B (i+x.n))=_;rw[ugs f x i hk.2.2 h1,h2];simp[M.stp,TR.fold,hk.1]
 |.bn o x y,i,hk,⟨h1,h2,h3⟩=>by
  show M.stk f B (i+(x.n+y.n)+1)=_;rw[M.stk,<-Nat.add_assoc,h3,ugs f y _ hk.2.2.2 h2,ugs f x i hk.2.2.1 h1];simp[M.stp,TR.fold,hk.1]
theorem uck:∀(T:TR) (i:Nat),T.Ok E->TB B T i->M.dep B (i+T.n)=M.dep B i+1/\∀j,i<j->j<=i+T.n->M.dep B i+1<=M.dep B j
 |.lf o,i,hk,h=>by
  have e:M.dep B (i+1)=M.dep B i+1:=by rw[M.dep,h,hk.1];omega
  refine⟨e,λj g f=>?_⟩;obtain rfl:j=i+1:=by simp[TR.n]at f;omega
  omega
 |.un o x,i,hk,⟨g,f⟩=>by
  obtain⟨a,b⟩:=uck x i hk.2.2 g;have e:M.dep B (i+x.n+1)=M.dep B i+1:=by rw[M.dep,f,hk.1,a];omega
  refine⟨e,λj g f=>?_⟩;by_cases q:j<=i+x.n
  ·exact b j g q
  obtain rfl:j=i+x.n+1:=by simp[TR.n]at f;omega
  omega
 |.bn o x y,i,hk,⟨g,f,h3⟩=>by
  obtain⟨a,b⟩:=uck x i hk.2.2.1 g;obtain⟨c,d⟩:=uck y _ hk.2.2.2 f;have e:M.dep B (i+x.n+y.n+1)=M.dep B i+1:=by rw[M.dep,h3,hk.1,c,a];omega
  refine⟨by rw[<-e];simp only[TR.n,Nat.add_assoc],λj g f=>?_⟩;by_cases q:j<=i+x.n
  ·exact b j g q
  by_cases k:j<=i+x.n+y.n
  ·have:=d j (by omega) k;omega
  obtain rfl:j=i+x.n+y.n+1:=by simp[TR.n]at f;omega
  omega
theorem ugt(nr:Nat):∀(T:TR) (i:Nat),T.Ok E->TB B T i->yu B (i+T.n)=yu B i+(T.fold (M.nodeE nr)).len
 |.lf o,i,hk,h=>by
  have:=(M.node_len nr o default default).2.2 hk.1;rw[TR.n,yu,h,TR.fold,this]
 |.un o x,i,hk,⟨h1,h2⟩=>by
  have:=(M.node_len nr o (x.fold (M.nodeE nr)) default).2.1 hk.1;show yu B (i+x.n+1)=_;rw[yu,h2,ugt nr x i hk.2.2 h1,TR.fold,this];omega
 |.bn o x y,i,hk,⟨h1,h2,h3⟩=>by
  have:=(M.node_len nr o (x.fold (M.nodeE nr)) (y.fold (M.nodeE nr))).1 hk.1;show yu B (i+(x.n+y.n)+1)=_;rw[yu,<-Nat.add_assoc,h3,ugt nr y _ hk.2.2.2 h2,ugt nr x i hk.2.2.1 h1,TR.fold,this];omega
theorem utc(d:Nat):∀lo,M.Fed B d->(∀i,i<d->E (B i))->M.stk (λ_ _ _=>()) B d=(lo,())::M.stk (λ_ _ _=>()) B lo->∃T:TR,lo+T.n=d/\T.Ok E/\TB B T lo:=by
 induction d using Nat.strongRecOn with
 |_ d l =>
  intro lo g f e;obtain⟨w,_,_⟩:=M.stk_cons _ B d g lo () _ e;obtain⟨q,rfl⟩:∃q,d=q+1:=⟨d-1,by omega⟩;have k:M.Fed B q:=g.less (by omega);have j:∀i,i<q->E (B i):=λi h=>f i (by omega)
  rcases M.ar_cases (B q).kind with h|h|h
  ·rw[M.stk]at e;simp[M.stp,h]at e;exact⟨.lf (B q),by simp[TR.n];omega,⟨h,f q (by omega)⟩,by show B lo=_;rw[e.1]⟩
  ·obtain⟨z,t,o,_⟩:=ucg _ B q lo () g h e;obtain⟨x,a,b,c⟩:=l q (by omega) lo k j o;exact⟨.un (B q) x,by simp[TR.n];omega,⟨h,f q (by omega),b⟩,c,by rw[a]⟩
  obtain⟨s,y,z,t,o,u,v,_,_,_⟩:=ua9 _ B q lo () g h e;obtain⟨y,a,b,c⟩:=l q (by omega) s k j u;obtain⟨x,m,p,r⟩:=l s (by omega) lo (k.less (by omega)) (λi h=>j i (by omega)) v;exact⟨.bn (B q) x y,by simp[TR.n];omega,⟨h,f q (by omega),p,b⟩,r,by rw[m];exact c,by rw[m,a]⟩
theorem ubW{nr d n:Nat}(h:M.BodyOK nr d n B):∃T:TR,T.n=n/\T.Ok (M.ElemOK nr d)/\TB B T 0/\∀{α:Type} [Inhabited α] (f:OpD->α->α->α),M.top (M.stk f B n)=T.fold f:=by
 obtain⟨T,a,b,c⟩:=utc n 0 h.2.1 h.1 (uax (λ_ _ _=>()) B n h.2);rw[Nat.zero_add]at a;exact⟨T,a,b,c,λf=>by have:=ugs f T 0 b c;rw[Nat.zero_add]at this;rw[<-a,this];rfl⟩
def TA(Q:Nat->Prop)(w:World)(b:Nat):TR->Nat->Prop
 |.lf o,off=>OpC Q w b off o
 |.un o x,off=>TA Q w b x off/\OpC Q w b (off+x.n*3) o
 |.bn o x y,off=>TA Q w b x off/\TA Q w b y (off+x.n*3)/\OpC Q w b (off+(x.n+y.n)*3) o
variable {Q:Nat->Prop} {w W:World} {b:Nat}
theorem TA.later:∀{T:TR} {off:Nat},TA Q w b T off->Below w.heap.size w W->TA Q W b T off
 |.lf o,off,h,k=>OpC.later h k
 |.un o x,off,h,k=>⟨h.1.later k,h.2.later k⟩
 |.bn o x y,off,h,k=>⟨h.1.later k,h.2.1.later k,h.2.2.later k⟩
theorem ueh:∀{T:TR} {off i:Nat},TB B T i->(∀j,j<T.n->OpC Q w b (off+(i+j)*3) (B (i+j)))->TA Q w b T (off+i*3)
 |.lf o,off,i,h,k=>by have:=k 0 (by simp[TR.n]);rw[Nat.add_zero,h]at this;exact this
 |.un o x,off,i,h,k=>⟨ueh h.1 (λj a=>k j (by simp[TR.n];omega)),by
   have:=k x.n (by simp[TR.n]);rw[h.2]at this;rw[show off+i*3+x.n*3=off+(i+x.n)*3 by omega];exact this⟩
 |.bn o x y,off,i,h,k=>⟨ueh h.1 (λj a=>k j (by simp[TR.n];omega)),by
   have:=ueh (off:=off) h.2.1 (λj a=>by have:=k (x.n+j) (by simp[TR.n];omega);rw[<-Nat.add_assoc]at this;exact this);rw[show off+i*3+x.n*3=off+(i+x.n)*3 by omega];exact this,by
   have:=k (x.n+y.n) (by simp[TR.n]);rw[<-Nat.add_assoc,h.2.2]at this;rw[show off+i*3+(x.n+y.n)*3=off+(i+x.n+y.n)*3 by omega];exact this⟩
theorem qd:∀{T:TR} {off:Nat},TA Q w b T off->∀j,j<T.n->OpC Q w b (off+j*3) (T.get j)
 |.lf o,off,h,j,hj=>by
   obtain rfl:j=0:=(by simp[TR.n]at hj;exact hj);exact h
 |.un o x,off,h,j,hj=>by
  rw[TR.get];split
  ·exact qd h.1 j (by assumption)
  obtain rfl:j=x.n:=by simp[TR.n]at hj;omega
  exact h.2
 |.bn o x y,off,h,j,hj=>by
  rw[TR.get];split
  ·exact qd h.1 j (by assumption)
  split
  ·have:=qd h.2.1 (j-x.n) (by omega);rw[show off+x.n*3+(j-x.n)*3=off+j*3 by omega]at this;exact this
  obtain rfl:j=x.n+y.n:=by simp[TR.n]at hj;omega
  exact h.2.2
theorem TR.ok_get{E}:∀{T:TR},T.Ok E->∀j,E (T.get j)
 |.lf o,h,j=>h.2
 |.un o x,h,j=>by rw[TR.get];split;exact TR.ok_get h.2.2 j;exact h.2.1
 |.bn o x y,h,j=>by
  rw[TR.get];split;exact TR.ok_get h.2.2.1 j;split;exact TR.ok_get h.2.2.2 _;exact h.2.1
theorem uaA{o:OpD}{x y:TR}{off c m:Nat}(h:TA Q w b (.bn o x y) off)(i:(TR.bn o x y).Ok E)(l:x.n+y.n=m)(r:m<2000) :
  Calls Tryz.prog 85 #[.slice (some ⟨b,off,none⟩) (m+1) c,.int .i64 (m:Int)] w λk w'=>k=.returned (.int .i64 (x.n:Int))/\w=w':=by
 subst l;obtain⟨f,g,p⟩:=ucj (.bn o x y) (TR.bn o x y).get 0 (λj q=>by rw[Nat.zero_add]);obtain⟨a,_⟩:=uck x 0 i.2.2.1 f;obtain⟨d,e⟩:=uck y _ i.2.2.2 g;rw[Nat.zero_add]at a d e;have s:=y.n0;exact kY b off (x.n+y.n+1) c (TR.bn o x y).get w Q (qd h) (by omega) (x.n+y.n) x.n (by omega) (by omega) d.symm (λj f g=>by have:=e j f g;omega)
theorem qZ{T:TR}{off c nr d l k:Nat}(h:TA Q w b T off)(a:T.Ok (M.ElemOK nr d))(m:Q b)(g:T.n<=2000)(f:l=T.n)(o:(T.fold (M.nodeE nr)).len=k) :
  Calls Tryz.prog 96 #[.slice (some ⟨b,off,none⟩) l c] w λe w'=>e=.returned (.int .i64 (k:Int))/\w=w':=by
 subst f o;have e:=ugt (E:=M.ElemOK nr d) nr T 0 a (ucj T T.get 0 (λj _=>by rw[Nat.zero_add]));rw[Nat.zero_add,yu,Nat.zero_add]at e;rw[<-e];exact ud6 Q _ T.n c T.get w (.inr ⟨b,off,rfl,m,qd h⟩) (λi _=>⟨(TR.ok_get a i).1,(TR.ok_get a i).2.1⟩) g
end
open M (TX b1)
def ql(g:Gr)(i:Nat):ByteArray:=str (g.rule i).nl (g.rule i).name
def qm(g:Gr)(i:Nat):ByteArray:=str (g.lab i).nl (g.lab i).name
theorem kA{g}(a:M.Sound g){i}(b:i<g.nr):0<(ql g i).size/\(ql g i).size<=32:=by
 unfold ql;rw[uef];exact⟨(a.rn i b).2.2.1,(a.rn i b).1⟩
theorem kB{g}(a:M.Sound g){i}(b:i<g.nb):0<(qm g i).size/\(qm g i).size<=32:=by
 unfold qm;rw[uef];exact⟨(a.ln i b).2.2.1,(a.ln i b).1⟩
theorem jV{g}(b:M.Sound g){k}(c:k<g.nr):(g.rule k).bl<=2000:=by
 have a:=b.ol;unfold M.ops at a;have:=M.le_sum (λi=>(g.rule i).bl) c;omega
theorem qT{g}(b:M.Sound g){k}(c:k<g.nb):(g.lab k).bl<=2000:=by
 have a:=b.ol;unfold M.ops at a;have:=M.le_sum (λi=>(g.lab i).bl) c;omega
section
open Go.RowKit
open M (OpD ug Gr TX b1 grp)
theorem ugn{s:ByteArray}{ι:Type}{F:ι->World}{w}{f:FuncId}{args:Array Value}{n:ι}(a:Below w.heap.size w (F n))(b:∀W,Below w.heap.size w W->∃n,W=F n)(h:Calls Tryz.prog f args (F n) (vZ s (F n))):Calls Tryz.prog f args (F n) λe c=>e=.returned (.string s)/\∃m,c=F m :=
 h.mono λe W q=>⟨q.1,b W (uf a q.2)⟩
theorem uay{a b}(h:a=b):Ending.returned (.string a)=.returned (.string b):=by rw[h]
def uji(g:Gr)(T:TR)(s:ByteArray):Prop :=
 ∀(Q:Nat->Prop) (a la:Option Addr) (d lc b off c l:Nat) (w:World),l=T.n->T.n<=c->TA Q w b T off->GramA Q w a la g->Calls Tryz.prog 46 #[.agg #[.slice a g.nr d,.slice la g.nb lc],.slice (some ⟨b,off,none⟩) l c] w (vZ s w)
variable {g:Gr} {o:OpD} {x y:TR} {s u:ByteArray}
theorem uoB(t:M.Sound g)(Y:(TR.lf o).Ok (M.ElemOK g.nr g.nb)):∃s,s.size<=1210/\uji g (.lf o) s:=by
 obtain⟨p,h⟩:=Y;obtain⟨j,u⟩:=ubV h;have a:o.kind=0\/o.kind=1\/o.kind=2\/o.kind=3:=by have:=h.1;have:=h.2.1;unfold M.ar at p;split at p<;>(try split at p)<;>omega
 have z:=h.2.2.2.2.2;unfold M.most at z;rcases a with a|a|a|a
 ·refine⟨⟨#[34,34]⟩,by decide,λQ D la E lc b off c l w f q m i=>?_⟩;simp only[TR.n]at f q;obtain⟨d,⟨v,x,G,k⟩,y⟩:=m;have J:=ud d;have I:¬c=0:=by omega
  rw[a]at d;subst f;clear i k a z h p t;go_enter Tryz.func46,Tryz.ntmps46;go_wp2;go_ret;exact⟨rfl,uP w _ _⟩
 ·have P:=ua (h.2.2.1 a);refine⟨M.setT o.sl o.set,Nat.le_trans (M.setT_size P.out) (by omega),λQ D la E lc b off c l w f q m i=>?_⟩;simp only[TR.n]at f q;obtain⟨d,⟨v,x,G,k⟩,y⟩:=m;have T:=ua k;have J:=ud d;have I:¬c=0:=by omega
  rw[a]at d;subst f;clear i k a z h p t;go_enter Tryz.func46,Tryz.ntmps46;go_wp2_with (go_at_call 83;refine(je Q v o.sl x o.set _ (T.out.later (uP w _ _)) P.out).mono ?_;rintro e W ⟨rfl,R⟩;have U:=ua (uf (uP w _ _) R);clear R);go_ret;exact⟨rfl,U.out⟩
 ·rw[if_neg (by omega),if_pos a,u]at z;have B:j<g.nr:=by omega
  refine⟨ql g j,Nat.le_trans (kA t B).2 (by omega),λQ D la E lc b off c l w f q m i=>?_⟩;simp only[TR.n]at f q;obtain⟨d,⟨v,x,G,k⟩,y⟩:=m;have J:=ud d;have I:¬c=0:=by omega
  rw[a]at d;rw[u]at y;subst f;have F:=(i.later (uP w (.cells #[.slice D g.nr E,.slice la g.nb lc] 28) (.cells #[.int .i64 2,.slice v o.sl x,.int .i64 (j:Int)] 118))).rules;rcases F with V|⟨rb,ro,rfl,Z,A⟩
  ·omega
  obtain⟨⟨N,O,H,C⟩,_⟩:=A j B;have L:=vo Q N (g.rule j).nl O (g.rule j).name _ C;have r:Hid (ql g j=str (g.rule j).nl (g.rule j).name):=rfl;generalize str (g.rule j).nl (g.rule j).name=s at L r;have X:=ud H;clear A C a u i k h p t;go_enter Tryz.func46,Tryz.ntmps46;go_wp2;go_ret;exact⟨uay r.out.symm,uP w _ _⟩
 rw[if_pos a,u]at z;have B:j<g.nb:=by omega
 have S:=(kB t B).2;refine⟨b1 94++qm g j,by simp only[ByteArray.size_append,M.b1_size];omega,λQ D la E lc b off c l w f q m i=>?_⟩;simp only[TR.n]at f q;obtain⟨d,⟨v,x,G,k⟩,y⟩:=m;have J:=ud d;have I:¬c=0:=by omega
 rw[a]at d;rw[u]at y;subst f;have F:=(i.later (uP w (.cells #[.slice D g.nr E,.slice la g.nb lc] 28) (.cells #[.int .i64 3,.slice v o.sl x,.int .i64 (j:Int)] 118))).labs;rcases F with V|⟨rb,ro,rfl,Z,A⟩
 ·omega
 obtain⟨⟨N,O,H,C⟩,_⟩:=A j B;have L:=vo Q N (g.lab j).nl O (g.lab j).name _ C;have r:Hid (qm g j=str (g.lab j).nl (g.lab j).name):=rfl;rw[r.out]at S;generalize str (g.lab j).nl (g.lab j).name=s at L r S;have X:=ud H;have z1:¬9223372036854775807<1+s.size:=by omega
 clear A C a u i k h p t;go_enter Tryz.func46,Tryz.ntmps46;go_wp2;go_ret;exact⟨uay (by rw[r.out];rfl),uP w _ _⟩
theorem usi(T:(TR.un o x).Ok (M.ElemOK g.nr g.nb))(hn:x.n+1<=2000)(hs:s.size<=1210*x.n)(Y:uji g x s):∃s,s.size<=1210*(x.n+1)/\uji g (.un o x) s:=by
 have ab:o.kind=6\/o.kind=7:=by have:=T.1;unfold M.ar at this;split at this<;>(try split at this)<;>omega
 have nx:=x.n0;obtain⟨t,U⟩:=nm (x.get (x.n-1)).kind;have O:Hid (s.size<=16000000):=by show _<=_;omega
 obtain⟨I,af⟩:=nm (t==4);obtain⟨zt,H⟩:=nm (grp (if o.kind=6 then decide (4<=t) else I||(t==5)) s);have aa:=M.grp_size (if o.kind=6 then decide (4<=t) else I||(t==5)) s;rw[H]at aa;obtain⟨s1,E⟩:=nm (if o.kind=6 then zt++b1 42 else b1 33++zt);have w1:¬9223372036854775807<zt.size+1:=by omega
 have w2:¬9223372036854775807<1+zt.size:=by omega
 refine⟨s1,by rw[<-E];split<;>simp only[ByteArray.size_append,M.b1_size]<;>omega,λQ J la L lc b off c l w D R hT P=>?_⟩;simp only[TR.n]at D R;obtain⟨G,h,⟨sa,sc,z,ac⟩,A⟩:=hT;obtain⟨p,_,_⟩:=qd G (x.n-1) (by omega);rw[U]at p;have y:=ua λ(W:World) (k:Below w.heap.size w W)=>Y Q J la L lc b off c _ W rfl (by omega) (G.later k) (P.later k)
 obtain⟨m,V⟩:=nm x.n;rw[V]at h z A D R hn y p nx;obtain⟨j,S⟩:=nm (m-1);rw[S]at p;subst D;have x2:((m+1:Nat):Int)-1=(m:Int):=by omega
 have x3:(m:Int)<((m+1:Nat):Int):=by omega
 have x5:((m+1:Nat):Int)-2=(j:Int):=by omega
 have xa:(m:Int)+1-2=(j:Int):=by omega
 have xb:(m:Int)-1=(j:Int):=by omega
 have x6:(j:Int)<((m+1:Nat):Int):=by omega
 have z6:=uz m (by omega);have f1:m<c:=by omega
 have f2:m<=c:=by omega
 have f3:¬c=0:=by omega
 have ad:=ud h;have f:=ua E;have a:=ua H;clear G ac T P U S V hs Y H E;rcases ab with q|q
 ·rw[q]at h f a;rw[if_pos rfl]at f a;go_enter Tryz.func46,Tryz.ntmps46;go_wp2_with fail;generalize d:(w.alloc _).alloc _=X;have i:Hid (Below w.heap.size w X.drew):=d▸(uP w _ _).drew;obtain⟨y0,y1,y2⟩:=(d▸(ux w _ _).al _:Box X w.heap.size #[.slice J g.nr L,.slice la g.nb lc]).x;clear d h z A p;go_region_with (first|(go_at_call 46;refine(y.out _ i.out).mono ?_;rintro e W2 ⟨rfl,r⟩;have B2:=ua (uf i.out r);clear r)|(go_at_call 84;refine(vq s _ _ O.out).mono ?_;rintro e W3 ⟨rfl,r⟩;rw[a.out];have B3:=ua (uf B2.out r);clear r));go_wp2;go_ret;exact⟨uay f.out,B3.out⟩
 rw[q]at h f a;rw[if_neg (by decide)]at f a;cases I<;>simp only[Bool.false_or,Bool.true_or]at a
 all_goals
  go_enter Tryz.func46,Tryz.ntmps46;go_wp2_with fail;generalize d:(w.alloc _).alloc _=X;have i:Hid (Below w.heap.size w X):=d▸uP w _ _;have Z:Box X w.heap.size #[.slice J g.nr L,.slice la g.nb lc]:=d▸(ux w _ _).al _;obtain⟨ι,ae,F,B,C⟩:=uce X;have v:=λn=>(Z.on (B n)).x.1
  have HC:=ua (C _ (Below.refl _ X).drew);have u:=ua B;have N:=ua C;clear B C d h z A p Z;refine vv F (by kernel_rfl) (by kernel_rfl) HC.out ?_;repeat (go_big_quiet_step (first|(go_at_call 46;exact ugn (u.out _) N.out (y.out _ (uf i.out (u.out _))))|(go_at_call 84;exact ugn (u.out _) N.out (a.out▸vq s _ _ O.out))))
  refine wpQuiet_nil ?_;rintro _ ⟨nq,rfl⟩;go_wp2;go_ret;exact⟨uay f.out,uf i.out (u.out nq)⟩
theorem usj(E:(TR.bn o x y).Ok (M.ElemOK g.nr g.nb))(hn:x.n+y.n+1<=2000)(hs:s.size<=1210*x.n)(hu:u.size<=1210*y.n)(ix:uji g x s)(iy:uji g y u):∃s,s.size<=1210*(x.n+y.n+1)/\uji g (.bn o x y) s:=by
 have af:o.kind=4\/o.kind=5:=by have:=E.1;unfold M.ar at this;split at this<;>(try split at this)<;>omega
 have nx:=x.n0;have ny:=y.n0;obtain⟨kx,ac⟩:=nm (x.get (x.n-1)).kind;obtain⟨ky,ad⟩:=nm (y.get (y.n-1)).kind;have ae:Hid (s.size<=16000000):=by show _<=_;omega
 have aa:Hid (u.size<=16000000):=by show _<=_;omega
 obtain⟨R,ak⟩:=nm (ky==5);obtain⟨st,L⟩:=nm (if o.kind=4 then grp (kx==5) s else s);obtain⟨U,N⟩:=nm (grp (if o.kind=4 then R||(ky==4) else R) u);obtain⟨md,H⟩:=nm (if o.kind=4 then b1 32 else ⟨#[32,47,32]⟩);have z1:st.size<=s.size+2:=by rw[<-L];split;exact M.grp_size _ s;omega
 have z2:U.size<=u.size+2:=N▸M.grp_size _ u;have z3:md.size<=3:=by rw[<-H];split<;>decide
 obtain⟨s1,J⟩:=nm (st++md++U);have w1:¬9223372036854775807<st.size+md.size:=by omega
 have w2:¬9223372036854775807<st.size+md.size+U.size:=by omega
 refine⟨s1,by rw[<-J,ByteArray.size_append,ByteArray.size_append];omega,λQ S la T lc b off c l w F hc hT D=>?_⟩;simp only[TR.n]at F hc;have HT:=ua hT;have HK:=ua E;obtain⟨O,P,t,⟨sa,sc,c1,ag⟩,c2⟩:=hT;obtain⟨B,_,_⟩:=qd P (y.n-1) (by omega);obtain⟨C,_,_⟩:=qd O (x.n-1) (by omega);rw[ad]at B;rw[ac]at C;have JX:=ua λ(W:World) (k:Below w.heap.size w W)=>ix Q S la T lc b off c _ W rfl (by omega) (O.later k) (D.later k)
 have A:=ua λ(W:World) (k:Below w.heap.size w W)=>iy Q S la T lc b (off+x.n*3) (c-x.n) (x.n+y.n-x.n) W (by omega) (by omega) (P.later k) (D.later k)
 obtain⟨p,I⟩:=nm x.n;obtain⟨m,G⟩:=nm (x.n+y.n);have HI:=ua I;have HM:=ua G;obtain⟨j,hj⟩:=nm (m-1);obtain⟨i,hi⟩:=nm (p-1);rw[show off+x.n*3+(y.n-1)*3=off+j*3 by omega]at B;rw[show off+(x.n-1)*3=off+i*3 by omega]at C;have am:p<m:=by omega
 rw[G]at t c1 c2 F hc hn A;rw[I]at JX A nx;subst F;have x2:((m+1:Nat):Int)-1=(m:Int):=by omega
 have x3:(m:Int)<((m+1:Nat):Int):=by omega
 have x5:((m+1:Nat):Int)-2=(j:Int):=by omega
 have xa:(m:Int)+1-2=(j:Int):=by omega
 have xb:(m:Int)-1=(j:Int):=by omega
 have x6:(j:Int)<((m+1:Nat):Int):=by omega
 have x8:(p:Int)-1=(i:Int):=by omega
 have x9:(i:Int)<((m+1:Nat):Int):=by omega
 have x7:(p:Int)<=(m:Int):=by omega
 have x4:(p:Int)<(m:Int):=by omega
 have z6:=uz m (by omega);have z7:=uz p (by omega);have f1:m<c:=by omega
 have f2:m<=c:=by omega
 have f3:¬c=0:=by omega
 have f4:¬c=p:=by omega
 have f5:p<=m:=by omega
 have f6:p<=c:=by omega
 have aj:=ud t;have HS:=ua J;have r:=ua L;have d:=ua N;have h:=ua H;clear O P ag E D ac ad hi hj I G hs hu ix iy L N H J z1 z2 z3;rcases af with q|q;all_goals
  have HQ:=ua q;rw[q]at t;clear q;go_enter Tryz.func46,Tryz.ntmps46;go_wp2_with fail;refine(uaA (HT.out.later (uP w _ _)) HK.out HM.out (by omega)).mono ?_;rintro e W ⟨rfl,hw⟩;subst W;rw[HI.out];go_wp2_with fail;generalize v:(w.alloc _).alloc _=X;have Z:Hid (Below w.heap.size w X.drew):=v▸(uP w _ _).drew;have xg:=ua (v▸(ux w _ _).al _:Box X w.heap.size #[.slice S g.nr T,.slice la g.nb lc]);have xo:=ua (v▸yG _ _ _ (w.heap.size+1) (by simp):Box X (w.heap.size+1) _);obtain⟨y0,y1,y2⟩:=xg.out.x;clear v t c1 c2 B C;go_region_with (go_at_call 46;refine(JX.out _ Z.out).mono ?_;rintro e W2 ⟨rfl,a⟩;have V:=ua (uf Z.out a).drew;have a:=(Below.refl _ X).drew.trans a;have ah:=ua (xg.out.on a);have ai:=ua (xo.out.on a);obtain⟨u0,u1,u2⟩:=ah.out.x;clear a);go_wp2_with fail;go_region_with (go_at_call 46;refine(A.out _ V.out).mono ?_;rintro e W3 ⟨rfl,a⟩;have Y:=ua (uf V.out a);obtain⟨v0,v1,v2⟩:=(ai.out.on ((Below.refl _ W2).drew.trans a)).x;clear a)
 ·rw[if_pos HQ.out]at r d h;obtain rfl:=h.out;cases R<;>simp only[Bool.false_or,Bool.true_or]at d
  all_goals
   go_wp2_with fail;refine(vq s _ _ ae.out).mono ?_;rintro e W4 ⟨rfl,ab⟩;have B4:=ua (uf Y.out ab);clear ab;rw[r.out];go_wp2_with fail;refine(vq u _ _ aa.out).mono ?_;rintro e W5 ⟨rfl,f⟩;have z:=ua (uf B4.out f);clear f;rw[d.out];go_wp2;go_ret;exact⟨uay HS.out,z.out⟩
 rw[if_neg (by rw[HQ.out];decide)]at r d h;obtain rfl:=h.out;obtain rfl:=r.out;go_wp2_with fail;refine(vq u _ _ aa.out).mono ?_;rintro e W5 ⟨rfl,f⟩;have z:=ua (uf Y.out f);clear f;rw[d.out];go_wp2;go_ret;exact⟨uay HS.out,z.out⟩
theorem us9(h:M.Sound g)(T:TR):T.Ok (M.ElemOK g.nr g.nb)->T.n<=2000->∃s,s.size<=1210*T.n/\uji g T s:=by
 induction T with
 |lf o=>exact λa _=>uoB h a
 |un o x i=>intro a b;simp only[TR.n]at b;obtain⟨s,c,d⟩:=i a.2.2 (by omega);exact usi a b c d
 |bn o x y j k=>intro a b;simp only[TR.n]at b;obtain⟨s,c,d⟩:=j a.2.2.1 (by omega);obtain⟨u,e,f⟩:=k a.2.2.2 (by omega);exact usj a b c e d f
def usk(g:Gr)(n:Nat)(B:Nat->OpD)(s:ByteArray):Prop :=
 s.size<=1210*n/\∀(Q:Nat->Prop) (b la a:Option Addr) (d lc c:Nat) (w:World),n<=c->OpsA Q w a n B->GramA Q w b la g->Calls Tryz.prog 46 #[.agg #[.slice b g.nr d,.slice la g.nb lc],.slice a n c] w (vZ s w)
theorem uoC(m:M.Sound g){n:Nat}{B:Nat->OpD}(p:M.BodyOK g.nr g.nb n B)(y:n<=2000):∃s,usk g n B s:=by
 obtain⟨T,e,r,k,_⟩:=ubW p;obtain⟨s,f,h⟩:=us9 m T r (by omega);have z:=T.n0;refine⟨s,e▸f,λQ t la a u lc c w v d l=>?_⟩;rcases d with q|⟨b,o,rfl,A,d⟩
 ·omega
 have:=ueh (off:=o) (i:=0) k (λj x=>by rw[Nat.zero_add];exact d j (by omega));rw[Nat.zero_mul,Nat.add_zero]at this;exact h Q t la u lc b o c n w e.symm (by omega) this l
end
def bT(s:ByteArray)(j:Nat):Int:=((s.data.toList.getD j 0).toNat:Int)
theorem ubb w s:∃a c W,(convert 9 22 (.string s)).run Tryz.prog w=.ok (.slice a s.size c) W/\Ints (λb=>b=w.heap.size) .u8 W a s.size (bT s)/\Below w.heap.size w W:=by
 have f:=Lib.run_convert_string_bytes (P:=Tryz.prog) w 9 22 5 s Tryz.underlying9 Tryz.underlying22 Tryz.underlying5;refine⟨_,_,_,f,.inr ⟨w.heap.size,0,rfl,rfl,λi d=>?_⟩,?_⟩
 ·rw[Nat.zero_add];exact Lib.bytesWorld_cell w 5 s i d
 refine⟨?_,?_,?_,by rw[Lib.bytesWorld_size];omega,λk e=>Lib.bytesWorld_at_old w 5 s k e⟩;all_goals rfl
end Go.Proofs.YtimfigongapdnaaGreat
