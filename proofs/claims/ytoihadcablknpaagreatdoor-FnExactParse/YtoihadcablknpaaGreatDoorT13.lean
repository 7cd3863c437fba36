import Derived.Test.YtoihadcablknpaaGreatDoorT12
import Derived.Test.YtoihadcablknpaaGreatDoorT08
set_option linter.unusedVariables false
set_option linter.unusedSimpArgs false
set_option linter.defProp false
set_option maxHeartbeats 40000000
set_option maxRecDepth 100000
namespace Go.Proofs.YtoihadcablknpaaGreatDoor
open Go.RowKit
open Go.Proofs.Tryz
open M (OpD uh Gr)
def BE(w:Wl)(nr b:Nat)(mk:NS)(p1 p2:Vl):Prop :=
 ∀(o:OpD) (l:List (Nat×Ee)) (W:Wl) (sa a:Oa) (sc c:Nat),M.bE nr b o->Bw w W->(∀p,p∈l->p.2.f.OK)->M.ar o.e<=(l.length:Int)->Ve W a o l ->
  Cs 137 #[.agg #[Iv o.e,Sl sa o.sl sc,Iv o.f],Sl a (M.ar o.e).toNat c,p1,p2] W (qw (ye nr mk o l) W)
def Vg nr mk o x y:(uC nr mk o x y).e=M.fN nr mk.h o x.e y.e:=by
 unfold uC M.fN;by_cases b:o.e=0
 ·have a:¬M.bI o:=by rintro (q|q)<;>omega
  simp[b,a]
 by_cases a:M.bI o
 ·have c:¬o.e=1:=by rcases a with q|q<;>omega
  simp[b,a,c]
 by_cases c:o.e=1
 ·simp[b,a,c]
 by_cases d:o.e=4
 ·simp[b,a,c,d]
 by_cases f:o.e=5
 ·simp[b,a,c,d,f]
 by_cases g:o.e=6
 ·simp[b,a,c,d,f,g]
 by_cases i:o.e=7
 ·simp[b,a,c,d,f,g,i]
 simp[b,a,c,d,f,g,i]
def BF nr mk B n:(M.top (M.stk (uC nr mk) B n)).e=M.cH nr mk.h n B:=by
 unfold M.cH;rw[M.eY (uC nr mk) (M.fN nr mk.h) Ee.e rfl (Vg nr mk)];generalize M.stk (uC nr mk) B n=l;match l with
 |[]=>rfl
 |(s,x)::r=>rfl
def NQ Q ra la a nr rc f lc n c B mk w(l:wT Q w a n B)(o:n=0\/M.bF nr f n B)(y:n<=1048576)(m:∀W gb p,Cd W gb p ra la nr rc f lc mk->BE W nr f mk (Pt gb 0) (Pt p 0)) :
  Cs 105 #[.agg #[Sl ra nr rc,Sl la f lc],Sl a n c,.agg #[Uv mk.a,Uv mk.b,Uv mk.c,Uv mk.d]] w (qw (M.top (M.stk (uC nr mk) B n)) w):=by
 have t:=ua l;have u:=ua o;have x:=ua m;clear l o m;have i:Hid (Cd (((w.alloc (Oc #[Sl ra nr rc,Sl la f lc] 37)).alloc (zA mk)).alloc (qd oz)) w.heap.size (w.heap.size+1) ra la nr rc f lc mk):=by
  refine⟨ue (ue (cN w.heap.size rfl rfl) (wG _)) (wG _),ue (ue (cN w.heap.size rfl rfl) (wG _)) (wG _),?_⟩;have:=At.e (w.alloc (Oc #[Sl ra nr rc,Sl la f lc] 37)) mk;rw[zV]at this;exact this.q (wG _)
 have j:Hid (Eb (((w.alloc (Oc #[Sl ra nr rc,Sl la f lc] 37)).alloc (zA mk)).alloc (qd oz)) (w.heap.size+1+1) oz):=by
  have:=Eb.e ((w.alloc (Oc #[Sl ra nr rc,Sl la f lc] 37)).alloc (zA mk)) oz;rw[zV,zV]at this;exact this
 have g:Hid (Bw w (((w.alloc (Oc #[Sl ra nr rc,Sl la f lc] 37)).alloc (zA mk)).alloc (qd oz))):=Mp w _ _ _;go_enter func105,ntmps105;go_wp2_with fail;refine(xa Q a n c nr f B mk _ _ _ (t.q g) u y (x _ _ _ i)).mono ?_;rintro e W ⟨rfl,h⟩;have r:=ua (uf g h);have k:=ua (j.q h);obtain⟨z,r1,r2,A,C,D⟩:=k.c;obtain⟨s0,E,F,G,H,I⟩:=k.s;simp only[oz,nz]at z r1 r2 A C D;clear h i j g;generalize M.top (M.stk (uC nr mk) B n)=v at *;unfold It;go_wp2;refine wL (v:=It v) (by simp[results,f105,go_sem,It, *]) rfl ?_;exact⟨rfl,BH r (w.heap.size+1+1) v oM⟩
def Db(Q:Np)(w:Wl)(b:Nat)(g:Gr)(n:Nat):Prop:=∀i,i<n->∃a c,w.cell? (Ad b i)=some (Sl a (nd g i).bl c)/\wT Q w a (nd g i).bl (nd g i).e
def Db.q{Q w w' b n g}(h:Db Q w b g n)(k:Bw w w'):Db Q w' b g n:=λi d =>
 let ⟨a,c,h1,h2⟩:=h i d
 ⟨a,c,ue h1 k,h2.q k⟩
def xb(g:Gr)(p:Nat):Prop:=(nd g p).bl=0\/M.bF g.nr g.nb (nd g p).bl (nd g p).e
def xc Q ra la rc lc g gb i b n cap x S W(y:W.cell? (Ad gb 0)=some (Sl ra g.nr rc))(z:W.cell? (Ad gb 1)=some (Sl la g.nb lc))(A:W.cell? (Ad i 0)=some (Sl (Sm b 0) n cap))(j:Db Q W b g n)(D:x<n)(F:n<=200)(p:xb g x)(C:(nd g x).bl<=1048576)(m:∀W gb r,Cd W gb r ra la g.nr rc g.nb lc S->BE W g.nr g.nb S (Pt gb 0) (Pt r 0)) :
  Cs 135 #[Iv (x:Int),.agg #[Uv S.a,Uv S.b,Uv S.c,Uv S.d],.pointer (Sm gb 0),.pointer (Sm i 0)] W λe W'=>e=Rt (.bool (M.cH g.nr S.h (nd g x).bl (nd g x).e))/\Bw W W':=by
 obtain⟨a,c,B,k⟩:=j x D;have t:=ua k;have u:=ua p;have v:=ua m;have f:Hid (Bw W (W.alloc (zA S))):=wG W;have L:=uv (zA S) y;have y1:=uv (zA S) z;have y2:=uv (zA S) A;have N:=uv (zA S) B;obtain⟨G,H,I,J⟩:=(At.e W S).c;have E:∀(n l:Bool) (a b c d:Int) (w:Wl),(Instr.field 195 (.agg #[.bool n,Uv a,Uv b,Uv c,Uv d,.bool l]) 0).run prog w=.ok (.bool n) w:=λn l a b c d w=>by kernel_rfl
 clear k j p m;go_enter func135,ntmps135;go_wp2;rw[show(Obj.cells #[Uv S.a,Uv S.b,Uv S.c,Uv S.d] 191)=zA S from rfl];generalize W.alloc (zA S)=X at *;go_region_with (go_at_call 105;refine(NQ Q ra la a g.nr rc g.nb lc (nd g x).bl c (nd g x).e S _ (t.q f.drew) u C v).mono ?_;rintro e W2 ⟨rfl,o⟩;have s:Hid (Bw W W2):=uf f ((wI X).drew.trans o);clear o;unfold It);all_goals go_wp2
 all_goals go_ret
 all_goals exact⟨yO (BF _ _ _ _),s⟩
open Go.RowKit Go.Shelf
attribute [local go_sem] Oper.semAt_some
def VL{F:Fence}{N:Nat}{ops:Array Oper}{rest:List Oper}{o:Oper}{a:Act}{i:Exit->Act->World->Prop}{w:Wl}(A:o.guard=none)(s x:Operand)(t j:TypeId)(g:o.op=.call { callee:=.builtin .append,args:=#[s,x],argTypes:=#[t,j] })
  {Q:Np} {v y:Vl} {e:TypeId} {d k n m:Nat} {cs news:List Value} (G:a.eval s=v) (I:a.eval x=y) (r:vA t e d k) (D:wC Q w v d n cs) (H:Src prog d j y m news w) (B:n+m<=16777216) (C:v=nS->0<m)
  (h:∀f w',wC (λb=>Q b\/w.heap.size<=b) w' f d (n+m) (cs++news)->wS (λb=>Q b) w w'->w'.heap.size<=w.heap.size+1->wpListIn F N prog ops i rest (a.put o.dst f) w'):wpListIn F N prog ops i (o::rest) a w:=by
 refine wpListIn_plain A λK u=>?_
 obtain⟨f,w',E,l,p,q⟩:=xd o.type r D H B C;unfold Oper.wpIn;refine⟨?_,?_⟩
 ·simp[Oper.about,g,resolve,Target.leads,Gc]
 rw[Oper.semAt_plain F _ _ (by rw[g];intro c z;cases z)];simp[execOp,g,resolve,invoke,builtin,G,I,E,Result.andThen];exact u _ _ (h f w' l p q)
def Lp(g:Gr)(ba:Nat->Option Addr)(bc:Nat->Nat)(p:Nat):List Value:=(List.range p).map (λi=>Sl (ba i) (nd g i).bl (bc i))
def VM g(ba:Nat->Option Addr)bc p:Lp g ba bc (p+1)=Lp g ba bc p++[Sl (ba p) (nd g p).bl (bc p)]:=by simp[Lp,List.range_succ]
def VN:(prog.info? 48).map (λi=>(i.zero,i.size,i.bytes))=some (some nS,1,24):=rR
def VO:vA 187 48 1 24:=⟨underlying187,⟨_,VN,rfl⟩,oM⟩
def VP{w g u}(b:w.cell? (Ad g 0)=some u)(c:u.oneCell'=true):Src prog 1 187 (Sl (Sm g 0) 1 1) 1 [u] w:=by
 refine Gj (P:=prog) w underlying187 (Ad g 0) 1 1 [u] rfl (λj d a=>?_) (λd a=>?_)
 ·match j,a with
  |0,a=>simp at a;subst a;simpa[Addr.add] using b
  |j+1,a=>simp at a
 simp at a;subst a;exact c
structure Hv(w:Wl)(g:Gr)(ba:Nat->Option Addr)(bc:Nat->Nat)(p:Nat)(x:Wl):Prop where
 le:p<=g.nr+g.nb
 k:∃v,x.cell? (Ad (w.heap.size+1) 0)=some v/\wC (λb=>w.heap.size+4<b) x v 1 p (Lp g ba bc p)
 s:x.frozen? (Ad (w.heap.size+1) 0)=false
 u:Bw w x
 h:w.heap.size+3<=x.heap.size
def Hv.m{w g}{ba:Nat->Option Addr}{bc p A E}(h:Hv w g ba bc p A)(k:wA (λk=>k=w.heap.size+3\/k=w.heap.size+3+1) A E):Hv w g ba bc p E:=by
 have F:=h.h;obtain⟨v,y,l⟩:=h.k;have o:=k.d (w.heap.size+1) oM (λq=>oM);refine⟨h.le,⟨v,(zI (a:=(Ad (w.heap.size+1) 0)) o).trans y,?_⟩,(Ec (a:=(Ad (w.heap.size+1) 0)) o).trans h.s,⟨k.os.trans h.u.os,k.g.trans h.u.tape,k.f.trans h.u.output,wN h.u.size k.h,λb B=>(k.d b oM (λq=>oM)).trans (h.u.block b B)⟩,wN F k.h⟩;rcases l with l|⟨c,cap,e,x,n,r,z,t⟩
 ·exact .inl l
 by_cases C:cap=0
 ·subst C;exact .inr ⟨c,0,e,x,n,r,λj i=>aB i (by rw[n];omega),λj i=>oM⟩
 have D:c<A.heap.size:=by
  obtain⟨u,G⟩:=Dt.1 (t 0 oM).1;exact ud G
 have e':=k.d c D (λq=>oM);exact .inr ⟨c,cap,e,x,n,r,λj i=>by rw[zI (a:=(Ad c j)) e'];exact z j i,t.q e'⟩
def VQ{w i W' g}{ba:Nat->Option Addr}{bc p l m v o}(j:Hv w g ba bc p i)(D:w.heap.size+4<=i.heap.size)(B:W'.cell? (Ad (w.heap.size+1) 0)=some v)(x:wC (λb=>w.heap.size+4<b\/(i.alloc o).heap.size<=b) W' (Sl l (p+1) m) 1 (p+1) (Lp g ba bc p++[Sl (ba p) (nd g p).bl (bc p)]))(c:wS (λb=>w.heap.size+4<b) (i.alloc o) W')(A:p+1<=g.nr+g.nb) :
  wA (λk=>k=w.heap.size+1\/w.heap.size+4<k) i (W'.setCell (Ad (w.heap.size+1) 0) (Sl l (p+1) m))/\Hv w g ba bc (p+1) (W'.setCell (Ad (w.heap.size+1) 0) (Sl l (p+1) m)):=by
 have C:=c.h;rw[zV]at C;have r:∀b,b<i.heap.size->¬w.heap.size+4<b->W'.heap[b]?=i.heap[b]?:=λb n z=>(c.d b (by rw[zV];omega) z).trans (Hg i o b n)
 constructor
 ·exact⟨c.os,c.g,c.f,by rw[uj];omega,λk y t=>(zJ k (λe=>t (.inl e))).trans (r k y (λq=>t (.inr q)))⟩
 refine⟨A,⟨_,uu B,?_⟩,?_,?_,by rw[uj];omega⟩
 ·rw[VM];have q:wC (λb=>w.heap.size+4<b) W' (Sl l (p+1) m) 1 (p+1) (Lp g ba bc p++[Sl (ba p) (nd g p).bl (bc p)]):=Vf x (λb q=>by
   rcases q with q|q
   ·exact q
   rw[zV]at q;omega)
  exact q.on (λb n=>zJ b (λe=>by simp only at e;omega))
 ·rw[Ff,Ec (a:=(Ad (w.heap.size+1) 0)) (r (w.heap.size+1) oM oM)];exact j.s
 exact⟨c.os.trans j.u.os,c.g.trans j.u.tape,c.f.trans j.u.output,by rw[uj];have:=j.u.size;omega,λb n=>(zJ b (λe=>by simp only at e;omega)).trans ((r b (oH j.u.size) oM).trans (j.u.block b n))⟩
def VR(a:Code)(p:Nat)(x:Wl):Prop:=False
structure FH(Q:Np)(g:Gr)(w:Wl)(e:Ending)(w':Wl):Prop where
 k:∃b cap,e=Rt (Sl (Sm b 0) (g.nr+g.nb) cap)/\Db Q w' b g (g.nr+g.nb)
 u:Bw w w'
def VS Q ra la rc lc g rb ro lb lo(na ba:Nat->Option Addr)nc bc w(h0:0<g.nr)(h1:g.nr<=100)(h2:g.nb<=100)(t:∀W,Bw w W->Flat W ra la g rb ro lb lo na ba nc bc)(S:∀p,p<g.nr+g.nb->wT Q w (ba p) (nd g p).bl (nd g p).e) :
  CallsIn Fence.wide 0 prog 103 #[.agg #[Sl ra g.nr rc,Sl la g.nb lc]] w (FH Q g w):=by
 have aj:Fence.wide.depth=none:=rfl;have HF:=ua t;have HO:=ua S;have Z:0<g.nr->rb<w.heap.size:=λh=>ud ((t w (wI _)).r0 0 h)
 have Y:0<g.nb->lb<w.heap.size:=λh=>ud ((t w (wI _)).l0 0 h)
 clear t S;refine callsIn_of_wp_marks func103 rfl trivial ?_ rfl;simp only[ntmps103,Fg,zQ,Ef,Nat.reduceAdd,Nat.reduceSub,Fu,Fv,Fx,Fw,Dl,Cb]
 gi_wp2_with (refine⟨trivial,?_⟩;gi_at_call 129;refine(BD).mono ?_;rintro e w' ⟨rfl,rfl⟩)
 obtain⟨o,j⟩:=nm (((w.alloc (Oc #[Sl ra g.nr rc,Sl la g.nb lc] 37)).alloc (Oc #[nS] 187)).alloc (Oc #[Sl ra g.nr rc,Sl la g.nb lc] 37));have z:o.heap.size=w.heap.size+3:=by rw[<-j];simp
 have J:Bw w o:=by rw[<-j];exact Mp w _ _ _
 have y:=vo (w.alloc (Oc #[Sl ra g.nr rc,Sl la g.nb lc] 37)) nS 187;have G:=xj (w.alloc (Oc #[Sl ra g.nr rc,Sl la g.nb lc] 37)) nS 187;have f:=xp ((w.alloc (Oc #[Sl ra g.nr rc,Sl la g.nb lc] 37)).alloc (Oc #[nS] 187)) (Sl ra g.nr rc) (Sl la g.nb lc) 37;simp only[zV]at y G f;rw[j]at f;have ah:Hv w g ba bc 0 o:=⟨wP,⟨_,by rw[<-j];exact uv _ y,.inl ⟨rfl,rfl,rfl⟩⟩,by rw[<-j];exact vH y G,J,oM⟩;rw[j];clear j y G;refine S2 (gf:=164) (lb:=#[.pointer (Sm (w.heap.size+1+1) 0)]) rfl (enters_of func164 rR rfl)
  (jL (w.heap.size+1+1) ra la rc lc g rb ro lb lo na ba nc bc o oM oM f.1 f.2 (HF o J)) (λ_=>rfl) ?hD (λk=>k=w.heap.size+1\/w.heap.size+4<k) ?hCD ?hC0 ?hC1
  (Hv w g ba bc) VR ?hI ?hIx ah ?round ?done ?stop
 case hD =>
  rintro k (rfl|⟨rfl,l⟩|⟨rfl,l⟩)
  ·omega
  ·have:=Z l;omega
  have:=Y l;omega
 case hCD =>
  rintro k (rfl|⟨rfl,l⟩|⟨rfl,l⟩) hc
  ·omega
  ·have:=Z l;omega
  have:=Y l;omega
 case hC0=>rw[z];omega
 case hC1=>rw[z];omega
 case hI =>
  rintro s A E O X;rw[z]at X;exact O.m X
 case hIx=>rintro cd s A E f;exact f.elim
 case round =>
  intro l' p x ak al P an;unfold Pk
  gi_wp2
  refine⟨zM,P,?_⟩;clear P;rintro n af aa c;have hx4':w.heap.size+4<=n.heap.size:=by rw[aa];have:=z;omega
  obtain⟨v,H,r⟩:=c.k;obtain⟨av,cv,rfl⟩:=uq r;have k2:=c.s;have HI:=ua c;have ac:=ua r;clear r c;have lx:=ud H;have ag:=ua hx4';have ad:Hid (w.heap.size+1<(n.alloc (Oc #[Sl (ba p) (nd g p).bl (bc p)] 48)).heap.size):=by show _<_;rw[zV];omega
  clear aa af hx4'
  gi_wp2_with (gi_at_builtin;refine VL rfl _ _ 187 187 rfl rfl rfl VO (Q:=λb=>w.heap.size+4<b) (yx ac oM (uk n (Oc #[Sl (ba p) (nd g p).bl (bc p)] 48))) (VP (u:=Sl (ba p) (nd g p).bl (bc p)) (cN n.heap.size rfl rfl) rfl) oM (λ_=>Nat.one_pos) ?_;intro v' W' F D ab;obtain⟨a',c',rfl⟩:=uq F;have Fi:=(D.d (w.heap.size+1) ad (λq=>oM)).trans (Hg n (Oc #[Sl (ba p) (nd g p).bl (bc p)] 48) _ lx);have k1':W'.cell? ⟨w.heap.size+1,0,none⟩=some (Sl av p cv):=(zI (a:=⟨w.heap.size+1,0,none⟩) Fi).trans H;have k2':W'.frozen? ⟨w.heap.size+1,0,none⟩=false:=(Ec (a:=⟨w.heap.size+1,0,none⟩) Fi).trans k2;have HO':Hid (wC (λb=>w.heap.size+4<b\/(n.alloc (Oc #[Sl (ba p) (nd g p).bl (bc p)] 48)).heap.size<=b) W' (Sl a' (p+1) c') 1 (p+1) (Lp g ba bc p++[Sl (ba p) (nd g p).bl (bc p)])):=F;have HG:Hid (wS (λb=>w.heap.size+4<b) (n.alloc (Oc #[Sl (ba p) (nd g p).bl (bc p)] 48)) W'):=D;clear F D ab Fi)
  exact VQ HI ag k1' HO' HG oM
 case done =>
  rintro d p x hd ao c R;obtain⟨v,H,r⟩:=c.k;have am:=c.le;obtain rfl:p=g.nr+g.nb:=oM;rcases r with⟨_,q,_⟩|⟨b,cap,rfl,hq,C,h4,L,N⟩
  ·omega
  have T:=c.u;have ab:=c.h;have ai:b<x.heap.size:=by
   obtain⟨u,hu⟩:=Dt.1 (N 0 oM).1;exact ud hu
  have I:=ua L;clear L N
  gi_wp2
  refine⟨sM,.inl ⟨_,_,rfl,run_takeDeferred R,?_⟩⟩;have ae:b≠d:=by
   rintro rfl;have h:=I 0 (by rw[C];omega);have h':x.cell? (Ad b 0)=none:=(by simp[World.cell?,R]);rw[h']at h;have hl:0<(Lp g ba bc (g.nr+g.nb)).length:=(by rw[C];omega);rw[zG hl]at h;cases h
  have U:=vI (B:=w.heap.size) x (.deferred none) (d:=d) oM oM;refine⟨Sl (Sm b 0) (g.nr+g.nb) cap,?_,⟨⟨b,cap,rfl,λi V=>⟨ba i,bc i,?_,?_⟩⟩,T.trans U⟩⟩
  ·simp[results,f103,go_sem]
  ·rw[zI (a:=(Ad b i)) (Qn ae),I.o i (by rw[C];omega)];simp[Lp,V]
  exact(HO i V).q (T.trans U)
 case stop=>rintro d cd p x hd ap f;exact f.elim
def VT Q ra la rc lc g w(e:Bl Q w ra la g)(a:0<g.nr)(b:g.nr<=100)(c:g.nb<=100) :
  Cs 103 #[.agg #[Sl ra g.nr rc,Sl la g.nb lc]] w (FH Q g w):=by
 obtain⟨rb,i,lb,lo,na,ba,nc,bc,d,f⟩:=EI e;exact callsIn_wide.1 (VS Q ra la rc lc g rb i lb lo na ba nc bc w a b c (λW h=>d.q h) f)
def Us(v:Option Value):Nat:=match v with|some (.int _ x)=>x.toNat|_=>0
def Lc(w:Wl)(b:Nat):NS:=⟨Us (w.cell? (Ad b 0)),Us (w.cell? (Ad b 1)),Us (w.cell? (Ad b 2)),Us (w.cell? (Ad b 3))⟩
def AR{w b s}(h:At w b s):Lc w b=s:=by
 obtain⟨a,d,e,f⟩:=h.c;unfold Lc;rw[a,d,e,f];rfl
def Ld(w:World)(b:Nat):Nat:=match w.cell? (Ad b 0) with|some (.slice _ n _)=>n|_=>0
def AS{Q w b L}(h:WL Q w b L):Ld w b=L.length:=by
 obtain⟨v,d,e⟩:=h.k;obtain⟨a,c,rfl⟩:=uq e;unfold Ld;rw[d]
def Ut(v:Value):Nat:=match v with|.bool true=>1|_=>0
def Dz(w:Wl)(b o n:Nat)(U:Nat->NS):Prop:=∀i,i<n->w.cell? (Ad b (o+i*4))=some (Uv (U i).a)/\w.cell? (Ad b (o+i*4+1))=some (Uv (U i).b)/\w.cell? (Ad b (o+i*4+2))=some (Uv (U i).c)/\w.cell? (Ad b (o+i*4+3))=some (Uv (U i).d)
def Dz.q{w w' b o n U}(h:Dz w b o n U)(k:Bw w w'):Dz w' b o n U:=λi a =>
 ⟨ue (h i a).1 k,ue (h i a).2.1 k,ue (h i a).2.2.1 k,ue (h i a).2.2.2 k⟩
def qt(s:NS)(p:Nat){w:Wl}(g:s.OK)(f:p<256) :
  Cs 139 #[.agg #[Uv s.a,Uv s.b,Uv s.c,Uv s.d],Iv p] w λe w'=>e=Rt (.bool (s.h p))/\Bw w w' :=
 (MY s p w g f).mono (λe w' h=>⟨h.1,by rw[h.2];exact wG w⟩)
def Qm(w:Wl)(a:Nat)(b:Nat):Prop:=w.heap.size+1<b/\b≠a
def MN(w:Wl)(n:Nat)(a:Vl)(wr:Wl):Prop :=
 ∃k:Nat,k<=n/\a=Iv (k:Int)/\WL (λb=>w.heap.size+1<b) wr (w.heap.size+1) (List.range k)/\At wr w.heap.size nz/\Bw w wr
structure LS(w:Wl)(mb:Nat)(S:NS)(L:List Nat)(W:Wl):Prop where
 ok:S.OK
 l:WL (Qm w mb) W (w.heap.size+1) L
 a:At W w.heap.size nz
 m:At W mb S
 b:Bw w W
def AT(w:Wl)(n c:Nat)(F:(Nat->Bool)->Nat->Bool)(a b:Vl)(wr:Wl):Prop :=
 ∃(L:List Nat) (S:NS),LS w c S L wr /\
  ((b=Bf/\(∃x:Int,a=Iv x)/\L = []/\M.WI n F [] S.h)\/(∃x:Nat,b=Bt/\a=Iv (x:Int)/\M.WI n F (L++[x]) S.h/\M.left n S.h (L.length+1)<=n*(n+1)+n))
def AU(w:Wl)(n b x:Nat)(U:Nat->NS)(S:NS)(L:List Nat)(a:Vl)(wr:Wl):Prop :=
 ∃k:Nat,k<=n/\a=Iv (k:Int)/\LS w b S (L++M.cJ (λv y=>(U v).h y) x k) wr
def AV{Q B w w'}(h:wS Q w w')(c:B<=w.heap.size)(a:∀b,Q b->B<=b):Below B w w' :=
 ⟨h.os,h.g,h.f,h.h,λb e=>h.d b oM (λq=>oH (a b q))⟩
def WL.g{Q Q' w a L}(h:WL Q w a L)(k:∀b,Q b->Q' b):WL Q' w a L:=by
 obtain⟨v,c,d⟩:=h.k;refine⟨⟨v,c,?_⟩,h.s⟩;rcases d with h|⟨g,cap,e,i,f⟩
 ·exact .inl h
 exact .inr ⟨g,cap,e,k g i,f⟩
def WL.a{Q Q' w d L}(h:WL Q w d L)(q:0<L.length)(k:∀b,Q b->b<w.heap.size->Q' b):WL Q' w d L:=by
 obtain⟨v,f,i⟩:=h.k;refine⟨⟨v,f,?_⟩,h.s⟩;rcases i with h|⟨g,cap,e,o,j,l,m,c⟩
 ·exact .inl h
 have n:g<w.heap.size:=by
  obtain⟨u,p⟩:=Dt.1 (c 0 oM).1;exact ud p
 exact .inr ⟨g,cap,e,k g o n,j,l,m,c⟩
def WL.q{Q w w' d L}(h:WL Q w d L)(k:Bw w w'):WL Q w' d L:=by
 obtain⟨v,m,n⟩:=h.k;refine⟨⟨v,ue m k,?_⟩,?_⟩
 ·rcases n with h|⟨g,cap,e,l,c,f,o,i⟩
  ·exact .inl h
  by_cases r:cap=0
  ·subst r;exact .inr ⟨g,0,e,l,c,f,λj b=>aB b (by rw[c];omega),λj b=>oM⟩
  have t:g<w.heap.size:=by
   obtain⟨u,x⟩:=Dt.1 (i 0 oM).1;exact ud x
  have e':=k.block g t;exact .inr ⟨g,cap,e,l,c,f,λj b=>by rw[zI (a:=(Ad g j)) e'];exact o j b,i.q e'⟩
 rw[k.frozen (p:=(Ad d 0)) h.lt];exact h.s
def LS.on{w W W' c S L}(h:LS w c S L W)(k:Bw W W'):LS w c S L W':=⟨h.ok,h.l.q k,h.a.q k,h.m.q k,h.b.trans (k.mono h.b.size)⟩
def MO{n m k c}(h:M.left n m k<=c):k<=c:=by unfold M.left at h;omega
def AW{w W n f}{F:(Nat->Bool)->Nat->Bool}{S L P}(h:LS w f S L W)(t:n<=200)(v:w.heap.size+1<f)(o:M.WI n F L S.h)(c:M.left n S.h L.length<=n*(n+1)+n)(g:∀s j W',AT w n f F s j W'->M.left n (Lc W' f).h (Ld W' (w.heap.size+1)+Ut j)=M.left n S.h L.length->P (Rt (.tuple #[s,j])) W'):Cs 169 #[.pointer (Sm (w.heap.size+1) 0)] W P:=by
 have r:=MO c;have u:n*(n+1)+n<=1048576:=by
  have:n*(n+1)<=200*201:=Nat.mul_le_mul t oM;omega
 rcases ujH L with rfl|⟨k,x,rfl⟩
 ·refine(tkN _ _ W h.l).mono ?_;rintro e W' ⟨rfl,rfl⟩;exact g _ _ _ ⟨[],S,h,.inl ⟨rfl,⟨0,rfl⟩,rfl,o⟩⟩ (by rw[AR h.m,AS h.l];rfl)
 rw[wK]at c r g;simp only[zQ,Ef,zL]at c r g;refine(tkS _ _ x k W h.l (λq=>Jc _ q.1) oM).mono ?_;rintro e W' ⟨rfl,p,i⟩;have y:=h.l.lt;have hm':=h.m.m (i.d _ h.m.lt (λq=>oM));exact g _ _ _ ⟨k,S,⟨h.ok,p,h.a.m (i.d _ oM (λq=>oM)),hm',h.b.trans (AV i h.b.size (λb q=>oM))⟩,.inr ⟨x,rfl,rfl,o,c⟩⟩ (by rw[AR hm',AS p];rfl)
def U1 n(F:(Nat->Bool)->Nat->Bool):M.WI n F (List.range n) nz.h:=by
 have h:=M.WI.d n F (List.range n) (λx=>sM);have e:=funext xD;rw[e];exact h
def U2 n:M.left n nz.h (List.range n).length<=n*(n+1)+n:=by
 unfold M.left;rw[List.length_range];have:n-M.cnt nz.h n<=n:=Nat.sub_le _ _;have:=Lm (n+1) this;omega
structure U3(n:Nat)(F:(Nat->Bool)->Nat->Bool)(w:Wl)(e:Ending)(w':Wl):Prop where
 k:∃S:NS,S.OK/\M.Least n F S.h/\e=Rt (Ha S)
 u:Bw w w'
def qu{f ps}ub uo n uc U(F:(Nat->Bool)->Nat->Bool)w(hf:∀args w,(callFunc f args).run prog w=.ok (.enter f args) w)(hU:Dz w ub uo n U)(ap:∀i,i<n->(U i).OK)(h0:0<n)(hn:n<=200)(hM:M.Mono n F)(hD:∀m m' x,x<n->(∀v,v<n->m' v=(m v||v==x))->∀v,v<n->F m' v=true->F m v=false->(U v).h x=true)(hF:∀x,x<n->∀S:NS,S.OK->∀W,Bw w W->Cs f (#[Iv (x:Int),.agg #[Uv S.a,Uv S.b,Uv S.c,Uv S.d]]++ps) W λe W'=>e=Rt (.bool (F S.h x))/\Bw W W') :
  Cs 134 #[Sl (Sm ub uo) n uc,.func (.func f) #[] ps] w (U3 n F w):=by
 have HU:=ua hU;have au:=ua ap;have HM:=ua hM;have HD:=ua hD;have HF:=ua hF;clear hU ap hM hD hF;go_enter func134,ntmps134;go_wp2;go_loopw [14] (λJ wr=>MN w n J wr) (λJ _=>n-(intOf J).toNat)
 ·refine⟨0,wP,rfl,⟨⟨nS,cN (w.heap.size+1) sM rfl,.inl ⟨rfl,rfl,rfl⟩⟩,qk _ 298 (w.heap.size+1) 0 sM sM⟩,(At.e w nz).q (wG _),Bn w⟩
 obtain⟨k,hk,rfl,hL,hA,I⟩:=hrel;have N:=ua hL;have HA:=ua hA;have R:=ua I;clear hL hA I;by_cases a3:k<n
 ·go_wp2_with fail;refine(TV (w.heap.size+1) k (List.range k) N.o (λq=>Jc _ q) sO).mono ?_;rintro e W ⟨⟨v,rfl⟩,hl,G⟩;have X:Hid (MN w n (Iv ((k:Int)+1)) W):=⟨k+1,a3,by go_num,by rw[List.range_succ];exact hl.g (λb q=>oH N.o.lt),HA.o.m (G.d _ (oH N.o.lt) (λq=>oM)),R.o.trans (AV G R.o.size (λb q=>oM))⟩;clear hl G;go_wp2;go_roundw
  ·exact X.o
  simp[intOf];omega
 obtain rfl:k=n:=oM;obtain⟨V,eV⟩:=nm wr;subst wr;have lV:=N.o.lt;have ah:Hid (LS w V.heap.size nz (List.range k) (V.alloc (zA nz))):=⟨NS.OK.f,(N.o.a (by rw[List.length_range];exact h0) (λb q1 q2=>⟨q1,oM⟩)).q (wG V),HA.o.q (wG V),At.e V nz,R.o.trans ((wG V).mono R.o.size)⟩;go_wp2_with fail;refine AW ah.o hn lV (U1 k F) (U2 k) λz p W1 r _=>?_
 have C:=ua r;obtain⟨o,ai⟩:=nm V.heap.size;rw[ai]at C lV;clear r ah N HA R;go_wp2;clear ai;go_loopw [8,9] (λz p wr=>AT w k o F z p wr) (λz p wr=>M.left k (Lc wr o).h (Ld wr (w.heap.size+1)+Ut p))
 ·exact C.o
 obtain⟨L,S,D,a2⟩:=hrel;have A:=ua D;obtain⟨m0,m1,m2,m3⟩:=D.m.c;have a4:=D.m.lt;have ad:Hid (M.left k (Lc wr o).h (Ld wr (w.heap.size+1)+1)=M.left k S.h (L.length+1)):=by show _=_;rw[AR D.m,AS D.l]
 clear D C;rcases a2 with⟨rfl,⟨xi,rfl⟩,rfl,Q⟩|⟨x,rfl,rfl,Q,ao⟩
 ·have HW:=ua Q;obtain⟨r0,r1,r2,r3⟩:=A.o.a.c;obtain⟨s0,s1,s2,s3⟩:=A.o.a.s;have lw:=A.o.a.lt;clear Q ad;go_wp2;exact wL (v:=Ha S) (by simp[results,f134,go_sem,Ha, *]) rfl ⟨⟨S,A.o.ok,HW.o.e,rfl⟩,ko A.o.b w.heap.size S wF⟩
 have HW:=ua Q;have ac:=ua ao;have af:x<k:=Q.b x sM;clear Q ao;go_wp2_with fail;refine(qt S x A.o.ok oM).mono ?_;rintro e W2 ⟨rfl,aj⟩;have Y:=ua (A.o.on aj);obtain⟨c0,c1,c2,c3⟩:=Y.o.m.c;have Gq:Hid (∀W,LS w o S L W->(S.h x=true\/F S.h x=false)->∀P:Ending->World->Prop,(∀z p W',AT w k o F z p W'->M.left k (Lc W' o).h (Ld W' (w.heap.size+1)+Ut p)<M.left k (Lc wr o).h (Ld wr (w.heap.size+1)+1)->P (Rt (.tuple #[z,p])) W')->Cs 169 #[.pointer (Sm (w.heap.size+1) 0)] W P):=λW s h P nx=>AW s hn lV (HW.o.skip h) (wN (by unfold M.left;omega) ac.o) λz p W' r B=>nx z p W' r (by rw[B,ad.o];unfold M.left;omega)
 clear aj m0 m1 m2 m3;cases hx:S.h x with
 |true =>
  have SK:=ua (Gq.o W2 Y.o (.inl hx));go_wp2_with fail;refine SK.o _ λz p W4 r B=>?_
  have C:=ua r;have T:=ua B;clear r B;go_wp2;go_roundw
  ·exact C.o
  exact T.o
 |false =>
  have HX:=ua hx;go_wp2_with fail;refine(HF.o x af S A.o.ok W2 Y.o.b).mono ?_;rintro e W3 ⟨rfl,ak⟩;have S3:=ua (Y.o.on ak);obtain⟨e0,e1,e2,e3⟩:=S3.o.m.c;clear ak c0 c1 c2 c3;cases an:F S.h x with
  |false =>
   have SK:=ua (Gq.o W3 S3.o (.inr an));go_wp2_with fail;refine SK.o _ λz p W4 r B=>?_
   have C:=ua r;have T:=ua B;clear r B;go_wp2;go_roundw
   ·exact C.o
   exact T.o
  |true =>
   have aq:=ua an;go_wp2_with fail;refine(Uu S x _ A.o.ok oM).mono ?_;rintro e O ⟨⟨t,ht,rfl⟩,al⟩;have aw:=ua ht;have H:=ua (S3.o.on al);obtain⟨ay,az,a0,a1⟩:=H.o.m.c;obtain⟨d0,d1,d2,d3⟩:=H.o.m.s;have av:Hid (LS w o t L (Hz O o t)):=⟨ht▸A.o.ok.k x,H.o.l.on (λb I=>AZ O o t b (by rcases I with I|I;exact I.2;omega)),H.o.a.m (AZ O o t _ oM),H.o.m.set t,ko H.o.b o t oM⟩;clear e0 e1 e2 e3 al ht Gq;go_wp2;rw[show(((O.setCell (Ad o 0) (Uv t.a)).setCell (Ad o 1) (Uv t.b)).setCell (Ad o 2) (Uv t.c)).setCell (Ad o 3) (Uv t.d)=Hz O o t from rfl];generalize Hz O o t=Z at *;obtain⟨M0,a6⟩:=nm (M.left k (Lc wr o).h (Ld wr (w.heap.size+1)+1));clear ay az a0 a1 d0 d1 d2 d3 Y S3 H a4;go_loopw [44] (λJ wr=>AU w k o x U t L J wr) (λJ _=>k-(intOf J).toNat)
   ·exact⟨0,wP,rfl,by rw[M.cJ,Ca];exact av.o⟩
   obtain⟨j,hj,rfl,D⟩:=hrel;have ae:=ua D;clear D;by_cases aa:j<k
   ·obtain⟨x0,x1,x2,x3⟩:=(HU.o.q ae.o.b) j aa;have a5:=ud x0;go_wp2_with fail;refine(qt (U j) x (au.o j aa) oM).mono ?_;rintro e W6 ⟨rfl,am⟩;have E:=ua (ae.o.on (uf (wG wr) am));clear am x0 x1 x2 x3 a5;cases hu:(U j).h x with
    |true =>
     have ax:=ua hu;go_wp2_with fail;refine(TV (w.heap.size+1) j _ E.o.l (λq=>Jc _ q.1) (by
      have h1:=MO ac.o;have h2:=M.gB (λv y=>(U v).h y) x j;have:k*(k+1)<=200*201:=Nat.mul_le_mul hn oM;rw[wK];omega)).mono ?_
     rintro e W7 ⟨⟨v,rfl⟩,hl,G⟩;have X:Hid (AU w k o x U t L (Iv ((j:Int)+1)) W7):=by
      have s6:=E.o.b.size;have lm:=E.o.m.lt;refine⟨j+1,aa,by go_num,⟨E.o.ok,?_,E.o.a.m (G.d _ oM (λq=>by rcases q with q|q;exact aB q.1 oM;omega)),E.o.m.m (G.d _ oM (λq=>by rcases q with q|q;exact q.2 rfl;omega)),E.o.b.trans (AV G s6 (λb q=>by rcases q with q|q;have:=q.1;omega;omega))⟩⟩;rw[M.cJ,Zp ax.o,<-zU];exact hl.g (λb q=>by rcases q with q|q;exact q;exact⟨oM,oM⟩)
     clear hl G;go_wp2;go_roundw
     ·exact X.o
     simp[intOf];omega
    |false =>
     have X:Hid (AU w k o x U t L (Iv ((j:Int)+1)) W6):=⟨j+1,aa,by go_num,by rw[M.cJ,Zn (by rw[hu];decide),Ca];exact E.o⟩;go_wp2;go_roundw
     ·exact X.o
     simp[intOf];omega
   obtain rfl:j=k:=oM;have ab:∀v,v<j->t.h v=(S.h v||v==x):=λv hv=>by rw[aw.o,qT oM oM]
   have ag:Hid (M.left j t.h (L++M.cJ (λv y=>(U v).h y) x j).length<M.left j S.h (L.length+1)):=by
    show _<_;rw[wK];exact M.iY af HX.o ab (M.gB _ x j)
   have TK:=ua (λ(P:Ew)=>AW (P:=P) ae.o hn lV (M.WI.c HM.o HW.o aq.o ab (λu hu=>((M.gC _ x j u).1 hu).1) (λv hv q1 q2=>(M.gC _ x j v).2 ⟨hv,HD.o S.h t.h x af ab v hv q1 q2⟩)) (wN (Nat.le_of_lt ag.o) ac.o));clear ab;go_wp2_with fail;refine TK.o _ λz p W4 r B=>?_
   have C:=ua r;have T:=ua B;clear r B;go_wp2;go_roundw
   ·exact C.o
   show M.left j (Lc W4 o).h (Ld W4 (w.heap.size+1)+Ut p)<M.left j (Lc _ o).h (Ld _ (w.heap.size+1)+1);rw[T.o];exact ad.o▸ag.o
def Y3 args w:(callFunc 135 args).run prog w=.ok (.enter 135 args) w:=by simp[callFunc,func135,f135,go_sem]
def U(g:Gr)(i:Nat):NS:=kM g.nr (nd g i).e (nd g i).bl
def Rp{g v x}(h:jQ g v)(c:M.dS g.nr (nd g v).bl (nd g v).e x):x<g.nr+g.nb:=by
 obtain⟨j,a,b,rfl⟩:=c;rcases h with h|h
 ·omega
 exact AY (h.1 j a) b
def NH{g}(b:M.Valid g):M.Mono (g.nr+g.nb) (vW g):=by
 refine⟨λm f h v d e=>?_⟩;have c:vW g m v=vW g (λu=>m u&&decide (u<g.nr+g.nb)) v:=M.gA _ _ _ _ _ (λu a=>by
  have:=Rp (vM b d) a;simp[this])
 rw[c]at e;exact M.iZ _ _ _ (λu a=>by
  simp at a;exact h u a.2 a.1) _ _ e
def Y4{g}(a:M.Valid g)m b x(w:x<g.nr+g.nb)(o:∀v,v<g.nr+g.nb->b v=(m v||v==x))v(r:v<g.nr+g.nb)(i:vW g b v=true)(k:vW g m v=false):(U g v).h x=true:=by
 have s:=a.r2;have t:=a.l2;have c:=vM a r;unfold U;rw[W4 _ _ _ _ oM (λj l p=>by
  have:=Rp c ⟨j,l,p,rfl⟩;omega)]
 by_cases d:M.dS g.nr (nd g v).bl (nd g v).e x
 ·exact d
 exfalso;have:vW g b v=vW g m v:=M.gA _ _ _ _ _ (λu f=>by
  have n:=Rp c f;have q:¬u=x:=λe=>d (e▸f)
  rw[o u n];simp[q])
 rw[i,k]at this;cases this
def yX(w:Wl)(b o:Nat)(s:NS):Wl:=(((w.setCell (Ad b o) (Uv s.a)).setCell (Ad b (o+1)) (Uv s.b)).setCell (Ad b (o+2)) (Uv s.c)).setCell (Ad b (o+3)) (Uv s.d)
def NI{w b o n t s}(h:Row w b t n)(k:o+3<n) :
  (yX w b o s).cell? (Ad b o)=some (Uv s.a)/\(yX w b o s).cell? (Ad b (o+1))=some (Uv s.b)/\(yX w b o s).cell? (Ad b (o+2))=some (Uv s.c)/\(yX w b o s).cell? (Ad b (o+3))=some (Uv s.d):=by
 obtain⟨u0,e⟩:=h.p (i:=o) oM;obtain⟨u1,f⟩:=(h.set o (Uv s.a)).p (i:=o+1) oM;obtain⟨u2,g⟩:=((h.set o (Uv s.a)).set (o+1) (Uv s.b)).p (i:=o+2) oM;obtain⟨u3,j⟩:=(((h.set o (Uv s.a)).set (o+1) (Uv s.b)).set (o+2) (Uv s.c)).p (i:=o+3) oM;unfold yX;refine⟨?_,?_,?_,uu j⟩
 ·rw[ur oM,ur oM,ur oM];exact uu e
 ·rw[ur oM,ur oM];exact uu f
 rw[ur oM];exact uu g
def vR{w b o j s}(h:j<o\/o+3<j):(yX w b o s).cell? (Ad b j)=w.cell? (Ad b j):=by
 unfold yX;rw[ur oM,ur oM,ur oM,ur oM]
def NJ{w b o n t s}(h:Row w b t n):Row (yX w b o s) b t n:=(((h.set _ _).set _ _).set _ _).set _ _
def NK{B w w'}(h:Below B w w'){b}{o}{s}(a:B<=b):Below B w (yX w' b o s):=by
 unfold yX;exact(((h.setCell (p:=(Ad b o)) a _).setCell (p:=(Ad b (o+1))) a _).setCell (p:=(Ad b (o+2))) a _).setCell (p:=(Ad b (o+3))) a _
def Y5:(prog.info? 191).map (λi=>(i.zero,i.size,i.bytes))=some (some (.agg #[Uv 0,Uv 0,Uv 0,Uv 0]),4,32):=rR
def NM(n:Nat)(g:n<=200)w:(Instr.makeSlice 193 (Iv (n:Int)) (Iv (n:Int))).run prog w=.ok (Sl (Sm w.heap.size 0) n n) (w.alloc (Oc (madeCells #[Uv 0,Uv 0,Uv 0,Uv 0] (n*4)) 191)):=by
 obtain⟨i,d,b⟩:=Gu.1 Y5;simp only[Kt]at b;obtain⟨f,e,c⟩:=b;have a:=run_make (P:=prog) w 193 191 i _ underlying193 d f .i64 .i64 n n oM (Eg _) (by rw[c];omega) oM;simp only[Int.toNat_natCast,e]at a;exact a
def NN(W1:Wl)(a n:Nat)(g:Gr)(i:Vl)(wr:Wl):Prop :=
 ∃k:Nat,k<=n/\i=Iv (k:Int)/\Row wr a 191 (n*4)/\Dz wr a 0 k (U g)/\Below a W1 wr
structure Y6(g:Gr)(w:Wl)(e:Ending)(w':Wl):Prop where
 k:∃S:NS,S.OK/\M.Least (g.nr+g.nb) (vW g) S.h/\e=Rt (.agg #[Uv S.a,Uv S.b,Uv S.c,Uv S.d])
 u:Bw w w'
def Vd(ra la:Oa)(g:Gr)(rc lc:Nat):Prop:=∀S:NS,S.OK->∀W gb a,Cd W gb a ra la g.nr rc g.nb lc S->BE W g.nr g.nb S (Pt gb 0) (Pt a 0)
def Y7 Q ra la a g rc lc c k w(l:wT Q w a (nd g k).bl (nd g k).e)(o:jQ g k)(n:(nd g k).bl<=1048576)(f:g.nr<=100)(j:g.nb<=100) :
  Cs 133 #[.agg #[Sl ra g.nr rc,Sl la g.nb lc],Sl a (nd g k).bl c] w λe w'=>(∃t,t=U g k/\e=Rt (.agg #[Uv t.a,Uv t.b,Uv t.c,Uv t.d]))/\Bw w w' :=
 (X0 Q ra la a g.nr rc g.nb lc (nd g k).bl c (nd g k).e w l (λi m=>by
  rcases o with q|q
  ·omega
  exact q.1 i m) n f j).mono (λe w' h=>⟨⟨_,rfl,h.1⟩,h.2⟩)
def Y8 g i:(U g i).OK:=MT _ _ _
def Y9 Q ra la rc lc g b n cap w(A:M.Valid g)(hs:∀p,p<g.nr+g.nb->(nd g p).bl<=1048576)(hn:g.nr+g.nb=n)(F:Db Q w b g n)(ae:Vd ra la g rc lc) :
  Cs 104 #[.agg #[Sl ra g.nr rc,Sl la g.nb lc],Sl (Sm b 0) n cap] w (Y6 g w):=by
 have h1:=A.r2;have h2:=A.l2;have h0:=A.r1;have B:Hid (M.Valid g):=A;have O:Hid (∀p,p<g.nr+g.nb->(nd g p).bl<=1048576):=hs;have r:Hid (g.nr+g.nb=n):=hn;have L:=ua F;have ai:Hid (Vd ra la g rc lc):=ae;have H:n<=200:=oM;have ab:0<n:=oM;have an:b<w.heap.size:=by obtain⟨a,c,G,_⟩:=F 0 ab;exact ud G
 clear A hs hn F ae;have ak:=NM n H;go_enter func104,ntmps104;go_wp2;have f0:((((w.alloc (Oc #[Sl ra g.nr rc,Sl la g.nb lc] 37)).alloc (Oc #[Sl (Sm b 0) n cap] 187)).alloc (zA nz)).alloc (Oc (madeCells #[Uv 0,Uv 0,Uv 0,Uv 0] (n*4)) 191)).cell? (Ad w.heap.size 0)=some (Sl ra g.nr rc):=ue (ue (ue (cN w.heap.size rfl rfl) (wG _)) (wG _)) (wG _);have f1:((((w.alloc (Oc #[Sl ra g.nr rc,Sl la g.nb lc] 37)).alloc (Oc #[Sl (Sm b 0) n cap] 187)).alloc (zA nz)).alloc (Oc (madeCells #[Uv 0,Uv 0,Uv 0,Uv 0] (n*4)) 191)).cell? (Ad w.heap.size 1)=some (Sl la g.nb lc):=ue (ue (ue (cN w.heap.size rfl rfl) (wG _)) (wG _)) (wG _);have f2:((((w.alloc (Oc #[Sl ra g.nr rc,Sl la g.nb lc] 37)).alloc (Oc #[Sl (Sm b 0) n cap] 187)).alloc (zA nz)).alloc (Oc (madeCells #[Uv 0,Uv 0,Uv 0,Uv 0] (n*4)) 191)).cell? (Ad (w.heap.size+1) 0)=some (Sl (Sm b 0) n cap):=ue (ue (cN (w.heap.size+1) sM rfl) (wG _)) (wG _);have R:At ((((w.alloc (Oc #[Sl ra g.nr rc,Sl la g.nb lc] 37)).alloc (Oc #[Sl (Sm b 0) n cap] 187)).alloc (zA nz)).alloc (Oc (madeCells #[Uv 0,Uv 0,Uv 0,Uv 0] (n*4)) 191)) (w.heap.size+1+1) nz:=by
  have:=At.e ((w.alloc (Oc #[Sl ra g.nr rc,Sl la g.nb lc] 37)).alloc (Oc #[Sl (Sm b 0) n cap] 187)) nz;rw[zV,zV]at this;exact this.q (wG _)
 have T:Row ((((w.alloc (Oc #[Sl ra g.nr rc,Sl la g.nb lc] 37)).alloc (Oc #[Sl (Sm b 0) n cap] 187)).alloc (zA nz)).alloc (Oc (madeCells #[Uv 0,Uv 0,Uv 0,Uv 0] (n*4)) 191)) (w.heap.size+1+1+1) 191 (n*4):=by
  have:=GQ (((w.alloc (Oc #[Sl ra g.nr rc,Sl la g.nb lc] 37)).alloc (Oc #[Sl (Sm b 0) n cap] 187)).alloc (zA nz)) #[Uv 0,Uv 0,Uv 0,Uv 0] (n*4) 191 sM;rw[zV,zV,zV]at this;exact this
 have V:Bw w ((((w.alloc (Oc #[Sl ra g.nr rc,Sl la g.nb lc] 37)).alloc (Oc #[Sl (Sm b 0) n cap] 187)).alloc (zA nz)).alloc (Oc (madeCells #[Uv 0,Uv 0,Uv 0,Uv 0] (n*4)) 191)):=(Mp w _ _ _).alloc sO _;rw[show(Obj.cells #[Uv 0,Uv 0,Uv 0,Uv 0] 191)=zA nz from rfl];generalize (((w.alloc (Oc #[Sl ra g.nr rc,Sl la g.nb lc] 37)).alloc (Oc #[Sl (Sm b 0) n cap] 187)).alloc (zA nz)).alloc (Oc (madeCells #[Uv 0,Uv 0,Uv 0,Uv 0] (n*4)) 191)=W1 at *;have H5:=ua V;have H4:=ua T;have H3:=ua R;clear V T R ak;go_loopw [13] (λi wr=>NN W1 (w.heap.size+1+1+1) n g i wr) (λi _=>n-(intOf i).toNat)
 ·exact⟨0,wP,rfl,H4,λj hj=>aB hj Ct,wI _⟩
 obtain⟨k,hk,rfl,ac,ad,z⟩:=hrel;have aa:=H5.trans (z.mono oM);have g0:wr.cell? (Ad w.heap.size 0)=some (Sl ra g.nr rc):=(z.cell (p:=(Ad w.heap.size 0)) (show w.heap.size<w.heap.size+1+1+1 by omega)).trans f0;have g1:wr.cell? (Ad w.heap.size 1)=some (Sl la g.nb lc):=(z.cell (p:=(Ad w.heap.size 1)) (show w.heap.size<w.heap.size+1+1+1 by omega)).trans f1;have g2:wr.cell? (Ad (w.heap.size+1) 0)=some (Sl (Sm b 0) n cap):=(z.cell (p:=(Ad (w.heap.size+1) 0)) (show w.heap.size+1<w.heap.size+1+1+1 by omega)).trans f2;have X:=H3.m (z.block _ oM);have N:=ua ac;have P:Hid (Dz wr (w.heap.size+1+1+1) 0 k (U g)):=ad;have ag:Hid (Below (w.heap.size+1+1+1) W1 wr):=z;have E:=ua aa;have H3':=ua X;clear ac ad z aa X;by_cases aj:k<n
 ·obtain⟨a,c,G,Z⟩:=(L.q E) k aj;have am:=ud G;have HO:=ua Z;have al:w.heap.size+1+1+1<wr.heap.size:=by obtain⟨u,hu⟩:=N.p (i:=0) oM;exact ud hu
  clear Z;go_wp2_with (go_at_call 133;refine(Y7 Q ra la a g rc lc c k _ HO.o (vM B.o (oH r.o)) (O.o k (oH r.o)) h1 h2).mono ?_;rintro e W ⟨⟨t,ht,rfl⟩,y⟩;have HT:Hid (t=U g k):=ht;have J:Hid (Bw wr W):=y;have l:Hid (Row W (w.heap.size+1+1+1) 191 (n*4)):=N.o.a (y.block _ al);obtain⟨u0,r0⟩:=l.o.p (i:=k*4) oM;obtain⟨u1,r1⟩:=l.o.p (i:=k*4+1) oM;obtain⟨u2,r2⟩:=l.o.p (i:=k*4+2) oM;obtain⟨u3,r3⟩:=l.o.p (i:=k*4+3) oM;have z0:=l.o.n (k*4);have z1:=l.o.n (k*4+1);have z2:=l.n (k*4+2);have z3:=l.n (k*4+3);clear y ht);go_roundw
  ·show NN W1 (w.heap.size+1+1+1) n g _ (yX W (w.heap.size+1+1+1) (k*4) t);refine⟨k+1,oM,by go_num,NJ l.o,λj hj=>?_,NK (ag.o.trans (J.o.mono oM)) wF⟩;by_cases e:j=k
   ·subst e;have:=NI (s:=t) l.o (o:=j*4) oM;rw[HT.o]at this ⊢;simpa using this
   obtain⟨q0,q1,q2,q3⟩:=(P.o.q J.o) j oM;exact⟨(vR oM).trans q0,(vR oM).trans q1,(vR oM).trans q2,(vR oM).trans q3⟩
  simp[intOf];omega
 obtain rfl:k=n:=oM;have af:Hid (Db Q wr b g k):=L.q E;obtain⟨y0,y1,y2,y3⟩:=H3'.c;obtain⟨z0,z1,z2,z3⟩:=H3'.s;go_wp2_with fail;refine(qu (f:=135) (ps:=#[.pointer (Sm w.heap.size 0),.pointer (Sm (w.heap.size+1) 0)]) (w.heap.size+1+1+1) 0 k k (U g) (vW g) _ Y3 P.o (λi _=>Y8 g i) ab H (r.o▸NH B.o) (λm m' x hx hm v hv e1 e2=>Y4 B.o m m' x (oH r.o) (λu hu=>hm u (oH r.o)) v (oH r.o) e1 e2)
  (λx hx S C W D=>xc Q ra la rc lc g w.heap.size (w.heap.size+1) b k cap x S W (ue g0 D) (ue g1 D) (ue g2 D) (af.o.q D) hx H (vM B.o (oH r.o)) (O.o x (oH r.o)) (ai.o S C))).mono ?_
 rintro e W ⟨⟨S,C,Y,rfl⟩,y⟩;have BW:=ua (uf E y);have I:=ua (H3'.q y);obtain⟨ao,ap,aq,au⟩:=I.c;obtain⟨av,aw,ax,ay⟩:=I.s;have HL:Hid (M.Least (g.nr+g.nb) (vW g) S.h):=r.o▸Y;have ah:=C;clear y Y C;unfold Ha;go_wp2;refine wL (v:=.agg #[Uv S.a,Uv S.b,Uv S.c,Uv S.d]) (by simp[results,f104,go_sem, *]) rfl ?_;exact⟨⟨S,ah,HL,rfl⟩,ko BW (w.heap.size+1+1) S oM⟩
end Go.Proofs.YtoihadcablknpaaGreatDoor
