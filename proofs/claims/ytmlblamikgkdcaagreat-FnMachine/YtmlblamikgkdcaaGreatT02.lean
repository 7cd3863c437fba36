import Derived.Test.YtmlblamikgkdcaaGreatT01
import Derived.Deep.Slices
import Derived.Shelf.RegionOpen
import Derived.OwnWalkIn
import Derived.LoopNIn
import Derived.LoopIn
import Derived.Deep.AppendSrc
set_option linter.unusedVariables false
set_option linter.unusedSimpArgs false
set_option linter.defProp false
set_option maxHeartbeats 40000000
set_option maxRecDepth 100000
namespace Go.Proofs.YtmlblamikgkdcaaGreat
open Go.RowKit
open Go.Proofs.Tryz
open M (OpD ug Gr)
def G3(w:Wl)(n nr a:Nat)(B:Nat->OpD)(i:Vl)(wr:Wl):Prop :=
 ∃k:Nat,k<=n/\i=Iv (k:Int)/\Bw w wr/\∀j,j<k->M.bB nr a (B j)
def G4 nr a n B(h:∀j,j<n->M.bB nr a (B j)):M.bC nr a n B↔M.cL n B :=
 ⟨λq=>q.2,λq=>⟨h,q⟩⟩
def DC(n:Nat)(a L:Int):n≠0\/n=0/\(a<0\/0<=a/\L<=a\/0<=a/\a<L):=oM
def qt Q a(nr l n c:Nat)B w(s:zM Q w a n B)(h1:nr<=1048576)(h2:l<=1048576)(h3:xx n B) :
  Cs 114 #[Sl a n c,Iv nr,Iv l] w (Qq (M.bC nr l n B) w):=by
 obtain⟨hn,y⟩:=h3;have u:=ua s;have ab:=ua y;go_enter func114,ntmps114;go_wp2;go_loopw [7] (λi wr=>G3 w n nr l B i wr) (λi _=>n-(intOf i).toNat)
 .exact⟨0,zK,rfl,zH _,λj X=>aB X (Ge _)⟩
 obtain⟨k,hk,rfl,E,ae⟩:=hrel;have N:=ua ae;by_cases I:k<n
 .have s:=u.h E;rcases s with h0|⟨b,off,rfl,hq,s⟩
  .omega
  let⟨G,⟨sa,sc,R,J⟩,T⟩:=s k I;have y:=ab k I;have af:=ud G;have aa:=ua E;let⟨d,V⟩:=nm (B k);have O:=ua V;rw[V]at G R T J y;obtain⟨kd,g,S,f⟩:=d;simp only at G R T J y;have P:=ua J;have ad:M.bB nr l ⟨kd,g,S,f⟩->∀j,j<k+1->M.bB nr l (B j):=λq j X=>if e:j=k then e▸O.o▸q else N j oM
  have ac:¬M.bB nr l ⟨kd,g,S,f⟩->¬M.bC nr l n B:=λq p=>q (O.o▸p.1 k I);have A:=ua ad;have o:=ua ac;have x:=ua (uf aa (uk wr (Oc #[Iv kd,Sl sa g sc,Iv f] 185)));rcases QA kd with rfl|rfl|rfl|(rfl|rfl|rfl|rfl|rfl)|Y
  .by_cases U:M.bH g S
   .have z:Hid (M.bH g S):=U;rcases(show f<0\/0<=f/\1<=f\/0<=f/\f<1 by omega) with C|⟨H,C⟩|⟨H,C⟩;all_goals
     go_wp2_with (go_at_call 172;refine(B4 Q sa g sc S _ (P.h (zO wr)) y).mono ?_;rintro e W ⟨⟨r,rfl,m⟩,t⟩;obtain rfl:r=true:=m.2 z;have g0:=(ue (a:=(Ad wr.heap.size 0)) (v:=Iv 1) sM t);have g2:=(ue (a:=(Ad wr.heap.size 2)) (v:=Iv f) sM t);have D:Hid _:=t;clear m t);first
      |(go_ret;exact⟨⟨false,rfl,xU (o λq=>oH (((Zc _ _ _ _ _).1 q).1))⟩,uf x D⟩)
      |(go_roundw;exact⟨k+1,oM,by go_num,uf x D,A ((Zc _ _ _ _ _).2 ⟨oM,z⟩)⟩;(simp[intOf];omega))
   have z:Hid (¬M.bH g S):=U;go_wp2_with (go_at_call 172;refine(B4 Q sa g sc S _ (P.h (zO wr)) y).mono ?_;rintro e W ⟨⟨r,rfl,m⟩,t⟩;obtain rfl:r=false:=by { cases r;rfl;exact aB (m.1 rfl) z };have D:Hid _:=t;clear m t);go_ret;exact⟨⟨false,rfl,xU (o λq=>z ((Zc _ _ _ _ _).1 q).2)⟩,uf x D⟩
  rotate_right
  .have HK:Hid (kd<0\/7<kd):=Y;rcases Y with ah|ag;all_goals
    go_wp2;go_ret;exact⟨⟨false,rfl,xU (o (PZ HK))⟩,x⟩
  all_goals first
   |(have F:=ua λq=>A ((FI _ _ _ _ _).2 q);have u:=ua λ(q:¬_)=>o λp=>q ((FI _ _ _ _ _).1 p);have L:=DC g f nr)
   |(have F:=ua λq=>A ((Zd _ _ _ _ _).2 q);have u:=ua λ(q:¬_)=>o λp=>q ((Zd _ _ _ _ _).1 p);have L:=DC g f l)
   |(have F:=ua λq=>A ((FJ _ _ _ _ _ _ oM).2 q);have u:=ua λ(q:¬_)=>o λp=>q ((FJ _ _ _ _ _ _ oM).1 p);have L:=DC g f 1)
  all_goals
   clear A o;rcases L with hz|⟨rfl,C|⟨H,C⟩|⟨H,C⟩⟩;all_goals
    try have hz':((g:Int) != 0)=true:=sO
    go_wp2;first
     |(go_ret;exact⟨⟨false,rfl,xU (u.o oM)⟩,x⟩)
     |(go_roundw;exact⟨k+1,oM,by go_num,x,F.o oM⟩;(simp[intOf];omega))
 obtain rfl:k=n:=oM;have s:=u.h E;have Z:=ua s;go_wp2_with (go_at_call 173;refine(G2 Q a k c B _ Z hn).mono ?_;rintro e W ⟨⟨r,rfl,m⟩,hw⟩;subst W;have HR:Hid _:=m;clear m);go_ret;exact⟨⟨_,rfl,HR.trans (G4 nr l _ B N).symm⟩,E⟩
structure Vs(d:ug):Prop where
 f:d.nl<=1048576
 h:Cz d.nl d.f
 e:xx d.bl d.e
structure Ca(Q:Np)(w:Wl)(ra la:Oa)(g:Gr):Prop where
 c:Ci Q w ra g.nr g.a
 e:Dk Q w la g.nb g.d
structure vS(g:Gr):Prop where
 nr:g.nr<=1048576
 nb:g.nb<=1048576
 a:∀i,i<g.nr->Vs (g.a i)
 d:∀i,i<g.nb->Vs (g.d i)
def Ca.h{Q w w' ra la g}(h:Ca Q w ra la g)(t:Bw w w'):Ca Q w' ra la g :=
 ⟨h.c.h t,h.e.h t⟩
def Ye(W1:Wl)(n:Nat)(i:Vl)(wr:Wl):Prop:=∃k:Nat,k<=n/\i=Iv (k:Int)/\Bw W1 wr
def Vt{p:Np}{k:Nat}(h:∀j,j<k->p j)(a:p k):∀j,j<k+1->p j:=λj b =>
 if e:j=k then e▸a else h j oM
def F3 Q ra la rc lc g w(Y:Ca Q w ra la g)(hs:vS g)(s:M.Valid g) :
  Cs 94 #[.agg #[Sl ra g.nr rc,Sl la g.nb lc]] w (Ov w):=by
 have F:=ua s.rb;have G:=ua s.lb;have H:=ua s.lz;clear s;obtain⟨nr,R,l,L⟩:=g;obtain⟨o,n⟩:=Y;obtain⟨z,A,C,D⟩:=hs;simp only at o n z A C D F G H ⊢;have O:=ua o;have N:=ua n;have P:=ua C;have S:=ua D;clear o n C D;go_enter func94,ntmps94;go_wp2;go_loopw [10] (λi wr=>Ye (w.alloc (Oc #[Sl ra nr rc,Sl la l lc] 34)) nr i wr) (λi _=>nr-(intOf i).toNat)
 .exact⟨0,zK,rfl,zH _⟩
 obtain⟨k,hk,rfl,c⟩:=hrel;have p:=uf (zO w) c;have I:wr.cell? (Ad w.heap.size 0)=some (Sl ra nr rc):=ue sM c;have V:wr.cell? (Ad w.heap.size 1)=some (Sl la l lc):=ue sM c;have ad:=ud I;by_cases f:k<nr
 .rcases O.h p with X|⟨b,off,rfl,hq,o⟩
  .omega
  let⟨⟨na,nc,x,B⟩,⟨ba,bc,y,d⟩⟩:=o k f;have Z:=ud x;have q:=ua c;have t:=ua d;clear o B d p c;go_wp2_with (go_at_call 151;refine(QI Q (Sm b off) la ba nr rc l lc (R k).bl bc (R k).e _ (t.h (zO wr)) z A (P.o k f).e (F.o k f)).mono ?_;rintro e W ⟨rfl,d⟩;have u:=ua d;clear d);go_roundw
  .exact⟨k+1,oM,by go_num,uf q (uf (zO wr) u)⟩
  simp[intOf];omega
 let⟨W1,eW⟩:=nm wr;subst wr;have J:=ua p;have HL':=ua (N.h p);clear p c;go_wp2;go_loopw [23] (λi aa=>Ye W1 l i aa) (λi _=>l-(intOf i).toNat)
 .exact⟨0,zK,rfl,zH _⟩
 obtain⟨m,hm,rfl,c⟩:=hrel;have q:=ua c;have U:=ue I c;have e1:=ue V c;have ab:=ud U;by_cases f:m<l
 .rcases HL'.h c with X|⟨b,off,rfl,hq,n⟩
  .omega
  let⟨⟨na,nc,x,B⟩,y,⟨ba,bc,c2,d⟩⟩:=n m f;have Z:=ud x;have t:=ua d;have E:=ua ((S.o m f).e);have ac:=E.o.1;clear n B d c;cases r:(L m).j with
  |true =>
   have T:=ua (G.o m f r);rw[r]at y;go_wp2_with (go_at_call 151;refine(QI Q ra (Sm b off) ba nr rc l lc (L m).bl bc (L m).e _ (t.h (zO wr)) z A E T).mono ?_;rintro e W ⟨rfl,d⟩;have x1:=(ue (a:=(Ad wr.heap.size 1)) (v:=Bt) sM d);have u:=ua d;clear d);go_roundw
   .exact⟨m+1,oM,by go_num,uf q (uf (zO wr) u)⟩
   simp[intOf];omega
  |false =>
   have hz:=H.o m f r;rw[r]at y;have fz:¬(0:Int)<((L m).bl:Int):=oM;clear hz;go_wp2;go_roundw
   .exact⟨m+1,oM,by go_num,uf q (zO wr)⟩
   simp[intOf];omega
 obtain rfl:m=l:=oM;go_wp2;go_ret;exact⟨rfl,uf J c⟩
def zF(w w':Wl):Nat->Prop:=λb=>w.heap.size<=b/\b<w'.heap.size
def Dc(w w':Wl):Prop:=∀b o,w.heap.size<=b->b<w'.heap.size->w'.frozen? (Ad b o)=false
def Dc.c{a b c}(h:Dc a b)(k:Dc b c)(g:Bw b c):Dc a c:=λx o d f=>by
 by_cases e:x<b.heap.size
 .rw[g.frozen (p:=(Ad x o)) e];exact h x o d e
 exact k x o oM f
def Dc.e w:Dc w w:=λb o a c=>by omega
def qU w{c} t:Dc w (w.alloc (Oc c t)):=λb o d a=>by
 simp at a;obtain rfl:b=w.heap.size:=oM;have h:=Eo w (Oc c t);simp only[World.frozen?,h];simp
def cN{W:Wl}{c:Av}{t:TypeId}{j:Nat}{v:Vl}(y:Nat)(a:W.heap.size=y)(h:c[j]?=some v):(W.alloc (Oc c t)).cell? (Ad y j)=some v:=by
 subst a;have e:=Eo W (Oc c t);simp only[World.cell?,e];exact h
def Dc.set{w W}(h:Dc w W)a v:Dc w (W.setCell a v):=λb o c d=>by
 rw[Et];exact h b o c (by simpa[World.setCell] using d)
def MQ{Q}W a v(h:¬Q a.block):zS Q W (W.setCell a v):=λb c=>Na W a v b (λe=>h (e▸c))
def uD{w W}(h:Bw w W){b}{o}{v}(a:w.heap.size<=b):Bw w (W.setCell (Ad b o) v):=h.setCell (p:=(Ad b o)) a v
def uh(W:Wl)(a:Addr)(v:Vl):(W.setCell a v).heap.size=W.heap.size:=by simp[World.setCell]
structure MR(A:Wl->Option Addr->Prop)(n:Nat)(w:Wl)(e:Ending)(w':Wl):Prop where
 k:∃a c,e=Rt (Sl a n c)/\A w' a
 q:Bw w w'
 r:Dc w w'
def M4:(prog.info? 5).map (λi=>(i.zero,i.size,i.bytes))=some (some (Bv 0),1,1):=rR
def M5:(prog.info? 3).map (λi=>(i.zero,i.size,i.bytes))=some (some (Iv 0),1,8):=rR
def M6:(prog.info? 185).map (λi=>(i.zero,i.size,i.bytes))=some (some (.agg #[Iv 0,nS,Iv 0]),3,40):=rR
def Row(w:Wl)(b:Nat)(t:TypeId)(n:Nat):Prop:=∃f,w.rowIs b t n f
def MS(w:Wl)(z:Av)(n:Nat)(t:TypeId)(b:0<z.size):Row (w.alloc (Oc (madeCells z n) t)) w.heap.size t n :=
 ⟨λi=>z[i%z.size]!,madeCells z n,Eo _ _,size_madeCells _ _,λi a=>by simp[madeCells,a]⟩
def Row.a{w w' b t n}(h:Row w b t n)(e:w'.heap[b]?=w.heap[b]?):Row w' b t n:=h.imp λ_ h=>h.of_block e
def Row.set{w b t n}(h:Row w b t n)i v:Row (w.setCell (Ad b i) v) b t n:=let⟨_,h⟩:=h;⟨_,h.set i v⟩
def Row.p{w b t n}(h:Row w b t n){i}(a:i<n):∃v,w.cell? (Ad b i)=some v:=let⟨_,h⟩:=h;⟨_,h.cell a⟩
def Row.n{w b t n}(h:Row w b t n)i:w.frozen? (Ad b i)=false:=let⟨_,h⟩:=h;h.frozen i
def uC{w:Wl}{b i:Nat}{v u:Vl}(h:w.cell? (Ad b i)=some u):(w.setCell (Ad b i) v).cell? (Ad b i)=some v:=Jm (by rw[h];rfl)
def uu{w:Wl}{b i j:Nat}{v:Vl}(h:i≠j):(w.setCell (Ad b i) v).cell? (Ad b j)=w.cell? (Ad b j):=CR w _ _ v (λe=>h (by injection e))
def yP{w:Wl}{b a i j:Nat}{v:Vl}(h:b≠a):(w.setCell (Ad b i) v).cell? (Ad a j)=w.cell? (Ad a j):=CR w _ _ v (λe=>h (by injection e))
def M7:(prog.info? 104).map (λi=>(i.zero,i.size,i.bytes))=some (some (.agg #[nS,nS]),2,48):=rR
def DK:(prog.info? 69).map (λi=>(i.zero,i.size,i.bytes))=some (some (.agg #[nS,Bf,nS]),3,56):=rR
def M8(n:Nat)(g:n<=1048576)w:(Instr.makeSlice 32 (Iv (n:Int)) (Iv (n:Int))).run prog w=.ok (Sl (Sm w.heap.size 0) n n) (w.alloc (Oc (madeCells #[nS,Bf,nS] (n*3)) 69)):=by
 let⟨i,d,b⟩:=Hn.1 DK;simp only[No]at b;obtain⟨f,e,c⟩:=b;have a:=run_make (P:=prog) w 32 69 i _ underlying32 d f .i64 .i64 n n oM (Ft _) (by rw[c];omega) oM;simp only[Pj,e]at a;exact a
section
open Go.RowKit Go.Deep
open M (OpD ug Gr uw EX ins)
def uyl(Q:Np)(w:Wl)(b o:Nat)(d:uw):Prop :=
 w.cell? (Ad b o)=some (Iv d.e)/\w.cell? (Ad b (o+1))=some (Iv d.f)/\w.cell? (Ad b (o+2))=some (Iv d.to) /\
  ∃sa sc,w.cell? (Ad b (o+3))=some (Sl sa d.sl sc)/\Ints Q .i64 w sa d.sl d.set
def Dz(Q:Np)(w:Wl)(a:Oa)(n:Nat)(R:Nat->uw):Prop :=
 n=0\/∃b off,a=some (Ad b off)/\Q b/\∀i,i<n->uyl Q w b (off+i*4) (R i)
def Dz.on{Q w w' a n R}(h:Dz Q w a n R)(k:zS Q w w'):Dz Q w' a n R:=by
 rcases h with h|⟨b,off,e,d,h⟩
 .exact .inl h
 have c:∀o,w'.cell? (Ad b o)=w.cell? (Ad b o):=λo=>Bd (a:=(Ad b o)) (k b d);refine .inr ⟨b,off,e,d,λi p=>?_⟩;let⟨f,g,j,sa,sc,l,m⟩:=h i p;exact⟨(c _).trans f,(c _).trans g,(c _).trans j,sa,sc,(c _).trans l,m.on k⟩
def Dz.h{Q w w' a n R}(h:Dz Q w a n R)(k:Bw w w'):Dz Q w' a n R:=by
 rcases h with h|⟨b,off,e,m,h⟩
 .exact .inl h
 refine .inr ⟨b,off,e,m,λi l=>?_⟩;let⟨c,d,f,sa,sc,g,j⟩:=h i l;exact⟨ue c k,ue d k,ue f k,sa,sc,ue g k,j.h k⟩
def Dz.g{Q Q' w a n R}(h:Dz Q w a n R)(k:∀b,Q b->Q' b):Dz Q' w a n R:=by
 rcases h with h|⟨b,off,e,o,h⟩
 .exact .inl h
 refine .inr ⟨b,off,e,k b o,λi m=>?_⟩;let⟨c,d,f,sa,sc,j,l⟩:=h i m;exact⟨c,d,f,sa,sc,j,l.g k⟩
def uth:(prog.info? 102).map (λi=>(i.zero,i.size,i.bytes))=some (some (.agg #[Iv 0,Iv 0,Iv 0,nS]),4,48):=rR
section
variable {H:Type} {enc:TypeId×Value->H} {w:Wl} {base:Nat} {spare:Nat->Bool} {held:Bool}
instance:Inhabited uw:=⟨ins 0 0 0⟩
end
def set3(w:Wl)(b o:Nat)(x y z:Int):Wl:=((w.setCell (Ad b o) (Iv x)).setCell (Ad b (o+1)) (Iv y)).setCell (Ad b (o+2)) (Iv z)
def from_(k:Int):Nat->Int:=λi=>k+i
end
open M (uw)
structure Cm where
 e:Int
 f:Int
 c:Int
def YZ(w:Wl)(b o:Nat)(d:Cm):Prop:=w.cell? (Ad b o)=some (Iv d.e)/\w.cell? (Ad b (o+1))=some (Iv d.f)/\w.cell? (Ad b (o+2))=some (Iv d.c)
def Ot(Q:Np)(w:Wl)(a:Oa)(n:Nat)(E:Nat->Cm):Prop :=
 n=0\/∃b off,a=some (Ad b off)/\Q b/\∀i,i<n->YZ w b (off+i*3) (E i)
def Ot.h{Q w w' a n R}(h:Ot Q w a n R)(k:Bw w w'):Ot Q w' a n R:=by
 rcases h with h|⟨b,off,e,d,h⟩
 .exact .inl h
 exact .inr ⟨b,off,e,d,λi c=>⟨ue (h i c).1 k,ue (h i c).2.1 k,ue (h i c).2.2 k⟩⟩
structure ZA where
 r:Int
 c:Int
 s:Int
 i:Int
 en:Nat
 ex:Nat->Int
 b:Int
 d:Int
 vn:Nat
 ev:Nat->Cm
def uym(o:ZA)(a:Oa)(e:Nat)(f:Oa)(g:Nat):Vl :=
 .agg #[Iv o.r,Iv o.c,Iv o.s,Iv o.i,Sl a o.en e,Iv o.b,Iv o.d,Sl f o.vn g]
def JV(Q:Np)(w:Wl)(a:Oa)(n:Nat)(E:Nat->Cm):Prop :=
 n=0\/∃b,a=some (Ad b 0)/\Q b/\(∀j,j<n*3->w.frozen? (Ad b j)=false)/\∀i,i<n->YZ w b (i*3) (E i)
def JV.ev{Q w a n R}(h:JV Q w a n R):Ot Q w a n R:=by
 rcases h with h|⟨b,e,d,f,h⟩
 .exact .inl h
 exact .inr ⟨b,0,e,d,λi c=>by rw[Bp];exact h i c⟩
def yj(S:Nat->Int)(b:Int):Nat->Bool
 |0=>false
 |m+1=>yj S b m||(decide (S (2*m)<=b)&&decide (b<=S (2*m+1)))
def vq(n:Nat)(S:Nat->Int)(b:Int):Bool:=yj S b (n / 2)
def BQ S b{m n}(h:m<=n)(k:yj S b m=true):yj S b n=true:=by
 induction n with
 |zero =>
  obtain rfl:m=0:=oM;exact k
 |succ n a =>
  by_cases e:m=n+1
  .subst e;exact k
  rw[yj,a oM];rfl
def JW(v:Bool)(w:Wl)(e:Ending)(w':Wl):Prop:=e=Rt (.bool v)/\w'=w
def JX(v:Vl)(w:Wl)(e:Ending)(w':Wl):Prop:=e=Rt v/\Bw w w'
def Sq(v:Bool)(w:Wl)(e:Ending)(w':Wl):Prop:=e=Rt (.bool v)/\Bw w w'
structure Cf where
 e:Int
 to:Int
 c:Nat
 a:Nat
structure zC where
 f:Int
 c:Nat
 st:List Cf
 a:List Cm
 i:Nat
 t:Nat->Bool
 b:Nat
 d:Nat
 e:Bool
 r:Int
 s:Int
def zC.j(s:zC):Bool:=s.st.any (λf=>f.e==1)
def zC.l(s:zC)(c:Int):zC:={ s with e:=true,r:=c }
def zC.m(s:zC)(f:Cf)(mO:Int):zC:=if (s.st.length:Int) ≥ mO then s.l 3 else { s with st:=s.st++[f] }
def vr:List Cf->Option (Cf×List Cf)
 |[]=>none
 |f::r=>if f.e=2 then vr r else some (f,r)
def zC.h(s:zC):zC :=
 match vr s.st.reverse with
 |none=>s.l 1
 |some (f,r)=>{ s with st:=r.reverse,c:=f.c,a:=s.a.take f.a,f:=f.to }
def ZJ(w:Wl)(b o:Nat)(f:Cf):Prop:=w.cell? (Ad b o)=some (Iv f.e)/\w.cell? (Ad b (o+1))=some (Iv f.to)/\w.cell? (Ad b (o+2))=some (Iv (f.c:Int))/\w.cell? (Ad b (o+3))=some (Iv (f.a:Int))
def FrA(w:Wl)(a:Oa)(l:List Cf):Prop :=
 l.length=0\/∃b,a=some (Ad b 0)/\∀i f,l[i]?=some f->ZJ w b (i*4) f
def uyn(w:Wl)(n:Nat)(S:Nat->Int)(b:Int)(i:Vl)(wr:Wl):Prop:=∃k:Nat,2*k<=n+1/\i=Iv (2*(k:Int))/\yj S b k=false/\wr=w
def qj Q a n c S b{w}(f:Ints Q .i64 w a n S)(E:n<=1048576) :
  Cs 181 #[Sl a n c,Iv b] w (JW (vq n S b) w):=by
 have r:=ua f;go_enter func181,ntmps181;go_wp2;go_loopw [5] (λi wr=>uyn w n S b i wr) (λi _=>n+1-(intOf i).toNat)
 .exact⟨0,oM,rfl,rfl,rfl⟩
 obtain⟨k,B,rfl,x,G⟩:=hrel;subst wr;have e:=ua x;by_cases D:2*k+1<n
 .rcases r.o with A|⟨z,off,rfl,F,f⟩
  .omega
  have s:=f (2*k) oM;have t:=f (2*k+1) oM;have y:(2*(k:Int))+1<(n:Int):=oM;have C:(2*(k:Int))<(n:Int):=oM;let⟨u,j⟩:=nm (S (2*k));let⟨v,l⟩:=nm (S (2*k+1));have g:=ua j;have h:=ua l;rw[j]at s;rw[l]at t;by_cases o:u<=b
  .by_cases p:b<=v
   .have d:Hid (vq n S b=true):=BQ S b (m:=k+1) oM (by rw[yj,g.o,h.o,e.o];simp[o,p]);go_wp2;go_ret;exact⟨by rw[d.o];rfl,rfl⟩
   have d:Hid (yj S b (k+1)=false):=(by show _=_;rw[yj,g.o,h.o,e.o];simp[p]);go_wp2;go_roundw
   .exact⟨k+1,oM,by go_num,d,rfl⟩
   simp[intOf];omega
  have d:Hid (yj S b (k+1)=false):=by show _=_;rw[yj,g.o,h.o,e.o];simp[o]
  go_wp2;go_roundw
  .exact⟨k+1,oM,by go_num,d,rfl⟩
  simp[intOf];omega
 have y:¬(2*(k:Int))+1<(n:Int):=oM;have d:Hid (vq n S b=false):=by
  show yj S b (n / 2)=false;by_cases q:yj S b (n / 2)=true
  .have:=BQ S b (show n / 2<=k by omega) q;rw[e.o]at this;cases this
  simpa using q
 go_wp2;go_ret;exact⟨by rw[d.o];rfl,rfl⟩
def zG(w:Wl)(b:Nat)(c:Av):Prop:=∃t,w.heap[b]?=some (Oc c t)
def zG.x{w b c}(h:zG w b c):(∀o,w.cell? (Ad b o)=c[o]?)/\(∀o,w.frozen? (Ad b o)=false)/\b<w.heap.size:=by
 obtain⟨t,h⟩:=h;exact⟨λo=>by simp only[World.cell?,h];rfl,λo=>by simp only[World.frozen?,h];simp,(Gw.1 h).1⟩
def zG.a{w w' b c}(h:zG w b c)(k:w'.heap[b]?=w.heap[b]?):zG w' b c:=let⟨t,h⟩:=h;⟨t,k.trans h⟩
def zG.on{w w' b c}(h:zG w b c)(k:Bw w w'):zG w' b c:=h.a (k.block b h.x.2.2)
def zG.al{w b c}(h:zG w b c)o:zG (w.alloc o) b c:=h.on (uk w o)
def zG.set{w b c}(h:zG w b c)i v:zG (w.setCell (Ad b i) v) b (c.setIfInBounds i v):=let⟨t,h⟩:=h;⟨t,by simp[World.setCell,Vf,h]⟩
def zG.i{w b c}(h:zG w b c)d i v(e:b≠d):zG (w.setCell (Ad d i) v) b c:=h.a (Bn e)
def um(w:Wl)(c:Av)(t:TypeId):zG (w.alloc (Oc c t)) w.heap.size c:=⟨t,Eo w _⟩
def Eb(w:Wl){c:Av}{t:TypeId}:=um w c t
def uW(w:Wl)(c:Av)(t:TypeId)(b:Nat)(a:b=w.heap.size):zG (w.alloc (Oc c t)) b c:=a▸um w c t
def Fl:Array Value:=#[Iv 0,Iv 0,nS,nS,Iv 0,nS,Iv 0,Iv 0,Bf,Iv 0,Iv 0]
def Ext{σ:Type}(J:σ->World->Prop):Prop:=∀s A E,J s A->Bw A E->J s E
def UV{σ:Type}(P:Program)(g:Nat)(lb:Av)(s0:σ)(a:σ->Prop)(b:σ->σ)(enc:σ->Array Value)(D:Np)(w:Wl):Prop :=
 ∀(l:Nat) (C:Np) (J:σ->World->Prop) (W:Wl),w.heap.size<=W.heap.size->(∀k,D k->W.heap[k]?=w.heap[k]?)->(∀k,D k->¬C k)->Ext J ->
  (∀s W1,J s W1->a s->YieldAt Fence.wide 0 P l (enc s) W1 λe W'=>e=Rt Bt/\J (b s) W'/\zA C W1 W') ->
  J s0 W ->
  CallsIn Fence.wide 0 P g (#[.func (.yield l) #[] #[]]++lb) W λe W'=>(∃v,e=Rt v)/\∃s,¬a s/\J s W'
def HZ{P σ g}{ps:Array Tmp}{d f Q a w gf lb}{s0:σ}{c m}{enc:σ->Array Value}{D}(F:a.eval g=.func (.func gf) #[] lb)(n:∀args w,(callFunc gf args).run P w=.ok (.enter gf args) w)(N:UV P gf lb s0 c m enc D w)(H:∀s,(enc s).size=ps.size)(i:∀k,D k->k<w.heap.size)C(x:∀k,D k->¬C k)(p:¬C w.heap.size)(t:¬C (w.heap.size+1))I(l:Uh w.heap.size I)(o:I s0 w)(L:HX P ps d f a w c m enc C I λ_ _=>False)(B:Dn P Q a w c I):(Code.rangeFunc g ps d f).wpIn Fence.wide 0 P Q a w :=
 UT F n H p t l (λ_ _ _ h _ _=>h) o (λu v W O y J h=>(N (w.heap.size+1) (λk=>C k\/k=w.heap.size+1) (λs A=>Lp w.heap.size u I s A) W oM (λk b=>y.block k (i k b)) (λk b z=>z.elim (x k b) (λe=>oH (i k b)))
  (λs A E q k=>⟨l _ _ _ q.1 (oH (yY q.2.2)) (zA.j k (λ_ h _=>h)),(k.block _ (yY q.2.1)).trans q.2.1,(k.block _ (yY q.2.2)).trans q.2.2⟩)
  (λs W1 q G=>(J s W1 q G).mono λe W' r=>r.elim id λr=>r.2.1.1.elim) h).mono λe W' r=>⟨r.1,.inl r.2⟩) L B (λ_ _ _ _ _ h _=>h.elim)
open Go.RowKit Go.Shelf
attribute [local go_sem] Oper.semAt_some
def nd(g:Gr)(p:Nat):ug:=if p<g.nr then g.a p else g.d (p-g.nr)
structure Flat(w:Wl)(ra la:Oa)(g:Gr)(rb ro lb lo:Nat)(na ba:Nat->Option Addr)(nc bc:Nat->Nat):Prop where
 ra:0<g.nr->ra=some (Ad rb ro)
 la:0<g.nb->la=some (Ad lb lo)
 r0:∀i,i<g.nr->w.cell? (Ad rb (ro+i*2))=some (Sl (na i) (nd g i).nl (nc i))
 r1:∀i,i<g.nr->w.cell? (Ad rb (ro+i*2+1))=some (Sl (ba i) (nd g i).bl (bc i))
 l0:∀i,i<g.nb->w.cell? (Ad lb (lo+i*3))=some (Sl (na (g.nr+i)) (nd g (g.nr+i)).nl (nc (g.nr+i)))
 l1:∀i,i<g.nb->w.cell? (Ad lb (lo+i*3+1))=some (.bool (g.d i).j)
 l2:∀i,i<g.nb->w.cell? (Ad lb (lo+i*3+2))=some (Sl (ba (g.nr+i)) (nd g (g.nr+i)).bl (bc (g.nr+i)))
def vY g{i}(h:i<g.nr):nd g i=g.a i:=by simp[nd,h]
def yZ g i:nd g (g.nr+i)=g.d i:=by unfold nd;rw[Zn oM,show g.nr+i-g.nr=i by omega]
def AU(g:Gr)(a rb lb:Nat)(k:Nat):Prop:=k=a\/(k=rb/\0<g.nr)\/(k=lb/\0<g.nb)
def Ul(g:Gr)(na ba:Nat->Option Addr)(nc bc:Nat->Nat)(p:Nat):Array Value:=#[Sl (na p) (nd g p).nl (nc p),Sl (ba p) (nd g p).bl (bc p)]
def VW(w W:Wl)(g:Gr)(a rb lb:Nat)(J:Nat->World->Prop)(from_ n:Nat)(i:Vl)(wr:Wl):Prop :=
 ∃p:Nat,p<=n/\i=Iv (p:Int)/\J (from_+p) wr/\W.heap.size<=wr.heap.size/\∀k,AU g a rb lb k->wr.heap[k]?=w.heap[k]?
def qM c ra la rc lc g rb F lb lo(na ba:Nat->Option Addr)nc bc w(h1:g.nr<=1048576)(h2:g.nb<=1048576)(N:w.cell? (Ad c 0)=some (Sl ra g.nr rc))(X:w.cell? (Ad c 1)=some (Sl la g.nb lc))(y:Flat w ra la g rb F lb lo na ba nc bc) :
  UV prog 148 #[.pointer (Sm c 0)] 0 (λp=>p<g.nr+g.nb) (λp=>p+1) (Ul g na ba nc bc) (AU g c rb lb) w:=by
 intro l C J W ac H U I L T;have ab:Fence.wide.depth=none:=rfl;have h:=ua y;have G:Hid (∀(wr m:Wl) (o:Obj),(∀k,AU g c rb lb k->wr.heap[k]?=w.heap[k]?)->zA C (wr.alloc o) m->∀k,AU g c rb lb k->m.heap[k]?=w.heap[k]?):=λwr m o b n k z=>by
  obtain⟨u,hu⟩:∃u,w.heap[k]?=some u:=by
   rcases z with rfl|⟨rfl,E⟩|⟨rfl,E⟩
   .exact⟨_,Qv (ud N)⟩
   .exact⟨_,Qv (ud (y.r0 0 E))⟩
   exact⟨_,Qv (ud (y.l0 0 E))⟩
  have Z:=yY ((b k z).trans hu);exact(n.d k sO (U k z)).trans ((Jo Z).trans (b k z))
 clear y;refine callsIn_of_wp func148 rfl trivial ?_ rfl;simp only[ntmps148,Ma,Db,Iw,Nat.reduceAdd,Nat.reduceSub,Nb,Nc,Nf,Nd,Hm,Fc];have ad:=(Bd (a:=(Ad c 0)) (H c (.inl rfl))).trans N
 gi_wp2
 gi_loopw [10] (λi wr=>VW w W g c rb lb J 0 g.nr i wr) (λi _=>g.nr-(intOf i).toNat)
 .exact⟨0,zK,rfl,T,zD,H⟩
 obtain⟨p,hp,rfl,f,v,b⟩:=hrel;rw[Bp]at f;by_cases r:p<g.nr
 .obtain rfl:=h.ra oM;have A:=(Bd (a:=(Ad rb (F+p*2))) (b rb (.inr (.inl ⟨rfl,oM⟩)))).trans (h.r0 p r);have R:=(Bd (a:=(Ad rb (F+p*2+1))) (b rb (.inr (.inl ⟨rfl,oM⟩)))).trans (h.r1 p r);have Y:=ud A;have s:=I p wr (wr.alloc (Oc #[Sl (na p) (nd g p).nl (nc p),Sl (ba p) (nd g p).bl (bc p)] 104)) f (zO wr);let⟨S,tmps,P,Q,x,t⟩:=L p _ s oM;unfold Ul at x;clear s
  gi_wp2
  refine t.mono ?_;clear t x;rintro e m ⟨rfl,D,n⟩;have B:=G.o wr m _ b n
  gi_wp2
  go_roundw
  .exact⟨p+1,oM,by go_num,by rw[Bp];exact D,zP (zP v sM) n.l,B⟩
  simp[intOf];omega
 have O:p=g.nr:=oM;rw[O]at f;clear O;have aa:=(Bd (a:=(Ad c 1)) (b c (.inl rfl))).trans X;let⟨V,eV⟩:=nm wr;subst wr
 gi_wp2
 gi_loopw [25] (λi wr=>VW w W g c rb lb J g.nr g.nb i wr) (λi _=>g.nb-(intOf i).toNat)
 .exact⟨0,zK,rfl,f,v,b⟩
 clear f v b aa;obtain⟨q,hq,rfl,f,v,b⟩:=hrel;by_cases r:q<g.nb
 .obtain rfl:=h.la oM;have A:=(Bd (a:=(Ad lb (lo+q*3))) (b lb (.inr (.inr ⟨rfl,oM⟩)))).trans (h.l0 q r);have R:=(Bd (a:=(Ad lb (lo+q*3+1))) (b lb (.inr (.inr ⟨rfl,oM⟩)))).trans (h.l1 q r);have c2:=(Bd (a:=(Ad lb (lo+q*3+2))) (b lb (.inr (.inr ⟨rfl,oM⟩)))).trans (h.l2 q r);have Y:=ud A;have s:=I (g.nr+q) wr (wr.alloc (Oc #[Sl (na (g.nr+q)) (nd g (g.nr+q)).nl (nc (g.nr+q)),Value.bool (g.d q).j,Sl (ba (g.nr+q)) (nd g (g.nr+q)).bl (bc (g.nr+q))] 69)) f (zO wr);let⟨S,tmps,P,Q,x,t⟩:=L (g.nr+q) _ s oM;unfold Ul at x;clear s
  gi_wp2
  refine t.mono ?_;clear t x;rintro e m ⟨rfl,D,n⟩;have B:=G.o wr m _ b n
  gi_wp2
  go_roundw
  .exact⟨q+1,oM,by go_num,D,zP (zP v sM) n.l,B⟩
  simp[intOf];omega
 gi_wp2
 go_end0;exact⟨⟨_,rfl⟩,g.nr+q,oM,f⟩
def IT{ra}{la}{nr}{rc}{a}{lc}{w} :
  CallsIn Fence.wide 0 prog 92 #[.agg #[Sl ra nr rc,Sl la a lc]] w λe w'=>e=Rt (.func (.func 148) #[] #[.pointer (Sm w.heap.size 0)])/\w'=w.alloc (Oc #[Sl ra nr rc,Sl la a lc] 34):=by
 refine callsIn_of_wp func92 rfl trivial ?_ rfl;simp only[ntmps92,Ma,Db,Iw,Nat.reduceAdd,Nat.reduceSub,Nb,Nc,Nf,Nd,Hm,Fc]
 gi_wp2
 go_ret;exact⟨rfl,rfl⟩
attribute [local go_sem] Oper.semAt_some
def Hz(g:Gr)(p:Nat):Nat:=M.sum (λi=>(nd g i).bl) p
def IY g p:Hz g (p+1)=Hz g p+(nd g p).bl:=rfl
structure Fa(w:Wl)(y:Nat)(s:Int)(x:Wl):Prop where
 f:∃v,x.cell? (Ad (y+1) 0)=some v
 c:x.frozen? (Ad (y+1) 0)=false
 a:x.cell? (Ad (y+1+1) 0)=some (Iv s)
 b:x.frozen? (Ad (y+1+1) 0)=false
 q:Below y w x
 l:y+4<=x.heap.size
def Fa.below{w y s x z}(h:Fa w y s x)(d:Below (y+4) x z):Fa w y s z :=
 ⟨h.f.imp λ_ e=>(d.cell (p:=⟨y+1,0,none⟩) (by show y+1<y+4;omega)).trans e,
  (d.frozen (p:=(Ad (y+1) 0)) (by show y+1<y+4;omega)).trans h.c,
  (d.cell (p:=(Ad (y+1+1) 0)) (by show y+1+1<y+4;omega)).trans h.a,
  (d.frozen (p:=(Ad (y+1+1) 0)) (by show y+1+1<y+4;omega)).trans h.b,h.q.trans (d.mono oM),zP h.l d.size⟩
def Fa.d{w y s s' x}(h:Fa w y s x)(g:y<=w.heap.size):Fa w y s' (x.setCell (Ad (y+1+1) 0) (Iv s')) :=
 ⟨h.f.imp λ_ e=>by rw[Bd (Na x ⟨y+1+1,0,none⟩ _ (y+1) sM)];exact e,
  Jn.trans h.c,Jm (by rw[h.a];rfl),Jn.trans h.b,
  h.q.setCell (p:=(Ad (y+1+1) 0)) (by show y<=y+1+1;omega) _,by simpa[World.setCell] using h.l⟩
def uw9(w:Wl)(g:Gr)(p:Nat)(x:Wl):Prop:=Fa w w.heap.size (Hz g p:Nat) x/\p<=g.nr+g.nb
def xB(W:Wl)(a b:Vl)(t:TypeId):(W.alloc (Oc #[a,b] t)).cell? (Ad W.heap.size 0)=some a/\(W.alloc (Oc #[a,b] t)).cell? (Ad W.heap.size 1)=some b:=by
 have h:=Eo W (Oc #[a,b] t);refine⟨?_,?_⟩<;>simp only[World.cell?,h]<;>rfl
def ufx ra la rc lc g rb J lb lo(na ba:Nat->Option Addr)nc bc w(h1:g.nr<=100)(h2:g.nb<=100)(Z:∀p,p<g.nr+g.nb->(nd g p).nl<=32)(ai:Hz g (g.nr+g.nb)<=2000)(u:∀W,Bw w W->Flat W ra la g rb J lb lo na ba nc bc) :
  CallsIn Fence.wide 0 prog 36 #[.agg #[Sl ra g.nr rc,Sl la g.nb lc]] w λe w'=>e=Rt Bf/\Bw w w':=by
 have ac:Fence.wide.depth=none:=rfl;have N:=ua u;have O:=ua Z;have G:0<g.nr->rb<w.heap.size:=λh=>ud ((u w (zH _)).r0 0 h);have F:0<g.nb->lb<w.heap.size:=λh=>ud ((u w (zH _)).l0 0 h);have o1':¬(100:Int)<(g.nr:Int):=oM;have o2':¬(100:Int)<(g.nb:Int):=oM;refine callsIn_of_wp_marks func36 rfl trivial ?_ rfl;simp only[ntmps36,Ma,Db,Iw,Nat.reduceAdd,Nat.reduceSub,Nb,Nc,Nf,Nd,Hm,Fc]
 gi_wp2_with (refine⟨trivial,?_⟩;gi_at_call 92;refine(IT).mono ?_;rintro e w' ⟨rfl,rfl⟩)
 let⟨o,m⟩:=nm ((((w.alloc (Oc #[Sl ra g.nr rc,Sl la g.nb lc] 34)).alloc (Oc #[Bf] 4)).alloc (Oc #[Value.int IntKind.i64 0] 3)).alloc (Oc #[Sl ra g.nr rc,Sl la g.nb lc] 34));have aj:o.heap.size=w.heap.size+4:=by rw[<-m];simp
 have y:Bw w o:=by rw[<-m];exact((((zH w).alloc zD _).alloc sM _).alloc sO _).alloc sO _
 have r:=jw (w.alloc (Oc #[Sl ra g.nr rc,Sl la g.nb lc] 34)) Bf 4;have z:=AJ (w.alloc (Oc #[Sl ra g.nr rc,Sl la g.nb lc] 34)) Bf 4;have v:=jw ((w.alloc (Oc #[Sl ra g.nr rc,Sl la g.nb lc] 34)).alloc (Oc #[Bf] 4)) (Iv 0) 3;have H:=AJ ((w.alloc (Oc #[Sl ra g.nr rc,Sl la g.nb lc] 34)).alloc (Oc #[Bf] 4)) (Iv 0) 3;have t:=xB (((w.alloc (Oc #[Sl ra g.nr rc,Sl la g.nb lc] 34)).alloc (Oc #[Bf] 4)).alloc (Oc #[Value.int IntKind.i64 0] 3)) (Sl ra g.nr rc) (Sl la g.nb lc) 34;simp only[Ck]at r z v H t;rw[m]at t;have ab:Fa w w.heap.size 0 o:=⟨⟨_,by rw[<-m];exact uG _ (uG _ r)⟩,by rw[<-m];exact Xd (uG _ r) (Xd r z),by rw[<-m];exact uG _ v,by rw[<-m];exact Xd v H,y,oM⟩;rw[m];refine HZ (gf:=148) (lb:=#[.pointer (Sm (w.heap.size+1+1+1) 0)]) rfl (enters_of func148 rR rfl)
  (qM (w.heap.size+1+1+1) ra la rc lc g rb J lb lo na ba nc bc o oM oM t.1 t.2 (N o y)) (λ_=>rfl) ?hD (λk=>k=w.heap.size+1\/k=w.heap.size+1+1) ?hCD oM oM (uw9 w g) ?hI ⟨ab,zK⟩ ?round ?done
 case hD =>
  rintro k (rfl|⟨rfl,n⟩|⟨rfl,n⟩)
  .omega
  .have:=G n;omega
  have:=F n;omega
 case hCD =>
  rintro k (rfl|⟨rfl,n⟩|⟨rfl,n⟩) hc
  .omega
  .have:=G n;omega
  have:=F n;omega
 case hI =>
  rintro s A E ⟨j,hp⟩ X D;exact⟨j.below (D.below oM (λk D=>oM)),hp⟩
 case round =>
  intro l' p x ae af Q Y;unfold Ul
  gi_wp2
  refine⟨Cc,Q,?_⟩;rintro x2 ad ah ⟨j,T⟩;let⟨rv,I⟩:=j.f;have k2:=j.c;have k3:=j.a;have k4:=j.b;have t2:=O p Y;have L:=M.cF (λi=>(nd g i).bl) (show p+1<=g.nr+g.nb by omega);rw[show M.sum (λi=>(nd g i).bl) (p+1)=Hz g p+(nd g p).bl from rfl,show M.sum (λi=>(nd g i).bl) (g.nr+g.nb)=Hz g (g.nr+g.nb) from rfl]at L;have P:=ua (Fa.d (s':=(Hz g p:Int)+((nd g p).bl:Int)) j zD);have t1':¬(2000:Int)<(Hz g p:Int)+((nd g p).bl:Int):=oM;have t2':¬(32:Int)<((nd g p).nl:Int):=oM;clear L
  gi_wp2
  exact⟨Dh (.inr rfl),P,oM⟩
 case done =>
  rintro d p x X ag ⟨j,T⟩ R;let⟨rv,I⟩:=j.f;have k2:=j.c
  gi_wp2
  have aa:d≠w.heap.size+1:=oM;have hK':(x.setCell (Ad (w.heap.size+1) 0) Bf).heap[d]?=some (.deferred (some [])):=(Na x (Ad (w.heap.size+1) 0) _ d aa).trans R;refine⟨sM,.inl ⟨_,_,rfl,run_takeDeferred hK',?_⟩⟩;have C:=qf (B:=w.heap.size+4) (x.setCell (Ad (w.heap.size+1) 0) Bf) (.deferred none) (d:=d) oM (by simpa[World.setCell] using j.l);have U:(x.setCell (Ad (w.heap.size+1) 0) Bf).cell? (Ad (w.heap.size+1) 0)=some Bf:=Jm (by rw[I];rfl);have V:=(C.cell (p:=(Ad (w.heap.size+1) 0)) (by show w.heap.size+1<_;omega)).trans U;have S:=(j.q.setCell (p:=(Ad (w.heap.size+1) 0)) (by show w.heap.size<=w.heap.size+1;omega) Bf).trans (C.mono oM);exact⟨Bf,by simp[results,f36,go_sem,V],rfl,S⟩
attribute [local go_sem] Oper.semAt_some
def uw2:(prog.info? 3).map (λi=>(i.zero,i.size,i.bytes))=some (some (Iv 0),1,8):=rR
def Xf(g:Gr)(p l:Nat):Prop:=∃q,q<p/\M.bQ (nd g q).bl (nd g q).e l
def VQ(g:Gr)(p k l:Nat):Prop:=Xf g p l\/M.bQ k (nd g p).e l
def VR(g:Gr):Prop:=∀p,p<g.nr+g.nb->∀i,i<(nd g p).bl->((nd g p).e i).e=3->0<=((nd g p).e i).f/\((nd g p).e i).f<g.nb
def Mt(x:Wl)(b a:Nat)(P:Np)(top:Nat):Prop :=
 ∃f:Nat->Nat,x.rowIs b 3 a (λi=>Iv (f i))/\(∀i,i<a->P i->f i≠0)/\∀i,i<a->f i<=top
def Mt.d{x}{b g top a:Nat}{P}(h:Mt x b g P top)(k:a<g){z:Nat}(n:x.cell? (Ad b a)=some (Iv (z:Int))) :
  Mt (x.setCell (Ad b a) (Iv ((z:Int)+1))) b g (λi=>P i\/i=a) (top+1):=by
 obtain⟨f,j,l,m⟩:=h;have o:(f a:Int)=z:=by
  have:=j.cell k;rw[n]at this;simp at this;omega
 refine⟨λi=>if i=a then f a+1 else f i,(j.set a _).congr λi c=>?_,λi c q=>?_,λi c=>?_⟩
 .by_cases e:i=a
  .subst e;simp;omega
  simp[e]
 .by_cases e:i=a
  .subst e;simp
  simp[e];exact l i c (q.resolve_right e)
 have:=m i c;by_cases e:i=a
 .subst e;simp;omega
 simp[e];omega
def Mt.e{x b c top g P d}(h:Mt x b c P top)(e:∀i,i<c->d i->P i)(m:top<=g):Mt x b c d g:=by
 obtain⟨f,l,k,j⟩:=h;exact⟨f,l,λi a q=>k i a (e i a q),λi a=>zP (j i a) m⟩
def Mt.a{x z b c top P}(h:Mt x b c P top)(e:z.heap[b]?=x.heap[b]?):Mt z b c P top:=by
 obtain⟨f,i,g,d⟩:=h;exact⟨f,i.of_block e,g,d⟩
def uiY B l:¬M.bQ 0 B l:=by rintro⟨i,a,_⟩;omega
def VS{k B l}(h:M.bQ (k+1) B l):M.bQ k B l\/((B k).e=3/\(B k).f=l):=by
 obtain⟨i,a,h⟩:=h;by_cases e:i=k
 .subst e;exact .inr h
 exact .inl ⟨i,oM,h⟩
def ufv{g p l}(h:Xf g (p+1) l):VQ g p (nd g p).bl l:=by
 obtain⟨q,a,h⟩:=h;by_cases e:q=p
 .subst e;exact .inr h
 exact .inl ⟨q,oM,h⟩
structure Dv(w:Wl)(y:Nat)(ra la:Oa)(nr rc nb lc:Nat)(P:Np)(top:Nat)(x:Wl):Prop where
 c:x.cell? (Ad y 0)=some (Sl ra nr rc)
 b:x.cell? (Ad y 1)=some (Sl la nb lc)
 sl:x.cell? (Ad (y+1+1) 0)=some (Sl (Sm (y+1) 0) nb nb)
 a:Mt x (y+1) nb P top
 q:Below y w x
 l:y+4<=x.heap.size
def Dv.below{w y ra la nr rc e lc P top x z}(h:Dv w y ra la nr rc e lc P top x)(d:Below (y+4) x z):Dv w y ra la nr rc e lc P top z :=
 ⟨(d.cell (p:=(Ad y 0)) (by show y<y+4;omega)).trans h.c,(d.cell (p:=(Ad y 1)) (by show y<y+4;omega)).trans h.b,
  (d.cell (p:=(Ad (y+1+1) 0)) (by show y+1+1<y+4;omega)).trans h.sl,h.a.a (d.block _ oM),h.q.trans (d.mono oM),zP h.l d.size⟩
def Dv.e{w y ra la nr rc d lc P f top g x}(h:Dv w y ra la nr rc d lc P top x)(e:∀i,i<d->f i->P i)(j:top<=g):Dv w y ra la nr rc d lc f g x :=
 ⟨h.c,h.b,h.sl,h.a.e e j,h.q,h.l⟩
def Dv.d{w}{y:Nat}{ra la}{nr rc e lc:Nat}{P}{top:Nat}{x}(h:Dv w y ra la nr rc e lc P top x){a:Nat}(f:a<e){z:Nat}(g:x.cell? (Ad (y+1) a)=some (Iv (z:Int))) :
  Dv w y ra la nr rc e lc (λi=>P i\/i=a) (top+1) (x.setCell (Ad (y+1) a) (Iv ((z:Int)+1))) :=
 ⟨by rw[Bd (Na x ⟨y+1,a,none⟩ _ y sM)];exact h.c,
  by rw[Bd (Na x (Ad (y+1) a) _ y sM)];exact h.b,
  by rw[Bd (Na x (Ad (y+1) a) _ (y+1+1) sM)];exact h.sl,
  h.a.d f g,h.q.setCell (p:=(Ad (y+1) a)) (by show y<=y+1;omega) _,by simpa[World.setCell] using h.l⟩
def uvu(w:Wl)(ra la:Oa)(rc lc:Nat)(g:Gr)(p:Nat)(x:Wl):Prop:=Dv w w.heap.size ra la g.nr rc g.nb lc (Xf g p) (Hz g p) x/\p<=g.nr+g.nb
def uvv(w a:Wl)(ra la:Oa)(rc lc:Nat)(g:Gr)(p:Nat)(i:Vl)(wr:Wl):Prop :=
 ∃k:Nat,k<=(nd g p).bl/\i=Iv (k:Int)/\Dv w w.heap.size ra la g.nr rc g.nb lc (VQ g p k) (Hz g p+k) wr/\zA (λb=>b=w.heap.size+1) a wr
def ueK Q ra la rc lc g rb ro lb lo(na ba:Nat->Option Addr)nc bc w(T:vS g)(hF:∀W,Bw w W->Flat W ra la g rb ro lb lo na ba nc bc)(hO:∀p,p<g.nr+g.nb->zM Q w (ba p) (nd g p).bl (nd g p).e)(hA:VR g)(a3:Hz g (g.nr+g.nb)<=2000)(hM:∀i,i<g.nb->(g.d i).j=false->Xf g (g.nr+g.nb) i) :
  CallsIn Fence.wide 0 prog 95 #[.agg #[Sl ra g.nr rc,Sl la g.nb lc]] w (Ov w):=by
 have a7:Fence.wide.depth=none:=rfl;have h1:=T.nr;have h2:=T.nb;have HF:=ua hF;have HO:=ua hO;have am:=ua hA;have ao:=ua hM;have az:∀p,p<g.nr+g.nb->(nd g p).bl<=1048576/\Hz g p+(nd g p).bl<=2000:=λp J=>by
  refine⟨?_,?_⟩
  .unfold nd;split
   .exact(T.a p oM).e.1
   exact(T.d (p-g.nr) oM).e.1
  rw[<-IY];exact zP (M.cF _ oM) a3
 have HS:=ua az;have aj:0<g.nr->rb<w.heap.size:=λh=>ud ((hF w (zH _)).r0 0 h);have ai:0<g.nb->lb<w.heap.size:=λh=>ud ((hF w (zH _)).l0 0 h);have bd:=run_make_row' (P:=prog) 25 3 (Iv 0) 8 underlying25 uw2 rfl .i64 .i64 g.nb oM oM;refine callsIn_of_wp_marks func95 rfl trivial ?_ rfl;simp only[ntmps95,Ma,Db,Iw,Nat.reduceAdd,Nat.reduceSub,Nb,Nc,Nf,Nd,Hm,Fc]
 gi_wp2_with (refine⟨trivial,?_⟩;gi_at_call 92;refine(IT).mono ?_;rintro e w' ⟨rfl,rfl⟩)
 let⟨F,t⟩:=nm ((((w.alloc (Oc #[Sl ra g.nr rc,Sl la g.nb lc] 34)).alloc (Oc (madeCells #[Value.int IntKind.i64 0] g.nb) 3)).alloc (Oc #[Sl (some ⟨w.heap.size+1,0,none⟩) g.nb g.nb] 25)).alloc (Oc #[Sl ra g.nr rc,Sl la g.nb lc] 34));have bg:F.heap.size=w.heap.size+4:=by rw[<-t];simp
 have af:Bw w F:=by rw[<-t];exact((((zH w).alloc zD _).alloc sM _).alloc sO _).alloc sO _
 have u:=xB w (Sl ra g.nr rc) (Sl la g.nb lc) 34;have hm:=Kh (w.alloc (Oc #[Sl ra g.nr rc,Sl la g.nb lc] 34)) (Iv 0) g.nb 3;have y:=jw ((w.alloc (Oc #[Sl ra g.nr rc,Sl la g.nb lc] 34)).alloc (Oc (madeCells #[Value.int IntKind.i64 0] g.nb) 3)) (Sl (Sm (w.heap.size+1) 0) g.nb g.nb) 25;have U:=xB (((w.alloc (Oc #[Sl ra g.nr rc,Sl la g.nb lc] 34)).alloc (Oc (madeCells #[Value.int IntKind.i64 0] g.nb) 3)).alloc (Oc #[Sl (Sm (w.heap.size+1) 0) g.nb g.nb] 25)) (Sl ra g.nr rc) (Sl la g.nb lc) 34;simp only[Ck]at u hm y U;rw[t]at U;have a5:Dv w w.heap.size ra la g.nr rc g.nb lc (Xf g 0) (Hz g 0) F:=by
  rw[<-t];refine⟨uG _ (uG _ (uG _ u.1)),uG _ (uG _ (uG _ u.2)),uG _ y,⟨λ_=>0,((hm.alloc _).alloc _).congr λi D=>rfl,λi D ⟨q,hq,_⟩=>aB hq (Ge _),λi D=>zK⟩,by rw[t];exact af,by rw[t];omega⟩
 rw[t];refine HZ (gf:=148) (lb:=#[.pointer (Sm (w.heap.size+1+1+1) 0)]) rfl (enters_of func148 rR rfl)
  (qM (w.heap.size+1+1+1) ra la rc lc g rb ro lb lo na ba nc bc F h1 h2 U.1 U.2 (HF F af)) (λ_=>rfl) ?hD (λk=>k=w.heap.size+1) ?hCD oM oM (uvu w ra la rc lc g) ?hI ⟨a5,zK⟩ ?round ?done
 case hD =>
  rintro k (rfl|⟨rfl,v⟩|⟨rfl,v⟩)
  .omega
  .have:=aj v;omega
  have:=ai v;omega
 case hCD =>
  rintro k (rfl|⟨rfl,v⟩|⟨rfl,v⟩) hc
  .omega
  .have:=aj v;omega
  have:=ai v;omega
 case hI =>
  rintro s A E ⟨n,J⟩ R hk;exact⟨n.below (hk.below oM (λk hk=>oM)),J⟩
 case round =>
  intro l' p x a9 bb ap o;unfold Ul
  gi_wp2
  refine⟨Cc,ap,?_⟩;rintro x2 a8 bf ⟨n,ax⟩;let⟨b1,b2⟩:=HS p o;have V:=ua n
  gi_wp2
  gi_loopw [20] (λi wr=>uvv w x2 ra la rc lc g p i wr) (λi _=>(nd g p).bl-(intOf i).toNat)
  .exact⟨0,zK,rfl,V.e (λi D h=>h.elim id (λq=>aB q (uiY _ _))) zD,Cc⟩
  obtain⟨k,hk,rfl,n,ag⟩:=hrel;by_cases ah:k<(nd g p).bl
  .have Z:=(HO p o).h n.q;rcases Z with h0|⟨b,off,au,hq,Z⟩
   .omega
   let⟨G,⟨sa,sc,H,a4⟩,X⟩:=Z k ah;have av:=ud G;have aa:=am p o k ah;let⟨d,R⟩:=nm ((nd g p).e k);have HD:=ua R;rw[R]at G H X aa;obtain⟨kd,sl,S,a6⟩:=d;simp only at G H X aa;have ac:=ua ag;have ae:=ua n;have g2:=n.sl;have al:=n.l;rw[au];by_cases Y:kd=3
   .subst Y;let⟨a0,a1⟩:=aa rfl;obtain⟨a,rfl⟩:=Rb a0;have u:a<g.nb:=oM;let⟨f,y,J,ht⟩:=n.a;have L:=y.cell u;have g4:=y.frozen a;have g5:=ht a u;generalize f a=z at L g5;have l1:w.heap.size+1<wr.heap.size:=oM;have l2:w.heap.size+1+1<wr.heap.size:=oM;have ha':(a:Int)<(g.nb:Int):=oM;have a2:=(ae.d u L);have ad:=ua a2
    gi_wp2
    go_roundw
    .refine⟨k+1,oM,by go_num,?_,?_⟩
     .refine(ad.below ((zH _).alloc (oH ad.l) _)).e (λi D q=>?_) oM;rcases q with h|h
      .exact .inl (.inl h)
      rcases VS h with h|h
      .exact .inl (.inr h)
      rw[HD.o]at h;have:=h.2;exact .inr (by simp only at this;omega)
     exact ac.c ((zA.b (C:=λb=>b=w.heap.size+1) wr (Ad (w.heap.size+1) a) _ rfl).c zY)
    simp[intOf];omega
   have f3:(kd==3)=false:=(by simp[Y]);have E3:=ua Y
   gi_wp2
   go_roundw
   .exact⟨k+1,oM,by go_num,(ae.below ((zH wr).alloc oM _)).e (λi D h=>h.imp id (λq=>(VS q).elim id (λr=>aB (by rw[HD.o]at r;exact r.1) E3))) oM,ac.c zY⟩
   simp[intOf];omega
  obtain rfl:k=(nd g p).bl:=oM
  gi_wp2
  exact⟨ag,n.e (λi D=>ufv) zD,oM⟩
 case done =>
  rintro d p x R be ⟨n,ax⟩ hK;obtain rfl:p=g.nr+g.nb:=oM;have ay:=(Gw.1 hK).1;have g0:=n.c;have g1:=n.b;have g2:=n.sl;have al:=n.l;have V:=ua n
  gi_wp2
  gi_loopw [38] (λi wr=>Ye x g.nb i wr) (λi _=>g.nb-(intOf i).toNat)
  .exact⟨0,zK,rfl,zH _⟩
  obtain⟨m,hm,rfl,O⟩:=hrel;have ab:=ua O;have a4:=O.size;have aq:=(O.block d ay).trans hK;have n:=V.below (O.mono al);have an:=ua n.q;have g2:=n.sl;have l1:w.heap.size+1<wr.heap.size:=oM;have l2:w.heap.size+1+1<wr.heap.size:=oM;by_cases o:m<g.nb
  .have N:=HF wr n.q;obtain rfl:=N.la oM;have G:=N.l0 m o;have H:=N.l1 m o;have X:=N.l2 m o;have av:=ud G;have hlt':(m:Int)<(g.nb:Int):=oM;let⟨f,y,J,ht⟩:=n.a;have L:=y.cell o;have ak:=J m o;generalize f m=z at L ak;have HP:=ua ak;cases I:(g.d m).j with
   |true =>
    have HH:=ua I;rw[I]at H
    gi_wp2
    go_roundw
    .exact⟨m+1,oM,by go_num,uf ab (zO wr)⟩
    simp[intOf];omega
   |false =>
    have HH:=ua I;rw[I]at H;have hz:z≠0:=HP.o (ao.o m o I);have hz':((z:Int)==0)=false:=sO;clear hz
    gi_wp2
    go_roundw
    .exact⟨m+1,oM,by go_num,uf ab (zO wr)⟩
    simp[intOf];omega
  obtain rfl:m=g.nb:=oM
  gi_wp2
  refine⟨sM,.inl ⟨_,_,rfl,run_takeDeferred aq,?_⟩⟩;have aw:=qf (B:=w.heap.size) wr (.deferred none) (d:=d) oM oM;exact⟨Bt,by simp[results,f95,go_sem],rfl,an.trans aw⟩
def VT Q a n c T w(f:Ints Q .u8 w a n T)(s:∀i,i<n->0<=T i/\T i<=255)(A:n<=1048576)(h:M.NameB n T) :
  Cs 149 #[Sl a n c] w λe w'=>e=Rt Bt/\w=w':=by
 obtain⟨o,p,q⟩:=h;rcases f with y|⟨b,off,rfl,C,f⟩
 .omega
 have m:=ua f;have u:=ua o;have v:=ua q;clear o q f;go_enter func149,ntmps149;go_wp2;go_loopw [7] (λi wr=>∃k:Nat,k<=n/\i=Iv k/\wr=w) (λi _=>n-(intOf i).toNat)
 .exact⟨0,zK,rfl,rfl⟩
 obtain⟨k,z,rfl,rfl⟩:=hrel;by_cases g:k<n
 .have t:=m.o k g;let⟨j,l⟩:=s k g;go_wp2_with (go_at_call 192;refine(jD (T k) _ j l).mono ?_;rintro e W ⟨⟨r,rfl,d⟩,x⟩;subst W;obtain rfl:r=true:=d.2 (u.o k g);clear d);go_roundw
  .exact⟨k+1,oM,by go_num,by trivial⟩
  simp[intOf];omega
 obtain rfl:k=n:=oM;have t:=m.o 0 p;rw[Dy]at t;let⟨j,l⟩:=s 0 p;have B:(0:Int)<(k:Int):=oM;go_wp2_with (go_at_call 191;refine(xp (T 0) j l).mono ?_;rintro e W ⟨⟨r,rfl,d⟩,x⟩;subst W;obtain rfl:r=true:=d.2 v.o;clear d);go_ret;exact⟨rfl,rfl⟩
def ukR n T(a:0<n)(b:n<=32)(c:M.bD (T 0)):M.bU n T↔∀i,i<n->M.bD (T i)\/M.bK (T i) :=
 ⟨λq=>q.2.1,λq=>⟨b,q,a,c⟩⟩
def IS Q a n c T w(o:Ints Q .u8 w a n T)(x:∀i,i<n->0<=T i/\T i<=255)(J:n<=1048576) :
  Cs 113 #[Sl a n c] w (Gu (M.bU n T) w):=by
 by_cases B:n=0
 .subst B;go_enter func113,ntmps113;go_wp2;go_ret;exact⟨⟨false,rfl,xU λq=>by have:=q.2.2.1;omega⟩,rfl⟩
 have O:¬(n:Int)<1:=oM;by_cases G:32<n
 .have E:(32:Int)<n:=oM;go_enter func113,ntmps113;go_wp2;go_ret;exact⟨⟨false,rfl,xU λq=>by have:=q.1;omega⟩,rfl⟩
 have E:¬(32:Int)<n:=oM;rcases o with F|⟨b,off,rfl,N,o⟩
 .omega
 have D:=o 0 oM;rw[Dy]at D;let⟨A,y1⟩:=x 0 oM;have L:(0:Int)<(n:Int):=oM;rcases Classical.em (¬M.bD (T 0)) with t|t
 .have f:Hid (¬M.bD (T 0)):=t;go_enter func113,ntmps113;go_wp2_with (go_at_call 170;refine(vm (T 0) A y1).mono ?_;rintro e W ⟨⟨r,rfl,d⟩,g⟩;subst W;obtain rfl:r=false:=by { cases r;rfl;exact aB (d.1 rfl) f };clear d);go_ret;exact⟨⟨false,rfl,xU λq=>f q.2.2.2⟩,rfl⟩
 have v:=ua (Classical.not_not.1 t);go_enter func113,ntmps113;go_wp2_with (go_at_call 170;refine(vm (T 0) A y1).mono ?_;rintro e W ⟨⟨r,rfl,d⟩,g⟩;subst W;obtain rfl:r=true:=d.2 v;clear d);go_loopw [3] (λi wr=>∃k:Nat,k<=n/\i=Iv k/\wr=w/\∀j,j<k->M.bD (T j)\/M.bK (T j)) (λi _=>n-(intOf i).toNat)
 .exact⟨0,zK,rfl,rfl,λj s=>aB s (Ge _)⟩
 obtain⟨k,I,rfl,rfl,C⟩:=hrel;have p:=ua C;by_cases u:k<n
 .have H:=o k u;let⟨l,m⟩:=x k u;by_cases z:M.bD (T k)
  .have f:Hid (M.bD (T k)):=z;go_wp2_with (go_at_call 170;refine(vm (T k) l m).mono ?_;rintro e W ⟨⟨r,rfl,d⟩,g⟩;subst W;obtain rfl:r=true:=d.2 f;clear d);go_roundw
   .exact⟨k+1,oM,by go_num,by trivial,λj s=>if e:j=k then e▸.inl f else p j oM⟩
   simp[intOf];omega
  have f:=ua z;by_cases y:M.bK (T k)
  .have h:Hid (M.bK (T k)):=y;go_wp2_with (first|(go_at_call 170;refine(vm (T k) l m).mono ?_;rintro e W ⟨⟨r,rfl,d⟩,g⟩;subst W;obtain rfl:r=false:=by { cases r;rfl;exact aB (d.1 rfl) f };clear d)|(go_at_call 171;refine(jC (T k) l m).mono ?_;rintro e W ⟨⟨r,rfl,d⟩,g⟩;subst W;obtain rfl:r=true:=d.2 h;clear d));go_roundw
   .exact⟨k+1,oM,by go_num,by trivial,λj s=>if e:j=k then e▸.inr h else p j oM⟩
   simp[intOf];omega
  have h:Hid (¬M.bK (T k)):=y;go_wp2_with (first|(go_at_call 170;refine(vm (T k) l m).mono ?_;rintro e W ⟨⟨r,rfl,d⟩,g⟩;subst W;obtain rfl:r=false:=by { cases r;rfl;exact aB (d.1 rfl) f };clear d)|(go_at_call 171;refine(jC (T k) l m).mono ?_;rintro e W ⟨⟨r,rfl,d⟩,g⟩;subst W;obtain rfl:r=false:=by { cases r;rfl;exact aB (d.1 rfl) h };clear d));go_ret;exact⟨⟨false,rfl,xU λq=>(q.2.1 k u).elim f h⟩,rfl⟩
 obtain rfl:k=n:=oM;go_wp2;go_ret;exact⟨⟨true,rfl,Qp ((ukR _ _ oM oM v).2 p)⟩,rfl⟩
open Go.RowKit Go.Maps
def VU:Keyed prog 9:=string_keyed underlying9
def ulv w:(zeroValue 3).run prog w=.ok (Iv 0) w:=rR
def Ey(D:DataW Unit)(R:Nat->ug)(k:Nat):Prop:=∀l:List UInt8,Maps.has D (.string l)=true->∃j,j<k/\Ek (R j).nl (R j).f=l
def Ey.a{D:DataW Unit}{R k}(h:Ey D R k)(d:DataW Unit):Ey (D.put (.string (Ek (R k).nl (R k).f)) d) R (k+1):=λl q=>by
 by_cases e:Ek (R k).nl (R k).f=l
 .exact⟨k,oM,e⟩
 rw[has_put_other (by intro q;injection q with q;exact e q.symm)]at q;let⟨j,b,q⟩:=h l q;exact⟨j,oM,q⟩
def VV{a}{b}(c:Cz a.nl a.f)(d:Cz b.nl b.f):Ek a.nl a.f=Ek b.nl b.f↔M.cR a b:=KV _ _ _ _ c d
structure uw4(w:Wl)(y:Nat)(ra la:Oa)(nr rc nb lc:Nat)(R:Nat->ug)(k:Nat)(x:Wl):Prop where
 c:x.cell? (Ad y 0)=some (Sl ra nr rc)
 b:x.cell? (Ad y 1)=some (Sl la nb lc)
 a:∃D:DataW Unit,x.ownsMap prog 9 (plainElem prog 3) (y+1) k D/\Ey D R k
 q:Bw w x
 l:y+2<=x.heap.size
def uhm Q ra la rc lc g w(hG:Ca Q w ra la g)(hs:vS g)(B:M.Valid g) :
  Cs 93 #[.agg #[Sl ra g.nr rc,Sl la g.nb lc]] w (Ov w):=by
 have Y:=ua B.rn;have Z:=ua B.ru;have V3:=ua B.ln;have V4:=ua B.la;clear B;obtain⟨nr,R,t,L⟩:=g;obtain⟨x,v⟩:=hG;obtain⟨h1,h2,N,O⟩:=hs;simp only at x v h1 h2 N O Y Z V3 V4 ⊢;have HR:=ua x;have HL:=ua v;have G:=ua N;have I:=ua O;clear x v N O;have a1:=@run_makeMap prog;go_enter func93,ntmps93;go_wp2;go_loopw [14] (λi wr=>∃k:Nat,k<=nr/\i=Iv k/\uw4 w w.heap.size ra la nr rc t lc R k wr) (λi _=>nr-(intOf i).toNat)
 .have ha:=xB w (Sl ra nr rc) (Sl la t lc) 34;refine⟨0,zK,rfl,⟨uG _ ha.1,uG _ ha.2,⟨.map [],?_,λl h=>by simp[Maps.has]at h⟩,Bm w,sM⟩⟩;have:=World.ownsMap_made (H:=Unit) (w.alloc (Oc #[Sl ra nr rc,Sl la t lc] 34)) prog 9 (plainElem prog 3);rwa [Ck]at this
 obtain⟨k,hk,rfl,u⟩:=hrel;have g0:=u.c;have g1:=u.b;have a3:=u.l;have l0:w.heap.size<wr.heap.size:=oM;have l1:w.heap.size+1<wr.heap.size:=oM;by_cases n:k<nr
 .rcases HR.h u.q with h0|⟨b,off,rfl,hq,x⟩
  .omega
  let⟨⟨na,nc,E,A⟩,⟨ba,bc,c1,hb⟩⟩:=x k n;have ap:=ud E;let⟨D,af,ac⟩:=u.a;have S:=ua ac;have ak:=ua u.q;have av:=(G.o k n).f;have y:=ua ((G.o k n).h);have al:=ua A;have aq:∀o,(convert 22 9 (Sl na (R k).nl nc)).run prog (wr.alloc o)=.ok (.string (str (R k).nl (R k).f)) (wr.alloc o):=λo=>vg Q na (R k).nl nc (R k).f _ (A.h (uk wr o));have ad:(str (R k).nl (R k).f).size<=maxLen:=by rw[qo];unfold maxLen;omega
  have F:Hid ((str (R k).nl (R k).f).data.toList=Ek (R k).nl (R k).f):=xV;generalize str (R k).nl (R k).f=s at aq ad F;have au:=Go.WideMaps.keyOf_string_mk underlying9 ad;have V:=ua af;have U:=ua au;have hh:Maps.has D (.string s.data.toList)=false:=by
   cases hh:Maps.has D (.string s.data.toList) with
   |false=>rfl
   |true =>
    let⟨j,hj,e⟩:=S.o _ hh;rw[F.o]at e;exact aB ((VV y.o (G.o j oM).h).1 e.symm) (Z.o k n j hj)
  clear x A hb ac af;go_wp2_with (first|(at_lookup;refine wpList_lookup_own_ok_int _ rfl _ _ 82 rfl 9 3 .i64 VU underlying82 underlying3 (ulv _) (w.heap.size+1) k D rfl (V.alloc _) _ _ rfl U ?_;intro c an aw;clear an aw)|(go_at_call 149;refine(VT Q na (R k).nl nc (R k).f _ (al.o.h (zO wr)) y av (Y.o k n).2).mono ?_;rintro e W ⟨rfl,hw⟩;subst W)|(at_mapUpdate;refine wpList_mapUpdate_own _ rfl _ _ _ 82 rfl 9 3 VU underlying82 _ (w.heap.size+1) k D rfl (V.alloc _) (by unfold maxLen;omega) _ _ _ rfl rfl U _ [] (plainElem_int underlying3 (WalkArith.wf_i64 oM)) ?_;intro w1 ag ab;have am:Hid _:=ag;have C:Hid _:=ab;clear ag ab));have bb:=(uf ak (zO wr)).grown C sO (λr e=>by cases e;omega);have ss:=C.size;simp only[Ck]at ss;exact⟨⟨k+1,oM,by go_num,⟨(Bd (C.block w.heap.size sO sM)).trans (uG _ g0),(Bd (C.block w.heap.size sO sM)).trans (uG _ g1),⟨_,am,by rw[F.o];exact S.o.a _⟩,bb,oM⟩⟩,by simp[intOf];omega⟩
 let⟨W1,eW⟩:=nm wr;subst wr;have aj:=ua u.q;have HL':=ua (HL.h u.q);go_wp2;go_loopw [43] (λi ax=>Ye W1 t i ax) (λi _=>t-(intOf i).toNat)
 .exact⟨0,zK,rfl,zH _⟩
 obtain⟨m,hm,rfl,z⟩:=hrel;have P:=ua z;have e0:=ue g0 z;have e1:=ue g1 z;have a0:=ud e0;by_cases n:m<t
 .rcases HL'.h z with h0|⟨b,off,rfl,hq,v⟩
  .omega
  let⟨⟨na,nc,E,A⟩,c1,⟨ba,bc,c2,hb⟩⟩:=v m n;have ap:=ud E;have y:=ua ((I.o m n).h);have hI:∀o d,Ints Q .u8 ((wr.alloc o).drewN d) na (L m).nl (L m).f:=λo d=>A.h (Be (uk wr o) d);have T:=ua hI;have X:Hid (∀o d,Cs 149 #[Sl na (L m).nl nc] ((wr.alloc o).drewN d) λe w'=>e=Rt Bt/\w'=(wr.alloc o).drewN d):=λo d =>
   (VT Q na (L m).nl nc (L m).f _ (T.o o d) y.o (I.o m n).f (V3.o m n).2).mono (λe W h=>⟨h.1,h.2.symm⟩)
  by_cases hz:m=0
  .subst hz;simp only[Gf,Dy]at E c1 c2;go_wp2_with fail;go_quiet (first|(go_at_call 149;exact Ho (X _ _)));go_wp2;go_roundw
   .exact⟨1,oM,by go_num,uf P (Be (zO wr) _)⟩
   simp[intOf];omega
  obtain⟨p,hp⟩:∃p,m=p+1:=⟨m-1,oM⟩;have em:(m:Int)-1=(p:Int):=oM;have a2:0<m:=oM;have hmp':(0:Int)<(m:Int):=oM;have ah:p<t:=oM;have hpl':(p:Int)<(t:Int):=oM;let⟨⟨J,ai,d0,ae⟩,d1,⟨ay,az,d2,ao⟩⟩:=v p ah;have hI':∀o d,Ints Q .u8 ((wr.alloc o).drewN d) J (L p).nl (L p).f:=λo d=>ae.h (Be (uk wr o) d);let⟨r,r1,r2,r3,aa⟩:=ujE (L p).nl (L m).nl (L p).f (L m).f (I.o p ah).h y;have HC:Hid (∀o d,Cs 150 #[Sl J (L p).nl ai,Sl na (L m).nl nc] ((wr.alloc o).drewN d) λe w'=>e=Rt (Iv r)/\w'=(wr.alloc o).drewN d):=λo d=>aa Q J na ai nc _ (hI' o d) (T o d);have hr':¬(0:Int)<=r:=by
   have:=r3.2 (by have:=V4.o m n oM;rwa [show m-1=p by omega]at this);omega
  clear v ae ao hI' aa r3 hz hp;go_wp2_with fail;go_quiet (first|(go_at_call 149;exact Ho (X _ _))|(go_at_call 150;exact Ho (HC _ _)));go_wp2;go_roundw
  .exact⟨m+1,oM,by go_num,uf P (Be (zO wr) _)⟩
  simp[intOf];omega
 obtain rfl:m=t:=oM;go_wp2;go_ret;exact⟨rfl,uf aj z⟩
def D4 g:∀m,Hz g (g.nr+m)=M.sum (λi=>(g.a i).bl) g.nr+M.sum (λi=>(g.d i).bl) m
 |0=>by
  have:∀n,n<=g.nr->Hz g n=M.sum (λi=>(g.a i).bl) n:=by
   intro n c;induction n with
   |zero=>rfl
   |succ n b=>rw[IY,b oM,M.sum,vY g oM]
  rw[Dy,this _ (zD)];rfl
 |m+1=>by
  have:=D4 g m;rw[<-Gy,IY,this,yZ,M.sum,Gy]
def D5 g:Hz g (g.nr+g.nb)=M.ops g:=D4 g g.nb
def D6{g}{P:ug->Prop}:((∀i,i<g.nr->P (g.a i))/\∀i,i<g.nb->P (g.d i))->∀p,p<g.nr+g.nb->P (nd g p):=by
 rintro⟨b,c⟩ p e;unfold nd;split
 .exact b p oM
 exact c _ oM
def utA{g}(h:M.Valid g):VR g:=by
 have l:∀p,p<g.nr+g.nb->∀i,i<(nd g p).bl->M.bB g.nr g.nb ((nd g p).e i):=by
  refine D6 (P:=λd=>∀i,i<d.bl->M.bB g.nr g.nb (d.e i)) ⟨λi a=>(h.rb i a).1,λi a=>?_⟩;cases f:(g.d i).j with
  |true=>exact(h.lb i a f).1
  |false=>intro j n;have:=h.lz i a f;omega
 intro p k i a b;have c:=l p k i a;generalize (nd g p).e i=d at c b ⊢;obtain⟨kd,o,S,m⟩:=d;simp only at b;subst b;have:=(Zd _ _ _ _ _).1 c;exact⟨this.1,this.2.1⟩
def Flat.h{w W ra la g rb b lb lo}{na ba:Nat->Option Addr}{nc bc}(h:Flat w ra la g rb b lb lo na ba nc bc)(k:Bw w W):Flat W ra la g rb b lb lo na ba nc bc :=
 ⟨h.ra,h.la,λi a=>ue (h.r0 i a) k,λi a=>ue (h.r1 i a) k,λi a=>ue (h.l0 i a) k,λi a=>ue (h.l1 i a) k,λi a=>ue (h.l2 i a) k⟩
def Ci.a{Q w a n R}(h:Ci Q w a n R):∃b off,(0<n->a=some (Ad b off))/\∀i,i<n->Dw Q w b (off+i*2) (R i):=by
 rcases h with h|⟨b,off,e,_,h⟩
 .exact⟨0,0,λq=>oM,λi c=>oM⟩
 exact⟨b,off,λ_=>e,h⟩
def Dk.a{Q w a n R}(h:Dk Q w a n R):∃b off,(0<n->a=some (Ad b off))/\∀i,i<n->Fh Q w b (off+i*3) (R i):=by
 rcases h with h|⟨b,off,e,_,h⟩
 .exact⟨0,0,λq=>oM,λi c=>oM⟩
 exact⟨b,off,λ_=>e,h⟩
def LG{Q w ra la g}(h:Ca Q w ra la g):∃rb k lb lo na ba nc bc,Flat w ra la g rb k lb lo na ba nc bc/\∀p,p<g.nr+g.nb->zM Q w (ba p) (nd g p).bl (nd g p).e:=by
 let⟨rb,k,y,A⟩:=h.c.a;let⟨lb,lo,v,t⟩:=h.e.a;let⟨f,d⟩:=Deep.choose_lt (α:=(Option Addr×Nat)×(Option Addr×Nat)) (n:=g.nr+g.nb) (p:=λp x =>
   (p<g.nr->w.cell? (Ad rb (k+p*2))=some (Sl x.1.1 (nd g p).nl x.1.2)/\w.cell? (Ad rb (k+p*2+1))=some (Sl x.2.1 (nd g p).bl x.2.2)) /\
   (∀m,p=g.nr+m->w.cell? (Ad lb (lo+m*3))=some (Sl x.1.1 (nd g p).nl x.1.2)/\w.cell? (Ad lb (lo+m*3+2))=some (Sl x.2.1 (nd g p).bl x.2.2)) /\
   zM Q w x.2.1 (nd g p).bl (nd g p).e) (λp u=>by
  by_cases e:p<g.nr
  .let⟨⟨a,c,o,_⟩,⟨l,c',r,s⟩⟩:=A p e;rw[vY g e];exact⟨⟨(a,c),(l,c')⟩,λ_=>⟨o,r⟩,λm z=>oM,s⟩
  obtain⟨m,rfl⟩:∃m,p=g.nr+m:=⟨p-g.nr,oM⟩;let⟨⟨a,c,o,_⟩,_,⟨l,c',r,s⟩⟩:=t m oM;rw[yZ];refine⟨⟨(a,c),(l,c')⟩,λq=>oM,λB z=>?_,s⟩;obtain rfl:m=B:=oM;exact⟨o,r⟩)
 refine⟨rb,k,lb,lo,λp=>(f p).1.1,λp=>(f p).2.1,λp=>(f p).1.2,λp=>(f p).2.2,⟨y,v,λi b=>((d i oM).1 b).1,λi b=>((d i oM).1 b).2,
  λi b=>((d (g.nr+i) oM).2.1 i rfl).1,λi b=>(t i b).j,λi b=>((d (g.nr+i) oM).2.1 i rfl).2⟩,λp u=>(d p u).2.2⟩
def D7 Q ra la rc lc g w(f:Ca Q w ra la g)(a:M.Valid g) :
  Cs 36 #[.agg #[Sl ra g.nr rc,Sl la g.nb lc]] w λe w'=>e=Rt Bf/\Bw w w':=by
 let⟨rb,k,lb,lo,na,ba,nc,bc,c,_⟩:=LG f;exact callsIn_wide.1 (ufx ra la rc lc g rb k lb lo na ba nc bc w a.r2 a.l2 (D6 (P:=λd=>d.nl<=32) ⟨λi b=>(a.rn i b).1,λi b=>(a.ln i b).1⟩) (by rw[D5];exact a.ol) (λW j=>c.h j))
def ufC Q ra la rc lc g w(d:Ca Q w ra la g)(m:vS g)(a:M.Valid g) :
  Cs 95 #[.agg #[Sl ra g.nr rc,Sl la g.nb lc]] w (Ov w):=by
 let⟨rb,n,lb,lo,na,ba,nc,bc,c,e⟩:=LG d;exact callsIn_wide.1 (ueK Q ra la rc lc g rb n lb lo na ba nc bc w m (λW f=>c.h f) e (utA a) (by rw[D5];exact a.ol) λi l k=>(a.lt i l k).elim
  (λ⟨j,b,h⟩=>⟨j,oM,by rw[vY g b];exact h⟩) λ⟨j,b,h⟩=>⟨g.nr+j,oM,by rw[yZ];exact h⟩)
def D8 Q ra la rc lc g w(n:Ca Q w ra la g)(k:vS g)(l:M.Valid g) :
  Cs 37 #[.agg #[Sl ra g.nr rc,Sl la g.nb lc]] w (Ov w):=by
 have b:=ua n;have c:=ua l;have x:=k.nr;have y:=k.nb;have j:=ua k;have i:Hid (∀W,Below (w.alloc (Oc #[Sl ra g.nr rc,Sl la g.nb lc] 34)).heap.size (w.alloc (Oc #[Sl ra g.nr rc,Sl la g.nb lc] 34)) W->W.cell? (Ad w.heap.size 0)=some (Sl ra g.nr rc)/\W.cell? (Ad w.heap.size 1)=some (Sl la g.nb lc)):=λW o =>
  ⟨ue (xB w _ _ 34).1 o,ue (xB w _ _ 34).2 o⟩
 have z:(0:Int)<(g.nr:Int):=oH l.r1;clear l n;go_enter func37,ntmps37;go_wp2_with fail;refine(D7 Q ra la rc lc g _ (b.h (zO w)) c).mono ?_;rintro e W ⟨rfl,a⟩;let⟨r,s⟩:=i.o W a;have d:=ua a;clear a;go_wp2_with fail;refine(uhm Q ra la rc lc g _ (b.h (uf (zO w) d)) j c).mono ?_;rintro e W2 ⟨rfl,a⟩;let⟨t,y1⟩:=i.o W2 (uf d a);have f:=ua (uf d.o a);clear a r s;go_wp2_with fail;refine(F3 Q ra la rc lc g _ (b.h (uf (zO w) f)) j c).mono ?_;rintro e q ⟨rfl,a⟩;let⟨u,v⟩:=i.o q (uf f a);have m:=ua (uf f.o a);clear a t y1;go_wp2_with fail;refine(ufC Q ra la rc lc g _ (b.h (uf (zO w) m)) j c).mono ?_;rintro e W4 ⟨rfl,a⟩;have p:=ua (uf m.o a);clear a u v;go_wp2;go_ret;exact⟨rfl,uf (zO w) p⟩
def Wr(w:Wl)(g n:Nat):Prop:=∀j,j<n->(w.cell? (Ad g j)).isSome=true/\w.frozen? (Ad g j)=false
def zB(Q:Np)(w:Wl)(v:Vl)(a n:Nat)(cs:List Value):Prop :=
 (v=nS/\n=0/\cs = [])\/∃g cap,v=Sl (Sm g 0) n cap/\Q g/\cs.length=n*a/\n<=cap/\(∀j,j<cs.length->w.cell? (Ad g j)=cs[j]?)/\Wr w g (cap*a)
structure zT(Q:Np)(w w':Wl):Prop where
 os:w'.os=w.os
 g:w'.tape=w.tape
 f:w'.output=w.output
 l:w.heap.size<=w'.heap.size
 d:∀b,b<w.heap.size->¬Q b->w'.heap[b]?=w.heap[b]?
 n:∀b o,b<w.heap.size->w'.frozen? (Ad b o)=w.frozen? (Ad b o)
 c:∀b o,w.heap.size<=b->b<w'.heap.size->w'.frozen? (Ad b o)=false
def Dc.a{Q w0 w w'}(h:Dc w0 w)(g:zT Q w w'):Dc w0 w':=λb o d f=>by
 by_cases e:b<w.heap.size
 .rw[g.n b o e];exact h b o d e
 exact g.c b o oM f
def Wr.h{w w' g n}(h:Wr w g n)(k:w'.heap[g]?=w.heap[g]?):Wr w' g n:=λj b=>by
 rw[Bd (a:=(Ad g j)) k,Dp (a:=(Ad g j)) k];exact h j b
def zB.on{Q w w' v c n cs}(h:zB Q w v c n cs)(k:zS Q w w'):zB Q w' v c n cs:=by
 rcases h with h|⟨g,cap,d,b,e,f,i,l⟩
 .exact .inl h
 exact .inr ⟨g,cap,d,b,e,f,λj m=>by rw[Bd (a:=(Ad g j)) (k g b)];exact i j m,l.h (k g b)⟩
def kP g:∀(a:List Value) (o:Nat) (w:Wl) (b:Nat),b≠g->(w.setCells g o a).heap[b]?=w.heap[b]?
 |[],_,_,_,_=>rfl
 |v::r,o,w,b,h=>by
  show((w.setCell (Ad g o) v).setCells g (o+1) r).heap[b]?=_;rw[kP g r (o+1) _ b h,Bn h]
def yx g:∀(a:List Value) (o:Nat) (w:Wl),(w.setCells g o a).heap.size=w.heap.size
 |[],_,_=>rfl
 |v::r,o,w=>by
  show((w.setCell (Ad g o) v).setCells g (o+1) r).heap.size=_;rw[yx g r (o+1) _,uh]
def CV g:∀(a:List Value) (o:Nat) (w:Wl),(w.setCells g o a).os=w.os/\(w.setCells g o a).tape=w.tape/\(w.setCells g o a).output=w.output
 |[],_,_=>⟨rfl,rfl,rfl⟩
 |v::r,o,w=>CV g r (o+1) (w.setCell (Ad g o) v)
def F1{Q w v x r n m cs news t s e}ty{i z D}(S:prog.underlying t=some (.slice e))(R:prog.info? e=some i)(ac:i.zero=some z)(ad:i.size=r)(ae:i.bytes=D)(af:z.cells.size=r)(aa:zB Q w v r n cs)(f:Src prog r s x m news w)(W:n+m<=16777216)(l:D<=128)(Y:v=nS->0<m) :
  ∃y w',(Builtin.append_ #[t,s] ty #[v,x]).run prog w=.ok y w'/\zB (λb=>Q b\/w.heap.size<=b) w' y r (n+m) (cs++news)/\zT (λb=>Q b) w w'/\w'.heap.size<=w.heap.size+1:=by
 subst ad;have E:∀(A:Oa) (cap:Nat) (L:(Builtin.firstCells i.size n (Sl A n cap)).run prog w.drew=.ok cs.toArray w.drew),cs.length=n*i.size->cap<n+m->v=Sl A n cap ->
   ∃y w',(Builtin.append_ #[t,s] ty #[v,x]).run prog w=.ok y w'/\zB (λb=>Q b\/w.heap.size<=b) w' y i.size (n+m) (cs++news)/\zT (λb=>Q b) w w'/\w'.heap.size<=w.heap.size+1:=by
  rintro A cap L p N rfl;have B:=run_append_grow_src (P:=prog) w t s ty e i z S R ac A n cap cs L x m news f N oM (by rw[ae];exact growslice_fits N (by have:(n+m)*D<=16777216*128:=Nat.mul_le_mul W l;omega));have O:=grownCap_ge w (n+m) cap e;refine⟨_,_,B,.inr ⟨w.heap.size,_,rfl,.inr zD,by rw[zJ,p,f.newsLen,Hp],O,λj c=>?_,λj c=>⟨?_,?_⟩⟩,⟨rfl,rfl,rfl,sM,λb l _=>Iu w.drew _ _ l,λb o l=>Dp (a:=(Ad b o)) (Iu w.drew _ _ l),λb o H d=>qU w.drew e b o H d⟩,sM⟩
  .have h:=Eo w.drew (Oc ((cs++news).toArray++Builtin.zeroCells z.cells (grownCap w (n+m) cap e-(n+m))) e);have h':(w.drew.alloc (Oc ((cs++news).toArray++Builtin.zeroCells z.cells (grownCap w (n+m) cap e-(n+m))) e)).heap[w.heap.size]?=some (Oc ((cs++news).toArray++Builtin.zeroCells z.cells (grownCap w (n+m) cap e-(n+m))) e):=h;simp only[World.cell?,h'];rw[Array.getElem?_append_left (by simpa using c)];simp
  .have h:=Eo w.drew (Oc ((cs++news).toArray++Builtin.zeroCells z.cells (grownCap w (n+m) cap e-(n+m))) e);have h':(w.drew.alloc (Oc ((cs++news).toArray++Builtin.zeroCells z.cells (grownCap w (n+m) cap e-(n+m))) e)).heap[w.heap.size]?=some (Oc ((cs++news).toArray++Builtin.zeroCells z.cells (grownCap w (n+m) cap e-(n+m))) e):=h;simp only[World.cell?,h'];have ab:((cs++news).toArray++Builtin.zeroCells z.cells (grownCap w (n+m) cap e-(n+m))).size=grownCap w (n+m) cap e*i.size:=by
    simp only[Array.size_append,Ma,zJ,p,f.newsLen,size_zeroCells,af];generalize grownCap w (n+m) cap e=G at O ⊢;obtain⟨k,rfl⟩:∃k,G=n+m+k:=⟨G-(n+m),oM⟩;rw[show n+m+k-(n+m)=k by omega,Hp,Hp]
   rw[Qv (by rw[ab];exact c)];rfl
  have h:=Eo w.drew (Oc ((cs++news).toArray++Builtin.zeroCells z.cells (grownCap w (n+m) cap e-(n+m))) e);have h':(w.drew.alloc (Oc ((cs++news).toArray++Builtin.zeroCells z.cells (grownCap w (n+m) cap e-(n+m))) e)).heap[w.heap.size]?=some (Oc ((cs++news).toArray++Builtin.zeroCells z.cells (grownCap w (n+m) cap e-(n+m))) e):=h;simp only[World.frozen?,h'];simp
 rcases aa with⟨rfl,rfl,rfl⟩|⟨g,cap,rfl,I,p,ah,J,q⟩
 .exact E none 0 (by rw[run_firstCells_none]) sM (oH (Y rfl)) rfl
 by_cases C:n+m<=cap
 .have B:=run_append_room_src (P:=prog) w t s ty e i S R g 0 n cap x m news f C
   (λj c=>by rw[Bp];rw[f.newsLen]at c;exact(q _ (by have:(n+m)*i.size<=cap*i.size:=Kz _ C;rw[Hp]at this;omega)).1)
   (λj c=>by rw[Bp];rw[f.newsLen]at c;exact(q _ (by have:(n+m)*i.size<=cap*i.size:=Kz _ C;rw[Hp]at this;omega)).2)
  rw[Bp]at B;have U:(n+m)*i.size<=cap*i.size:=Kz _ C;rw[Hp]at U;have Z:=f.newsLen;let⟨o1,o2,o3⟩:=CV g news (n*i.size) w;refine⟨_,_,B,.inr ⟨g,cap,rfl,.inl I,by rw[zJ,p,f.newsLen,Hp],oM,λj c=>?_,λj c=>⟨?_,?_⟩⟩,⟨o1,o2,o3,by rw[yx];exact zD,λb _ l=>kP g _ _ _ _ (λe=>l (e▸I)),λb o _=>World.frozen?_setCells _ _ _ _ _,λb o H d=>by rw[yx]at d;omega⟩,by rw[yx];omega⟩
  .rw[zJ,Z]at c;by_cases X:j<n*i.size
   .rw[World.cell?_setCells_out g _ _ w _ (λ_ _=>Or.inl X),Es oM];exact J j oM
   have d:=World.cell?_setCells_in g news (n*i.size) w (λk V=>(q _ oM).1) (j-n*i.size) oM;rw[show n*i.size+(j-n*i.size)=j by omega]at d;rw[d,Fb oM,p,Bb oM]
  .by_cases ag:n*i.size<=j/\j<n*i.size+news.length
   .have d:=World.cell?_setCells_in g news (n*i.size) w (λk V=>(q _ oM).1) (j-n*i.size) oM;rw[show n*i.size+(j-n*i.size)=j by omega]at d;rw[d];rfl
   rw[World.cell?_setCells_out g _ _ w _ (λ_ _=>sO)];exact(q j c).1
  rw[World.frozen?_setCells];exact(q j c).2
 exact E (Sm g 0) cap (run_firstCells_some (P:=prog) w.drew i.size n (Ad g 0) n cap cs p (λj u T=>by
  have c:=(Bz.1 T).1;have e':((Ad g 0):Addr).add j=(Ad g j):=by
   by_cases F:j=0
   .subst F;simp[Addr.add]
   simp[Addr.add,F]
  rw[e',<-T];exact J j c)) p oM rfl
structure vJ(t e:TypeId)(sz bytes:Nat):Prop where
 b:prog.underlying t=some (.slice e)
 a:∃z,(prog.info? e).map (λi=>(i.zero,i.size,i.bytes))=some (some z,sz,bytes)/\z.cells.size=sz
 c:bytes<=128
def kE{Q w v x d k n m cs news t h e}ty(f:vJ t e d k)(r:zB Q w v d n cs)(s:Src prog d h x m news w)(p:n+m<=16777216)(q:v=nS->0<m) :
  ∃j w',(Builtin.append_ #[t,h] ty #[v,x]).run prog w=.ok j w'/\zB (λb=>Q b\/w.heap.size<=b) w' j d (n+m) (cs++news)/\zT (λb=>Q b) w w'/\w'.heap.size<=w.heap.size+1:=by
 let⟨z,l,B⟩:=f.a;let⟨i,o,g⟩:=Hn.1 l;simp only[No]at g;obtain⟨u,y,A⟩:=g;exact F1 ty f.b o u y A B r s p f.c q
def Yd{w x j l news t k e}ty(d:vJ t e j l)(c:Src prog j k x 0 news w) :
  (Builtin.append_ #[t,k] ty #[nS,x]).run prog w=.ok nS w:=by
 let⟨z,m,s⟩:=d.a;let⟨i,n,h⟩:=Hn.1 m;simp only[No]at h;obtain⟨q,o,r⟩:=h;have f:=c.cells;rw[<-o]at f;rcases c.kind with⟨p,g⟩|g<;>simp[Builtin.append_,run_underlying d.b,run_underlying g,sizeOf,typeInfo,n,c.len,f]
def yN{Q w v x a l n m cs news t j e}ty(f:vJ t e a l)(i:zB Q w v a n cs)(d:Src prog a j x m news w)(s:n+m<=16777216) :
  ∃k w',(Builtin.append_ #[t,j] ty #[v,x]).run prog w=.ok k w'/\zB (λb=>Q b\/w.heap.size<=b) w' k a (n+m) (cs++news)/\zT (λb=>Q b) w w'/\w'.heap.size<=w.heap.size+1:=by
 by_cases c:v=nS->0<m
 .exact kE ty f i d s c
 have u:v=nS:=Classical.byContradiction (λh=>c (λq=>aB q h));obtain rfl:m=0:=by
  by_cases h:m=0
  .exact h
  exact aB (λ_=>oM) c
 have z:=d.newsLen;obtain rfl:news = []:=Ic oM;subst u;have p:n=0/\cs = []:=by
  rcases i with⟨_,h,o⟩|⟨g,cap,h,_⟩
  .exact⟨h,o⟩
  cases h
 obtain⟨rfl,rfl⟩:=p;exact⟨_,_,Yd ty f d,.inl ⟨rfl,rfl,rfl⟩,⟨rfl,rfl,rfl,zD,λ_ _ _=>rfl,λ_ _ _=>rfl,λ_ _ y r=>aB r oM⟩,oM⟩
def yO{o:Oper}{a:Act}{K:Act->World->Prop}{d:Exit->Act->World->Prop}{w w':Wl}{s x:Operand}{t b:TypeId}(e:o.op=.call { callee:=.builtin .append,args:=#[s,x],argTypes:=#[t,b] }){v y c:Vl}(g:a.eval s=v)(i:a.eval x=y)(f:(Builtin.append_ #[t,b] o.type #[v,y]).run prog w=.ok c w')(h:K (a.put o.dst c) w'):Oper.wp prog o a w K d:=by
 unfold Oper.wp execOp;simp only[e,resolve,invoke,builtin,Nl,Nm,Pf,List.map_toArray,Nr,List.map_nil,g,i,f];exact h
def jM{ops:Array Oper}{rest:List Oper}{o:Oper}{a:Act}{f:Exit->Act->World->Prop}{w:Wl}(r:o.guard=none)(s x:Operand)(t g:TypeId)(z:o.op=.call { callee:=.builtin .append,args:=#[s,x],argTypes:=#[t,g] })
  {Q:Np} {v y:Vl} {e:TypeId} {c i n m:Nat} {cs news:List Value} (C:a.eval s=v) (E:a.eval x=y) (p:vJ t e c i) (A:zB Q w v c n cs) (D:Src prog c g y m news w) (u:n+m<=16777216)
  (h:∀d w',zB (λb=>Q b\/w.heap.size<=b) w' d c (n+m) (cs++news)->zT (λb=>Q b) w w'->w'.heap.size<=w.heap.size+1->wpList prog ops f rest (a.put o.dst d) w'):wpList prog ops f (o::rest) a w:=by
 refine wpList_plain r λK q=>?_;let⟨d,w',B,j,k,l⟩:=yN o.type p A D u;exact yO z C E B (q _ _ (h d w' j k l))
def jN{ops:Array Oper}{o:Oper}{a:Act}{w:Wl}{K:Act->World->Prop}{g:Exit->Act->World->Prop}{E:Prop}(q:o.guard=none)(s x:Operand)(t f:TypeId)(u:o.op=.call { callee:=.builtin .append,args:=#[s,x],argTypes:=#[t,f] })
  {Q:Np} {v y:Vl} {e:TypeId} {c i n m:Nat} {cs news:List Value} (B:a.eval s=v) (D:a.eval x=y) (p:vJ t e c i) (z:zB Q w v c n cs) (C:Src prog c f y m news w) (r:n+m<=16777216)
  (h:∀d w',zB (λb=>Q b\/w.heap.size<=b) w' d c (n+m) (cs++news)->zT (λb=>Q b) w w'->w'.heap.size<=w.heap.size+1->K (a.put o.dst d) w'):if Region.wanted o (yielded ops a.tmps)=true then Oper.wp prog o a w K g else E:=by
 rw[Zp (by simp[Region.wanted,q])];let⟨d,w',A,j,k,l⟩:=yN o.type p z C r;exact yO u B D A (h d w' j k l)
def jE:vJ 25 3 1 8:=⟨underlying25,⟨_,M5,rfl⟩,oM⟩
def jF:vJ 22 5 1 1:=⟨underlying22,⟨_,M4,rfl⟩,oM⟩
def Re:vJ 67 185 3 40:=⟨underlying67,⟨_,M6,rfl⟩,oM⟩
def CW:vJ 31 104 2 48:=⟨underlying31,⟨_,M7,rfl⟩,oM⟩
def uA{Q Q' w v a n cs}(h:zB Q w v a n cs)(k:∀b,Q b->Q' b):zB Q' w v a n cs:=by
 rcases h with h|⟨g,cap,e,d,c⟩
 .exact .inl h
 exact .inr ⟨g,cap,e,k g d,c⟩
def zB.a{Q Q' w v c n cs}(h:zB Q w v c n cs)(o:0<n*c)(k:∀b,Q b->b<w.heap.size->Q' b):zB Q' w v c n cs:=by
 rcases h with h|⟨g,cap,e,l,i,d,j,f⟩
 .exact .inl h
 let⟨u,m⟩:=Kc.1 (f 0 (oH (Kz c d))).1;exact .inr ⟨g,cap,e,k g l (ud m),i,d,j,f⟩
def WX{Q w w' v i n cs}(h:zB Q w v i n cs)(o:0<i)(k:∀b,b<w.heap.size->Q b->w'.heap[b]?=w.heap[b]?):zB Q w' v i n cs:=by
 by_cases s:n=0
 .subst s;rcases h with h|⟨g,cap,e,f,c,l,x,m⟩
  .exact .inl h
  by_cases r:cap=0
  .subst r;exact .inr ⟨g,0,e,f,c,l,λj d=>aB d (by rw[c];omega),λj d=>oM⟩
  let⟨u,t⟩:=Kc.1 (m 0 (Pi oM o)).1;have e':=k g (ud t) f;exact .inr ⟨g,cap,e,f,c,l,λj d=>aB d (by rw[c];omega),m.h e'⟩
 exact uA ((h.a (Pi oM o) (λb q p=>(⟨q,p⟩:Q b/\_))).on (λb q=>k b q.2 q.1)) (λb q=>q.1)
def xd{Q w w' v a n cs}(h:zB Q w v a n cs)(d:0<a)(k:Bw w w'):zB Q w' v a n cs:=WX h d (λb c _=>k.block b c)
def Xh{w g n c a us cs t b e}(i:prog.underlying b=some (.slice e))(h:w.heap[g]?=some (Oc cs t))(f:cs.toList=us)(k:us.length=n*a)(l:us.all (·.oneCell')=true):Src prog a b (Sl (Sm g 0) n c) n us w:=by
 refine Src.ofSlice (P:=prog) _ i (Ad g 0) n c us k (λj u m=>?_) (List.all_eq_true.1 l);have e':((Ad g 0):Addr).add j=(Ad g j):=by by_cases d:j=0<;>simp[Addr.add,d]
 rw[e'];simp only[World.cell?,h];rw[<-m,<-f];simp
def qg{w:Wl}{n c a:Nat}{us:List Value}{cs:Av}{t b e:TypeId}(f:prog.underlying b=some (.slice e))(d:cs.toList=us)(g:us.length=n*a)(h:us.all (·.oneCell')=true):Src prog a b (Sl (Sm w.heap.size 0) n c) n us (w.alloc (Oc cs t)):=Xh f (Eo _ _) d g h
def zC.v(s:zC)(k:Int):Bool:=match s.st.getLast? with|none=>false|some f=>f.e==k
def YU{l:List Cf}{j:Nat}(h:l.length=j+1):∃f,l[j]?=some f/\l.getLast? = some f:=by
 have a:j<l.length:=oM;refine⟨l[j],Bb a,?_⟩;rw[List.getLast?_eq_getElem?,h];simp[a]
def ujm l f(h:f.e=2):vr (l++[f]).reverse=vr l.reverse:=by
 rw[List.reverse_append];show vr (f::l.reverse)=_;rw[vr,Zp h]
def JT{l:List Cf}{j:Nat}{f:Cf}(a:l[j]?=some f):l.take (j+1)=l.take j++[f]:=by
 let⟨b,e⟩:=Bz.1 a;rw[<-e,List.take_append_getElem b]
def Kx(f:Cf):List Value:=[Iv f.e,Iv f.to,Iv (f.c:Int),Iv (f.a:Int)]
def xe(l:List Cf):List Value:=l.flatMap Kx
def ujn l f:xe (l++[f])=xe l++Kx f:=by simp[xe]
def uk7 l:(xe l).length=l.length*4:=by
 induction l with
 |nil=>rfl
 |cons x l a =>
  have:xe (x::l)=Kx x++xe l:=rfl;rw[this,zJ,a,Db];show 4+_=_;omega
def ZC:∀(l:List Cf) (i j:Nat) (x:Cf),l[i]?=some x->j<4->(xe l)[i*4+j]?=(Kx x)[j]?
 |[],i,j,x,h,_=>by simp at h
 |y::l,0,j,x,h,hj=>by
  simp at h;subst h;show(Kx y++xe l)[0*4+j]?=_;rw[Es (by show 0*4+j<4;omega)];simp
 |y::l,i+1,j,x,h,hj=>by
  simp at h;show(Kx y++xe l)[(i+1)*4+j]?=_;have a:(Kx y).length=4:=rfl;rw[Fb (by rw[a];omega),a,show(i+1)*4+j-4=i*4+j by omega];exact ZC l i j x h hj
def uk8{Q w a c l}(h:zB Q w (Sl a l.length c) 4 l.length (xe l)):FrA w a l:=by
 rcases h with⟨_,e,_⟩|⟨g,cap,e,q,p,n,k,r⟩
 .exact .inl e
 obtain rfl:a=some (Ad g 0):=by injection e
 refine .inr ⟨g,rfl,λi f d=>?_⟩;have o:=(Bz.1 d).1;have b:∀j,j<4->w.cell? (Ad g (i*4+j))=(Kx f)[j]?:=λj m=>by
  rw[k _ (by rw[uk7];omega),ZC l i j f d m]
 exact⟨b 0 oM,b 1 oM,b 2 oM,b 3 oM⟩
def uj{Q w v b n cs}(h:zB Q w v b n cs):∃a c,v=Sl a n c:=by
 rcases h with⟨rfl,rfl,_⟩|⟨g,cap,rfl,_⟩
 .exact⟨none,0,rfl⟩
 exact⟨_,_,rfl⟩
def uti:(prog.info? 265).map (λi=>(i.zero,i.size,i.bytes))=some (some (.agg #[Iv 0,Iv 0,Iv 0,Iv 0]),4,32):=rR
def utj:vJ 216 265 4 32:=⟨underlying216,⟨_,uti,rfl⟩,oM⟩
def uvW{w:Wl}(f:Cf)(y:Nat)(b:w.heap.size=y):Src prog 4 216 (Sl (Sm y 0) 1 1) 1 (Kx f) (w.alloc (Oc #[Iv f.e,Iv f.to,Iv (f.c:Int),Iv (f.a:Int)] 265)):=by
 subst b;exact qg underlying216 rfl rfl rfl
structure Kept(K:Np)(w w':Wl):Prop where
 os:w'.os=w.os
 g:w'.tape=w.tape
 f:w'.output=w.output
 l:w.heap.size<=w'.heap.size
 d:∀b,b<w.heap.size->¬K b->w'.heap[b]?=w.heap[b]?
def Kept.of{K w w'}(h:Bw w w'):Kept K w w':=⟨h.os,h.tape,h.output,h.size,λb a _=>h.block b a⟩
def Kept.set{K w w'}(h:Kept K w w')b o v(i:w.heap.size<=b):Kept K w (w'.setCell (Ad b o) v) :=
 ⟨h.os,h.g,h.f,by rw[uh];exact h.l,λx c a=>(Gz x (λe=>by simp at e;omega)).trans (h.d x c a)⟩
namespace M
structure Sound(g:Gr):Prop where
 r1:0<g.nr
 r2:g.nr<=100
 l2:g.nb<=100
 rn:∀i,i<g.nr->bU (g.a i).nl (g.a i).f
 ln:∀i,i<g.nb->bU (g.d i).nl (g.d i).f
 rb:∀i,i<g.nr->bC g.nr g.nb (g.a i).bl (g.a i).e
 lb:∀i,i<g.nb->(g.d i).j=true->bC g.nr g.nb (g.d i).bl (g.d i).e
 lz:∀i,i<g.nb->(g.d i).j=false->(g.d i).bl=0
 ol:ops g<=2000
def Valid.a{g}(h:Valid g):Sound g:=⟨h.r1,h.r2,h.l2,h.rn,h.ln,h.rb,h.lb,h.lz,h.ol⟩
end M
def uN{w:Wl}{b j:Nat}{c:Av}{t:TypeId}{v:Vl}(h:w.heap[b]?=some (Oc c t))(a:c[j]?=some v):w.cell? (Ad b j)=some v:=by
 simp only[World.cell?,h];exact a
def Vq{w:Wl}{b j:Nat}{c:Av}{t:TypeId}(h:w.heap[b]?=some (Oc c t)):w.frozen? (Ad b j)=false:=by
 simp only[World.frozen?,h];simp
def xC(w:Wl)(o:Obj)(b:Nat)(a:b=w.heap.size):(w.alloc o).heap[b]?=some o:=by subst a;exact Eo w o
def Vr{w:Wl}{b:Nat}{c:Obj}(h:w.heap[b]?=some c)(o:Obj):(w.alloc o).heap[b]?=some c:=by
 rw[Iu w _ _ (by have:=(Gw.1 h).1;exact this)];exact h
def DB{w:Wl}{b j:Nat}{c:Av}{t:TypeId}(v:Vl)(h:w.heap[b]?=some (Oc c t)):(w.setCell (Ad b j) v).heap[b]?=some (Oc (c.setIfInBounds j v) t):=by
 simp only[World.setCell,Vf,h,if_true,Option.map_some];rfl
end Go.Proofs.YtmlblamikgkdcaaGreat
