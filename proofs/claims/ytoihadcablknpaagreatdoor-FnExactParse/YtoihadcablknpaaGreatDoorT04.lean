import Derived.Test.YtoihadcablknpaaGreatDoorT03
import Derived.Test.YtoihadcablknpaaGreatDoorT02
import Derived.Deep.Slices
import Derived.Shelf.RegionOpen
set_option linter.unusedVariables false
set_option linter.unusedSimpArgs false
set_option linter.defProp false
set_option maxHeartbeats 40000000
set_option maxRecDepth 100000
namespace Go.Proofs.YtoihadcablknpaaGreatDoor
open Go.RowKit
open Go.Proofs.Tryz
open M (OpD uh Gr)
def A1(W1:Wl)(n nr a:Nat)(B:Nat->OpD)(d i:Vl)(wr:Wl):Prop :=
 ∃k:Nat,k<=n/\d=Iv (M.dep B k)/\i=Iv (k:Int)/\Bw W1 wr/\∀j,j<k->M.bE nr a (B j)/\M.ar (B j).e<=M.dep B j
def jD(n:Nat)(B:Nat->OpD):Prop:=n<=1048576/\∀i,i<n->(B i).sl<=1048576
def A2 nr b n B(h:∀j,j<n->M.bE nr b (B j)/\M.ar (B j).e<=M.dep B j):M.bF nr b n B↔M.dep B n=1 :=
 ⟨λq=>q.2.2,λq=>⟨λi a=>(h i a).1,λi a=>(h i a).2,q⟩⟩
def yk Q ra la a nr rc g lc n c B w(p:wT Q w a n B)(z:nr<=1048576)(A:g<=1048576)(P:jD n B) :
  Cs 167 #[.agg #[Sl ra nr rc,Sl la g lc],Sl a n c] w (yz (M.bF nr g n B) w):=by
 obtain⟨hn,t⟩:=P;have H:=ua p;have J:=ua t;go_enter func167,ntmps167;go_wp2;go_loopw [5,10] (λd i wr=>A1 (w.alloc (Oc #[Sl ra nr rc,Sl la g lc] 37)) n nr g B d i wr) (λd i _=>n-(intOf i).toNat)
 ·exact⟨0,wP,rfl,rfl,wI _,λj u=>aB u Ct⟩
 obtain⟨k,R,rfl,rfl,s,F⟩:=hrel;have U:=M.fX B n k R (λj u=>(F j u).2);have D:=ua F;have C:=uf (wG w) s;by_cases x:k<n
 ·have p:=H.q C;rcases p with h0|⟨b,off,rfl,hq,p⟩
  ·omega
  obtain⟨N,⟨sa,sc,V,S⟩,X⟩:=p k x;have t:=J k x;have Y:wr.cell? (Ad w.heap.size 0)=some (Sl ra nr rc):=ue sM s;have Z:wr.cell? (Ad w.heap.size 1)=some (Sl la g lc):=ue sM s;have ac:w.heap.size<wr.heap.size:=by have:=s.size;simp at this;omega
  have ab:=ud N;have aa:=M.cP (B k).e;have L:Hid (M.dep B (k+1)=M.dep B k+(1-M.ar (B k).e)):=rfl;have E:=ua C;have I:=s;have y:=ua S;by_cases G:M.bE nr g (B k)
  ·have m:Hid (M.bE nr g (B k)):=G;by_cases hd:M.dep B k<M.ar (B k).e
   ·go_wp2_with (first|(go_at_call 202;refine(xe Q ra la sa nr rc g lc (B k).sl sc (B k).set (B k).e (B k).f _ (y.q (wG wr)) z A t).mono ?_;rintro e W ⟨⟨r,rfl,l⟩,h⟩;obtain rfl:r=true:=l.2 m;have O:=(ue (a:=(Ad wr.heap.size 0)) (v:=Iv (B k).e) sM h);have o:Hid _:=h;clear l h)|(go_at_call 170;refine(yT).mono ?_;rintro e W' ⟨rfl,T⟩;subst W'));go_ret;exact⟨⟨false,rfl,vh λq=>by have:=q.2.1 k x;omega⟩,uf E (uf (wG wr) o)⟩
   go_wp2_with (first|(go_at_call 202;refine(xe Q ra la sa nr rc g lc (B k).sl sc (B k).set (B k).e (B k).f _ (y.q (wG wr)) z A t).mono ?_;rintro e W ⟨⟨r,rfl,l⟩,h⟩;obtain rfl:r=true:=l.2 m;have O:=(ue (a:=(Ad wr.heap.size 0)) (v:=Iv (B k).e) sM h);have o:Hid _:=h;clear l h)|(go_at_call 170;refine(yT).mono ?_;rintro e W' ⟨rfl,T⟩;subst W'));go_roundw
   ·exact⟨k+1,oM,yQ L.symm,by go_num,uf I (uf (wG wr) o),λj u=>if e:j=k then e▸⟨m,oM⟩ else D j oM⟩
   simp[intOf];omega
  have m:Hid (¬M.bE nr g (B k)):=G;go_wp2_with fail;refine(xe Q ra la sa nr rc g lc (B k).sl sc (B k).set (B k).e (B k).f _ (y.q (wG wr)) z A t).mono ?_;rintro e W ⟨⟨r,rfl,l⟩,h⟩;obtain rfl:r=false:=by { cases r;rfl;exact aB (l.1 rfl) m }
  have o:=h;go_wp2;go_ret;exact⟨⟨false,rfl,vh λq=>m (q.1 k x)⟩,uf E (uf (wG wr) o)⟩
 obtain rfl:k=n:=oM;go_wp2;go_ret;exact⟨⟨_,rfl,by rw[A2 nr g _ B D.o];simp⟩,C⟩
def VW(w:Wl)(n nr a:Nat)(B:Nat->OpD)(i:Vl)(wr:Wl):Prop :=
 ∃k:Nat,k<=n/\i=Iv (k:Int)/\Bw w wr/\∀j,j<k->M.bE nr a (B j)
def VX nr a n B(h:∀j,j<n->M.bE nr a (B j)):M.bF nr a n B↔M.dF n B :=
 ⟨λq=>q.2,λq=>⟨h,q⟩⟩
def Xi(n:Nat)(a L:Int):n≠0\/n=0/\(a<0\/0<=a/\L<=a\/0<=a/\a<L):=oM
def xK Q a(nr h n c:Nat)B w(o:wT Q w a n B)(h1:nr<=1048576)(h2:h<=1048576)(h3:jD n B) :
  Cs 62 #[Sl a n c,Iv nr,Iv h] w (yz (M.bF nr h n B) w):=by
 obtain⟨hn,x⟩:=h3;have t:=ua o;have aa:=ua x;go_enter func62,ntmps62;go_wp2;go_loopw [7] (λi wr=>VW w n nr h B i wr) (λi _=>n-(intOf i).toNat)
 ·exact⟨0,wP,rfl,wI _,λj V=>aB V Ct⟩
 obtain⟨k,hk,rfl,D,ac⟩:=hrel;have L:=ua ac;by_cases H:k<n
 ·have o:=t.q D;rcases o with h0|⟨b,off,rfl,hq,o⟩
  ·omega
  obtain⟨F,⟨sa,sc,P,I⟩,R⟩:=o k H;have x:=aa k H;have ad:=ud F;have Z:=ua D;obtain⟨d,U⟩:=nm (B k);have N:=ua U;rw[U]at F P R I x;obtain⟨kd,g,S,f⟩:=d;simp only at F P R I x;have O:=ua I;have ab:M.bE nr h ⟨kd,g,S,f⟩->∀j,j<k+1->M.bE nr h (B j):=λq j V=>if e:j=k then e▸N.o▸q else L j oM
  have bad:¬M.bE nr h ⟨kd,g,S,f⟩->¬M.bF nr h n B:=λq p=>q (N.o▸p.1 k H)
  have z:=ua ab;have m:=ua bad;have u:=ua (uf Z (uk wr (Oc #[Iv kd,Sl sa g sc,Iv f] 128)));rcases HF kd with rfl|rfl|rfl|(rfl|rfl|rfl|rfl|rfl)|X
  ·by_cases T:M.bL g S
   ·have y:Hid (M.bL g S):=T;rcases(show f<0\/0<=f/\1<=f\/0<=f/\f<1 by omega) with A|⟨G,A⟩|⟨G,A⟩;all_goals
     go_wp2_with (go_at_call 90;refine(SV Q sa g sc S _ (O.q (wG wr)) x).mono ?_;rintro e W ⟨⟨r,rfl,l⟩,s⟩;obtain rfl:r=true:=l.2 y;have g0:=(ue (a:=(Ad wr.heap.size 0)) (v:=Iv 1) sM s);have g2:=(ue (a:=(Ad wr.heap.size 2)) (v:=Iv f) sM s);have C:Hid _:=s;clear l s);first
      |(go_ret;exact⟨⟨false,rfl,vh (m λq=>oH (((Qy _ _ _ _ _).1 q).1))⟩,uf u C⟩)
      |(go_roundw;exact⟨k+1,oM,by go_num,uf u C,z ((Qy _ _ _ _ _).2 ⟨oM,y⟩)⟩;(simp[intOf];omega))
   have y:Hid (¬M.bL g S):=T;go_wp2_with (go_at_call 90;refine(SV Q sa g sc S _ (O.q (wG wr)) x).mono ?_;rintro e W ⟨⟨r,rfl,l⟩,s⟩;obtain rfl:r=false:=by { cases r;rfl;exact aB (l.1 rfl) y };have C:Hid _:=s;clear l s);go_ret;exact⟨⟨false,rfl,vh (m λq=>y ((Qy _ _ _ _ _).1 q).2)⟩,uf u C⟩
  rotate_right
  ·have HK:Hid (kd<0\/7<kd):=X;rcases X with af|ae;all_goals
    go_wp2;go_ret;exact⟨⟨false,rfl,vh (m (HE HK))⟩,u⟩
  all_goals first
   |(have E:=ua λq=>z ((Ye).2 q);have t:=ua λ(q:¬_)=>m λp=>q ((Ye).1 p);have J:=Xi g f nr)
   |(have E:=ua λq=>z ((Tp).2 q);have t:=ua λ(q:¬_)=>m λp=>q ((Tp).1 p);have J:=Xi g f h)
   |(have E:=ua λq=>z ((Yf oM).2 q);have t:=ua λ(q:¬_)=>m λp=>q ((Yf oM).1 p);have J:=Xi g f 1)
  all_goals
   clear z m;rcases J with hz|⟨rfl,A|⟨G,A⟩|⟨G,A⟩⟩;all_goals
    try have hz':((g:Int) != 0)=true:=sO
    go_wp2;first
     |(go_ret;exact⟨⟨false,rfl,vh (t.o oM)⟩,u⟩)
     |(go_roundw;exact⟨k+1,oM,by go_num,u,E.o oM⟩;(simp[intOf];omega))
 obtain rfl:k=n:=oM;have o:=t.q D;have Y:=ua o;go_wp2_with (go_at_call 91;refine(VV Q a k c B _ Y hn).mono ?_;rintro e W ⟨⟨r,rfl,l⟩,hw⟩;subst W;have HR:Hid _:=l;clear l);go_ret;exact⟨⟨_,rfl,HR.trans (VX nr h _ B L).symm⟩,D⟩
structure Qt(d:uh):Prop where
 f:d.nl<=1048576
 j:Fe d.nl d.f
 e:jD d.bl d.e
structure Bl(Q:Np)(w:Wl)(ra la:Oa)(g:Gr):Prop where
 a:Bq Q w ra g.nr g.a
 c:Da Q w la g.nb g.d
structure yg(g:Gr):Prop where
 nr:g.nr<=1048576
 nb:g.nb<=1048576
 a:∀i,i<g.nr->Qt (g.a i)
 d:∀i,i<g.nb->Qt (g.d i)
def Bl.q{Q w w' ra la g}(h:Bl Q w ra la g)(t:Bw w w'):Bl Q w' ra la g :=
 ⟨h.a.q t,h.c.q t⟩
def qh(g:Gr):Prop:=(∀i,i<g.nr->M.bF g.nr g.nb (g.a i).bl (g.a i).e) /\
 (∀i,i<g.nb->((g.d i).h=true->M.bF g.nr g.nb (g.d i).bl (g.d i).e)/\((g.d i).h=false->(g.d i).bl=0))
def Td(W1:Wl)(n:Nat)(p:Np)(i:Vl)(wr:Wl):Prop :=
 ∃k:Nat,k<=n/\i=Iv (k:Int)/\Bw W1 wr/\∀j,j<k->p j
def vE{p:Np}{k:Nat}(h:∀j,j<k->p j)(a:p k):∀j,j<k+1->p j:=λj b =>
 if e:j=k then e▸a else h j oM
def VK Q ra la rc lc g w(hG:Bl Q w ra la g)(hs:yg g) :
  Cs 131 #[.agg #[Sl ra g.nr rc,Sl la g.nb lc]] w (yz (qh g) w):=by
 obtain⟨nr,R,c,L⟩:=g;obtain⟨u,t⟩:=hG;obtain⟨z,A,U,V⟩:=hs;simp only at u t z A U V ⊢;have Y:=ua u;have X:=ua t;have Z:=ua U;have S2:=ua V;go_enter func131,ntmps131;go_wp2;go_loopw [10] (λi wr=>Td (w.alloc (Oc #[Sl ra nr rc,Sl la c lc] 37)) nr (λj=>M.bF nr c (R j).bl (R j).e) i wr) (λi _=>nr-(intOf i).toNat)
 ·exact⟨0,wP,rfl,wI _,λj P=>aB P Ct⟩
 obtain⟨k,hk,rfl,f,N⟩:=hrel;have S:=ua N;have D:=uf (wG w) f;have g0:wr.cell? (Ad w.heap.size 0)=some (Sl ra nr rc):=ue sM f;have g1:wr.cell? (Ad w.heap.size 1)=some (Sl la c lc):=ue sM f;have ab:w.heap.size<wr.heap.size:=by have:=f.size;simp at this;omega
 by_cases o:k<nr
 ·have u:=Y.q D;rcases u with h0|⟨b,off,rfl,hq,u⟩
  ·omega
  obtain⟨⟨na,nc,I,hn⟩,⟨ba,bc,J,d⟩⟩:=u k o;have aa:=ud I;have E:=ua D;have C:=ua f;have y:=ua d;have s:=ua ((Z k o).e);by_cases B:M.bF nr c (R k).bl (R k).e
  ·have l:Hid (M.bF nr c (R k).bl (R k).e):=B;go_wp2_with (go_at_call 167;refine(yk Q (Sm b off) la ba nr rc c lc (R k).bl bc (R k).e _ (y.q (wG wr)) z A s).mono ?_;rintro e W ⟨⟨r,rfl,n⟩,d⟩;obtain rfl:r=true:=n.2 l;have p:Hid _:=d;clear n d);go_roundw
   ·exact⟨k+1,oM,by go_num,uf C (uf (wG wr) p),vE S l⟩
   simp[intOf];omega
  have l:Hid (¬M.bF nr c (R k).bl (R k).e):=B;go_wp2_with (go_at_call 167;refine(yk Q (Sm b off) la ba nr rc c lc (R k).bl bc (R k).e _ (y.q (wG wr)) z A s).mono ?_;rintro e W ⟨⟨r,rfl,n⟩,d⟩;obtain rfl:r=false:=by { cases r;rfl;exact aB (n.1 rfl) l };have p:Hid _:=d;clear n d);go_ret;exact⟨⟨false,rfl,vh λq=>l (q.1 k o)⟩,uf E (uf (wG wr) p)⟩
 obtain rfl:k=nr:=oM;obtain⟨W1,eW⟩:=nm wr;subst wr;have E:=ua D;have HL':=ua (X.q D);go_wp2;go_loopw [23] (λi ac=>Td W1 c (λj=>((L j).h=true->M.bF k c (L j).bl (L j).e)/\((L j).h=false->(L j).bl=0)) i ac) (λi _=>c-(intOf i).toNat)
 ·exact⟨0,wP,rfl,wI _,λj P=>aB P Ct⟩
 obtain⟨m,hm,rfl,f,N⟩:=hrel;have G:=ua N;have C:=ua f;have F:=ua (uf E f);have e0:=ue g0 f;have e1:=ue g1 f;have ad:=wX ab f.size;by_cases o:m<c
 ·have t:=HL'.q f;rcases t with h0|⟨b,off,rfl,hq,t⟩
  ·omega
  obtain⟨⟨na,nc,I,hn⟩,J,⟨ba,bc,c2,d⟩⟩:=t m o;have aa:=ud I;have y:=ua d;have s:=ua ((S2 m o).e);have ae:=s.1;by_cases O:(L m).h=true
  ·have x:Hid ((L m).h=true):=O;rw[O]at J;by_cases B:M.bF k c (L m).bl (L m).e
   ·have l:Hid (M.bF k c (L m).bl (L m).e):=B;go_wp2_with (go_at_call 167;refine(yk Q ra (Sm b off) ba k rc c lc (L m).bl bc (L m).e _ (y.q (wG wr)) z A s).mono ?_;rintro e W ⟨⟨r,rfl,n⟩,d⟩;obtain rfl:r=true:=n.2 l;have x1:=(ue (a:=(Ad wr.heap.size 1)) (v:=Bt) sM d);have p:Hid _:=d;clear n d);go_roundw
    ·exact⟨m+1,oM,by go_num,uf C (uf (wG wr) p),vE G ⟨λ_=>l,λq=>aB (x.symm.trans q) dC⟩⟩
    simp[intOf];omega
   have l:Hid (¬M.bF k c (L m).bl (L m).e):=B;go_wp2_with (go_at_call 167;refine(yk Q ra (Sm b off) ba k rc c lc (L m).bl bc (L m).e _ (y.q (wG wr)) z A s).mono ?_;rintro e W ⟨⟨r,rfl,n⟩,d⟩;obtain rfl:r=false:=by { cases r;rfl;exact aB (n.1 rfl) l };have p:Hid _:=d;clear n d);go_ret;exact⟨⟨false,rfl,vh λq=>l ((q.2 m o).1 x)⟩,uf F (uf (wG wr) p)⟩
  have hh':(L m).h=false:=by simpa using O
  have x:=ua hh';rw[hh']at J;by_cases T:(L m).bl=0
  ·have H:Hid ((L m).bl=0):=T;have fz:¬(0:Int)<((L m).bl:Int):=oM;go_wp2;go_roundw
   ·exact⟨m+1,oM,by go_num,uf C (wG wr),vE G ⟨λq=>aB (x.symm.trans q) dC,λ_=>H⟩⟩
   simp[intOf];omega
  have H:Hid (¬(L m).bl=0):=T;have fz:(0:Int)<((L m).bl:Int):=oM;go_wp2;go_ret;exact⟨⟨false,rfl,vh λq=>H ((q.2 m o).2 x)⟩,uf F (wG wr)⟩
 obtain rfl:m=c:=oM;go_wp2;go_ret;exact⟨⟨true,rfl,jS ⟨S,G⟩⟩,F⟩
def wM(w w':Wl):Nat->Prop:=λb=>w.heap.size<=b/\b<w'.heap.size
def Bj(w w':Wl):Prop:=∀b o,w.heap.size<=b->b<w'.heap.size->w'.frozen? (Ad b o)=false
def Bj.c{a b c}(h:Bj a b)(k:Bj b c)(g:Bw b c):Bj a c:=λx o d f=>by
 by_cases e:x<b.heap.size
 ·rw[g.frozen (p:=(Ad x o)) e];exact h x o d e
 exact k x o oM f
def Bj.e w:Bj w w:=λb o a c=>by omega
def qk w{c} t:Bj w (w.alloc (Oc c t)):=λb o d a=>by
 simp at a;obtain rfl:b=w.heap.size:=oM;have h:=Df w (Oc c t);simp only[World.frozen?,h];simp
def cN{W:Wl}{c:Av}{t:TypeId}{j:Nat}{v:Vl}(y:Nat)(a:W.heap.size=y)(h:c[j]?=some v):(W.alloc (Oc c t)).cell? (Ad y j)=some v:=by
 subst a;have e:=Df W (Oc c t);simp only[World.cell?,e];exact h
def Bj.set{w W}(h:Bj w W)a v:Bj w (W.setCell a v):=λb o c d=>by
 rw[Ff];exact h b o c (by simpa[World.setCell] using d)
def GO{Q}W a v(h:¬Q a.block):wQ Q W (W.setCell a v):=λb c=>Ly W a v b (λe=>h (e▸c))
def uy{w W}(h:Bw w W){b}{o}{v}(a:w.heap.size<=b):Bw w (W.setCell (Ad b o) v):=h.setCell (p:=(Ad b o)) a v
def uj{W:Wl}{a:Addr}{v:Vl}:(W.setCell a v).heap.size=W.heap.size:=by simp[World.setCell]
structure GP(A:Wl->Option Addr->Prop)(n:Nat)(w:Wl)(e:Ending)(w':Wl):Prop where
 k:∃a c,e=Rt (Sl a n c)/\A w' a
 u:Bw w w'
 s:Bj w w'
def YR:(prog.info? 5).map (λi=>(i.zero,i.size,i.bytes))=some (some (Bv 0),1,1):=rR
def YS:(prog.info? 3).map (λi=>(i.zero,i.size,i.bytes))=some (some (Iv 0),1,8):=rR
def YT:(prog.info? 128).map (λi=>(i.zero,i.size,i.bytes))=some (some (.agg #[Iv 0,nS,Iv 0]),3,40):=rR
def Xx(k:IntKind)(S:Nat->Int)(m:Nat)(j:Nat):Vl:=if j<m then .int k (S j) else .int k 0
def ut9{k:IntKind}{t:TypeId}{w:Wl}{b n m:Nat}{S:Nat->Int}(h:w.rowIs b t n (Xx k S m)):(w.setCell (Ad b m) (.int k (S m))).rowIs b t n (Xx k S (m+1)):=by
 refine(h.set m (.int k (S m))).congr λi _=>?_
 unfold Xx;by_cases e:i=m
 ·subst e;simp
 rw[Zn e];by_cases a:i<m
 ·rw[Zp a,Zp oM]
 rw[Zn a,Zn oM]
def Row(w:Wl)(b:Nat)(t:TypeId)(n:Nat):Prop:=∃f,w.rowIs b t n f
def GQ(w:Wl)(z:Av)(n:Nat)(t:TypeId)(b:0<z.size):Row (w.alloc (Oc (madeCells z n) t)) w.heap.size t n :=
 ⟨λi=>z[i%z.size]!,madeCells z n,Df _ _,size_madeCells _ _,λi a=>by simp[madeCells,a]⟩
def Row.a{w w' b t n}(h:Row w b t n)(e:w'.heap[b]?=w.heap[b]?):Row w' b t n:=h.imp λ_ h=>h.of_block e
def Row.set{w b t n}(h:Row w b t n)i v:Row (w.setCell (Ad b i) v) b t n:=let ⟨_,h⟩:=h;⟨_,h.set i v⟩
def Row.p{w b t n}(h:Row w b t n){i}(a:i<n):∃v,w.cell? (Ad b i)=some v:=let ⟨_,h⟩:=h;⟨_,h.cell a⟩
def Row.n{w b t n}(h:Row w b t n)i:w.frozen? (Ad b i)=false:=let ⟨_,h⟩:=h;h.frozen i
def uu{w:Wl}{b i:Nat}{v u:Vl}(h:w.cell? (Ad b i)=some u):(w.setCell (Ad b i) v).cell? (Ad b i)=some v:=Kg (by rw[h];rfl)
def ur{w:Wl}{b i j:Nat}{v:Vl}(h:i≠j):(w.setCell (Ad b i) v).cell? (Ad b j)=w.cell? (Ad b j):=Ln w _ _ v (λe=>h (by injection e))
def Ox(w:Wl)(b o:Nat)(v0 v1 v2:Vl):Wl:=((w.setCell (Ad b o) v0).setCell (Ad b (o+1)) v1).setCell (Ad b (o+2)) v2
def YU{w b o n t v0 v1 v2}(h:Row w b t n)(e:o+2<n) :
  (Ox w b o v0 v1 v2).cell? (Ad b o)=some v0/\(Ox w b o v0 v1 v2).cell? (Ad b (o+1))=some v1/\(Ox w b o v0 v1 v2).cell? (Ad b (o+2))=some v2:=by
 obtain⟨u0,a⟩:=h.p (i:=o) oM;obtain⟨u1,c⟩:=(h.set o v0).p (i:=o+1) oM;obtain⟨u2,d⟩:=((h.set o v0).set (o+1) v1).p (i:=o+2) oM;unfold Ox;refine⟨?_,?_,uu d⟩
 ·rw[ur oM,ur oM];exact uu a
 rw[ur oM];exact uu c
def YV{w b o n t v0 v1 v2}(h:Row w b t n):Row (Ox w b o v0 v1 v2) b t n:=((h.set _ _).set _ _).set _ _
def yH{w:Wl}{b a i j:Nat}{v:Vl}(h:b≠a):(w.setCell (Ad b i) v).cell? (Ad a j)=w.cell? (Ad a j):=Ln w _ _ v (λe=>h (by injection e))
def YW:(prog.info? 78).map (λi=>(i.zero,i.size,i.bytes))=some (some (.agg #[nS,nS]),2,48):=rR
def GR:(prog.info? 50).map (λi=>(i.zero,i.size,i.bytes))=some (some (.agg #[nS,Bf,nS]),3,56):=rR
def YX(n:Nat)(g:n<=1048576)w:(Instr.makeSlice 35 (Iv (n:Int)) (Iv (n:Int))).run prog w=.ok (Sl (Sm w.heap.size 0) n n) (w.alloc (Oc (madeCells #[nS,Bf,nS] (n*3)) 50)):=by
 obtain⟨i,d,b⟩:=Gu.1 GR;simp only[Kt]at b;obtain⟨f,e,c⟩:=b;have a:=run_make (P:=prog) w 35 50 i _ underlying35 d f .i64 .i64 n n oM (Eg _) (by rw[c];omega) oM;simp only[Int.toNat_natCast,e]at a;exact a
section
open Go.RowKit Go.Deep
open M (OpD uh Gr uw EX ins)
def CK(n:Nat):((n:Int) != n)=false:=sM
def Gs(n:Int):(n != n)=false:=sM
def uvW(Q:Np)(w:Wl)(b o:Nat)(d:uw):Prop :=
 w.cell? (Ad b o)=some (Iv d.e)/\w.cell? (Ad b (o+1))=some (Iv d.f)/\w.cell? (Ad b (o+2))=some (Iv d.to) /\
  ∃sa sc,w.cell? (Ad b (o+3))=some (Sl sa d.sl sc)/\wB Q .i64 w sa d.sl d.set
def En(Q:Np)(w:Wl)(a:Oa)(n:Nat)(R:Nat->uw):Prop :=
 n=0\/∃b off,a=some (Ad b off)/\Q b/\∀i,i<n->uvW Q w b (off+i*4) (R i)
def En.on{Q w w' a n R}(h:En Q w a n R)(k:wQ Q w w'):En Q w' a n R:=by
 rcases h with h|⟨b,off,e,d,h⟩
 ·exact .inl h
 have c:∀o,w'.cell? (Ad b o)=w.cell? (Ad b o):=λo=>zI (a:=(Ad b o)) (k b d)
 refine .inr ⟨b,off,e,d,λi p=>?_⟩;obtain⟨f,g,j,sa,sc,l,m⟩:=h i p;exact⟨(c _).trans f,(c _).trans g,(c _).trans j,sa,sc,(c _).trans l,m.on k⟩
def En.q{Q w w' a n R}(h:En Q w a n R)(k:Bw w w'):En Q w' a n R:=by
 rcases h with h|⟨b,off,e,m,h⟩
 ·exact .inl h
 refine .inr ⟨b,off,e,m,λi l=>?_⟩;obtain⟨c,d,f,sa,sc,g,j⟩:=h i l;exact⟨ue c k,ue d k,ue f k,sa,sc,ue g k,j.q k⟩
def uq5:(prog.info? 202).map (λi=>(i.zero,i.size,i.bytes))=some (some (.agg #[Iv 0,Iv 0,Iv 0,nS]),4,48):=rR
def Se(w:Wl)(b o:Nat)(v0 v1 v2 v3:Vl):Wl:=(Ox w b o v0 v1 v2).setCell (Ad b (o+3)) v3
def utC{w b o n t v0 v1 v2 v3}(h:Row w b t n)(d:o+3<n) :
  (Se w b o v0 v1 v2 v3).cell? (Ad b o)=some v0/\(Se w b o v0 v1 v2 v3).cell? (Ad b (o+1))=some v1/\(Se w b o v0 v1 v2 v3).cell? (Ad b (o+2))=some v2/\(Se w b o v0 v1 v2 v3).cell? (Ad b (o+3))=some v3:=by
 obtain⟨c,p1,p2⟩:=YU (v0:=v0) (v1:=v1) (v2:=v2) h (o:=o) oM;obtain⟨u3,a⟩:=(YV (v0:=v0) (v1:=v1) (v2:=v2) (o:=o) h).p (i:=o+3) oM;unfold Se;refine⟨?_,?_,?_,uu a⟩
 ·rw[ur oM];exact c
 ·rw[ur oM];exact p1
 rw[ur oM];exact p2
section
variable {H:Type} {enc:TypeId×Value->H} {w:Wl} {base:Nat} {spare:Nat->Bool} {held:Bool}
instance:Inhabited uw:=⟨ins 0 0 0⟩
end
def set3(w:Wl)(b o:Nat)(x y z:Int):Wl:=((w.setCell (Ad b o) (Iv x)).setCell (Ad b (o+1)) (Iv y)).setCell (Ad b (o+2)) (Iv z)
def uL(k:Int):Nat->Int:=λi=>k+i
end
open M (uw)
structure Au where
 e:Int
 f:Int
 c:Int
def QR(w:Wl)(b o:Nat)(d:Au):Prop:=w.cell? (Ad b o)=some (Iv d.e)/\w.cell? (Ad b (o+1))=some (Iv d.f)/\w.cell? (Ad b (o+2))=some (Iv d.c)
def Mv(Q:Np)(w:Wl)(a:Oa)(n:Nat)(E:Nat->Au):Prop :=
 n=0\/∃b off,a=some (Ad b off)/\Q b/\∀i,i<n->QR w b (off+i*3) (E i)
def Mv.q{Q w w' a n R}(h:Mv Q w a n R)(k:Bw w w'):Mv Q w' a n R:=by
 rcases h with h|⟨b,off,e,d,h⟩
 ·exact .inl h
 exact .inr ⟨b,off,e,d,λi c=>⟨ue (h i c).1 k,ue (h i c).2.1 k,ue (h i c).2.2 k⟩⟩
def CQ(Q:Np)(w:Wl)(a:Oa)(n:Nat)(E:Nat->Au):Prop :=
 n=0\/∃b,a=some (Ad b 0)/\Q b/\(∀j,j<n*3->w.frozen? (Ad b j)=false)/\∀i,i<n->QR w b (i*3) (E i)
def CQ.ev{Q w a n R}(h:CQ Q w a n R):Mv Q w a n R:=by
 rcases h with h|⟨b,e,d,f,h⟩
 ·exact .inl h
 exact .inr ⟨b,0,e,d,λi c=>by rw[zL];exact h i c⟩
def yf(S:Nat->Int)(b:Int):Nat->Bool
 |0=>false
 |m+1=>yf S b m||(decide (S (2*m)<=b)&&decide (b<=S (2*m+1)))
def ve(n:Nat)(S:Nat->Int)(b:Int):Bool:=yf S b (n / 2)
def qY S b{m n}(h:m<=n)(k:yf S b m=true):yf S b n=true:=by
 induction n with
 |zero =>
  obtain rfl:m=0:=oM;exact k
 |succ n a =>
  by_cases e:m=n+1
  ·subst e;exact k
  rw[yf,a oM];rfl
def CU(v:Bool)(w:Wl)(e:Ending)(w':Wl):Prop:=e=Rt (.bool v)/\w'=w
def CV(v:Vl)(w:Wl)(e:Ending)(w':Wl):Prop:=e=Rt v/\Bw w w'
def Od(v:Bool)(w:Wl)(e:Ending)(w':Wl):Prop:=e=Rt (.bool v)/\Bw w w'
structure Cp where
 e:Int
 to:Int
 c:Nat
 a:Nat
structure wD where
 f:Int
 c:Nat
 st:List Cp
 a:List Au
 h:Nat
 j:Nat->Bool
 b:Nat
 d:Nat
 e:Bool
 i:Int
 label:Int
def wD.l(s:wD):Bool:=s.st.any (λf=>f.e==1)
def wD.t(s:wD)(c:Int):wD:={ s with e:=true,i:=c }
def wD.n(s:wD)(f:Cp)(mO:Int):wD:=if (s.st.length:Int) ≥ mO then s.t 3 else { s with st:=s.st++[f] }
def vg:List Cp->Option (Cp×List Cp)
 |[]=>none
 |f::r=>if f.e=2 then vg r else some (f,r)
def wD.fail(s:wD):wD :=
 match vg s.st.reverse with
 |none=>s.t 1
 |some (f,r)=>{ s with st:=r.reverse,c:=f.c,a:=s.a.take f.a,f:=f.to }
def uvX(w:Wl)(n:Nat)(S:Nat->Int)(b:Int)(i:Vl)(wr:Wl):Prop:=∃k:Nat,2*k<=n+1/\i=Iv (2*(k:Int))/\yf S b k=false/\wr=w
def CW Q a n c S b{w}(f:wB Q .i64 w a n S)(E:n<=1048576) :
  Cs 93 #[Sl a n c,Iv b] w (CU (ve n S b) w):=by
 have r:=ua f;go_enter func93,ntmps93;go_wp2;go_loopw [5] (λi wr=>uvX w n S b i wr) (λi _=>n+1-(intOf i).toNat)
 ·exact⟨0,oM,rfl,rfl,rfl⟩
 obtain⟨k,B,rfl,x,G⟩:=hrel;subst wr;have e:=ua x;by_cases D:2*k+1<n
 ·rcases r.o with A|⟨z,off,rfl,F,f⟩
  ·omega
  have s:=f (2*k) oM;have t:=f (2*k+1) oM;have y:(2*(k:Int))+1<(n:Int):=oM;have C:(2*(k:Int))<(n:Int):=oM;obtain⟨u,j⟩:=nm (S (2*k));obtain⟨v,l⟩:=nm (S (2*k+1));have g:=ua j;have h:=ua l;rw[j]at s;rw[l]at t;by_cases o:u<=b
  ·by_cases p:b<=v
   ·have d:Hid (ve n S b=true):=qY S b (m:=k+1) oM (by rw[yf,g.o,h.o,e.o];simp[o,p]);go_wp2;go_ret;exact⟨by rw[d.o];rfl,rfl⟩
   have d:Hid (yf S b (k+1)=false):=(by show _=_;rw[yf,g.o,h.o,e.o];simp[p]);go_wp2;go_roundw
   ·exact⟨k+1,oM,by go_num,d,rfl⟩
   simp[intOf];omega
  have d:Hid (yf S b (k+1)=false):=by show _=_;rw[yf,g.o,h.o,e.o];simp[o]
  go_wp2;go_roundw
  ·exact⟨k+1,oM,by go_num,d,rfl⟩
  simp[intOf];omega
 have y:¬(2*(k:Int))+1<(n:Int):=oM;have d:Hid (ve n S b=false):=by
  show yf S b (n / 2)=false;by_cases q:yf S b (n / 2)=true
  ·have:=qY S b (show n / 2<=k by omega) q;rw[e.o]at this;cases this
  simpa using q
 go_wp2;go_ret;exact⟨by rw[d.o];rfl,rfl⟩
def wJ(w:Wl)(b:Nat)(c:Av):Prop:=∃t,w.heap[b]?=some (Oc c t)
def wJ.x{w b c}(h:wJ w b c):(∀o,w.cell? (Ad b o)=c[o]?)/\(∀o,w.frozen? (Ad b o)=false)/\b<w.heap.size:=by
 obtain⟨t,h⟩:=h;exact⟨λo=>by simp only[World.cell?,h];rfl,λo=>by simp only[World.frozen?,h];simp,(Cq.1 h).1⟩
def wJ.a{w w' b c}(h:wJ w b c)(k:w'.heap[b]?=w.heap[b]?):wJ w' b c:=let ⟨t,h⟩:=h;⟨t,k.trans h⟩
def wJ.on{w w' b c}(h:wJ w b c)(k:Bw w w'):wJ w' b c:=h.a (k.block b h.x.2.2)
def wJ.al{w b c}(h:wJ w b c)o:wJ (w.alloc o) b c:=h.on (uk w o)
def wJ.set{w b c}(h:wJ w b c)i v:wJ (w.setCell (Ad b i) v) b (c.setIfInBounds i v):=let ⟨t,h⟩:=h;⟨t,by simp[World.setCell,Om,h]⟩
def wJ.h{w b c}(h:wJ w b c)d i v(e:b≠d):wJ (w.setCell (Ad d i) v) b c:=h.a (zJ _ e)
def um(w:Wl)(c:Av)(t:TypeId):wJ (w.alloc (Oc c t)) w.heap.size c:=⟨t,Df w _⟩
def Cm{w:Wl}{c:Av}{t:TypeId}:=um w c t
def uV(w:Wl)(c:Av)(t:TypeId)(b:Nat)(a:b=w.heap.size):wJ (w.alloc (Oc c t)) b c:=a▸um w c t
def Wr(w:Wl)(g n:Nat):Prop:=∀j,j<n->(w.cell? (Ad g j)).isSome=true/\w.frozen? (Ad g j)=false
def wC(Q:Np)(w:Wl)(v:Vl)(a n:Nat)(cs:List Value):Prop :=
 (v=nS/\n=0/\cs = [])\/∃g cap,v=Sl (Sm g 0) n cap/\Q g/\cs.length=n*a/\n<=cap/\(∀j,j<cs.length->w.cell? (Ad g j)=cs[j]?)/\Wr w g (cap*a)
structure wS(Q:Np)(w w':Wl):Prop where
 os:w'.os=w.os
 g:w'.tape=w.tape
 f:w'.output=w.output
 h:w.heap.size<=w'.heap.size
 d:∀b,b<w.heap.size->¬Q b->w'.heap[b]?=w.heap[b]?
 n:∀b o,b<w.heap.size->w'.frozen? (Ad b o)=w.frozen? (Ad b o)
 a:∀b o,w.heap.size<=b->b<w'.heap.size->w'.frozen? (Ad b o)=false
def Bj.a{Q w0 w w'}(h:Bj w0 w)(g:wS Q w w'):Bj w0 w':=λb o c d=>by
 by_cases e:b<w.heap.size
 ·rw[g.n b o e];exact h b o c e
 exact g.a b o oM d
def Wr.q{w w' g n}(h:Wr w g n)(k:w'.heap[g]?=w.heap[g]?):Wr w' g n:=λj b=>by
 rw[zI (a:=(Ad g j)) k,Ec (a:=(Ad g j)) k];exact h j b
def wC.on{Q w w' v c n cs}(h:wC Q w v c n cs)(k:wQ Q w w'):wC Q w' v c n cs:=by
 rcases h with h|⟨g,cap,d,b,e,f,i,l⟩
 ·exact .inl h
 exact .inr ⟨g,cap,d,b,e,f,λj m=>by rw[zI (a:=(Ad g j)) (k g b)];exact i j m,l.q (k g b)⟩
def ke g:∀(a:List Value) (o:Nat) (w:Wl) (b:Nat),b≠g->(w.setCells g o a).heap[b]?=w.heap[b]?
 |[],_,_,_,_=>rfl
 |v::r,o,w,b,h=>by
  show((w.setCell (Ad g o) v).setCells g (o+1) r).heap[b]?=_;rw[ke g r (o+1) _ b h,zJ _ h]
def yq g:∀(a:List Value) (o:Nat) (w:Wl),(w.setCells g o a).heap.size=w.heap.size
 |[],_,_=>rfl
 |v::r,o,w=>by
  show((w.setCell (Ad g o) v).setCells g (o+1) r).heap.size=_;rw[yq g r (o+1) _,uj]
def qf g:∀(a:List Value) (o:Nat) (w:Wl),(w.setCells g o a).os=w.os/\(w.setCells g o a).tape=w.tape/\(w.setCells g o a).output=w.output
 |[],_,_=>⟨rfl,rfl,rfl⟩
 |v::r,o,w=>qf g r (o+1) (w.setCell (Ad g o) v)
def UI{Q w v x r n m cs news t s e}ty{i z D}(S:prog.underlying t=some (.slice e))(R:prog.info? e=some i)(ac:i.zero=some z)(ad:i.size=r)(ae:i.bytes=D)(af:z.cells.size=r)(aa:wC Q w v r n cs)(f:Src prog r s x m news w)(W:n+m<=16777216)(l:D<=128)(Y:v=nS->0<m) :
  ∃y w',(Builtin.append_ #[t,s] ty #[v,x]).run prog w=.ok y w'/\wC (λb=>Q b\/w.heap.size<=b) w' y r (n+m) (cs++news)/\wS (λb=>Q b) w w'/\w'.heap.size<=w.heap.size+1:=by
 subst ad;have E:∀(A:Oa) (cap:Nat) (L:(Builtin.firstCells i.size n (Sl A n cap)).run prog w.drew=.ok cs.toArray w.drew),cs.length=n*i.size->cap<n+m->v=Sl A n cap ->
   ∃y w',(Builtin.append_ #[t,s] ty #[v,x]).run prog w=.ok y w'/\wC (λb=>Q b\/w.heap.size<=b) w' y i.size (n+m) (cs++news)/\wS (λb=>Q b) w w'/\w'.heap.size<=w.heap.size+1:=by
  rintro A cap L p N rfl;have B:=run_append_grow_src (P:=prog) w t s ty e i z S R ac A n cap cs L x m news f N oM (by rw[ae];exact growslice_fits N (by have:(n+m)*D<=16777216*128:=Nat.mul_le_mul W l;omega));have O:=grownCap_ge w (n+m) cap e;refine⟨_,_,B,.inr ⟨w.heap.size,_,rfl,.inr wF,by rw[wK,p,f.newsLen,Gx],O,λj c=>?_,λj c=>⟨?_,?_⟩⟩,⟨rfl,rfl,rfl,sM,λb l _=>Hg w.drew _ _ l,λb o l=>Ec (a:=(Ad b o)) (Hg w.drew _ _ l),λb o H d=>qk w.drew e b o H d⟩,sM⟩
  ·have h:=Df w.drew (Oc ((cs++news).toArray++Builtin.zeroCells z.cells (grownCap w (n+m) cap e-(n+m))) e);have h':(w.drew.alloc (Oc ((cs++news).toArray++Builtin.zeroCells z.cells (grownCap w (n+m) cap e-(n+m))) e)).heap[w.heap.size]?=some (Oc ((cs++news).toArray++Builtin.zeroCells z.cells (grownCap w (n+m) cap e-(n+m))) e):=h;simp only[World.cell?,h'];rw[Array.getElem?_append_left (by simpa using c)];simp
  ·have h:=Df w.drew (Oc ((cs++news).toArray++Builtin.zeroCells z.cells (grownCap w (n+m) cap e-(n+m))) e);have h':(w.drew.alloc (Oc ((cs++news).toArray++Builtin.zeroCells z.cells (grownCap w (n+m) cap e-(n+m))) e)).heap[w.heap.size]?=some (Oc ((cs++news).toArray++Builtin.zeroCells z.cells (grownCap w (n+m) cap e-(n+m))) e):=h;simp only[World.cell?,h'];have ab:((cs++news).toArray++Builtin.zeroCells z.cells (grownCap w (n+m) cap e-(n+m))).size=grownCap w (n+m) cap e*i.size:=by
    simp only[Array.size_append,Fg,wK,p,f.newsLen,size_zeroCells,af];generalize grownCap w (n+m) cap e=G at O ⊢;obtain⟨k,rfl⟩:∃k,G=n+m+k:=⟨G-(n+m),oM⟩;rw[show n+m+k-(n+m)=k by omega,Gx,Gx]
   rw[Array.getElem?_eq_getElem (by rw[ab];exact c)];rfl
  have h:=Df w.drew (Oc ((cs++news).toArray++Builtin.zeroCells z.cells (grownCap w (n+m) cap e-(n+m))) e);have h':(w.drew.alloc (Oc ((cs++news).toArray++Builtin.zeroCells z.cells (grownCap w (n+m) cap e-(n+m))) e)).heap[w.heap.size]?=some (Oc ((cs++news).toArray++Builtin.zeroCells z.cells (grownCap w (n+m) cap e-(n+m))) e):=h;simp only[World.frozen?,h'];simp
 rcases aa with⟨rfl,rfl,rfl⟩|⟨g,cap,rfl,I,p,ah,J,q⟩
 ·exact E none 0 (by rw[run_firstCells_none]) sM (oH (Y rfl)) rfl
 by_cases C:n+m<=cap
 ·have B:=run_append_room_src (P:=prog) w t s ty e i S R g 0 n cap x m news f C
   (λj c=>by rw[zL];rw[f.newsLen]at c;exact(q _ (by have:(n+m)*i.size<=cap*i.size:=Lm _ C;rw[Gx]at this;omega)).1)
   (λj c=>by rw[zL];rw[f.newsLen]at c;exact(q _ (by have:(n+m)*i.size<=cap*i.size:=Lm _ C;rw[Gx]at this;omega)).2)
  rw[zL]at B;have U:(n+m)*i.size<=cap*i.size:=Lm _ C;rw[Gx]at U;have Z:=f.newsLen;obtain⟨o1,o2,o3⟩:=qf g news (n*i.size) w;refine⟨_,_,B,.inr ⟨g,cap,rfl,.inl I,by rw[wK,p,f.newsLen,Gx],oM,λj c=>?_,λj c=>⟨?_,?_⟩⟩,⟨o1,o2,o3,by rw[yq];exact wF,λb _ l=>ke g _ _ _ _ (λe=>l (e▸I)),λb o _=>World.frozen?_setCells _ _ _ _ _,λb o H d=>by rw[yq]at d;omega⟩,by rw[yq];omega⟩
  ·rw[wK,Z]at c;by_cases X:j<n*i.size
   ·rw[Qh g _ _ w _ (λ_ _=>Or.inl X),Cr oM];exact J j oM
   have d:=Qi g news (n*i.size) w (λk V=>(q _ oM).1) (j-n*i.size) oM;rw[show n*i.size+(j-n*i.size)=j by omega]at d;rw[d,Di oM,p,zG oM]
  ·by_cases ag:n*i.size<=j/\j<n*i.size+news.length
   ·have d:=Qi g news (n*i.size) w (λk V=>(q _ oM).1) (j-n*i.size) oM;rw[show n*i.size+(j-n*i.size)=j by omega]at d;rw[d];rfl
   rw[Qh g _ _ w _ (λ_ _=>sO)];exact(q j c).1
  rw[World.frozen?_setCells];exact(q j c).2
 exact E (Sm g 0) cap (run_firstCells_some (P:=prog) w.drew i.size n (Ad g 0) n cap cs p (λj u T=>by
  have c:=(zT.1 T).1;have e':((Ad g 0):Addr).add j=(Ad g j):=by
   by_cases F:j=0
   ·subst F;simp[Addr.add]
   simp[Addr.add,F]
  rw[e',<-T];exact J j c)) p oM rfl
structure vA(t e:TypeId)(sz bytes:Nat):Prop where
 c:prog.underlying t=some (.slice e)
 a:∃z,(prog.info? e).map (λi=>(i.zero,i.size,i.bytes))=some (some z,sz,bytes)/\z.cells.size=sz
 b:bytes<=128
def xd{Q w v x d k n m cs news t h e}ty(f:vA t e d k)(r:wC Q w v d n cs)(s:Src prog d h x m news w)(p:n+m<=16777216)(q:v=nS->0<m) :
  ∃j w',(Builtin.append_ #[t,h] ty #[v,x]).run prog w=.ok j w'/\wC (λb=>Q b\/w.heap.size<=b) w' j d (n+m) (cs++news)/\wS (λb=>Q b) w w'/\w'.heap.size<=w.heap.size+1:=by
 obtain⟨z,l,B⟩:=f.a;obtain⟨i,o,g⟩:=Gu.1 l;simp only[Kt]at g;obtain⟨u,y,A⟩:=g;exact UI ty f.c o u y A B r s p f.b q
def Qo{ops:Array Oper}{rest:List Oper}{o:Oper}{a:Act}{f:Exit->Act->World->Prop}{w:Wl}(r:o.guard=none)(s x:Operand)(t g:TypeId)(A:o.op=.call { callee:=.builtin .append,args:=#[s,x],argTypes:=#[t,g] })
  {Q:Np} {v y:Vl} {e:TypeId} {c i n m:Nat} {cs news:List Value} (D:a.eval s=v) (F:a.eval x=y) (p:vA t e c i) (B:wC Q w v c n cs) (E:Src prog c g y m news w) (u:n+m<=16777216) (z:v=nS->0<m)
  (h:∀d w',wC (λb=>Q b\/w.heap.size<=b) w' d c (n+m) (cs++news)->wS (λb=>Q b) w w'->w'.heap.size<=w.heap.size+1->wpList prog ops f rest (a.put o.dst d) w'):wpList prog ops f (o::rest) a w:=by
 refine wpList_plain r λK q=>?_
 obtain⟨d,w',C,j,k,l⟩:=xd o.type p B E u z;unfold Oper.wp execOp;simp only[A,resolve,invoke,builtin,Fa,Gc,Gk,Hs,Er,Gl,D,F,C];exact q _ _ (h d w' j k l)
def Qp{ops:Array Oper}{o:Oper}{a:Act}{w:Wl}{K:Act->World->Prop}{g:Exit->Act->World->Prop}{E:Prop}(q:o.guard=none)(s x:Operand)(t f:TypeId)(z:o.op=.call { callee:=.builtin .append,args:=#[s,x],argTypes:=#[t,f] })
  {Q:Np} {v y:Vl} {e:TypeId} {c i n m:Nat} {cs news:List Value} (C:a.eval s=v) (G:a.eval x=y) (p:vA t e c i) (A:wC Q w v c n cs) (D:Src prog c f y m news w) (r:n+m<=16777216) (u:v=nS->0<m)
  (h:∀d w',wC (λb=>Q b\/w.heap.size<=b) w' d c (n+m) (cs++news)->wS (λb=>Q b) w w'->w'.heap.size<=w.heap.size+1->K (a.put o.dst d) w'):if Region.wanted o (yielded ops a.tmps)=true then Oper.wp prog o a w K g else E:=by
 have F:Region.wanted o (yielded ops a.tmps)=true:=by simp[Region.wanted,q]
 rw[Zp F];obtain⟨d,w',B,j,k,l⟩:=xd o.type p A D r u;unfold Oper.wp execOp;simp only[z,resolve,invoke,builtin,Fa,Gc,Gk,Hs,Er,Gl,C,G,B];exact h d w' j k l
def jz:vA 23 3 1 8:=⟨underlying23,⟨_,YS,rfl⟩,oM⟩
def qg:vA 22 5 1 1:=⟨underlying22,⟨_,YR,rfl⟩,oM⟩
def Nh:vA 48 128 3 40:=⟨underlying48,⟨_,YT,rfl⟩,oM⟩
def EP:vA 34 78 2 48:=⟨underlying34,⟨_,YW,rfl⟩,oM⟩
def wD.s(s:wD)(k:Int):Bool:=match s.st.getLast? with|none=>false|some f=>f.e==k
def QO{l:List Cp}{j:Nat}(h:l.length=j+1):∃f,l[j]?=some f/\l.getLast? = some f:=by
 have a:j<l.length:=oM;refine⟨l[j],zG a,?_⟩;rw[List.getLast?_eq_getElem?,h];simp[a]
def uhQ l f(h:f.e=2):vg (l++[f]).reverse=vg l.reverse:=by
 rw[List.reverse_append];show vg (f::l.reverse)=_;rw[vg,Zp h]
def qA{l:List Cp}{j:Nat}{f:Cp}(a:l[j]?=some f):l.take (j+1)=l.take j++[f]:=by
 obtain⟨b,e⟩:=zT.1 a;rw[<-e,List.take_append_getElem b]
def uq{Q w v b n cs}(h:wC Q w v b n cs):∃a c,v=Sl a n c:=by
 rcases h with⟨rfl,rfl,_⟩|⟨g,cap,rfl,_⟩
 ·exact⟨none,0,rfl⟩
 exact⟨_,_,rfl⟩
def uA{Q Q' w v a n cs}(h:wC Q w v a n cs)(k:∀b,Q b->Q' b):wC Q' w v a n cs:=by
 rcases h with h|⟨g,cap,e,d,c⟩
 ·exact .inl h
 exact .inr ⟨g,cap,e,k g d,c⟩
structure Kept(K:Np)(w w':Wl):Prop where
 os:w'.os=w.os
 g:w'.tape=w.tape
 f:w'.output=w.output
 h:w.heap.size<=w'.heap.size
 d:∀b,b<w.heap.size->¬K b->w'.heap[b]?=w.heap[b]?
def Kept.of{K w w'}(h:Bw w w'):Kept K w w':=⟨h.os,h.tape,h.output,h.size,λb a _=>h.block b a⟩
def Kept.set{K w w'}(h:Kept K w w')b o v(i:w.heap.size<=b):Kept K w (w'.setCell (Ad b o) v) :=
 ⟨h.os,h.g,h.f,by rw[uj];exact h.h,λx c a=>(zJ x (λe=>by simp at e;omega)).trans (h.d x c a)⟩
end Go.Proofs.YtoihadcablknpaaGreatDoor
