import Derived.Test.YtoihadcablknpaaGreatDoorT47
import Derived.Test.YtoihadcablknpaaGreatDoorT10
set_option linter.unusedVariables false
set_option linter.unusedSimpArgs false
set_option linter.defProp false
set_option maxHeartbeats 40000000
set_option maxRecDepth 100000
namespace Go.Proofs.YtoihadcablknpaaGreatDoor
open Go.RowKit
open Go.Proofs.Tryz
open M (OpD uh Gr)
def Dx(k:IntKind)(w0:Wl)(z:LI)(v:Vl)(wr:Wl):Prop:=wC (wM w0 wr) wr v 1 z.length (uQ k (lf z) z.length)/\Kf w0 wr
def Zg k l x:uQ k (lf l) l.length++[.int k x]=uQ k (lf (l++[x])) (l.length+1):=by
 unfold uQ;rw[List.range_succ,Cl];congr 1
 ·refine Oo λi a=>?_
  have:=Ng.1 a;simp[lf,Cr this]
 simp[lf]
def Dx.nil{k w0 wr}(h:Kf w0 wr):Dx k w0 [] nS wr:=⟨.inl ⟨rfl,rfl,rfl⟩,h⟩
def Dx.d{k w0 wr f a l v5 x}(j:Kf w0 wr)(m:Kf wr f)(own:wC (λb=>wM w0 wr b\/f.heap.size<=b) a v5 1 (l.length+1) (uQ k (lf l) l.length++[.int k x]))(g:wS (wM w0 wr) f a):Dx k w0 (l++[x]) v5 a:=by
 have s:(l++[x]).length=l.length+1:=sM;refine⟨?_,yt (j.c m) g (λb q=>q.1)⟩;rw[Zg]at own;rw[s];have u:=j.h;have zk':=m.h;rcases own with⟨_,q,_⟩|⟨b,cap,e,t,o,p,i,r⟩
 ·omega
 refine .inr ⟨b,cap,e,⟨?_,?_⟩,o,p,i,r⟩
 ·rcases t with q|q
  ·exact q.1
  omega
 have n:0<(uQ k (lf (l++[x])) (l.length+1)).length:=by rw[jf];omega
 have h:=i 0 n;rw[zG n]at h;exact ud h
def Dx.a{k w0 wr l v}(h:Dx k w0 l v wr):∃a c,v=Sl a l.length c:=uq h.1
def Dx.b{k w0 wr l a n c}(h:Dx k w0 l (Sl a n c) wr):wB (wM w0 wr) k wr a l.length (lf l):=by
 obtain⟨d,f,e⟩:=uq h.1;injection e with e1 e2 e3;subst e1 e2 e3;exact yE h.1
def Zh(wr:Wl)(x:Int):Src prog 1 22 (Sl (Sm wr.heap.size 0) 1 1) 1 [Bv x] (wr.alloc (Oc #[Bv x] 5)) :=
 vC underlying22 rfl (λj u a=>by
  have b:=Df wr (Oc #[Bv x] 5);simp only[World.cell?,b];rw[<-a];simp) (λu a=>by obtain rfl:=Aw.1 a;rfl)
def ut w m:Kf w (w.drewN m):=wA.i (zB (Wz w.heap.size w) m) (λk a _=>a)
def Do.m{Q t a w w'}(h:Do Q w a t)(k:Kf w w'):Do Q w' a t:=wB.q h k.u
def J7 t i(d:i<=t.n):0<=(Gf t i).1/\(Gf t i).1<=255/\i+(Gf t i).2<=t.n:=by
 have b1:=t.j (i+1);have e:=Tw (t.T (i+2));have f:=Tw (t.T (i+3));unfold Gf;split
 ·simp;omega
 split
 ·simp;omega
 split
 ·simp;omega
 split
 ·simp;omega
 split
 ·simp;omega
 split
 ·rename_i h;obtain⟨_,a,b,c⟩:=h;simp;omega
 simp;omega
def xO t i c(b:i<=t.n):0<=(zH t i c).1/\(zH t i c).1<=255/\i+(zH t i c).2<=t.n:=by
 have b1:=t.j i;have a:=J7 t i b;unfold zH;split
 ·simp;omega
 split
 ·exact a
 split
 ·simp;omega
 split
 ·simp;omega
 simp;omega
def Hy(t:Tx):Nat->Nat->List Int->Option (List Int×Nat)
 |0,_,_=>none
 |f+1,j,z=>if j<t.n/\t.T j=34 then some (z,j+1) else if (zH t j false).2=0 then none else Hy t f (j+(zH t j false).2) (z++[(zH t j false).1])
def Jj(t:Tx)(i:Nat):Option (List Int×Nat):=Hy t (t.n-i) (i+1) []
def KD(k:IntKind)(r:Option (List Int×Nat))(i:Nat)(w:Wl)(e:Ending)(w':Wl):Prop :=
 Kf w w'/\match r with
 |none=>e=.returned (.tuple #[.slice none 0 0,Iv 0])
 |some (z,j)=>∃a c,e=Rt (.tuple #[Sl a z.length c,Iv ((j:Int)-i)])/\wB (wM w w') k w' a z.length (lf z)
def J8 Q t a c i w(hT:Do Q w a t)(hi:i<t.n) :
  Cs 84 #[Sl a t.n c,Iv i] w (KD .u8 (Jj t i) i w):=by
 have ad:=t.le;have Z:=ua hT;obtain⟨r,I⟩:=nm (Jj t i);rw[I];go_enter func84,ntmps84;go_wp2;go_loopw [6,7] (λv u wr=>∃(f j:Nat) (z:LI),j<=t.n/\i<j/\t.n-j<f/\u=Iv j/\z.length<=j/\Dx .u8 w z v wr/\Hy t f j z=r) (λ_ u _=>t.n-(intOf u).toNat)
 ·exact⟨t.n-i,i+1,[],oM,oM,oM,by go_num,sM,Dx.nil zM,I⟩
 obtain⟨f,j,z,O,ac,hf,rfl,hz,A,R⟩:=hrel;obtain⟨f,rfl⟩:∃q,f=q+1:=⟨f-1,oM⟩;obtain⟨va,vc,rfl⟩:=A.a;have k:Hid (Dx .u8 w z (Sl va z.length vc) wr):=A;have N:Hid ((if j<t.n/\t.T j=34 then some (z,j+1) else if (zH t j false).2=0 then none else Hy t f (j+(zH t j false).2) (z++[(zH t j false).1]))=r):=R;have l:Hid (Do Q wr a t):=Z.o.m A.2;clear A R I;by_cases G:j<t.n/\t.T j=34
 ·obtain⟨H,P⟩:=G;obtain⟨b,off,rfl,_,s⟩:=l.o.at H;have J:=s j H;rw[P]at J;have hq1':(j:Int)<t.n:=oM;clear s;go_wp2;go_ret2;have e:=N.o;rw[Zp ⟨H,P⟩]at e;subst e;exact⟨k.o.2,_,_,by congr 3,k.o.b⟩
 have L:Hid (¬(j<t.n/\t.T j=34)):=G;obtain⟨x1,x2,S⟩:=xO t j false O;have y:Hid (∀w,Do Q w a t->Cs 121 #[Sl a t.n c,Iv j,Bf] w (Nm (zH t j false).1 ((zH t j false).2:Nat) w)):=λw h=>Zf Q t a c j false w h O
 have F:Hid ((if (zH t j false).2=0 then none else Hy t f (j+(zH t j false).2) (z++[(zH t j false).1]))=r):=by
  have:=N.o;rw[Zn G]at this;exact this
 generalize zH t j false=p at *;obtain⟨pb,pn⟩:=p;simp only at x1 x2 S y F;have U:Hid (∀W1,Kf wr W1->¬pn=0->∀v5 o,wC (λb=>wM w wr b\/W1.heap.size<=b) o v5 1 (z.length+1) (uQ .u8 (lf z) z.length++[Bv pb])->wS (wM w wr) W1 o->∃(f x:Nat) (z:LI),x<=t.n/\i<x/\t.n-x<f/\Iv ((j:Int)+pn)=Iv x/\z.length<=x/\Dx .u8 w z v5 o/\Hy t f x z=r):=by
  intro W1 aa D v5 o C B;have e:=F;rw[Zn D]at e;exact⟨f,j+pn,z++[pb],S,oM,oM,sM,sO,Dx.d k.2 aa C B,e⟩
 by_cases D:pn=0
 ·subst D;have e:=F;rw[Zp rfl]at e;subst e;by_cases g:j<t.n
  ·have hjn':(j:Int)<t.n:=oM;obtain⟨b,off,rfl,_,s⟩:=l.at g;have J:=s j g;have y1:(t.T j==34)=false:=by simpa using λq=>L ⟨g,q⟩
   have b0:=t.j j;go_wp2_with fail;refine(y wr l).mono ?_;rintro e W ⟨rfl,m,rfl⟩;go_wp2;go_ret2;exact⟨k.2.c (ut _ _),rfl⟩
  have hjn':¬(j:Int)<t.n:=oM;go_wp2_with fail;refine(y wr l).mono ?_;rintro e W ⟨rfl,m,rfl⟩;go_wp2;go_ret2;exact⟨k.2.c (ut _ _),rfl⟩
 have hp':¬(pn:Int)=0:=oM;by_cases g:j<t.n
 ·have hjn':(j:Int)<t.n:=oM;obtain⟨b,off,rfl,_,s⟩:=l.at g;have J:=s j g;have y1:(t.T j==34)=false:=by simpa using λq=>L ⟨g,q⟩
  have b0:=t.j j;go_wp2_with fail;refine(y wr l).mono ?_;rintro e W ⟨rfl,m,rfl⟩;have E:=U _ ((ut wr m).c (wA.a _ _ (Oc #[Bv pb] 5))) D;have E:=E;have Y:Hid (Src prog 1 22 (Sl (Sm ((wr.drewN m).heap.size) 0) 1 1) 1 [Bv pb] ((wr.drewN m).alloc (Oc #[Bv pb] 5))):=Zh _ _;have X:=ua (k.1.on (λb hb=>((ut wr m).c (wA.a _ _ (Oc #[Bv pb] 5))).d b hb.2 (λq=>q)));go_wp2_with (at_builtin;refine Jt rfl _ _ 22 22 rfl rfl rfl qg (Q:=wM w wr) (n:=z.length) (cs:=uQ .u8 (lf z) z.length) (m:=1) (news:=[Bv pb]) X Y oM ?_;intro v5 o C B ab;have V:Hid _:=E v5 o C B;clear C B ab);go_roundw;all_goals first
   |exact V
   |(simp[intOf];omega)
   |omega
 omega
def kK(m:Nat->Bool)(lo k:Nat):Nat->Bool:=fun b=>m b||(decide (lo<=b)&&decide (b<k))
theorem HU m lo:kK m lo lo=m:=by
 funext b
 unfold kK;by_cases h:lo<=b
 ·simp[h,Nat.not_lt.2 h]
 ·simp[h]
def xf(t:Tx):Nat->Nat->(Nat->Bool)->Option ((Nat->Bool)×Nat)
 |0,_,_=>none
 |f+1,j,m =>
  if j<t.n/\t.T j=93 then some (m,j)
  else if (zH t j true).2=0 then none
  else if j+(zH t j true).2<t.n/\t.T (j+(zH t j true).2)=45 then
   (if (zH t (j+(zH t j true).2+1) true).2=0\/(zH t (j+(zH t j true).2+1) true).1<(zH t j true).1 then none
   else xf t f (j+(zH t j true).2+1+(zH t (j+(zH t j true).2+1) true).2) (kK m (zH t j true).1.toNat ((zH t (j+(zH t j true).2+1) true).1.toNat+1)))
  else xf t f (j+(zH t j true).2) (kK m (zH t j true).1.toNat ((zH t j true).1.toNat+1))
def Ra(t:Tx)(i:Nat):Bool:=decide (i+1<t.n/\t.T (i+1)=94)
def Kz(t:Tx)(i:Nat):Nat:=if Ra t i=true then i+2 else i+1
def ule(neg:Bool):Option ((Nat->Bool)×Nat)->Option (List Int×Nat)
 |none=>none
 |some (m,j)=>some (rg (fun b=>m b != neg) 256,j+1)
def jY(t:Tx)(i:Nat):Option (List Int×Nat):=ule (Ra t i) (xf t (t.n+2-i) (Kz t i) (fun _=>false))
theorem Do.q{Q t a w w'}(h:Do Q w a t)(k:Bw w w'):Do Q w' a t:=wB.q h k
theorem HV l:vB l=uQ .i64 (lf l) l.length:=by
 apply List.ext_getElem?
 intro i;unfold vB uQ lf;by_cases h:i<l.length
 ·simp[h]
 ·simp[h,Nat.not_lt.1 h]
def zZ(w:Wl)(m:Nat->Bool)(wr:Wl):Prop:=wr.rowIs w.heap.size 4 256 (fun i=>.bool (m i))/\Bw w wr
theorem zZ.a{w wr m}(h:zZ w m wr)k:zZ w m (wr.drewN k):=⟨h.1.of_block rfl,zB h.2 k⟩
theorem zZ.set{w wr m}(h:zZ w m wr)i v:zZ w (fun b=>if b=i then v else m b) (wr.setCell (Ad w.heap.size i) (.bool v)):=by
 refine⟨(h.1.set i (.bool v)).congr fun b _=>?_,h.2.setCell wF _⟩
 by_cases e:b=i<;>simp[e]
theorem zZ.eq{w wr m a}(h:zZ w m wr)(e:m=a):zZ w a wr:=e▸h
theorem HW m{lo k}(h:lo<=k):(fun b=>if b=k then true else kK m lo k b)=kK m lo (k+1):=by
 funext b
 unfold kK;by_cases e:b=k
 ·subst e;simp[h]
 ·have:(b<k)=(b<k+1):=sO
  simp[e,this]
def Ju(m:Nat->Bool)(neg:Bool)(k:Nat):Nat->Bool:=fun b=>if b<k then m b != neg else m b
theorem B7 m neg:Ju m neg 0=m:=by funext b;simp[Ju]
theorem B8 m k:(fun b=>if b=k then !(Ju m true k k) else Ju m true k b)=Ju m true (k+1):=by
 funext b
 unfold Ju;by_cases e:b=k
 ·subst e;simp
 ·have:(b<k)=(b<k+1):=sO
  simp[e,this]
theorem B9{w wr m neg k L}(d:zZ w (Ju m neg k) wr)(g:neg=false->k=0)(c:rg (fun b=>m b != neg) 256=L)(a:¬k<256\/neg=false) :
  Cs 122 #[Sl (Sm w.heap.size 0) 256 256] wr (Ps L wr):=by
 have h:=QX (Sm w.heap.size 0) (fun b=>m b != neg) wr ⟨w.heap.size,rfl,fun i f=>by
  have e:Ju m neg k i=(m i != neg):=by
   unfold Ju;rcases a with a | a
   ·rw[Zp oM]
   ·rw[g a,Zn oM,a]
    simp
  exact (d.1.cell f).trans (by rw[e])⟩
 rw[c]at h;exact h
theorem C0{w wr m L}(d:zZ w m wr)e W(j:Ps L wr e W):∃a c,e=Rt (Sl a L.length c)/\wB (wM w W) .i64 W a L.length (lf L)/\Kf w W:=by
 obtain⟨a,c,e,P,h,i,l⟩:=j;rw[HV]at h;have k:=d.2.size;exact⟨a,c,e,(yE h).g (fun b f=>⟨by have:=(i b f).1;omega,(i b f).2⟩),Below.cV (d.2.trans (l.mono k))⟩
theorem C1 Q t a c i w(hT:Do Q w a t)(hi:i<t.n) :
  Cs 85 #[Sl a t.n c,Iv i] w (KD .i64 (jY t i) i w):=by
 have ap:=run_make_row' (P:=prog) 81 4 Bf 1 underlying81 Vz rfl .i64 .i64 256 oM oM;simp only[show ((256:Nat):Int)=256 from rfl]at ap
 have a7:=t.le;have HT:=ua hT;have ae:Hid (zZ w (fun _=>false) (w.alloc (Oc (madeCells #[Bf] 256) 4))):=⟨Ja w _ 256 4,(wI w).alloc wF _⟩
 clear hT;obtain⟨neg,ab⟩:=nm (Ra t i);obtain⟨x,ah⟩:∃r,Kz t i=r:=⟨_,rfl⟩;have S:Hid (x=if neg=true then i+2 else i+1):=by show x=_;rw[<-ah,Kz,ab]
 have X:Hid (neg=decide (i+1<t.n/\t.T (i+1)=94)):=ab▸rfl;have U:Hid (i<x/\x<=t.n/\x<=i+2):=by
  have h:=S.o;have h':=X.o;show i<x/\_;by_cases e:neg=true
  ·rw[Zp e]at h
   rw[e]at h';have:=of_decide_eq_true h'.symm;omega
  ·rw[Zn e]at h
   omega
 obtain⟨r,hr⟩:=nm (xf t (t.n+2-i) x (fun _=>false))
 have HR:Hid (xf t (t.n+2-i) x (fun _=>false)=r):=hr
 have s:Hid (jY t i=ule neg r):=by
  show jY t i=_;unfold jY;rw[ah,ab,hr]
 clear ab ah hr;rw[s.o];clear s;go_enter func85,ntmps85;go_upto_region 3 with fail
 clear ap;generalize w.alloc (Oc (madeCells #[Bf] 256) 4)=W1 at *;go_cut [8] from 16 to 115 (fun v wc=>v=.bool neg/\W1=wc)
 case first =>
  by_cases y:i+1<t.n
  ·have h1':(i:Int)+1<t.n:=oM
   obtain⟨b,off,rfl,_,o⟩:=(HT.q ae.2).at y;have O:=o (i+1) y;have b0:=t.j (i+1);clear o;go_wp2;go_meet
   case rel=>exact⟨by rw[X.o];congr 1;rw[Nf];simp[y],rfl⟩
  ·have h1':¬(i:Int)+1<t.n:=oM
   go_wp2;go_meet
   case rel=>exact⟨by rw[X.o];simp[y],rfl⟩
 case rest =>
  obtain⟨rfl,rfl⟩:=hcut;go_upto_if 30 with fail
  go_cut [7] from 16 to 115 (fun v wc=>v=Iv x/\W1=wc)
  case first =>
   cases neg with
   |true =>
    go_wp2;go_meet
    case rel=>exact⟨by rw[S.o];simp;omega,rfl⟩
   |false =>
    go_wp2;go_meet
    case rel=>exact⟨by rw[S.o];simp,rfl⟩
  case rest =>
   obtain⟨rfl,rfl⟩:=hcut;go_wp2;go_loopw [7] (fun u wr=>∃(f j:Nat) (m:Nat->Bool),j<=t.n/\i<j/\t.n-j<f/\u=Iv j/\zZ w m wr/\xf t f j m=r) (fun u _=>t.n-(intOf u).toNat)
   case atStart=>exact⟨t.n+2-i,x,fun _=>false,U.o.2.1,U.o.1,by have:=U.o;omega,rfl,ae.o,HR.o⟩
   case round =>
    obtain⟨f,j,m,hj,a3,hf,rfl,l,hs⟩:=hrel;obtain⟨f,rfl⟩:∃q,f=q+1:=⟨f-1,oM⟩;have V:=ua l;have z:=ua (HT.q l.2);have Y:=ua hs;clear l hs ae HR S X U;by_cases hq:j<t.n/\t.T j=93
    ·obtain⟨ai,aq⟩:=hq
     obtain⟨b,off,rfl,_,o⟩:=z.at ai;have O:=o j ai;rw[aq]at O;have hq1':(j:Int)<t.n:=oM;have e:=Y;rw[xf,Zp ⟨ai,aq⟩]at e;obtain⟨L,hL⟩:∃L,rg (fun b=>m b != neg) 256=L:=⟨_,rfl⟩
     have ak:Hid (ule neg r=some (L,j+1)):=by show _=_;rw[<-e,ule,hL]
     have HL:=ua hL;clear o Y e hL;go_wp2;go_loopw [15] (fun u w'=>∃k:Nat,k<=256/\u=Iv k/\zZ w (Ju m neg k) w'/\(neg=false->k=0)) (fun u _=>256-(intOf u).toNat)
     case atStart=>exact⟨0,oM,rfl,V.eq (B7 m neg).symm,fun _=>rfl⟩
     case round =>
      obtain⟨k,hk,rfl,l,N⟩:=hrel;have F:=ua l;have Z:Hid (∀v,zZ w (fun b=>if b=k then v else Ju m neg k b) (wr.setCell (Ad w.heap.size k) (.bool v))):=fun v=>l.set k v
      have ad:=ua (B9 l N HL);have ac:Hid (∀e W,Ps L wr e W->∃G A,e=Rt (Sl G L.length A)/\wB (wM w W) .i64 W G L.length (lf L)/\Kf w W):=C0 l;cases neg with
      |true =>
       by_cases C:k<256
       ·have hlt':(k:Int)<256:=oM
        have A:=l.1.cell C;have f2:=l.1.frozen k;have ag:=ua ((Z _).eq (B8 m k));clear l N Z ad ac;generalize Ju m true k k=bv at *;go_wp2;go_roundw
        case rel=>exact⟨k+1,oM,by go_num,ag,fun q=>Bool.noConfusion q⟩
        case measure=>simp[intOf];omega
       ·have hlt':¬(k:Int)<256:=oM
        clear l N Z;go_wp2_with fail;refine (ad (.inl C)).mono ?_;intro e W J;obtain⟨G,A,rfl,H,I⟩:=ac e W J;clear J;have HI:=ua H;have HK:=ua I;clear H I;go_wp2;go_ret2;rw[ak.o];exact⟨HK,G,A,by congr 3,HI⟩
      |false =>
       obtain rfl:=N rfl;clear l N Z;go_wp2_with fail;refine (ad sM).mono ?_;intro e W J;obtain⟨G,A,rfl,H,I⟩:=ac e W J;clear J;have HI:=ua H;have HK:=ua I;clear H I;go_wp2;go_ret2;rw[ak.o];exact⟨HK,G,A,by congr 3,HI⟩
    ·have HQ:Hid (¬(j<t.n/\t.T j=93)):=hq
     obtain⟨x1,x2,x3⟩:=xO t j true hj;have s:Hid (∀w,Do Q w a t->Cs 121 #[Sl a t.n c,Iv j,Bt] w (Nm (zH t j true).1 ((zH t j true).2:Nat) w)):=fun w h=>Zf Q t a c j true w h hj
     have af:Hid ((if (zH t j true).2=0 then none
      else if j+(zH t j true).2<t.n/\t.T (j+(zH t j true).2)=45 then
       (if (zH t (j+(zH t j true).2+1) true).2=0\/(zH t (j+(zH t j true).2+1) true).1<(zH t j true).1 then none
       else xf t f (j+(zH t j true).2+1+(zH t (j+(zH t j true).2+1) true).2) (kK m (zH t j true).1.toNat ((zH t (j+(zH t j true).2+1) true).1.toNat+1)))
      else xf t f (j+(zH t j true).2) (kK m (zH t j true).1.toNat ((zH t j true).1.toNat+1)))=r):=by
      have:=Y;rw[xf,Zn hq]at this;exact this
     clear Y hq;generalize zH t j true=p at *;obtain⟨pb,pn⟩:=p;simp only at x1 x2 x3 s af;obtain⟨lo,rfl⟩:∃q:Nat,pb=(q:Int):=⟨pb.toNat,oM⟩;by_cases hp:pn=0
     ·subst hp
      have e:=af;rw[Zp rfl]at e;subst e;by_cases B:j<t.n
      ·have hjn':(j:Int)<t.n:=oM
       obtain⟨b,off,rfl,_,o⟩:=z.at B;have O:=o j B;have y1:(t.T j==93)=false:=by simpa using fun q=>HQ ⟨B,q⟩
       have b0:=t.j j;clear o;go_wp2_with fail;refine (s wr z).mono ?_;rintro e W ⟨rfl,D,rfl⟩;go_wp2;go_ret2;exact⟨Below.cV (V.a D).2,rfl⟩
      ·have hjn':¬(j:Int)<t.n:=oM
       go_wp2_with fail;refine (s wr z).mono ?_;rintro e W ⟨rfl,D,rfl⟩;go_wp2;go_ret2;exact⟨Below.cV (V.a D).2,rfl⟩
     ·have hp':¬(pn:Int)=0:=oM
      have B:j<t.n:=oM;have hjn':(j:Int)<t.n:=oM;obtain⟨b,off,rfl,_,o⟩:=z.at B;have O:=o j B;have y1:(t.T j==93)=false:=by simpa using fun q=>HQ ⟨B,q⟩
      have b0:=t.j j;go_wp2_with fail;refine (s wr z).mono ?_;rintro e W ⟨rfl,D,rfl⟩;go_upto_region 12 with fail
      have al:=ua (V.a D);have an:=ua (z.j D);generalize wr.drewN D=W2 at *;obtain⟨j1,ax⟩:=nm (j+pn);have hj1':(j:Int)+(pn:Int)=(j1:Int):=oM;have am:Hid ((if j1<t.n/\t.T j1=45 then
       (if (zH t (j1+1) true).2=0\/(zH t (j1+1) true).1<(lo:Int) then none
       else xf t f (j1+1+(zH t (j1+1) true).2) (kK m lo ((zH t (j1+1) true).1.toNat+1)))
       else xf t f j1 (kK m lo (lo+1)))=r):=by
       have:=af;rw[Zn hp,ax]at this;simp only[Int.toNat_natCast]at this;exact this
      rw[hj1'];have a5:j<j1:=oM;have ay:j1<=t.n:=oM;obtain⟨d,hd⟩:=nm (decide (j1<t.n/\t.T j1=45));have R:=ua hd;go_cut [66] from 33 to 94 (fun v wc=>v=.bool d/\W2=wc)
      case first =>
       by_cases y:j1<t.n
       ·have h1':(j1:Int)<t.n:=oM
        obtain⟨b',a8,e,_,o⟩:=an.at y;cases e
        have O:=o j1 y;have b0:=t.j j1;go_wp2;go_meet
        case rel=>exact⟨by rw[<-R.o];congr 1;rw[Nf];simp[y],rfl⟩
       ·have h1':¬(j1:Int)<t.n:=oM
        go_wp2;go_meet
        case rel=>exact⟨by rw[<-R.o];simp[y],rfl⟩
      case rest =>
       obtain⟨rfl,rfl⟩:=hcut;go_upto_if 66 with fail
       go_cut [7,11] from 33 to 94 (fun v7 a1 wc=>∃(j2 g:Nat),v7=Iv j2/\a1=Iv g/\zZ w m wc/\j1<=j2/\j2<=t.n/\lo<=g/\g<=255/\xf t f j2 (kK m lo (g+1))=r)
       case first =>
        cases d with
        |false =>
         have e:=am;rw[Zn (of_decide_eq_false R.o)]at e;have E:=ua e;go_wp2;go_meet
         case rel=>exact⟨j1,lo,rfl,rfl,al,wF,ay,wF,oM,E⟩
        |true =>
         have ao:=of_decide_eq_true R;have a4:=ao.1;have e:=am;rw[Zp ao]at e;have E:=ua e;obtain⟨z1,z2,z3⟩:=xO t (j1+1) true oM;have s:Hid (∀w,Do Q w (Sm b off) t->Cs 121 #[Sl (Sm b off) t.n c,Iv ((j1:Int)+1),Bt] w (Nm (zH t (j1+1) true).1 ((zH t (j1+1) true).2:Nat) w)):=fun w h=>by
          have:=Zf Q t (Sm b off) c (j1+1) true w h oM
          rwa [show (((j1+1:Nat):Int))=(j1:Int)+1 by omega]at this
         generalize zH t (j1+1) true=p at *;obtain⟨qb,qn⟩:=p;simp only at z1 z2 z3 s E;obtain⟨g,rfl⟩:∃q:Nat,qb=(q:Int):=⟨qb.toNat,oM⟩;go_wp2_with fail;refine (s _ an).mono ?_;rintro e W ⟨rfl,m2,rfl⟩;have F:=ua (al.a m2);generalize W2.drewN m2=W3 at *;by_cases aj:qn=0
         ·subst aj
          have e:=E;rw[Zp (.inl rfl)]at e;subst e;go_wp2;go_ret2;exact⟨Below.cV F.2,rfl⟩
         have hqn':¬(qn:Int)=0:=oM;by_cases C:(g:Int)<lo
         ·have e:=E
          rw[Zp (.inr C)]at e;subst e;go_wp2;go_ret2;exact⟨Below.cV F.2,rfl⟩
         ·have e:=E
          rw[Zn (fun q=>q.elim aj C),Int.toNat_natCast]at e
          have au:=ua e;have y1:((qn:Int)==0)=false:=by simpa using aj
          have y2:decide ((g:Int)<(lo:Int))=false:=by simpa using C
          have y3:(lo:Int)<=g:=oM;go_wp2;go_meet
          case rel=>exact⟨j1+1+qn,g,by congr 1;omega,rfl,F,oM,z3,oM,oM,au⟩
       case rest =>
        obtain⟨j2,g,rfl,rfl,aw,g1,g2,g3,g4,g5⟩:=hcut;have F:=ua aw;have HG:=ua g5;go_wp2;go_loopw [14] (fun u w'=>∃k:Nat,lo<=k/\k<=g+1/\u=Iv k/\zZ w (kK m lo k) w') (fun u _=>256-(intOf u).toNat)
        case atStart=>exact⟨lo,wF,oM,rfl,F.eq (HU m lo).symm⟩
        case round =>
         obtain⟨k,az,a6,rfl,aa⟩:=hrel;by_cases C:k<=g
         ·have hlt':(k:Int)<=g:=oM
          have a0:k<256:=oM;have hk256':(k:Int)<256:=oM;have A:=aa.1.cell a0;have f2:=aa.1.frozen k;have ag:=ua ((aa.set k true).eq (HW m az));generalize kK m lo k k=bv at *;go_wp2;go_roundw
          case rel=>exact⟨k+1,oM,oM,by go_num,ag⟩
          case measure=>simp[intOf];omega
         ·have hlt':¬(k:Int)<=g:=oM
          obtain rfl:k=g+1:=oM;have av:=ua aa;go_wp2;go_roundw
          case rel=>exact⟨f,j2,_,g2,oM,oM,rfl,av,HG⟩
          case measure=>simp[intOf];omega
structure wH where
  e:Int
  f:Nat
  nm:List Int
  set:List Int
def yd(c:Int):Prop:=M.bH c\/M.bN c
instance (c:Int):Decidable (M.bH c):=by unfold M.bH;infer_instance
instance (c:Int):Decidable (M.bN c):=by unfold M.bN;infer_instance
instance (c:Int):Decidable (yd c):=by unfold yd;infer_instance
def vO(t:Tx):Nat->Nat->List Int->List Int×Nat
  |0,j,z=>(z,j)
  |f+1,j,z=>if j<t.n/\yd (t.T j) then vO t f (j+1) (z++[t.T j]) else (z,j)
def Ba:List Int:=[61,59,47,33,38,42,63,40,41,46,94]
def vF(t:Tx)(i:Nat):wH×Nat :=
  if M.bH (t.T i) then (⟨110,i,(vO t (t.n-i) i []).1,[]⟩,(vO t (t.n-i) i []).2)
  else if t.T i=34 then (match Jj t i with | none=>(⟨0,i,[],[]⟩,i) | some (z,j)=>(⟨34,i,z,[]⟩,j))
  else if t.T i=91 then (match jY t i with | none=>(⟨0,i,[],[]⟩,i) | some (z,j)=>(⟨91,i,[],z⟩,j))
  else if t.T i∈Ba then (⟨t.T i,i,[],[]⟩,i+1)
  else (⟨0,i,[],[]⟩,i+1)
def Jh(k:wH)(na:Oa)(nc:Nat)(sa:Oa)(sc:Nat):Array Value:=#[Bv k.e,Iv k.f,Sl na k.nm.length nc,Sl sa k.set.length sc]
def IV(r:wH×Nat)(w:Wl)(e:Ending)(w':Wl):Prop :=
  ∃na nc sa sc,e=Rt (.tuple #[.agg (Jh r.1 na nc sa sc),Iv r.2])/\wB (wM w w') .u8 w' na r.1.nm.length (lf r.1.nm)/\wB (wM w w') .i64 w' sa r.1.set.length (lf r.1.set)/\Kf w w'
abbrev Pf:Array Value:=#[Bv 0,Iv 0,nS,nS]
structure Cn(w wr:Wl)(k:Int)(i:Nat)(nv sv:Vl):Prop where
  r:wr.heap[w.heap.size]? = some (Oc Pf 70)
  v:wr.heap[w.heap.size+1]? = some (Oc #[Bv k,Iv i,nv,sv] 70)
  u:Bw w wr
theorem Cn.d w(i:Nat):Cn w ((w.alloc (Oc Pf 70)).alloc (Oc #[Bv 0,Iv i,nS,nS] 70)) 0 i nS nS :=
  ⟨Qs (xq w _ _ rfl) _,xq _ _ _ sM,Bn w⟩
theorem Cn.m{w wr f k i c e C}(h:Cn w wr k i c e)(t:wA C wr f)(a:∀b,C b->w.heap.size+2<=b):Cn w f k i c e:=by
  have g:=(Cq.1 h.v).1;refine⟨(t.d _ oM (fun q=>oH (a _ q))).trans h.r,(t.d _ g (fun q=>oH (a _ q))).trans h.v,?_⟩
  exact h.u.trans (t.below oM (fun b j q=>oH (a _ q)))
theorem Cn.f{w wr k i b a}(h:Cn w wr k i b a)v:Cn w (wr.setCell (Ad (w.heap.size+1) 2) v) k i v a :=
  ⟨(zJ _ sM).trans h.r,Xh v h.v,h.u.setCell sM _⟩
theorem F5{w wr W4 i g d v4 z x}(o:Cn w wr 0 i g d)(r:wC (fun b=>(w.heap.size+2<=b/\b<wr.heap.size)\/(wr.drew.alloc (Oc #[Bv x] 5)).heap.size<=b) W4 v4 1 (z.length+1) (uQ .u8 (lf z) z.length++[Bv x]))(C:wS (fun b=>w.heap.size+2<=b/\b<wr.heap.size) (wr.drew.alloc (Oc #[Bv x] 5)) W4):Cn w W4 0 i g d/\Cn w (W4.setCell (Ad (w.heap.size+1) 2) v4) 0 i v4 d/\wC (fun b=>w.heap.size+2<=b/\b<(W4.setCell (Ad (w.heap.size+1) 2) v4).heap.size) (W4.setCell (Ad (w.heap.size+1) 2) v4) v4 1 (z++[x]).length (uQ .u8 (lf (z++[x])) (z++[x]).length):=by
  have H:=(Cq.1 o.v).1;have t:Cn w (wr.drew.alloc (Oc #[Bv x] 5)) 0 i g d:=o.m ((wA.j (fun _=>False) wr).c wU) (fun b q=>q.elim)
  have k:=t.m C.l (fun b q=>q.1)
  refine⟨k,k.f v4,?_⟩;rw[Zg]at r;rw[show (z++[x]).length=z.length+1 by simp]
  have G:(wr.drew.alloc (Oc #[Bv x] 5)).heap.size=wr.heap.size+1:=sM;rcases r with⟨_,q,_⟩|⟨b,cap,e,F,u,y,n,A⟩
  · omega
  have B:w.heap.size+2<=b:=by
    rcases F with q | q
    · exact q.1
    · omega
  have p:0<(uQ .u8 (lf (z++[x])) (z.length+1)).length:=by rw[jf];omega
  have E:b<W4.heap.size:=by
    have h:=n 0 p;rw[zG p]at h;exact ud h
  have s:(W4.setCell (Ad (w.heap.size+1) 2) v4).heap[b]? = W4.heap[b]?:=zJ _ (by show b≠w.heap.size+1;omega)
  exact .inr ⟨b,cap,e,⟨B,by rw[uj];exact E⟩,u,y,fun j D=>(zI (a:=(Ad b j)) s).trans (n j D),A.q s⟩
abbrev Mn(w:Wl):Nat->Prop:=fun b=>w.heap.size<=b/\b<w.heap.size+2
theorem Cn.t{w wr W' k i c d}(h:Cn w wr k i c d)(a:wA (Mn w) wr W'):Kf w W':=by
  have f:=(Cq.1 h.v).1;exact Below.cV (h.u.trans (a.below oM (fun b e q=>oH q.1)))
theorem Yx{w wr W' k a n S}(e:wA (Mn w) wr W')(h:wB (fun b=>w.heap.size+2<=b/\b<wr.heap.size) k wr a n S):wB (wM w W') k W' a n S :=
  (h.on (fun b c=>e.d b c.2 (fun q=>oH q.2))).g (fun b c=>⟨oM,by have:=e.h;omega⟩)
theorem kR{w W W'}(h:wA (Mn w) W W')o v:wA (Mn w) W (W'.setCell (Ad w.heap.size o) v):=h.c (zP ⟨wF,sM⟩)
theorem F6{w W W'}(h:wA (Mn w) W W')o v:wA (Mn w) W (W'.setCell (Ad (w.heap.size+1) o) v):=h.c (zP ⟨sM,sM⟩)
def IW(t:Tx)(i:Nat)(r:List Int×Nat)(w:Wl)(u:Vl)(wr:Wl):Prop :=
  ∃(f j:Nat) (z:LI) (v:Vl),j<=t.n/\t.n-j<=f/\z.length<=j/\u=Iv j/\vO t f j z=r/\Cn w wr 0 i v nS/\wC (fun b=>w.heap.size+2<=b/\b<wr.heap.size) wr v 1 z.length (uQ .u8 (lf z) z.length)
theorem IX t{f j z}(a:t.n-j<=f):vO t f j z=if j<t.n/\yd (t.T j) then vO t (f-1) (j+1) (z++[t.T j]) else (z,j):=by
  cases f with
  |zero=>rw[vO,Zn (fun q=>oM)]
  |succ f=>rw[vO];rfl
theorem IY t:∀(f j:Nat) (z:LI) (r:List Int×Nat),j<=t.n->Hy t f j z=some r->j<r.2/\r.2<=t.n
  |0,j,z,r,hj,h=>by cases h
  |f+1,j,z,r,hj,h=>by
    rw[Hy]at h;split at h
    · rename_i q
      injection h with h
      subst h;exact⟨Jb _,q.1⟩
    · split at h
      · cases h
      · have:=xO t j false hj
        have:=IY t f _ _ r oM h;omega
theorem Yy{t i}{r:List Int×Nat}(a:i<t.n)(h:Jj t i=some r):i+1<r.2/\r.2<=t.n:=IY t _ _ _ r a h
theorem Yz t:∀(f j:Nat) (m:Nat->Bool) (r:(Nat->Bool)×Nat),j<=t.n->xf t f j m=some r->j<=r.2/\r.2<t.n
  |0,j,m,r,hj,h=>by cases h
  |f+1,j,m,r,hj,h=>by
    have a:=xO t j true hj;rw[xf]at h;split at h
    · rename_i q
      injection h with h
      subst h;exact⟨wF,q.1⟩
    · split at h
      · cases h
      · split at h
        · rename_i q
          have b:=xO t (j+(zH t j true).2+1) true oM;split at h
          · cases h
          · have:=Yz t f _ _ r oM h
            omega
        · have:=Yz t f _ _ r oM h
          omega
theorem Za{t i}{r:List Int×Nat}(c:i<t.n)(h:jY t i=some r):i+1<r.2/\r.2<=t.n:=by
  unfold jY at h;have b:i+1<=Kz t i/\Kz t i<=t.n:=by
    unfold Kz;split
    · rename_i q
      have:=of_decide_eq_true q;omega
    · omega
  cases a:xf t (t.n+2-i) (Kz t i) (fun _=>false) with
  |none=>rw[a]at h;cases h
  |some q =>
    obtain⟨m,j⟩:=q;rw[a,ule]at h;injection h with h
    subst h;have:=Yz t _ _ _ _ b.2 a;simp only at this ⊢;omega
theorem Cn.e{w wr k i b c}(h:Cn w wr k i b c)a:Cn w (wr.setCell (Ad (w.heap.size+1) 0) (Bv a)) a i b c :=
  ⟨(zJ _ sM).trans h.r,Xh _ h.v,h.u.setCell sM _⟩
theorem Cn.a{w wr k i b c}(h:Cn w wr k i b c)v:Cn w (wr.setCell (Ad (w.heap.size+1) 3) v) k i b v :=
  ⟨(zJ _ sM).trans h.r,Xh _ h.v,h.u.setCell sM _⟩
theorem IZ{w W:Wl}{b o a:Nat}{v c:Vl}(h:w.heap.size+2<=b):((W.setCell (Ad (w.heap.size+1) o) v).setCell (Ad (w.heap.size+1) a) c).heap[b]? = W.heap[b]? :=
  (zJ _ (by show b≠w.heap.size+1;omega)).trans (zJ _ (by show b≠w.heap.size+1;omega))
def kd(x:Int)(k:Nat):Int:=if x∈Ba.take k then x else 0
theorem F7{x c k}(h:Ba.take (k+1)=Ba.take k++[c])(e:c=x):kd x (k+1)=x:=by
  unfold kd;rw[h,Zp (by simp[e])]
theorem F8{x c k}(h:Ba.take (k+1)=Ba.take k++[c])(e:¬c=x):kd x (k+1)=kd x k:=by
  unfold kd;rw[h];have:(x∈Ba.take k++[c])↔x∈Ba.take k:=by
    rw[Bh,Aw];exact⟨fun q=>q.elim id (fun q=>aB q.symm e),.inl⟩
  simp only[this]
theorem F9 x:kd x 11=if x∈Ba then x else 0:=rfl
theorem qm{w wr k j na sa nc sc}(h:Cn w wr k.e k.f (Sl na k.nm.length nc) (Sl sa k.set.length sc))(c:wB (fun b=>w.heap.size+2<=b/\b<wr.heap.size) .u8 wr na k.nm.length (lf k.nm))(d:wB (fun b=>w.heap.size+2<=b/\b<wr.heap.size) .i64 wr sa k.set.length (lf k.set)) :
    IV (k,j) w (Rt (.tuple #[.agg (Jh k na nc sa sc),Iv j])) ((((wr.setCell (Ad w.heap.size 0) (Bv k.e)).setCell (Ad w.heap.size 1) (Iv k.f)).setCell (Ad w.heap.size 2) (Sl na k.nm.length nc)).setCell (Ad w.heap.size 3) (Sl sa k.set.length sc)):=by
  have a:=kR (kR (kR (kR (wA.e (Mn w) wr) 0 (Bv k.e)) 1 (Iv k.f)) 2 (Sl na k.nm.length nc)) 3 (Sl sa k.set.length sc);exact⟨na,nc,sa,sc,rfl,Yx a c,Yx a d,h.t a⟩
theorem G0 Q t a c i w(hT:Do Q w a t)(S:i<t.n) :
    Cs 55 #[Sl a t.n c,Iv i] w (IV (vF t i) w):=by
  have aw:=t.le;have hi':(i:Int)<t.n:=oM;obtain⟨b,off,rfl,hq,I⟩:=hT.at S;have k0:=I i S;have lb:b<w.heap.size:=ud k0;have b0:=t.j i;have O:Hid (Do Q w (Sm b off) t):=hT;clear I hT;unfold vF;by_cases U:M.bH (t.T i)
  · obtain⟨nr,ai⟩:∃r,vO t (t.n-i) i []=r:=⟨_,rfl⟩
    rw[Zp U,ai];have HL:Hid (M.bH (t.T i)):=U;clear U;go_enter func55,ntmps55;go_wp2_with fail;refine (uX (t.T i) b0.1 b0.2).mono ?_;rintro e W ⟨⟨r,rfl,l⟩,V⟩;subst W;obtain rfl:r=true:=l.2 HL.o;clear l;go_wp2_with fail;have B:=Cn.d w i;have B:Hid (Cn w ((w.alloc (Oc Pf 70)).alloc (Oc #[Bv 0,Iv i,nS,nS] 70)) 0 i nS nS):=B;go_loopw [8] (fun u wr=>IW t i nr w u wr) (fun u _=>t.n-(intOf u).toNat)
    case atStart=>exact⟨t.n-i,i,[],_,oM,wF,sM,rfl,ai,B.o,.inl ⟨rfl,rfl,rfl⟩⟩
    case round =>
      obtain⟨f,j,z,v,hj,hf,hz,rfl,hn,N,hO⟩:=hrel;clear B ai k0;obtain⟨F,vc,rfl⟩:=uq hO;have J:Hid (Cn w wr 0 i (Sl F z.length vc) nS):=N;have HO:Hid (wC (fun b=>w.heap.size+2<=b/\b<wr.heap.size) wr (Sl F z.length vc) 1 z.length (uQ .u8 (lf z) z.length)):=hO
      have ac:Hid (Do Q wr (Sm b off) t):=O.o.q N.u;obtain⟨d,hd⟩:∃d,decide (j<t.n/\yd (t.T j))=d:=⟨_,rfl⟩;have G:Hid (decide (j<t.n/\yd (t.T j))=d):=hd;have HN:Hid (vO t f j z=nr):=hn;clear N hO hd hn;go_upto_region 5 with fail
      go_cut [41] from 24 to 52 (fun v wc=>v=.bool d/\wr=wc)
      case first =>
        by_cases C:j<t.n
        · have h1':(j:Int)<t.n:=oM
          obtain⟨b',av,e,_,I⟩:=ac.o.at C;cases e
          have k1:=I j C;have b1:=t.j j;clear I;by_cases E:M.bH (t.T j)
          · have ab:Hid (M.bH (t.T j)):=E
            have L:Hid (d=true):=by show d=true;rw[<-G.o];simp[C,yd,E]
            clear E;go_wp2_with (go_at_call 82;refine (uX (t.T j) b1.1 b1.2).mono ?_;rintro e W ⟨⟨r,rfl,l⟩,V⟩;subst W;obtain rfl:r=true:=l.2 ab.o;clear l);go_meet
            case rel=>exact⟨by rw[L.o],rfl⟩
          · have ab:Hid (¬M.bH (t.T j)):=E
            by_cases P:M.bN (t.T j)
            · have af:Hid (M.bN (t.T j)):=P
              have L:Hid (d=true):=by show d=true;rw[<-G.o];simp[C,yd,P]
              clear E P;go_wp2_with (first|(go_at_call 82;refine (uX (t.T j) b1.1 b1.2).mono ?_;rintro e W ⟨⟨r,rfl,l⟩,V⟩;subst W;obtain rfl:r=false:=by { cases r;rfl;exact aB (l.1 rfl) ab.o };clear l)|(go_at_call 83;refine (jb (t.T j) b1.1 b1.2).mono ?_;rintro e W ⟨⟨r,rfl,l⟩,V⟩;subst W;obtain rfl:r=true:=l.2 af.o;clear l))
              go_meet
              case rel=>exact⟨by rw[L.o],rfl⟩
            · have af:Hid (¬M.bN (t.T j)):=P
              have L:Hid (d=false):=by show d=false;rw[<-G.o];simp[C,yd,E,P]
              clear E P;go_wp2_with (first|(go_at_call 82;refine (uX (t.T j) b1.1 b1.2).mono ?_;rintro e W ⟨⟨r,rfl,l⟩,V⟩;subst W;obtain rfl:r=false:=by { cases r;rfl;exact aB (l.1 rfl) ab.o };clear l)|(go_at_call 83;refine (jb (t.T j) b1.1 b1.2).mono ?_;rintro e W ⟨⟨r,rfl,l⟩,V⟩;subst W;obtain rfl:r=false:=by { cases r;rfl;exact aB (l.1 rfl) af.o };clear l))
              go_meet
              case rel=>exact⟨by rw[L.o],rfl⟩
        · have h1':¬(j:Int)<t.n:=oM
          have L:Hid (d=false):=by show d=false;rw[<-G.o];simp[C]
          go_wp2;go_meet
          case rel=>exact⟨by rw[L.o],rfl⟩
      case rest =>
        obtain⟨rfl,rfl⟩:=hcut;have c2:wr.cell? (Ad (w.heap.size+1) 2)=some (Sl F z.length vc):=uP J.o.v rfl;have f2:wr.frozen? (Ad (w.heap.size+1) 2)=false:=Qr J.o.v;have ax:=ud c2;cases d with
        |true =>
          obtain⟨C,E⟩:=of_decide_eq_true G.o;have h1':(j:Int)<t.n:=oM;obtain⟨b',av,e,_,I⟩:=ac.o.at C;cases e
          have k1:=I j C;have b1:=t.j j;have ag:Hid (vO t (f-1) (j+1) (z++[t.T j])=nr):=by
            have:=HN.o;rw[IX t hf,Zp ⟨C,E⟩]at this;exact this
          clear I G E HN;have ap:Hid (wC (fun b=>w.heap.size+2<=b/\b<wr.heap.size) (wr.drew.alloc (Oc #[Bv (t.T j)] 5)) (Sl F z.length vc) 1 z.length (uQ .u8 (lf z) z.length)):=HO.o.on (fun b p=>((wA.j (fun _=>False) wr).c wU).d b p.2 (fun q=>q))
          have aq:Hid (Src prog 1 22 (Sl (Sm wr.drew.heap.size 0) 1 1) 1 [Bv (t.T j)] (wr.drew.alloc (Oc #[Bv (t.T j)] 5))):=Zh _ _;have ae:=fun v4 W4=>F5 (z:=z) (x:=t.T j) (W4:=W4) (v4:=v4) J.o
          have ae:Hid (∀v4 W4,wC (fun b=>(w.heap.size+2<=b/\b<wr.heap.size)\/(wr.drew.alloc (Oc #[Bv (t.T j)] 5)).heap.size<=b) W4 v4 1 (z.length+1) (uQ .u8 (lf z) z.length++[Bv (t.T j)])->wS (fun b=>w.heap.size+2<=b/\b<wr.heap.size) (wr.drew.alloc (Oc #[Bv (t.T j)] 5)) W4->Cn w W4 0 i (Sl F z.length vc) nS/\Cn w (W4.setCell (Ad (w.heap.size+1) 2) v4) 0 i v4 nS/\wC (fun b=>w.heap.size+2<=b/\b<(W4.setCell (Ad (w.heap.size+1) 2) v4).heap.size) (W4.setCell (Ad (w.heap.size+1) 2) v4) v4 1 (z++[t.T j]).length (uQ .u8 (lf (z++[t.T j])) (z++[t.T j]).length)):=ae
          clear HO J ac;generalize t.T j=x at *;go_upto_region 6 with fail
          go_region_law
            (refine Nk rfl (.tmp 43) (.tmp 48) 22 22 rfl (v:=Sl F z.length vc) (y:=Sl (Sm wr.drew.heap.size 0) 1 1) (by simp[Act.eval,Act.put]) (by simp[Act.eval,Act.put]) qg (Q:=fun b=>w.heap.size+2<=b/\b<wr.heap.size) (n:=z.length) (cs:=uQ .u8 (lf z) z.length) (m:=1) (news:=[Bv x]) ap.o aq.o oM ?_
             intro v4 W4 aj an au;obtain⟨a4,c4,rfl⟩:=uq aj;obtain⟨q1,q2,q3⟩:=ae.o _ _ aj an;have r2:W4.cell? (Ad (w.heap.size+1) 2)=some (Sl F z.length vc):=uP q1.v rfl;have r3:W4.frozen? (Ad (w.heap.size+1) 2)=false:=Qr q1.v;have HE:Hid (IW t i nr w (Iv ((j+1:Nat):Int)) (W4.setCell (Ad (w.heap.size+1) 2) (Sl a4 (z.length+1) c4))):=⟨f-1,j+1,_,_,C,oM,sO,rfl,ag.o,q2,q3⟩;clear aj an au q1 q2 q3)
          all_goals go_goals
          all_goals (
            go_wp2;go_roundw;all_goals first
              |exact HE.o
              | (simp[intOf];omega)
              |omega)
        |false =>
          have ao:=of_decide_eq_false G.o;have ag:Hid ((z,j)=nr):=by
            have:=HN.o;rw[IX t hf,Zn ao]at this;exact this
          clear G ao HN ac;obtain⟨Y,f0,al⟩:=wJ.x ⟨_,J.o.v⟩;obtain⟨d0,e0,am⟩:=wJ.x ⟨_,J.o.r⟩;go_wp2
          (try simp only[Exit.inBlock,Exit.then])
          refine wL (v:=.tuple #[.agg #[Bv 110,Iv i,Sl F z.length vc,nS],Iv j]) ?_ rfl ?_
          · rw[results_cell_tmp rfl]
            go_simp
          · obtain rfl:=ag.o
            have hk:=kR (kR (kR (kR (F6 (wA.e (Mn w) wr) 0 (Bv 110)) 0 (Bv 110)) 1 (Iv i)) 2 (Sl F z.length vc)) 3 nS;exact⟨F,vc,none,0,rfl,Yx hk (yE HO.o),.inl rfl,J.o.t hk⟩
  · rw[Zn U]
    have HL:Hid (¬M.bH (t.T i)):=U;clear U;have B:Hid (Cn w ((w.alloc (Oc Pf 70)).alloc (Oc #[Bv 0,Iv i,nS,nS] 70)) 0 i nS nS):=Cn.d w i;obtain⟨R,hR⟩:∃R,(if t.T i=34 then (match Jj t i with | none=>((⟨0,i,[],[]⟩:wH),i) | some (z,j)=>(⟨34,i,z,[]⟩,j))
      else if t.T i=91 then (match jY t i with | none=>(⟨0,i,[],[]⟩,i) | some (z,j)=>(⟨91,i,[],z⟩,j))
      else if t.T i∈Ba then (⟨t.T i,i,[],[]⟩,i+1)
      else (⟨0,i,[],[]⟩,i+1))=R:=⟨_,rfl⟩
    rw[hR];have H:Hid (_=R):=hR;clear hR;go_enter func55,ntmps55;go_wp2_with fail;refine (uX (t.T i) b0.1 b0.2).mono ?_;rintro e W ⟨⟨r,rfl,l⟩,V⟩;subst W;obtain rfl:r=false:=by { cases r;rfl;exact aB (l.1 rfl) HL.o }
    clear l k0;generalize t.T i=x at *;by_cases x1:x=34
    · subst x1
      go_wp2_with fail;generalize (w.alloc (Oc Pf 70)).alloc (Oc #[Bv 0,Iv i,nS,nS] 70)=X at *;refine (J8 Q t (Sm b off) c i X (O.o.q B.o.u) S).mono ?_;intro e W A;obtain⟨aa,A⟩:=A;have o:Hid (Cn w W 0 i nS nS):=B.o.m aa (fun b q=>q.elim)
      have ah:Hid (w.heap.size+2<=X.heap.size):=(Cq.1 B.o.v).1;clear aa O;obtain⟨Y,f0,al⟩:=wJ.x ⟨_,o.o.v⟩;obtain⟨d0,e0,am⟩:=wJ.x ⟨_,o.o.r⟩;obtain⟨sr,D⟩:∃r,Jj t i=r:=⟨_,rfl⟩;rw[D]at A;have s:=H.o;rw[Zp trivial]at s;rw[D]at s;cases sr with
      |none =>
        simp only at A s;subst A;subst s;clear H D;go_wp2
        (try simp only[Exit.inBlock,Exit.then])
        refine wL (v:=.tuple #[.agg (Jh ⟨0,i,[],[]⟩ none 0 none 0),Iv i]) ?_ rfl ?_
        · rw[results_cell_tmp rfl]
          unfold Jh;go_simp
        · exact qm (k:=⟨0,i,[],[]⟩) (j:=i) o.o (.inl rfl) (.inl rfl)
      |some q =>
        obtain⟨z,j⟩:=q;simp only at A s;obtain⟨sa,sc,rfl,Z⟩:=A;subst s;have ad:=Yy S D;simp only at ad;have hlt':(0:Int)<(j:Int)-i:=oM;have HI:Hid (wB (fun b=>w.heap.size+2<=b/\b<W.heap.size) .u8 W sa z.length (lf z)):=Z.g (fun b p=>⟨by have:=p.1;have:=ah.o;omega,p.2⟩)
        clear H D Z;go_wp2
        (try simp only[Exit.inBlock,Exit.then])
        refine wL (v:=.tuple #[.agg (Jh ⟨34,i,z,[]⟩ sa sc none 0),Iv j]) ?_ rfl ?_
        · rw[results_cell_tmp rfl]
          unfold Jh;go_simp;omega
        · have N:=(o.o.e 34).f (Sl sa z.length sc)
          exact qm (k:=⟨34,i,z,[]⟩) (j:=j) N (HI.o.on (fun b p=>(IZ p.1)) |>.g (fun b p=>⟨p.1,by rw[uj,uj];exact p.2⟩)) (.inl rfl)
    have x1':(x==34)=false:=by simpa using x1
    by_cases x2:x=91
    · subst x2
      go_wp2_with fail;generalize (w.alloc (Oc Pf 70)).alloc (Oc #[Bv 0,Iv i,nS,nS] 70)=X at *;refine (C1 Q t (Sm b off) c i X (O.o.q B.o.u) S).mono ?_;intro e W A;obtain⟨aa,A⟩:=A;have o:Hid (Cn w W 0 i nS nS):=B.o.m aa (fun b q=>q.elim)
      have ah:Hid (w.heap.size+2<=X.heap.size):=(Cq.1 B.o.v).1;clear aa O;obtain⟨Y,f0,al⟩:=wJ.x ⟨_,o.o.v⟩;obtain⟨d0,e0,am⟩:=wJ.x ⟨_,o.o.r⟩;obtain⟨sr,D⟩:∃r,jY t i=r:=⟨_,rfl⟩;rw[D]at A;have s:=H.o;rw[Zn dC,Zp trivial]at s;rw[D]at s;cases sr with
      |none =>
        simp only at A s;subst A;subst s;clear H D;go_wp2
        (try simp only[Exit.inBlock,Exit.then])
        refine wL (v:=.tuple #[.agg (Jh ⟨0,i,[],[]⟩ none 0 none 0),Iv i]) ?_ rfl ?_
        · rw[results_cell_tmp rfl]
          unfold Jh;go_simp
        · exact qm (k:=⟨0,i,[],[]⟩) (j:=i) o.o (.inl rfl) (.inl rfl)
      |some q =>
        obtain⟨z,j⟩:=q;simp only at A s;obtain⟨sa,sc,rfl,Z⟩:=A;subst s;have ad:=Za S D;simp only at ad;have hlt':(0:Int)<(j:Int)-i:=oM;have HI:Hid (wB (fun b=>w.heap.size+2<=b/\b<W.heap.size) .i64 W sa z.length (lf z)):=Z.g (fun b p=>⟨by have:=p.1;have:=ah.o;omega,p.2⟩)
        clear H D Z;go_wp2
        (try simp only[Exit.inBlock,Exit.then])
        refine wL (v:=.tuple #[.agg (Jh ⟨91,i,[],z⟩ none 0 sa sc),Iv j]) ?_ rfl ?_
        · rw[results_cell_tmp rfl]
          unfold Jh;go_simp;omega
        · have N:=(o.o.e 91).a (Sl sa z.length sc)
          exact qm (k:=⟨91,i,[],z⟩) (j:=j) N (.inl rfl) (HI.o.on (fun b p=>(IZ p.1)) |>.g (fun b p=>⟨p.1,by rw[uj,uj];exact p.2⟩))
    have x2':(x==91)=false:=by simpa using x2
    have s:Hid ((⟨kd x 11,i,[],[]⟩,i+1)=R):=by
      have:=H.o;rw[Zn x1,Zn x2]at this;show _=R;rw[<-this,F9];split<;>rfl
    clear H;go_wp2_with fail;go_loopw [14] (fun u wr=>∃k:Nat,k<=11/\u=Iv k/\Cn w wr (kd x k) i nS nS) (fun u _=>11-(intOf u).toNat)
    case atStart=>exact⟨0,oM,rfl,B.o⟩
    case round =>
      obtain⟨k,hk,rfl,hW⟩:=hrel;have o:Hid (Cn w wr (kd x k) i nS nS):=hW;clear hW B O;have Y:wr.cell? (Ad (w.heap.size+1) 0)=some (Bv (kd x k)):=uP o.o.v rfl;have f0:wr.frozen? (Ad (w.heap.size+1) 0)=false:=Qr o.o.v;by_cases ad:k<11
      · have ak:Ba.take (k+1)=Ba.take k++[lf Ba k]:=by
          rcases (show k=0\/k=1\/k=2\/k=3\/k=4\/k=5\/k=6\/k=7\/k=8\/k=9\/k=10 by omega) with rfl | rfl | rfl | rfl | rfl | rfl | rfl | rfl | rfl | rfl | rfl
          all_goals rfl
        have HK:Hid (lf Ba k=x->Cn w (wr.setCell (Ad (w.heap.size+1) 0) (Bv x)) (kd x (k+1)) i nS nS):=fun q=>by
          rw[F7 ak q];exact o.o.e x
        have HK':Hid (¬lf Ba k=x->Cn w wr (kd x (k+1)) i nS nS):=fun q=>by
          rw[F8 ak q];exact o.o
        clear o ak;generalize kd x k=kx at Y;rcases (show k=0\/k=1\/k=2\/k=3\/k=4\/k=5\/k=6\/k=7\/k=8\/k=9\/k=10 by omega) with rfl | rfl | rfl | rfl | rfl | rfl | rfl | rfl | rfl | rfl | rfl
        all_goals (
          go_wp2;all_goals (
            rename_i h
            first
            |exact⟨⟨_,dC,rfl,HK.o (eq_of_beq h)⟩,by simp[intOf]⟩
            |exact⟨⟨_,dC,rfl,HK'.o (fun q=>by subst q;exact aB h dC)⟩,by simp[intOf]⟩))
      · obtain rfl:k=11:=oM
        obtain⟨Y,f0,al⟩:=wJ.x ⟨_,o.o.v⟩;obtain⟨d0,e0,am⟩:=wJ.x ⟨_,o.o.r⟩;generalize kd x 11=kx at *;go_wp2
        (try simp only[Exit.inBlock,Exit.then])
        refine wL (v:=.tuple #[.agg (Jh ⟨kx,i,[],[]⟩ none 0 none 0),Iv ((i+1:Nat):Int)]) ?_ rfl ?_
        · rw[results_cell_tmp rfl]
          unfold Jh;go_simp
        · rw[<-s.o]
          exact qm (k:=⟨kx,i,[],[]⟩) (j:=i+1) o.o (.inl rfl) (.inl rfl)
end Go.Proofs.YtoihadcablknpaaGreatDoor
