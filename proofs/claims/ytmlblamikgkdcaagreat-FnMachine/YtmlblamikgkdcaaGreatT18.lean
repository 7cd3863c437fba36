import Derived.Test.YtmlblamikgkdcaaGreatT16
set_option linter.unusedVariables false
set_option linter.unusedSimpArgs false
set_option linter.defProp false
set_option maxHeartbeats 40000000
set_option maxRecDepth 100000
namespace Go.Proofs.YtmlblamikgkdcaaGreat
open Go.RowKit
open Go.Proofs.Tryz
open M (OpD ug Gr)
def Lj(l:List zI)(j:Nat):Bool:=if j=0 then false else kAt l (j-1)==94
def unl{a l j x}(b:l[j]?=some x):xq a (Lj l j) (l.drop j)=if x.e=110/\Lj l j=false/\x.nm ∉ a then some x.f else xq a (Lj l (j+1)) (l.drop (j+1)):=by
 rw[yd b,xq];have e:(x.e==94)=Lj l (j+1):=by
  unfold Lj;rw[Zn oM,Nj,Ww b]
 rw[e]
def GL(a b:Option Nat):Option Nat:=match a with|some p=>some p|none=>b
def ukp a q r:xN a (q::r)=GL (xq a false q.e.tk) (xN a r):=by
 rw[xN];cases xq a false q.e.tk<;>rfl
def Zt(t:Tx)(w:Wl)(e:Ending)(w':Wl):Prop :=
 ∃b a g ra rc la lc,Kr t b a g/\e=Rt (.tuple #[.agg #[Sl ra g.nr rc,Sl la g.nb lc],Iv b,Iv a])/\zV (Of w') w' ra la g/\Kf w w'
def Zu{w W}(h:Kf w W){b o v}(i:w.heap.size<=b):Kf w (W.setCell (Ad b o) v) :=
 ⟨h.os,h.g,h.f,by rw[uh];exact h.l,λx c a=>(Bn (λe=>by have e':x=b:=e;omega)).trans (h.d x c a)⟩
def zv:Array Value:=#[nS,nS]
def zt(c a:Int):Vl:=.tuple #[.agg #[nS,nS],Iv c,Iv a]
def RR{t w w' c a}(h:Kr t c a Ol)(k:Kf w w'):Zt t w (Rt (zt c a)) w' :=
 ⟨c,a,Ol,none,0,none,0,h,rfl,⟨.inl rfl,.inl rfl⟩,k⟩
def Wx{t w W c a}(h:Kr t c a Ol)(k:Kf w W):Zt t w (Rt (zt c a)) ((W.setCell (Ad w.heap.size 0) nS).setCell (Ad w.heap.size 1) nS) :=
 RR h (Zu (Zu k zD) zD)
def Zv z:∀(l:List LI) (i:Nat),(z∈l->∃k,l[k]?=some z/\vN z l i=((i+k:Nat):Int))/\(z ∉ l->vN z l i = -1)
 |[],i=>⟨(λh=>by cases h),λ_=>rfl⟩
 |y::r,i=>by
  let⟨c,d⟩:=Zv z r (i+1);rw[vN];by_cases e:y=z
  .rw[Zp e];subst e;exact⟨λ_=>⟨0,rfl,rfl⟩,λh=>aB sM h⟩
  rw[Zn e];refine⟨λh=>?_,λh=>d (λq=>h (by simp[q]))⟩;rcases Dm.1 h with q|q
  .exact aB q.symm e
  let⟨k,a,b⟩:=c q;exact⟨k+1,a,by rw[b];congr 1;omega⟩
structure PG(w:Wl)(Q:Np)(qs:List Rl)(ra:Oa)(W:Wl):Prop where
 y:Kf w W
 f:zG W w.heap.size zv
 rl:Gs Q W ra qs
def PG.on{w W W' Q a ra}(h:PG w Q a ra W)(k:Kf W W'):PG w Q a ra W':=⟨h.y.c k,h.f.on k.q,h.rl.h k.q⟩
def RS(NS a:Nat)(f c:Wl)(ls:List LI)(u:Vl)(wr:Wl):Prop :=
 ∃(i:Nat) (G:Nat->Nat) (e:Vl) (cs:List GC),i<=NS/\u=Iv ((i:Nat):Int)/\Ed a f G wr nS e [] cs/\cs.map (·.d)=(ls.take i).map (λz=>(⟨z,false,[]⟩:NL))/\zA (λb=>b=a) c wr
def Zw(f a:Nat)(k g:Wl)(c ls:List LI)(e:List Rl)(u:Vl)(wr:Wl):Prop :=
 ∃(i:Nat) (G:Nat->Nat) (j h:Vl) (rs cs:List GC),i<=f/\u=Iv ((i:Nat):Int)/\Ed a k G wr j h rs cs/\rs.map (·.d)=vF c ls (e.take i)/\cs.map (·.d)=vE c ls (e.take i)/\zA (λb=>b=a) g wr
def urZ{f NS i u o wr X G ls z m r zc s cs}(B:Ed f u G wr nS (Sl r cs.length s) [] cs)(C:Ints (Tg G wr 2) .u8 wr m z.length (lf z))(O:ls[i]?=some z)(L:i<NS)(A:cs.map (·.d)=(ls.take i).map (λz=>(⟨z,false,[]⟩:NL)))(F:o.heap.size=f+1)(E:zA (λb=>b=f) o wr)(I:wr.drew.alloc (Oc #[Sl m z.length zc,Bf,nS] 69)=X):∃n,zB (Tg n X 1) X (Sl r cs.length s) 3 cs.length (cs.flatMap Ef)/\∀W v,zB (λb=>Tg n X 1 b\/X.heap.size<=b) W v 3 (cs.length+1) (cs.flatMap Ef++Ef ⟨⟨z,false,[]⟩,m,zc,none,0⟩)->zT (Tg n X 1) X W ->
   RS NS f u o ls (Iv ((i:Int)+1)) (W.setCell (Ad f 1) v)/\W.cell? (Ad f 1)=some (Sl r cs.length s)/\W.frozen? (Ad f 1)=false:=by
 have k:Kf wr X:=I▸Cj.c zY;have j:=B.h k 3;have D:=(C.h k.q).g (yR k.l (λb J=>uR (t:=3) J) 2);refine⟨_,j.v.gr.e,λW v N p=>?_⟩;let⟨w,H⟩:=j.g (x:=⟨⟨z,false,[]⟩,m,zc,none,0⟩) D (DR) N p;let⟨_,y1,_,y2⟩:=xI j.v oM p;exact⟨⟨i+1,w,_,_,L,sM,H,by rw[Dt,A,Jl,O,Dt];simp,j.y oM oM F E k p⟩,y1,y2⟩
def ur0{o L i S A wr g n X G w ls z q D H ah s r I ai t c3 rs cs}(Y:Ed o S G wr (Sl H rs.length I) (Sl ah cs.length ai) rs cs)(ab:rs.map (·.d)=vF w ls (z.take i))(V:cs.map (·.d)=vE w ls (z.take i))(ac:A.heap.size=o+1)(aa:zA (λb=>b=o) A wr)(R:z[i]?=some q)(af:i<L)(Q:q.a=none)(hD:q.e.e w ls=D)(J:Kf wr g)(U:zQ (zF wr g) g (Sl s D.length t) D)(Z:Ints (zF g.drew n) .u8 n r q.f.nm.length (lf q.f.nm))(F:Kf g.drew n)(P:n.alloc (Oc #[Sl r q.f.nm.length c3,Sl s D.length t] 104)=X) :
  ∃p,zB (Tg p X 0) X (Sl H rs.length I) 2 rs.length (rs.flatMap Fu)/\∀W v,zB (λb=>Tg p X 0 b\/X.heap.size<=b) W v 2 (rs.length+1) (rs.flatMap Fu++Fu ⟨⟨q.f.nm,true,D⟩,r,c3,s,t⟩)->zT (Tg p X 0) X W ->
   Zw L o S A w ls z (Iv ((i:Int)+1)) (W.setCell (Ad o 0) v)/\W.cell? (Ad o 0)=some (Sl H rs.length I)/\W.frozen? (Ad o 0)=false:=by
 have C:Kf n X:=P▸zY;have hs:X.heap.size=n.heap.size+1:=by rw[<-P];simp
 have kk:=((J.c Cj).c F).c C;have z8:=J.l;have z3:g.heap.size<=n.heap.size:=F.l;let⟨p,u,hn,j⟩:=Y.k (N:=zF g.drew n) (B:=zF wr g) (4+2*rs.length) kk (Z.h C.q) (U.on (λb j=>((zA.i (λ_=>False) g).c (F.c C)).d b j.2 (λq=>q))) (λb j=>by have h1:g.heap.size<=b:=j.1;have O:=j.2;exact⟨oM,oM⟩) (λb j=>by have O:=j.2;exact⟨j.1,oM⟩) (λb j ae=>by have h1:g.heap.size<=b:=j.1;have O:=ae.2;omega);refine⟨p,u.v.gr.c,λW v ag E=>?_⟩;let⟨T,ad⟩:=u.m (x:=⟨⟨q.f.nm,true,D⟩,r,c3,s,t⟩) hn j ag E;let⟨y0,_,y2,_⟩:=xI u.v oM E;refine⟨⟨i+1,T,_,_,_,cs,af,sM,ad,?_,?_,u.y oM oM ac aa kk E⟩,y0,y2⟩
 .rw[Jl,R];show _=vF _ _ (_++[q]);rw[kh,Dt,ab,Q];simp[Zy,hD]
 rw[Jl,R];show _=vE _ _ (_++[q]);rw[QS Q,V]
def RT:∀l:List Rl,l.length<=(l.flatMap Rl.tk).length
 |[]=>zK
 |x::l=>by have:=x.c;have:=RT l;simp only[Eu,zJ,Db];omega
def ukq Q t a c w(hT:Ei Q w a t) :
  Cs 26 #[Sl a t.n c] w (Zt t w):=by
 have hn:=t.le;have HT:=ua hT;clear hT;go_enter func26,ntmps26;by_cases fy:4000<t.n
 .have fw:(t.n:Int) > 4000:=oM;have ae:Hid (Kr t 7 0 Ol):=.inr dC;go_wp2;exact zL (v:=zt 7 0) (by simp[zt,results,f26,go_sem]) rfl (RR ae zY)
 have fx:decide ((t.n:Int) > 4000)=false:=Ix oM;have ec:t.n<=4000:=oM;go_wp2_with fail;generalize c4:w.alloc _=w0;have bm:Hid (Kf w w0):=c4▸zY;have BR:Hid (zG w0 w.heap.size zv):=c4▸Eb w;clear c4;refine(uhb Q t a c w0 (HT.o.y bm.o)).mono ?_;rintro e W1 ⟨ta,tc,L,rfl,hL,d8⟩;have hL':L.length=(uY t).length:=by rw[<-hL,Bl]
 have cv:=d8.a;obtain⟨P,h⟩:=d8;have c2:(uY t).length<=tc:=by
  rcases h.k with⟨e,q,_⟩|⟨g,cap,e,B,h3,h4,h5,h6⟩
  .omega
  injection e with e1 e2 e3;omega
 rw[hL]at cv;have b0:=ua cv;have b6:=ua h.y;replace BR:=ua (BR.on h.y.q);let⟨aj,ff⟩:=Zx t;have d7:(uY t).length<=8000:=oH (qJ (uY t));have ce:=ua aj;have cf:Hid (Cy (uY t)<=8000):=by show _<=_;omega
 clear h hL hL' cv aj ff;let⟨TL,cj⟩:=nm (uY t);have de:=ua cj;rw[cj]at c2 b0 d7 ce cf ⊢;let⟨fa,ay⟩:=nm TL.length;have bt:=ua ay;rw[ay]at c2 d7 ⊢;clear cj ay;go_wp2_with fail;have cx:=uiF (zF w0 W1) TL ta tc t.n W1 b0.o (oH bt.o);rw[bt.o]at cx;refine cx.mono ?_;clear cx;rintro e W ⟨rfl,hw⟩;subst W;let⟨r1,r2⟩:=GO t.n (TL.length+1) TL oM;cases bk:yB t.n (TL.length+1) TL with
 |inl p =>
  have ae:Hid (Kr t 5 (p:Nat) Ol):=.inr dC;rw[r1 p bk];have gb:decide ((p:Int) ≥ 0)=true:=Ke oM;have gc:(0:Int)<=(p:Int):=oM;let⟨X,f0,l0⟩:=BR.x;unfold zv at X;clear r1 r2 bk;go_wp2;exact zL (v:=zt 5 p) (by simp[zt,results,f26,go_sem, *]) rfl (Wx ae (bm.o.c b6.o))
 |inr o =>
 let⟨ed,bg,ef⟩:=r2 o bk;rw[ef];have bw:=ua ed;have eu:Hid (yB t.n ((uY t).length+1) (uY t)=.inr o):=by rw[de.o];exact bk
 have am:Hid (∀q∈o,Dg t.n q.f/\∀x∈q.e.tk,Dg t.n x):=λq B=>by
  have hm:∀x∈q.tk,Dg t.n x:=λx H=>ce.o x (by rw[bg];exact Kj.2 ⟨q,B,H⟩);exact⟨hm _ (Cn q.d),λx H=>hm x (by unfold Rl.tk;simp[H])⟩
 have a9:Hid (Cy (o.flatMap Rl.tk)<=8000):=by rw[<-bg];exact cf.o
 have fd:o.length<=8000:=by have Y:=qJ (o.flatMap Rl.tk);have h3:=RT o;have:=a9.o;omega
 have d3:=uiD (zF w0 W1) o bw.o ta tc fa W1 (by rw[<-bt.o,bg]) (by rw[<-bg];exact b0.o) oM c2;have ds:=ua d3;clear r1 r2 bk ef ed bg d3;go_wp2_with fail;refine ds.o.mono ?_;rintro e W2 ⟨ra,rc,rfl,d4,U⟩;have A:Hid (PG w (zF w0 W1) o ra W2):=⟨(bm.o.c b6.o).c U,BR.on U.q,d4⟩;clear U d4 b6 BR b0 ce cf bt de bm ds;generalize zF w0 W1=Q1 at *;let⟨C,ct⟩:=nm o.length;have ab:=ua ct;rw[ct]at fd ⊢;clear ct;have a0:Hid (∀i,i<C->∃q,o[i]?=some q):=λi hi=>⟨_,Bb (oH ab.o)⟩;go_wp2;go_loopw [8] (λv8 wr=>∃i,i<=C/\v8=Iv ((i:Nat):Int)/\PG w Q1 o ra wr/\jk (o.take i) (o.drop i)=jk [] o) (λv8 _=>C-(intOf v8).toNat)
 .exact⟨0,zK,rfl,A.o,rfl⟩
 obtain⟨i,hi,rfl,hP,hD⟩:=hrel;have A:=ua hP;have HD:=ua hD;clear hD hP;by_cases N:i<C
 .have hlt':(i:Int)<C:=oM;let⟨q,B⟩:=a0 i N;have HQ:=ua B;have bx:=ua (am q (Cn B)).1.h;clear B;go_wp2;go_loopw [9] (λv9 wr=>∃j,j<=i/\v9=Iv ((j:Nat):Int)/\PG w Q1 o ra wr/\∀b s,b<j->o[b]?=some s->jt s q=false) (λv9 _=>i-(intOf v9).toNat)
  .exact⟨0,zK,rfl,A.o,λb s h=>oM⟩
  obtain⟨j,hj,rfl,hP,hA⟩:=hrel;have A:=ua hP;have HA:=ua hA;by_cases bi:j<i
  .have hjl':(j:Int)<i:=oM;have f3:(j:Int)<C:=oM;let⟨s,hs⟩:=a0 j oM;obtain⟨b,off,rfl,F⟩:=hP.rl.at (i:=i) (oH ab.o);let⟨k0,ax,_⟩:=F i q HQ.o;let⟨k3,dx,_⟩:=F j s hs;let⟨qa,qc,k1,q2⟩:=ax.nm;let⟨sa,sc,k4,s2⟩:=dx.nm;have k2:=ax.f;have HY:∀n,(convert 22 9 (Sl qa q.f.nm.length qc)).run prog (wr.drewN n)=.ok (.string (str q.f.nm.length (lf q.f.nm))) (wr.drewN n):=λn=>vg _ qa q.f.nm.length qc (lf q.f.nm) _ (q2.h (Be (zH wr) n));have HZ:∀n,(convert 22 9 (Sl sa s.f.nm.length sc)).run prog (wr.drewN n)=.ok (.string (str s.f.nm.length (lf s.f.nm))) (wr.drewN n):=λn=>vg _ sa s.f.nm.length sc (lf s.f.nm) _ (s2.h (Be (zH wr) n));have bz:=ua (FT bx.o (am s (Cn hs)).1.h);have a8:Hid (jt s q=(s.a.isSome==q.a.isSome&&decide (s.f.nm=q.f.nm))):=rfl;have R:Hid (jt s q=false->∀b s,b<j+1->o[b]?=some s->jt s q=false):=λh b s' E b4=>by
    by_cases e:b=j
    .subst e;rw[hs]at b4;cases b4;exact h
    exact HA.o b s' oM b4
   generalize str q.f.nm.length (lf q.f.nm)=sy at *;generalize str s.f.nm.length (lf s.f.nm)=sz at *;generalize q.a.isSome=bq at *;generalize s.a.isSome=bs at *;clear F ax dx q2 s2 hs HA hA;by_cases b3:bs=bq
   .subst b3;by_cases hs:sy=sz
    .subst hs;have HF:Hid (Kr t 6 q.f.f Ol):=.inr dC;let⟨X,f0,l0⟩:=hP.f.x;unfold zv at X;clear bz a8 R hP;cases bs;all_goals
      go_upto_region 14 with fail;go_quiet (fail);go_upto_region 15 with fail;go_region;go_wp2;exact zL (v:=zt 6 q.f.f) (by simp[zt,results,f26,go_sem, *]) rfl (Wx HF (A.o.y.c (ur wr _)))
    have b4:(sy.toList==sz.toList)=false:=by
     rw[Ra];exact λq=>hs (QQ q)
    have an:=ua (R.o (by rw[a8.o];simp;exact λe=>hs (bz.o.2 e.symm)));clear bz a8 R hP;cases bs;all_goals
     go_upto_region 14 with fail;go_quiet (fail);go_wp2;exact⟨⟨j+1,bi,sM,A.o.on (ur wr _),an.o⟩,by simp[intOf];omega⟩
   have an:=ua (R.o (by rw[a8.o];simp[b3]));clear bz a8 R hP;cases bs<;>cases bq
   all_goals first
    |exact aB rfl b3
    |(clear b3;go_upto_region 14 with fail;go_quiet (fail);go_wp2;exact⟨⟨j+1,bi,sM,A.o.on (ur wr _),an.o⟩,by simp[intOf];omega⟩)
  have hjl':¬(j:Int)<i:=oM;obtain rfl:j=i:=oM;have ek:Hid (jk (o.take (j+1)) (o.drop (j+1))=jk [] o):=by
   have hd:=HD.o;rw[yd HQ.o,jk,Zn (λh=>by
    let⟨s,hs,h⟩:=List.any_eq_true.1 h;obtain⟨b,E,rfl⟩:=List.getElem_of_mem hs;rw[Fw]at E;rw[List.getElem_take,HA.o b _ oM (Bb oM)]at h;cases h)]at hd
   rw[Jl,HQ.o];exact hd
  clear hA hP;go_wp2;go_roundw
  .exact⟨j+1,N,by go_num,A.o,ek.o⟩
  simp[intOf];omega
 have hlt':¬(i:Int)<C:=oM;have dd:Hid (jk [] o=none):=by
  have h:=HD.o;rw[Ki (oH ab.o),jk]at h;exact h.symm
 clear HD
 rename World=>W3
 go_wp2;go_loopw [10,11] (λv u wr=>∃(i:Nat) (L:List NC),i<=C/\u=Iv ((i:Nat):Int)/\L.length<=i/\L.map (·.z)=uq (o.take i)/\Ju W3 wr v L) (λ_ u _=>C-(intOf u).toNat)
 case atStart=>exact⟨0,[],zK,rfl,zD,rfl,Ii.nil Cc⟩
 case round =>
 obtain⟨i,L,hi,rfl,fc,hL,hR⟩:=hrel;obtain⟨va,vc,rfl⟩:=hR.a;have HL:=ua hL;have HR:=ua hR;clear hL hR;by_cases N:i<C
 .have hlt':(i:Int)<C:=oM;let⟨q,B⟩:=a0 i N;obtain⟨b,off,rfl,F⟩:=A.o.rl.at (i:=i) (oH ab.o);let⟨dw,ax,_⟩:=F i q B;let⟨qa,qc,q2,bl⟩:=ax.nm;have HI:=ua bl;have kb:=HR.o.y.q;have k0:=ue dw kb;have k1:=ue q2 kb;have R:Hid (uq (o.take (i+1))=uq (o.take i)++(if q.a.isSome then [] else [q.f.nm])):=by
   show _=_;rw[Jl,B];unfold uq;rw[List.filter_append,Dt];cases hc:q.a<;>simp[hc]
  clear F dw ax q2 bl kb B;cases ao:q.a.isSome with
  |false =>
   rw[ao]at k0 R;go_wp2_with (at_builtin;refine Zl rfl _ _ rfl rfl rfl (y:=⟨q.f.nm,qa,qc⟩) HR.o Cc (FY Cc HI.o) oM ?_;intro a5 c5 W5 et);go_roundw
   .exact⟨i+1,_,N,by go_num,sO,by rw[R.o,Dt,HL.o];rfl,et.o⟩
   simp[intOf];omega
  |true =>
   rw[ao]at k0 R;go_wp2;go_roundw
   .exact⟨i+1,L,N,by go_num,oM,by rw[R.o,HL.o];simp,HR.o⟩
   simp[intOf];omega
 have hlt':¬(i:Int)<C:=oM;have cb:Hid (L.map (·.z)=uq o):=by
  have:=HL.o;rw[Kg (oH ab.o)]at this;exact this
 rename World=>W4
 replace A:=ua (A.o.on HR.o.y);have cq:=HR.o.z0;rw[cb.o]at cq;have aw:=ua (cq.g (λ_ _=>trivial));have dn:Hid (∀y∈uq o,zW y):=λy hy=>by
  unfold uq at hy;obtain⟨q,B,rfl⟩:=Gj.1 hy;exact(am.o q (Th.1 B).1).1.h
 let⟨NN,cr⟩:=nm L.length;have a4:Hid (NN=(uq o).length):=by show NN=_;rw[<-cr,<-cb.o,Bl]
 have fv:NN<=8000:=oM;rw[cr];clear cr HR HL cb fc cq;go_wp2;go_loopw [12] (λu wr=>∃i:Nat,i<=C/\u=Iv ((i:Nat):Int)/\Kf W4 wr/\xN (uq o) (o.drop i)=xN (uq o) o) (λu _=>C-(intOf u).toNat)
 case atStart=>exact⟨0,zK,rfl,Cc,rfl⟩
 case round =>
 obtain⟨i,hi,rfl,hK,hF⟩:=hrel;have HK:=ua hK;have HF:=ua hF;clear hK hF;by_cases N:i<C
 .have hlt':(i:Int)<C:=oM;let⟨q,B⟩:=a0 i N;have HQ:=ua B;obtain⟨b,off,rfl,F⟩:=A.o.rl.at (i:=i) (oH ab.o);let⟨_,_,ba,bc,c5,d6,_⟩:=F i q B;have ew:=ua d6;have ex:=ua (am q (Cn B)).2;let⟨NB,cp⟩:=nm q.e.tk.length;have br:=ua cp;have fu:NB<=8000:=by have Y:=qJ q.e.tk;have S:=FV (Cn B);have:=a9.o;omega
  rw[cp]at c5;have db:=ua c5;clear F c5 d6 B cp;go_wp2;go_loopw [13] (λu wr=>∃j:Nat,j<=NB/\u=Iv ((j:Nat):Int)/\Kf W4 wr/\GL (xq (uq o) (Lj q.e.tk j) (q.e.tk.drop j)) (xN (uq o) (o.drop (i+1)))=xN (uq o) o) (λu _=>NB-(intOf u).toNat)
  .exact⟨0,zK,rfl,HK.o,by rw[<-HF.o,yd HQ.o,ukp];rfl⟩
  obtain⟨j,hj,rfl,U,ck⟩:=hrel;have eq:=ua U;have dg:=ua ck;have d5:=ue db.o U.q;by_cases bi:j<NB
  .have hjl':(j:Int)<NB:=oM;obtain⟨x,H⟩:∃x,q.e.tk[j]?=some x:=⟨_,Bb (oH br.o)⟩;obtain⟨bb,bo,rfl,F⟩:=ew.o.at (i:=j) (oH br.o);have hC:=F j x H;let⟨xa,xc,x2,ei⟩:=hC.nm;let⟨ya,yc,x3,_⟩:=hC.set;have e9:=ua ei;have ez:=ua (ex x (Cn H)).h;have e0:=ue hC.e U.q;have e1:=ue hC.f U.q;have e2:=ue x2 U.q;have e3:=ue x3 U.q;have es:Hid (∀p,j=p+1->∃y,W4.cell? (Ad bb (bo+p*4))=some (Bv y)/\Lj q.e.tk j=(y==94)):=λp hp=>by
    obtain⟨y,hy⟩:∃y,q.e.tk[p]?=some y:=⟨_,Bb (oH br.o)⟩;exact⟨y.e,(F p y hy).e,by unfold Lj;rw[Zn oM,hp,Nj,Ww hy]⟩
   have R:Hid ((x.e=110->Lj q.e.tk j=false->x.nm∈uq o)->GL (xq (uq o) (Lj q.e.tk (j+1)) (q.e.tk.drop (j+1))) (xN (uq o) (o.drop (i+1)))=xN (uq o) o):=λh=>by
    have h3:=dg.o;rw[unl H,Zn (λq=>q.2.2 (h q.1 q.2.1))]at h3;exact h3
   let⟨r,hr⟩:=nm (x.e==110&&!Lj q.e.tk j);have ai:=ua hr;have eg:=ud d5;have fp:=ud e0;clear F hC x2 ei x3 hr H ck;go_upto_region 29 with fail;generalize hV:wr.alloc _=V;have bf:=hV▸U.c zY;have bn:=ua bf;have BT:=ua (hV▸Eb wr:zG V wr.heap.size #[Bv x.e,Iv x.f,Sl xa x.nm.length xc,Sl ya x.set.length yc]);replace d5:=ue db.o bf.q;have gg:w.heap.size<wr.heap.size:=Ba A.o.f.x.2.2 U.l;clear hV e0 e1 e2 e3 eg fp U;have eg:=ud d5;go_cut [15] (λv wc=>v=.bool r/\wc=V)
   .let⟨z,p,l⟩:=BT.x;by_cases k1:x.e=110
    .rw[k1]at z ai;by_cases j0:j=0
     .subst j0;go_wp2;go_meet;exact⟨by rw[<-ai.o];rfl,rfl⟩
     obtain⟨pj,rfl⟩:∃pj,j=pj+1:=⟨j-1,oM⟩;let⟨y,hy,fk⟩:=es pj rfl;replace hy:=ue hy bf.q;rw[fk]at ai;have gl:=ud hy;have f2:((pj+1:Nat):Int)-1=(pj:Int):=oM;have f4:(((pj+1:Nat):Int)==0)=false:=sO;have gd:(pj:Int)<(NB:Int):=oM;by_cases y9:y=94
     .rw[y9]at hy ai;go_wp2;go_meet;exact⟨by rw[<-ai.o];rfl,rfl⟩
     have yb:(y != 94)=true:=(by simpa using y9);have HE:Hid (r=true):=(by show _=_;rw[<-ai.o];simpa using y9);go_wp2;go_meet;exact⟨by rw[HE.o],rfl⟩
    have kb:(x.e==110)=false:=(by simpa using k1);have HE:Hid (r=false):=(by show _=_;rw[<-ai.o,kb];rfl);go_wp2;go_meet;exact⟨by rw[HE.o],rfl⟩
   obtain⟨rfl,hw⟩:=hcut;subst hw;cases r with
   |false =>
    have an:=ua (R.o (λY S=>by have:=ai.o;rw[Y,S]at this;cases this));go_wp2;go_roundw
    .exact⟨j+1,bi,by go_num,bn.o,an.o⟩
    simp[intOf];omega
   |true =>
    have dy:x.e=110/\Lj q.e.tk j=false:=(by have:=ai.o;simpa using this);have ad:=qH (λ_=>True) Q1 (uq o) x.nm va xa vc xc _ (aw.o.h bf.q) (e9.o.h bf.q) dn.o ez.o (oH a4.o);rw[<-a4.o]at ad;have d2:=R.o;let⟨z,p,l⟩:=BT.x;by_cases ag:x.nm∈uq o
    .let⟨k,_,hk⟩:=(Zv x.nm (uq o) 0).1 ag;rw[hk]at ad;have an:=ua (R.o (λ_ _=>ag));have av:=ua ad;have bj:¬((0+k:Nat):Int)<0:=oM;clear ag hk ad d2 dy;generalize 0+k=k0 at *;go_wp2_with fail;refine av.o.mono ?_;rintro e W ⟨rfl,m,rfl⟩;go_wp2;go_roundw
     .exact⟨j+1,bi,by go_num,bn.o.c (ur _ m),an.o⟩
     simp[intOf];omega
    rw[(Zv x.nm (uq o) 0).2 ag]at ad;have HF:Hid (Kr t 6 x.f Ol):=.inr dC;have av:=ua ad;clear ag ad d2 dy;go_wp2_with fail;refine av.o.mono ?_;rintro e W ⟨rfl,m,rfl⟩;have b2:=ur wc m;generalize wc.drewN m=V2 at *;let⟨z2,p2,l2⟩:=(BT.o.on b2.q).x;let⟨X,f0,l0⟩:=(A.o.on (bn.o.c b2)).f.x;unfold zv at X;have a2:=ua ((A.o.on (bn.o.c b2)).y);have f8:¬wr.heap.size=w.heap.size:=oM;have f9:¬w.heap.size=wr.heap.size:=oM;clear z p l b2;go_upto_region 31 with fail;go_region;all_goals
     go_wp2;exact zL (v:=zt 6 x.f) (by simp[zt,results,f26,go_sem, *]) rfl (Wx HF (a2.o.c (ur V2 1)))
  have hjl':¬(j:Int)<NB:=oM;have em:Hid (xN (uq o) (o.drop (i+1))=xN (uq o) o):=by
   have h:=dg.o;rw[Ki (oH br.o),xq]at h;exact h
  clear ck U;go_wp2;go_roundw
  .exact⟨i+1,N,by go_num,eq.o,em.o⟩
  simp[intOf];omega
 have hlt':¬(i:Int)<C:=oM;have ev:Hid (xN (uq o) o=none):=by
  have h:=HF.o;rw[Ki (oH ab.o),xN]at h;exact h.symm
 rename World=>W5
 replace A:=ua (A.o.on HK.o);replace aw:=ua (aw.o.h HK.o.q);clear HK HF;by_cases co:NN=0
 .have ae:Hid (Kr t 6 t.n Ol):=.inr dC;subst co;let⟨X,f0,l0⟩:=A.o.f.x;unfold zv at X;go_wp2;exact zL (v:=zt 6 t.n) (by simp[zt,results,f26,go_sem, *]) rfl (Wx ae A.o.y)
 have ft:((NN:Int)==0)=false:=sO;have du:Hid ((o.flatMap Rl.tk).length<=8000):=by have Y:=qJ (o.flatMap Rl.tk);have S:=a9.o;show _<=_;omega
 have bp:Hid (∀z∈uH o,zW z/\z.length<=1000000):=λz J=>by
  unfold uH at J;let⟨q,B,J⟩:=Kj.1 J;have aj:=am.o q B;have eh:∀x:zI,Dg t.n x->zW x.nm/\x.nm.length<=1000000:=λx h=>⟨h.h,by have:=h.c;omega⟩;unfold yW at J;rcases By.1 J with h|h
  .split at h
   .rw[Bu.1 h];exact eh _ aj.1
   cases h
  obtain⟨x,H,rfl⟩:=RL h;exact eh _ (aj.2 x H)
 have ey:Hid (∀ls,Fg ls->(∀z,z∈ls↔z∈uH o)->M.Valid (uZ ls o)->Kr t 0 0 (uZ ls o)):=λls Y S h=>.inl ⟨rfl,rfl,o,ls,ec,eu.o,dd.o,ev.o,λe=>co (by rw[a4.o,e];rfl),Y,S,h,rfl⟩;clear co;have cn:=y3 Q1 o ra rc W5 A.o.rl (oH du.o) (λz J=>(bp.o z J).1) (λz J=>(bp.o z J).2);rw[ab.o]at cn;have dk:=ua cn;clear cn;go_wp2_with fail;refine dk.o.mono ?_;clear dk;rintro e I ⟨la,lc,ls,rfl,ci,ag,ay,cm⟩;have c7:=ua ci;have b9:=ua ag;have ca:=ua ay;replace A:=ua (A.o.on cm);replace aw:=ua (aw.o.h cm.q);have dm:Hid (∀y∈ls,zW y):=λy hy=>(bp.o y ((ag y).1 hy)).1;have fi:ls.length<=8000:=by
  have Y:=ci.c (m:=uH o) (λz J=>(ag z).1 J);have S:=FZ o;have h3:=du.o;omega
 let⟨NS,cu⟩:=nm ls.length;have ac:=ua cu;rw[cu]at fi ⊢;clear ci ag ay cm cu;go_wp2;obtain⟨wE,ee⟩:∃wE:Wl,wE.heap.size=0:=⟨{ w with heap:=#[] },rfl⟩;have dh:=ua (Ed.c I (t:=34) wE ee);have b7:=ua (zA.a (λ_=>False) I (Oc #[nS,nS] 34));have a7:Hid ((I.alloc (Oc #[nS,nS] 34)).heap.size=I.heap.size+1):=by show _=_;simp
 clear ee;generalize I.alloc _=W7 at *;go_loopw [18] (RS NS I.heap.size wE W7 ls) (λu _=>NS-(intOf u).toNat)
 case atStart=>exact⟨0,_,_,[],zK,rfl,dh.o,rfl,Cc⟩
 case round =>
 obtain⟨i,G,lv,cs,hi,rfl,hG,ap,hK⟩:=hrel;have O:=ua hG;have al:=ua ap;have aa:=ua hK;obtain⟨Z,ak,rfl⟩:=uj hG.v.gr.e;have a1:Hid (cs.length=i):=by
  have h:=Bj List.length ap;have:=ac.o;rw[Bl,Bl,Fw]at h;show _=_;omega
 have z1:=hG.v.c1;have f1:=hG.v.f1;have fs:=ud z1;clear hG ap hK dh;by_cases N:i<NS
 .have hlt':(i:Int)<NS:=oM;obtain⟨z,J⟩:∃z,ls[i]?=some z:=⟨_,Bb (oH ac.o)⟩;have HZ:=ua J;obtain⟨lb,lo,rfl,F⟩:=ca.o.at (i:=i) (oH ac.o);let⟨za,zc,X,hI⟩:=F i z J;have fg:=ud X;have T:=b7.o.q.trans (aa.o.below (oH a7.o) (λk hk e=>by have e:k=I.heap.size:=e;omega));have c0':=ue X T;have gi:=ud c0';have f6:¬lb=I.heap.size:=by have:lb<I.heap.size:=fg;omega
  have HI:Hid (Ints (Tg G wr 2) .u8 wr za z.length (lf z)):=(hI.h T).g (λb E=>⟨by have:=T.size;omega,O.o.e b E⟩);clear F X hI J T;go_upto_region 39 with fail;go_region_law
   (let⟨G2,hO,hF⟩:=urZ O.o HI.o HZ.o N al.o a7.o aa.o (zc:=zc) rfl;refine jN rfl (.tmp 175) (.tmp 181) 32 32 rfl (v:=Sl Z cs.length ak) (y:=Sl (Sm wr.drew.heap.size 0) 1 1) (by simp[Act.eval,Act.put]) (by simp[Act.eval,Act.put]) zd hO (NM (x:=⟨⟨z,false,[]⟩,za,zc,none,0⟩) (Eo wr.drew _)) (oH a1.o) ?_;intro v6 W8 aq bh cz;obtain⟨a6,c6,rfl⟩:=uj aq;let⟨hE,y1,y2⟩:=hF _ _ aq bh;have HE:=ua hE;clear aq bh cz hE hF hO)
  all_goals
   go_wp2;go_roundw;all_goals first
    |exact HE.o
    |(simp[intOf];omega)
    |omega
 have hlt':¬(i:Int)<NS:=oM;have dt:Hid (Zw C I.heap.size wE W7 (uq o) ls o (Iv 0) wr):=by
  have h:=al.o;rw[Kg (oH ac.o)]at h;exact⟨0,G,_,_,[],cs,zK,rfl,O.o,rfl,h,aa.o⟩
 clear al O aa z1 f1 fs a1;go_wp2;go_loopw [19] (Zw C I.heap.size wE W7 (uq o) ls o) (λu _=>C-(intOf u).toNat)
 case atStart=>exact dt.o
 case round =>
 obtain⟨i,G,rv,lv,rs,cs,hi,rfl,hG,cy,ap,hK⟩:=hrel;obtain⟨Z,ak,rfl⟩:=uj hG.v.gr.e;obtain⟨ah,au,rfl⟩:=uj hG.v.gr.c;have O:=ua hG;have cd:=ua cy;have al:=ua ap;have aa:=ua hK;have a1:Hid (cs.length=NS):=by
  have h:=Bj List.length ap;unfold vE at h;rw[Bl,Bl]at h;exact h.trans ac.o
 have ge:rs.length<=i:=by
  have h:=Bj List.length cy;unfold vF at h;rw[Bl,Bl]at h;have S:=List.length_filter_le (λq:Rl=>!q.a.isSome) (o.take i);rw[Fw]at S;omega
 have T:=b7.o.q.trans (hK.below (oH a7.o) (λk hk e=>by have e:k=I.heap.size:=e;omega));have c8:=ua T;clear hG cy ap hK dt;by_cases N:i<C
 .have hlt':(i:Int)<C:=oM;let⟨q,B⟩:=a0 i N;have HQ:=ua B;have az:=Cn B;obtain⟨b,off,rfl,F⟩:=A.o.rl.at (i:=i) (oH ab.o);let⟨Y,S,ba,bc,h3,h4,h5⟩:=F i q B;let⟨qa,qc,q2,bl⟩:=S.nm;have k0:=ue Y T;have k1:=ue q2 T;have k5:=ue h3 T;have dp:=ua (bl.h T);have bx:=ua (am q az).1;have aj:=(am q az).2;have fm:=zP (FV az) a9.o;have fj:=(SA (uq o) ls q.e).2 (bw.o q az).2.2.2.1;have hN:Rp (λ_=>True) wr va la (uq o) ls:=⟨aw.o.h T,(ca.o.h T).g (λ_ _=>trivial),dn.o,dm.o,by have:=a4.o;omega,by have:=ac.o;omega⟩;have fh:=qJ q.e.tk;have E:=(Y8 (λ_=>True) va la vc lc (uq o) ls wr hN q.e (λx H=>(aj x H).ok oM) oM ⟨oM,SB 1048576 oM (λx H=>((aj x H).ok oM).2.2)⟩).2.1 (bw.o q az).2.2.2.1 ba bc wr Cc ((h4.h T).g (λ_ _=>trivial)) h5;let⟨D,hD⟩:=nm (q.e.e (uq o) ls);rw[<-a4.o,ac.o,hD]at E;have ae:=ua E;have dc:=ua hD;have ga:q.f.nm.length<=1000000:=oH bx.o.c;clear F Y S h3 h4 h5 q2 bl B E hD hN aj fj fm fh T;go_wp2_with fail;refine ae.o.mono ?_;clear ae;rintro e W8 ⟨cg,ch,rfl,ea,af⟩;have da:=ua ea;have b8:=ua af;have j0:=ue k0 af.q;have j1:=ue k1 af.q;clear k0 k1 k5 ea;cases ao:q.a with
  |some cc =>
   have HC:Hid (q.a.isSome=true):=(by rw[ao];rfl);rw[HC.o]at j0;have d1:q.f.nm∈ls:=(b9.o _).2 (by
    unfold uH;refine Kj.2 ⟨q,az,?_⟩;unfold yW;rw[HC.o];simp)
   let⟨k,bj,eb⟩:=(Zv q.f.nm ls 0).1 d1;have ad:=qH (λb=>b<I.heap.size) Q1 ls q.f.nm la qa lc qc W8 ((ca.o.h c8).h af.q) (dp.o.h af.q) dm.o bx.o.h (oH ac.o);rw[eb,Bp,ac.o]at ad;have av:=ua ad;have f5:k<NS:=oG ((Bz.1 bj).1) ac.o;have hkN':(k:Int)<NS:=oM;obtain⟨x,H⟩:∃x,cs[k]?=some x:=⟨_,Bb (oH a1.o)⟩;have d9:x.d.nm=q.f.nm:=by
    have h:(cs.map (·.d))[k]?=some x.d:=(by rw[Ev,H];rfl);rw[al.o]at h;unfold vE at h;rw[Ev,bj]at h;injection h with h;rw[<-h];exact FU _ _ _ _
   have dr:Hid (∀V,Kf W8 V->∃g c,(Sl Z cs.length ak:Vl)=Sl (Sm g 0) cs.length c/\I.heap.size≠g/\V.cell? (Ad g (k*3+1))=some (.bool x.d.j)/\V.frozen? (Ad g (k*3+1))=false/\V.cell? (Ad g (k*3+2))=some (Sl x.ba x.d.bd.length x.bc)/\V.frozen? (Ad g (k*3+2))=false /\
     Zw C I.heap.size wE W7 (uq o) ls o (Iv ((i:Int)+1)) ((V.setCell (Ad g (k*3+1)) Bt).setCell (Ad g (k*3+2)) (Sl cg D.length ch))):=λV kV=>by
    let⟨g,c,e1,e2,e3,e4,e5,e6,⟨G',fb⟩,e8⟩:=O.o.f (b8.o.c kV) (D:=D) (ba:=cg) (bc:=ch) ((da.o.on (λb E=>kV.d b E.2 (λq=>q))).g (λb E=>⟨E.1,Ba E.2 kV.l⟩)) H;refine⟨g,c,e1,e2,e3,e4,e5,e6,i+1,G',_,_,rs,_,N,sM,fb,?_,?_,e8 W7 a7.o aa.o⟩
    .rw[Jl,HQ.o];show _=vF _ _ (_++[q]);rw[kh,cd.o,HC.o];simp
    rw[Jl,HQ.o];show _=vE _ _ (_++[q]);rw[QT c7.o bj HC.o (λs hs=>GM dd.o i q HQ.o s (by simpa using hs)),Pd,al.o,d9,dc.o]
   have z1:=(O.o.h af 3).v.c1;have fz:(k:Int)<(cs.length:Int):=oH a1.o;clear bj eb H d1 ad d9 af;go_wp2_with fail;refine av.o.mono ?_;rintro e W ⟨rfl,m,rfl⟩;have kV:=ur W8 m;replace z1:=ue z1 kV.q;replace j0:=ue j0 kV.q;replace j1:=ue j1 kV.q;let⟨g,c9,e1,e2,e3,e4,e5,e6,e7⟩:=dr.o _ kV;have HE:=ua e7;obtain rfl:Z=some (Ad g 0):=(by injection e1);have e2':¬g=I.heap.size:=λq=>e2 q.symm;clear e7 e1 dr av kV;generalize W8.drewN m=V8 at *;go_wp2;go_roundw;all_goals first
    |exact HE.o
    |(simp[intOf];omega)
  |none =>
   rw[ao]at j0;simp only[Option.isSome_none]at j0;have z0:=(O.o.h af 3).v.c0;have gp:=ud z0;have gh:=ud j1;have ep:=ua ((dp.o.h af.q).h (zA.i (λ_=>False) W8).q);have ej:=ua ao;have gf:rs.length<=8000:=oM;clear af ao;go_upto_region 48 with fail;go_region_law (first
    |(refine zi rfl (.tmp 224) (.tmp 230) rfl (W:=W8.drew) (ya:=qa) (yc:=qc) (z:=q.f.nm) rfl (by simp[Act.eval,Act.put]) (by simp[Act.eval,Act.put]) ep.o oM ?_;intro a3 c3 W3 eo di;have z3:=(O.o.h ((b8.o.c Cj).c di.o) 3).v.c0;have gq:=ud z3)
    |(let⟨G2,hO,hF⟩:=ur0 O.o cd.o al.o a7.o aa.o HQ.o N ej.o dc.o b8.o da.o eo.o di.o (c3:=c3) rfl;refine jN rfl (.tmp 223) (.tmp 234) 31 31 rfl (v:=Sl ah rs.length au) (y:=Sl (Sm W3.heap.size 0) 1 1) (by simp[Act.eval,Act.put]) (by simp[Act.eval,Act.put]) CW hO (NK (x:=⟨⟨q.f.nm,true,D⟩,a3,c3,cg,ch⟩) (Eo W3 _)) oM ?_;intro v6 W9 aq bh cz;obtain⟨a6,c6,rfl⟩:=uj aq;let⟨hE,y1,y2⟩:=hF _ _ aq bh;have HE:=ua hE;clear aq bh cz hE hF hO))
   all_goals
    go_wp2;go_roundw;all_goals first
     |exact HE.o
     |(simp[intOf];omega)
     |omega
 have hlt':¬(i:Int)<C:=oM;have b5:Hid (gram (rs.map (·.d)) (cs.map (·.d))=uZ ls o):=by
  have Y:=cd.o;have S:=al.o;rw[Kg (oH ab.o)]at Y S;show _=_;rw[Y,S];rfl
 let⟨fr,gn,fo,gk,er,el,d0⟩:=O.o.v.gr.j;have dz:Ca (Of wr) wr ah Z (uZ ls o):=by
  have h:=d0.a;rw[b5.o]at h;obtain rfl:ah=fr:=by injection er
  obtain rfl:Z=fo:=by injection el
  exact⟨h.c.g (λb E=>E.2),h.e.g (λb E=>E.2)⟩
 have bu:Hid ((uZ ls o).nr=rs.length/\(uZ ls o).nb=cs.length):=by
  rw[<-b5.o];exact⟨by show(rs.map (·.d)).length=_;rw[Bl],by show(cs.map (·.d)).length=_;rw[Bl]⟩
 have z0:=O.o.v.c0;have z1:=O.o.v.c1;have fl:=A.o.f.x.2.2;have k7:=A.o.y.c b7.o;have dj:Hid (Kf w wr):=by
  have f7:w.heap.size<=I.heap.size:=A.o.y.l;exact⟨aa.o.os.trans k7.os,aa.o.g.trans k7.g,aa.o.f.trans k7.f,zP k7.l aa.o.l,λb E hn=>(aa.o.d b (oH k7.l) (by show ¬b=_;omega)).trans (k7.d b E hn)⟩
 have cw:=qS (Of wr) ah Z au ak (uZ ls o) wr dz (zl bw.o a9.o am.o ec (oH ab.o) (oH ac.o) (λz J=>bp.o z ((b9.o z).1 J)));rw[bu.o.1,bu.o.2]at cw;have dv:=ua cw;clear d0 er el dz cw k7;go_wp2_with fail;refine dv.o.mono ?_;clear dv;rintro e W9 ⟨⟨r,rfl,hr⟩,be⟩;have dq:=ua ((A.o.f.on c8.o).on be);let⟨X,f0,l0⟩:=dq.o.x;unfold zv at X;have y0:=ue z0 be;have y1:=ue z1 be;have a2:Hid (Kf wr W9):=zA.j be (λk hk _=>hk);clear be z0 z1;cases r with
 |false =>
  have ae:Hid (Kr t 7 0 Ol):=.inr dC;clear hr;go_wp2;exact zL (v:=zt 7 0) (by simp[zt,results,f26,go_sem, *]) rfl (Wx ae (dj.o.c a2.o))
 |true =>
  have HV:=ua (hr.1 rfl);have en:Hid (Zt t w (Rt (.tuple #[.agg #[Sl ah rs.length au,Sl Z cs.length ak],Iv 0,Iv 0])) ((W9.setCell (Ad w.heap.size 0) (Sl ah rs.length au)).setCell (Ad w.heap.size 1) (Sl Z cs.length ak))):=by
   refine⟨0,0,uZ ls o,ah,au,Z,ak,ey.o ls c7.o b9.o HV.o,by rw[bu.o.1,bu.o.2],?_,Zu (Zu (dj.o.c a2.o) zD) zD⟩;let⟨tt,fe⟩:=dq.o;let⟨fq,gm,fn,gj,er,el,hX⟩:=O.o.d (u:=Sl ah rs.length au) (v:=Sl Z cs.length ak) a2.o fe fl;rw[b5.o]at hX;obtain rfl:ah=fq:=(by injection er);obtain rfl:Z=fn:=(by injection el);exact hX
  clear hr;go_wp2;exact zL (v:=.tuple #[.agg #[Sl ah rs.length au,Sl Z cs.length ak],Iv 0,Iv 0]) (by simp[results,f26,go_sem, *]) rfl en.o
end Go.Proofs.YtmlblamikgkdcaaGreat
