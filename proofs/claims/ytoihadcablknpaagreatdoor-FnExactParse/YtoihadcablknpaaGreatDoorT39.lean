import Derived.Test.YtoihadcablknpaaGreatDoorT30
set_option linter.unusedVariables false
set_option linter.unusedSimpArgs false
set_option linter.defProp false
set_option maxHeartbeats 40000000
set_option maxRecDepth 100000
namespace Go.Proofs.YtoihadcablknpaaGreatDoor
open Go.RowKit
open Go.Proofs.Tryz
open M (OpD uh Gr)
def Jw(l:List wH)(j:Nat):Bool:=if j=0 then false else kAt l (j-1)==94
def JG{a l j x}(b:l[j]?=some x):yU a (Jw l j) (l.drop j)=if x.e=110/\Jw l j=false/\x.nm ∉ a then some x.f else yU a (Jw l (j+1)) (l.drop (j+1)):=by
 rw[vD b,yU];have e:(x.e==94)=Jw l (j+1):=by
  unfold Jw;rw[Zn oM,Ke,Rh b]
 rw[e]
def Zb(a b:Option Nat):Option Nat:=match a with|some p=>some p|none=>b
def G7 a q r:yW a (q::r)=Zb (yU a false q.e.tk) (yW a r):=by
 rw[yW];cases yU a false q.e.tk<;>rfl
def Ue(t:Tx)(w:Wl)(e:Ending)(w':Wl):Prop :=
 ∃b a g ra rc la lc,Dd t b a g/\e=Rt (.tuple #[.agg #[Sl ra g.nr rc,Sl la g.nb lc],Iv b,Iv a])/\zC (Of w') w' ra la g/\Kf w w'
def qM{w W}(h:Kf w W){b o v}(i:w.heap.size<=b):Kf w (W.setCell (Ad b o) v) :=
 ⟨h.os,h.g,h.f,by rw[uj];exact h.h,λx c a=>(zJ _ (λe=>by have e':x=b:=e;omega)).trans (h.d x c a)⟩
def zv:Array Value:=#[nS,nS]
def zt(c a:Int):Vl:=.tuple #[.agg #[nS,nS],Iv c,Iv a]
def JH{t w w' c a}(h:Dd t c a yh)(k:Kf w w'):Ue t w (Rt (zt c a)) w' :=
 ⟨c,a,yh,none,0,none,0,h,rfl,⟨.inl rfl,.inl rfl⟩,k⟩
def qo{t w W c a}(h:Dd t c a yh)(k:Kf w W):Ue t w (Rt (zt c a)) ((W.setCell (Ad w.heap.size 0) nS).setCell (Ad w.heap.size 1) nS) :=
 JH h (qM (qM k wF) wF)
def Uf z:∀(l:List LI) (i:Nat),(z∈l->∃k,l[k]?=some z/\uU z l i=((i+k:Nat):Int))/\(z ∉ l->uU z l i = -1)
 |[],i=>⟨(λh=>by cases h),λ_=>rfl⟩
 |y::r,i=>by
  obtain⟨c,d⟩:=Uf z r (i+1);rw[uU];by_cases e:y=z
  ·rw[Zp e];subst e;exact⟨λ_=>⟨0,rfl,rfl⟩,λh=>aB sM h⟩
  rw[Zn e];refine⟨λh=>?_,λh=>d (λq=>h (by simp[q]))⟩;rcases Bx.1 h with q|q
  ·exact aB q.symm e
  obtain⟨k,a,b⟩:=c q;exact⟨k+1,a,by rw[b];congr 1;omega⟩
structure PG(w:Wl)(Q:Np)(qs:List Rl)(ra:Oa)(W:Wl):Prop where
 m:Kf w W
 g:wJ W w.heap.size zv
 rl:Fm Q W ra qs
def PG.on{w W W' Q a ra}(h:PG w Q a ra W)(k:Kf W W'):PG w Q a ra W':=⟨h.m.c k,h.g.on k.u,h.rl.q k.u⟩
def JI(NS gb:Nat)(e a:Wl)(ls:List LI)(u:Vl)(wr:Wl):Prop :=
 ∃(i:Nat) (G:Nat->Nat) (c:Vl) (cs:List GC),i<=NS/\u=Iv ((i:Nat):Int)/\Cu gb e G wr nS c [] cs/\cs.map (·.d)=(ls.take i).map (λz=>(⟨z,false,[]⟩:NL))/\wA (λb=>b=gb) a wr
def Ug(e gb:Nat)(j f:Wl)(a ls:List LI)(c:List Rl)(u:Vl)(wr:Wl):Prop :=
 ∃(i:Nat) (G:Nat->Nat) (h g:Vl) (rs cs:List GC),i<=e/\u=Iv ((i:Nat):Int)/\Cu gb j G wr h g rs cs/\rs.map (·.d)=uE a ls (c.take i)/\cs.map (·.d)=uG a ls (c.take i)/\wA (λb=>b=gb) f wr
def G8{gb NS i w o wr X G ls z l r zc s cs}(B:Cu gb w G wr nS (Sl r cs.length s) [] cs)(C:wB (Tg G wr 2) .u8 wr l z.length (lf z))(O:ls[i]?=some z)(L:i<NS)(A:cs.map (·.d)=(ls.take i).map (λz=>(⟨z,false,[]⟩:NL)))(F:o.heap.size=gb+1)(E:wA (λb=>b=gb) o wr)(I:wr.drew.alloc (Oc #[Sl l z.length zc,Bf,nS] 50)=X):∃n,wC (Tg n X 1) X (Sl r cs.length s) 3 cs.length (cs.flatMap Es)/\∀W v,wC (λb=>Tg n X 1 b\/X.heap.size<=b) W v 3 (cs.length+1) (cs.flatMap Es++Es ⟨⟨z,false,[]⟩,l,zc,none,0⟩)->wS (Tg n X 1) X W ->
   JI NS gb w o ls (Iv ((i:Int)+1)) (W.setCell (Ad gb 1) v)/\W.cell? (Ad gb 1)=some (Sl r cs.length s)/\W.frozen? (Ad gb 1)=false:=by
 have f:Kf wr X:=I▸(Bz _).c wU;have e:=B.q f 3;have D:=(C.q f.u).g (xr f.h (λb J=>vV (t:=3) J) 2);refine⟨_,e.v.gr.c,λW v N p=>?_⟩;obtain⟨y,H⟩:=e.k (x:=⟨⟨z,false,[]⟩,l,zc,none,0⟩) D (D0 _ _) N p;obtain⟨_,y1,_,y2⟩:=Tv e.v oM p;exact⟨⟨i+1,y,_,_,L,sM,H,by rw[Cl,A,Hu,O,Cl];simp,e.m oM oM F E f p⟩,y1,y2⟩
def G9{gb J i R z wr g l X G w ls y q D F ag r p H ah s c3 rs cs}(V:Cu gb R G wr (Sl F rs.length H) (Sl ag cs.length ah) rs cs)(aa:rs.map (·.d)=uE w ls (y.take i))(U:cs.map (·.d)=uG w ls (y.take i))(ab:z.heap.size=gb+1)(Z:wA (λb=>b=gb) z wr)(Q:y[i]?=some q)(ae:i<J)(P:q.a=none)(hD:q.e.e w ls=D)(I:Kf wr g)(T:zF (wM wr g) g (Sl r D.length s) D)(Y:wB (wM g.drew l) .u8 l p q.f.nm.length (lf q.f.nm))(E:Kf g.drew l)(O:l.alloc (Oc #[Sl p q.f.nm.length c3,Sl r D.length s] 78)=X) :
  ∃o,wC (Tg o X 0) X (Sl F rs.length H) 2 rs.length (rs.flatMap Hl)/\∀W v,wC (λb=>Tg o X 0 b\/X.heap.size<=b) W v 2 (rs.length+1) (rs.flatMap Hl++Hl ⟨⟨q.f.nm,true,D⟩,p,c3,r,s⟩)->wS (Tg o X 0) X W ->
   Ug J gb R z w ls y (Iv ((i:Int)+1)) (W.setCell (Ad gb 0) v)/\W.cell? (Ad gb 0)=some (Sl F rs.length H)/\W.frozen? (Ad gb 0)=false:=by
 have A:Kf l X:=O▸wU;have hs:X.heap.size=l.heap.size+1:=by rw[<-O];simp
 have kk:=((I.c (Bz _)).c E).c A;have z8:=I.h;have z3:g.heap.size<=l.heap.size:=E.h;obtain⟨o,t,hn,k⟩:=V.i (N:=wM g.drew l) (B:=wM wr g) (4+2*rs.length) kk (Y.q A.u) (T.on (λb k=>((wA.j (λ_=>False) g).c (E.c A)).d b k.2 (λq=>q))) (λb k=>by have h1:g.heap.size<=b:=k.1;have L:=k.2;exact⟨oM,oM⟩) (λb k=>by have L:=k.2;exact⟨k.1,oM⟩) (λb k ad=>by have h1:g.heap.size<=b:=k.1;have L:=ad.2;omega);refine⟨o,t.v.gr.a,λW v af C=>?_⟩;obtain⟨S,ac⟩:=t.n (x:=⟨⟨q.f.nm,true,D⟩,p,c3,r,s⟩) hn k af C;obtain⟨y0,_,y2,_⟩:=Tv t.v oM C;refine⟨⟨i+1,S,_,_,_,cs,ae,sM,ac,?_,?_,t.m oM oM ab Z kk C⟩,y0,y2⟩
 ·rw[Hu,Q];show _=uE _ _ (_++[q]);rw[xL,Cl,aa,P];simp[Ph,hD]
 rw[Hu,Q];show _=uG _ _ (_++[q]);rw[IF P,U]
def JJ:∀l:List Rl,l.length<=(l.flatMap Rl.tk).length
 |[]=>wP
 |x::l=>by have:=x.c;have:=JJ l;simp only[Dj,wK,zQ];omega
def H0 Q t a c w(hT:Do Q w a t) :
  Cs 12 #[Sl a t.n c] w (Ue t w):=by
 have hn:=t.le;have HT:=ua hT;clear hT;go_enter func12,ntmps12;by_cases fl:4000<t.n
 ·have f4:(t.n:Int) > 4000:=oM;have aa:Hid (Dd t 7 0 yh):=.inl ⟨fl,rfl,rfl,rfl⟩;go_wp2;exact wL (v:=zt 7 0) (by simp[zt,results,f12,go_sem]) rfl (JH aa wU)
 have f5:decide ((t.n:Int) > 4000)=false:=Gv oM;have dc:t.n<=4000:=oM;go_wp2_with fail;generalize dh:w.alloc _=w0;have br:Hid (Kf w w0):=dh▸wU;have BR:Hid (wJ w0 w.heap.size zv):=dh▸um w _ _;clear dh;refine(K3 Q t a c w0 (HT.o.m br.o)).mono ?_;rintro e W1 ⟨ta,tc,L,rfl,hL,ee⟩;have hL':L.length=(uI t).length:=by rw[<-hL,zN]
 have c8:=ee.b;obtain⟨P,h⟩:=ee;have dg:(uI t).length<=tc:=by
  rcases h.r with⟨e,q,_⟩|⟨g,cap,e,B,h3,h4,h5,h6⟩
  ·omega
  injection e with e1 e2 e3;omega
 rw[hL]at c8;have b4:=ua c8;have cf:=ua h.m;replace BR:=ua (BR.on h.m.u);obtain⟨aj,fk⟩:=Uh t;have ed:(uI t).length<=8000:=oH (jH (uI t));have cm:=ua aj;have cn:Hid (Bb (uI t)<=8000):=by show _<=_;omega
 clear h hL hL' c8 aj fk;obtain⟨TL,ct⟩:=nm (uI t);have cb:=ua ct;rw[ct]at dg b4 ed cm cn ⊢;obtain⟨ff,a0⟩:=nm TL.length;have bz:=ua a0;rw[a0]at dg ed ⊢;clear ct a0;go_wp2_with fail;have db:=K8 (wM w0 W1) TL ta tc t.n W1 b4.o (oH bz.o);rw[bz.o]at db;refine db.mono ?_;clear db;rintro e W ⟨rfl,hw⟩;subst W;obtain⟨r1,r2⟩:=Ze t.n (TL.length+1) TL oM;cases a4:vQ t.n (TL.length+1) TL with
 |inl p =>
  have aa:Hid (Dd t 5 (p:Nat) yh):=.inr ⟨dc,.inl ⟨p,by rw[cb.o];exact a4,rfl,rfl,rfl⟩⟩;rw[r1 p a4];have gh:decide ((p:Int) ≥ 0)=true:=Gi oM;have gi:(0:Int)<=(p:Int):=oM;obtain⟨X,f0,l0⟩:=BR.x;unfold zv at X;clear r1 r2 a4;go_wp2;exact wL (v:=zt 5 p) (by simp[zt,results,f12,go_sem, *]) rfl (qo aa (br.o.c cf.o))
 |inr o =>
 obtain⟨ei,bj,ek⟩:=r2 o a4;rw[ek];have b2:=ua ei;have fa:Hid (vQ t.n ((uI t).length+1) (uI t)=.inr o):=by rw[cb.o];exact a4
 have am:Hid (∀q∈o,Ar t.n q.f/\∀x∈q.e.tk,Ar t.n x):=λq B=>by
  have hm:∀x∈q.tk,Ar t.n x:=λx H=>cm.o x (by rw[bj];exact Hi.2 ⟨q,B,H⟩)
  exact⟨hm _ (Be q.g),λx H=>hm x (by unfold Rl.tk;simp[H])⟩
 have bg:Hid (Bb (o.flatMap Rl.tk)<=8000):=by rw[<-bj];exact cn.o
 have fi:o.length<=8000:=by have N:=jH (o.flatMap Rl.tk);have h3:=JJ o;have:=bg.o;omega
 have ea:=J4 (wM w0 W1) o b2.o ta tc ff W1 (by rw[<-bz.o,bj]) (by rw[<-bj];exact b4.o) oM dg;have dy:=ua ea;clear r1 r2 a4 ek ei bj ea;go_wp2_with fail;refine dy.o.mono ?_;rintro e W2 ⟨ra,rc,rfl,eb,U⟩;have A:Hid (PG w (wM w0 W1) o ra W2):=⟨(br.o.c cf.o).c U,BR.on U.u,eb⟩;clear U eb cf BR b4 cm cn bz cb br dy;generalize wM w0 W1=Q1 at *;obtain⟨C,c4⟩:=nm o.length;have ac:=ua c4;rw[c4]at fi ⊢;clear c4;have b5:Hid (∀c a g,yA t.n o c a g->Dd t c a g):=λc a g h=>.inr ⟨dc,.inr ⟨o,fa.o,h⟩⟩
 have a7:Hid (∀i,i<C->∃q,o[i]?=some q):=λi hi=>⟨_,zG (oH ac.o)⟩
 go_wp2;go_loopw [8] (λv8 wr=>∃i,i<=C/\v8=Iv ((i:Nat):Int)/\PG w Q1 o ra wr/\yM (o.take i) (o.drop i)=yM [] o) (λv8 _=>C-(intOf v8).toNat)
 ·exact⟨0,wP,rfl,A.o,rfl⟩
 obtain⟨i,hi,rfl,hP,hD⟩:=hrel;have A:=ua hP;have HD:=ua hD;clear hD hP;by_cases O:i<C
 ·have hlt':(i:Int)<C:=oM;obtain⟨q,B⟩:=a7 i O;have HQ:=ua B;have b3:=ua (am q (Be B)).1.j;clear B;go_wp2;go_loopw [9] (λv9 wr=>∃j,j<=i/\v9=Iv ((j:Nat):Int)/\PG w Q1 o ra wr/\∀b s,b<j->o[b]?=some s->xH s q=false) (λv9 _=>i-(intOf v9).toNat)
  ·exact⟨0,wP,rfl,A.o,λb s h=>oM⟩
  obtain⟨j,hj,rfl,hP,hA⟩:=hrel;have A:=ua hP;have HA:=ua hA;by_cases a1:j<i
  ·have hjl':(j:Int)<i:=oM;have f8:(j:Int)<C:=oM;obtain⟨s,Y⟩:=a7 j oM;obtain⟨b,off,rfl,F⟩:=hP.rl.at (i:=i) (oH ac.o);obtain⟨k0,az,_⟩:=F i q HQ.o;obtain⟨k3,d4,_⟩:=F j s Y;obtain⟨qa,qc,k1,q2⟩:=az.nm;obtain⟨sa,sc,k4,s2⟩:=d4.nm;have k2:=az.f;have HY:∀n,(convert 22 9 (Sl qa q.f.nm.length qc)).run prog (wr.drewN n)=.ok (.string (str q.f.nm.length (lf q.f.nm))) (wr.drewN n):=λn=>vX _ qa q.f.nm.length qc (lf q.f.nm) _ (q2.q (zB (wI wr) n))
   have HZ:∀n,(convert 22 9 (Sl sa s.f.nm.length sc)).run prog (wr.drewN n)=.ok (.string (str s.f.nm.length (lf s.f.nm))) (wr.drewN n):=λn=>vX _ sa s.f.nm.length sc (lf s.f.nm) _ (s2.q (zB (wI wr) n))
   have bf:=ua (Yo b3.o (am s (Be Y)).1.j);have ay:Hid (xH s q=(s.a.isSome==q.a.isSome&&decide (s.f.nm=q.f.nm))):=rfl;have S:Hid (xH s q=false->∀b s,b<j+1->o[b]?=some s->xH s q=false):=λh b s' E b9=>by
    by_cases e:b=j
    ·subst e;rw[Y]at b9;cases b9;exact h
    exact HA.o b s' oM b9
   have bp:Hid (xH s q=true->Dd t 6 q.f.f yh):=λh=>b5.o _ _ _ (by
    have hd:=HD.o;rw[vD HQ.o,yM,Zp (List.any_eq_true.2 ⟨s,Be (i:=j) (by rw[List.getElem?_take,Zp a1];exact Y),h⟩)]at hd;unfold yA;rw[<-hd];exact⟨rfl,rfl,rfl⟩)
   generalize str q.f.nm.length (lf q.f.nm)=sy at *;generalize str s.f.nm.length (lf s.f.nm)=sz at *;generalize q.a.isSome=bq at *;generalize s.a.isSome=bs at *;clear F az d4 q2 s2 Y HA hA;by_cases b8:bs=bq
   ·subst b8;by_cases Y:sy=sz
    ·subst Y;have HF:=ua (bp.o (by rw[ay.o,bf.o.1 rfl];simp));obtain⟨X,f0,l0⟩:=hP.g.x;unfold zv at X;clear bf ay S bp hP;cases bs;all_goals
      go_upto_region 14 with fail;go_quiet (fail);go_upto_region 15 with fail;go_region;go_wp2;exact wL (v:=zt 6 q.f.f) (by simp[zt,results,f12,go_sem, *]) rfl (qo HF (A.o.m.c (ut wr _)))
    have b9:(sy.toList==sz.toList)=false:=by
     rw[Ht];exact λq=>Y (HX q)
    have an:=ua (S.o (by rw[ay.o];simp;exact λe=>Y (bf.o.2 e.symm)));clear bf ay S bp hP;cases bs;all_goals
     go_upto_region 14 with fail;go_quiet (fail);go_wp2;exact⟨⟨j+1,a1,sM,A.o.on (ut wr _),an.o⟩,by simp[intOf];omega⟩
   have an:=ua (S.o (by rw[ay.o];simp[b8]));clear bf ay S bp hP;cases bs<;>cases bq
   all_goals first
    |exact aB rfl b8
    |(clear b8;go_upto_region 14 with fail;go_quiet (fail);go_wp2;exact⟨⟨j+1,a1,sM,A.o.on (ut wr _),an.o⟩,by simp[intOf];omega⟩)
  have hjl':¬(j:Int)<i:=oM;obtain rfl:j=i:=oM;have es:Hid (yM (o.take (j+1)) (o.drop (j+1))=yM [] o):=by
   have hd:=HD.o;rw[vD HQ.o,yM,Zn (λh=>by
    obtain⟨s,Y,h⟩:=List.any_eq_true.1 h;obtain⟨b,E,rfl⟩:=List.getElem_of_mem Y;rw[Fy]at E;rw[List.getElem_take,HA.o b _ oM (zG oM)]at h;cases h)]at hd
   show _=_;rw[Hu,HQ.o];exact hd
  clear hA hP;go_wp2;go_roundw
  ·exact⟨j+1,O,by go_num,A.o,es.o⟩
  simp[intOf];omega
 have hlt':¬(i:Int)<C:=oM;have bn:Hid (yM [] o=none):=by
  have h:=HD.o;rw[Jq (oH ac.o),yM]at h;exact h.symm
 clear HD
 rename World=>W3
 go_wp2;go_loopw [10,11] (λv u wr=>∃(i:Nat) (L:List NC),i<=C/\u=Iv ((i:Nat):Int)/\L.length<=i/\L.map (·.z)=ug (o.take i)/\Ed W3 wr v L) (λ_ u _=>C-(intOf u).toNat)
 case atStart=>exact⟨0,[],wP,rfl,wF,rfl,Ed.nil zM⟩
 case round =>
 obtain⟨i,L,hi,rfl,fh,hL,hR⟩:=hrel;obtain⟨va,vc,rfl⟩:=hR.a;have HL:=ua hL;have HR:=ua hR;clear hL hR;by_cases O:i<C
 ·have hlt':(i:Int)<C:=oM;obtain⟨q,B⟩:=a7 i O;obtain⟨b,off,rfl,F⟩:=A.o.rl.at (i:=i) (oH ac.o);obtain⟨d3,az,_⟩:=F i q B;obtain⟨qa,qc,q2,bm⟩:=az.nm;have HI:=ua bm;have kb:=HR.o.m.u;have k0:=ue d3 kb;have k1:=ue q2 kb;have S:Hid (ug (o.take (i+1))=ug (o.take i)++(if q.a.isSome then [] else [q.f.nm])):=by
   show _=_;rw[Hu,B];unfold ug;rw[List.filter_append,Cl];cases hc:q.a<;>simp[hc]
  clear F d3 az q2 bm kb B;cases ao:q.a.isSome with
  |false =>
   rw[ao]at k0 S;go_wp2_with (at_builtin;refine Ys rfl _ _ rfl rfl rfl (y:=⟨q.f.nm,qa,qc⟩) HR.o zM HI.o oM ?_;intro a5 c5 W5 e9);go_roundw
   ·exact⟨i+1,_,O,by go_num,sO,by rw[S.o,Cl,HL.o];rfl,e9.o⟩
   simp[intOf];omega
  |true =>
   rw[ao]at k0 S;go_wp2;go_roundw
   ·exact⟨i+1,L,O,by go_num,oM,by rw[S.o,HL.o];simp,HR.o⟩
   simp[intOf];omega
 have hlt':¬(i:Int)<C:=oM;have cj:Hid (L.map (·.z)=ug o):=by
  have:=HL.o;rw[Jo (oH ac.o)]at this;exact this
 rename World=>W4
 replace A:=ua (A.o.on HR.o.m);have cz:=HR.o.b;rw[cj.o]at cz;have aw:Hid (Dn (λ_=>True) W4 va (ug o)):=cz.g (λ_ _=>trivial);have dt:Hid (∀y∈ug o,wW y):=λy hy=>by
  unfold ug at hy;obtain⟨q,B,rfl⟩:=Dc.1 hy;exact(am.o q (Ik.1 B).1).1.j
 obtain⟨NN,c2⟩:=nm L.length;have ax:Hid (NN=(ug o).length):=by show NN=_;rw[<-c2,<-cj.o,zN]
 have f3:NN<=8000:=oM;rw[c2];clear c2 HR HL cj fh cz;go_wp2;go_loopw [12] (λu wr=>∃i:Nat,i<=C/\u=Iv ((i:Nat):Int)/\Kf W4 wr/\yW (ug o) (o.drop i)=yW (ug o) o) (λu _=>C-(intOf u).toNat)
 case atStart=>exact⟨0,wP,rfl,zM,rfl⟩
 case round =>
 obtain⟨i,hi,rfl,hK,hF⟩:=hrel;have HK:=ua hK;have HF:=ua hF;clear hK hF;by_cases O:i<C
 ·have hlt':(i:Int)<C:=oM;obtain⟨q,B⟩:=a7 i O;have HQ:=ua B;obtain⟨b,off,rfl,F⟩:=A.o.rl.at (i:=i) (oH ac.o);obtain⟨_,_,ba,bc,c5,ec,_⟩:=F i q B;have fb:=ua ec;have fc:=ua (am q (Be B)).2;obtain⟨NB,cy⟩:=nm q.e.tk.length;have bx:=ua cy;have f2:NB<=8000:=by have N:=jH q.e.tk;have J:=Yq (Be B);have:=bg.o;omega
  rw[cy]at c5;have dk:=ua c5;clear F c5 ec B cy;go_wp2;go_loopw [13] (λu wr=>∃j:Nat,j<=NB/\u=Iv ((j:Nat):Int)/\Kf W4 wr/\Zb (yU (ug o) (Jw q.e.tk j) (q.e.tk.drop j)) (yW (ug o) (o.drop (i+1)))=yW (ug o) o) (λu _=>NB-(intOf u).toNat)
  ·exact⟨0,wP,rfl,HK.o,by rw[<-HF.o,vD HQ.o,G7];rfl⟩
  obtain⟨j,hj,rfl,U,cu⟩:=hrel;have ey:=ua U;have cd:=ua cu;have d5:=ue dk.o U.u;by_cases a1:j<NB
  ·have hjl':(j:Int)<NB:=oM;obtain⟨x,H⟩:∃x,q.e.tk[j]?=some x:=⟨_,zG (oH bx.o)⟩;obtain⟨bb,bo,rfl,F⟩:=fb.o.at (i:=j) (oH bx.o);have hC:=F j x H;obtain⟨xa,xc,x2,ep⟩:=hC.nm;obtain⟨ya,yc,x3,_⟩:=hC.set;have fe:=ua ep;have fd:=ua (fc x (Be H)).j;have e0:=ue hC.e U.u;have e1:=ue hC.f U.u;have e2:=ue x2 U.u;have e3:=ue x3 U.u;have ez:Hid (∀p,j=p+1->∃y,W4.cell? (Ad bb (bo+p*4))=some (Bv y)/\Jw q.e.tk j=(y==94)):=λp hp=>by
    obtain⟨y,hy⟩:∃y,q.e.tk[p]?=some y:=⟨_,zG (oH bx.o)⟩;exact⟨y.e,(F p y hy).e,by unfold Jw;rw[Zn oM,hp,Ke,Rh hy]⟩
   have S:Hid ((x.e=110->Jw q.e.tk j=false->x.nm∈ug o)->Zb (yU (ug o) (Jw q.e.tk (j+1)) (q.e.tk.drop (j+1))) (yW (ug o) (o.drop (i+1)))=yW (ug o) o):=λh=>by
    have h3:=cd.o;rw[JG H,Zn (λq=>q.2.2 (h q.1 q.2.1))]at h3;exact h3
   have aa:Hid (x.e=110->Jw q.e.tk j=false->x.nm ∉ ug o->Dd t 6 x.f yh):=λN J h3=>b5.o _ _ _ (by
    have h:=cd.o;rw[JG H,Zp ⟨N,J,h3⟩]at h;unfold yA;rw[bn.o,<-h];exact⟨rfl,rfl,rfl⟩)
   obtain⟨r,hr⟩:=nm (x.e==110&&!Jw q.e.tk j);have ai:=ua hr;have en:=ud d5;have fv:=ud e0;clear F hC x2 ep x3 hr H cu;go_upto_region 29 with fail;generalize hV:wr.alloc _=V;have bi:Kf W4 V:=hV▸U.c wU;have bt:=ua bi;have BT:=ua (hV▸um wr _ _:wJ V wr.heap.size #[Bv x.e,Iv x.f,Sl xa x.nm.length xc,Sl ya x.set.length yc]);replace d5:=ue dk.o bi.u;have gm:w.heap.size<wr.heap.size:=wX A.o.g.x.2.2 U.h;clear hV e0 e1 e2 e3 en fv U;have en:=ud d5;go_cut [15] (λv wc=>v=.bool r/\wc=V)
   ·obtain⟨z,p,l⟩:=BT.x;by_cases k1:x.e=110
    ·rw[k1]at z ai;by_cases j0:j=0
     ·subst j0;go_wp2;go_meet;exact⟨by rw[<-ai.o];rfl,rfl⟩
     obtain⟨pj,rfl⟩:∃pj,j=pj+1:=⟨j-1,oM⟩;obtain⟨y,hy,fq⟩:=ez pj rfl;replace hy:=ue hy bi.u;rw[fq]at ai;have gt:=ud hy;have f7:((pj+1:Nat):Int)-1=(pj:Int):=oM;have f9:(((pj+1:Nat):Int)==0)=false:=sO;have gj:(pj:Int)<(NB:Int):=oM;by_cases y9:y=94
     ·rw[y9]at hy ai;go_wp2;go_meet;exact⟨by rw[<-ai.o];rfl,rfl⟩
     have yb:(y != 94)=true:=(by simpa using y9);have HE:Hid (r=true):=(by show _=_;rw[<-ai.o];simpa using y9);go_wp2;go_meet;exact⟨by rw[HE.o],rfl⟩
    have kb:(x.e==110)=false:=(by simpa using k1);have HE:Hid (r=false):=(by show _=_;rw[<-ai.o,kb];rfl);go_wp2;go_meet;exact⟨by rw[HE.o],rfl⟩
   obtain⟨rfl,hw⟩:=hcut;subst hw;cases r with
   |false =>
    have an:=ua (S.o (λN J=>by have:=ai.o;rw[N,J]at this;cases this));go_wp2;go_roundw
    ·exact⟨j+1,a1,by go_num,bt.o,an.o⟩
    simp[intOf];omega
   |true =>
    have b6:x.e=110/\Jw q.e.tk j=false:=(by have:=ai.o;simpa using this);have ae:=jF (λ_=>True) Q1 (ug o) x.nm va xa vc xc _ (aw.o.q bi.u) (fe.o.q bi.u) dt.o fd.o (oH ax.o);rw[<-ax.o]at ae;have d9:=S.o;have cr:=aa.o b6.1 b6.2;obtain⟨z,p,l⟩:=BT.x;by_cases af:x.nm∈ug o
    ·obtain⟨k,_,hk⟩:=(Uf x.nm (ug o) 0).1 af;rw[hk]at ae;have an:=ua (S.o (λ_ _=>af));have av:=ua ae;have bl:¬((0+k:Nat):Int)<0:=oM;clear af hk ae d9 cr b6;generalize 0+k=k0 at *;go_wp2_with fail;refine av.o.mono ?_;rintro e W ⟨rfl,m,rfl⟩;go_wp2;go_roundw
     ·exact⟨j+1,a1,by go_num,bt.o.c (ut _ m),an.o⟩
     simp[intOf];omega
    rw[(Uf x.nm (ug o) 0).2 af]at ae;have HF:=ua (cr af);have av:=ua ae;clear af ae d9 cr b6;go_wp2_with fail;refine av.o.mono ?_;rintro e W ⟨rfl,m,rfl⟩;have b7:=ut wc m;generalize wc.drewN m=V2 at *;obtain⟨z2,p2,l2⟩:=(BT.o.on b7.u).x;obtain⟨X,f0,l0⟩:=(A.o.on (bt.o.c b7)).g.x;unfold zv at X;have a9:=ua ((A.o.on (bt.o.c b7)).m);have ge:¬wr.heap.size=w.heap.size:=oM;have gf:¬w.heap.size=wr.heap.size:=oM;clear z p l b7;go_upto_region 31 with fail;go_region;all_goals
     go_wp2;exact wL (v:=zt 6 x.f) (by simp[zt,results,f12,go_sem, *]) rfl (qo HF (a9.o.c (ut V2 1)))
  have hjl':¬(j:Int)<NB:=oM;have eu:Hid (yW (ug o) (o.drop (i+1))=yW (ug o) o):=by
   have h:=cd.o;rw[Jq (oH bx.o),yU]at h;exact h
  clear cu U;go_wp2;go_roundw
  ·exact⟨i+1,O,by go_num,ey.o,eu.o⟩
  simp[intOf];omega
 have hlt':¬(i:Int)<C:=oM;have dx:Hid (yW (ug o) o=none):=by
  have h:=HF.o;rw[Jq (oH ac.o),yW]at h;exact h.symm
 rename World=>W5
 replace A:=ua (A.o.on HK.o);replace aw:=ua (aw.o.q HK.o.u);clear HK HF;by_cases cx:NN=0
 ·have aa:Hid (Dd t 6 t.n yh):=b5.o _ _ _ (by
   unfold yA;rw[bn.o,dx.o];exact(Zp (Hh (oH ax.o))).mpr ⟨rfl,rfl,rfl⟩)
  subst cx;obtain⟨X,f0,l0⟩:=A.o.g.x;unfold zv at X;go_wp2;exact wL (v:=zt 6 t.n) (by simp[zt,results,f12,go_sem, *]) rfl (qo aa A.o.m)
 have fz:((NN:Int)==0)=false:=sO;have d0:Hid ((o.flatMap Rl.tk).length<=8000):=by have N:=jH (o.flatMap Rl.tk);have J:=bg.o;show _<=_;omega
 have bu:Hid (∀z∈uB o,wW z/\z.length<=1000000):=λz I=>by
  unfold uB at I;obtain⟨q,B,I⟩:=Hi.1 I;have aj:=am.o q B;have eo:∀x:wH,Ar t.n x->wW x.nm/\x.nm.length<=1000000:=λx h=>⟨h.j,by have:=h.c;omega⟩
  unfold yL at I;rcases Bh.1 I with h|h
  ·split at h
   ·rw[Aw.1 h];exact eo _ aj.1
   cases h
  obtain⟨x,H,rfl⟩:=JA h;exact eo _ (aj.2 x H)
 have d1:Hid (∀ls,Dp ls->(∀z,z∈ls↔z∈uB o)->(M.Valid (ux ls o)->Dd t 0 0 (ux ls o))/\(¬M.Valid (ux ls o)->Dd t 7 0 yh)):=λls N J=>by
  have em:∀c a g,((M.Valid (ux ls o)/\c=0/\a=0/\g=ux ls o)\/(¬M.Valid (ux ls o)/\c=7/\a=0/\g=yh))->Dd t c a g:=λc a g h=>b5.o _ _ _ (by
   unfold yA;rw[bn.o,dx.o];exact(Zn (λe=>cx (by rw[ax.o,e];rfl))).mpr ⟨ls,N,J,h⟩)
  exact⟨λh=>em _ _ _ (.inl ⟨h,rfl,rfl,rfl⟩),λh=>em _ _ _ (.inr ⟨h,rfl,rfl,rfl⟩)⟩
 clear cx;have cw:=E9 Q1 o ra rc W5 A.o.rl (oH d0.o) (λz I=>(bu.o z I).1) (λz I=>(bu.o z I).2);rw[ac.o]at cw;have dr:=ua cw;clear cw;go_wp2_with fail;refine dr.o.mono ?_;clear dr;rintro e W6 ⟨la,lc,ls,rfl,cq,af,a0,cv⟩;have ca:=ua cq;have bw:=ua af;have ci:=ua a0;replace A:=ua (A.o.on cv);replace aw:=ua (aw.o.q cv.u);have ds:Hid (∀y∈ls,wW y):=λy hy=>(bu.o y ((af y).1 hy)).1
 have fo:ls.length<=8000:=by
  have N:=cq.c (m:=uB o) (λz I=>(af z).1 I);have J:=ql o;have h3:=d0.o;omega
 obtain⟨NS,c7⟩:=nm ls.length;have ad:=ua c7;rw[c7]at fo ⊢;clear cq af a0 cv c7;go_wp2;obtain⟨wE,ej⟩:∃wE:Wl,wE.heap.size=0:=⟨{ w with heap:=#[] },rfl⟩;have dn:=ua (Cu.d W6 (t:=37) wE ej);have cg:=ua (wA.a (λ_=>False) W6 (Oc #[nS,nS] 37));have be:Hid ((W6.alloc (Oc #[nS,nS] 37)).heap.size=W6.heap.size+1):=by show _=_;simp
 clear ej;generalize W6.alloc _=W7 at *;go_loopw [18] (JI NS W6.heap.size wE W7 ls) (λu _=>NS-(intOf u).toNat)
 case atStart=>exact⟨0,_,_,[],wP,rfl,dn.o,rfl,zM⟩
 case round =>
 obtain⟨i,G,lv,cs,hi,rfl,hG,ap,hK⟩:=hrel;have R:=ua hG;have al:=ua ap;have ab:=ua hK;obtain⟨Z,ak,rfl⟩:=uq hG.v.gr.c;have a8:Hid (cs.length=i):=by
  have h:=zD List.length ap;have:=ad.o;rw[zN,zN,Fy]at h;show _=_;omega
 have z1:=hG.v.c1;have f1:=hG.v.f1;have fy:=ud z1;clear hG ap hK dn;by_cases O:i<NS
 ·have hlt':(i:Int)<NS:=oM;obtain⟨z,I⟩:∃z,ls[i]?=some z:=⟨_,zG (oH ad.o)⟩;have HZ:=ua I;obtain⟨lb,lo,rfl,F⟩:=ci.o.at (i:=i) (oH ad.o);obtain⟨za,zc,X,hI⟩:=F i z I;have fm:=ud X;have T:=cg.o.u.trans (ab.o.below (oH be.o) (λk hk e=>by have e:k=W6.heap.size:=e;omega));have c0':=ue X T;have gp:=ud c0';have gb:¬lb=W6.heap.size:=by have:lb<W6.heap.size:=fm;omega
  have HI:Hid (wB (Tg G wr 2) .u8 wr za z.length (lf z)):=(hI.q T).g (λb E=>⟨by have:=T.size;omega,R.o.a b E⟩);clear F X hI I T;go_upto_region 39 with fail;go_region_law
   (obtain⟨G2,hO,hF⟩:=G8 R.o HI.o HZ.o O al.o be.o ab.o (zc:=zc) rfl;refine Nk rfl (.tmp 175) (.tmp 181) 35 35 rfl (v:=Sl Z cs.length ak) (y:=Sl (Sm wr.drew.heap.size 0) 1 1) (by simp[Act.eval,Act.put]) (by simp[Act.eval,Act.put]) D1 hO (C8 (x:=⟨⟨z,false,[]⟩,za,zc,none,0⟩) (Df wr.drew _)) (oH a8.o) ?_;intro v6 W8 aq bk de;obtain⟨a6,c6,rfl⟩:=uq aq;obtain⟨hE,y1,y2⟩:=hF _ _ aq bk;have HE:=ua hE;clear aq bk de hE hF hO)
  all_goals go_goals
  all_goals
   go_wp2;go_roundw;all_goals first
    |exact HE.o
    |(simp[intOf];omega)
    |omega
 have hlt':¬(i:Int)<NS:=oM;have dz:Hid (Ug C W6.heap.size wE W7 (ug o) ls o (Iv 0) wr):=by
  have h:=al.o;rw[Jo (oH ad.o)]at h;exact⟨0,G,_,_,[],cs,wP,rfl,R.o,rfl,h,ab.o⟩
 clear al R ab z1 f1 fy a8;go_wp2;go_loopw [19] (Ug C W6.heap.size wE W7 (ug o) ls o) (λu _=>C-(intOf u).toNat)
 case atStart=>exact dz.o
 case round =>
 obtain⟨i,G,rv,lv,rs,cs,hi,rfl,hG,dd,ap,hK⟩:=hrel;obtain⟨Z,ak,rfl⟩:=uq hG.v.gr.c;obtain⟨ah,au,rfl⟩:=uq hG.v.gr.a;have R:=ua hG;have ck:=ua dd;have al:=ua ap;have ab:=ua hK;have a8:Hid (cs.length=NS):=by
  have h:=zD List.length ap;unfold uG at h;rw[zN,zN]at h;exact h.trans ad.o
 have gk:rs.length<=i:=by
  have h:=zD List.length dd;unfold uE at h;rw[zN,zN]at h;have J:=Qf (λq:Rl=>!q.a.isSome) (o.take i);rw[Fy]at J;omega
 have T:=cg.o.u.trans (hK.below (oH be.o) (λk hk e=>by have e:k=W6.heap.size:=e;omega));have di:=ua T;clear hG dd ap hK dz;by_cases O:i<C
 ·have hlt':(i:Int)<C:=oM;obtain⟨q,B⟩:=a7 i O;have HQ:=ua B;have a2:=Be B;obtain⟨b,off,rfl,F⟩:=A.o.rl.at (i:=i) (oH ac.o);obtain⟨N,J,ba,bc,h3,h4,h5⟩:=F i q B;obtain⟨qa,qc,q2,bm⟩:=J.nm;have k0:=ue N T;have k1:=ue q2 T;have k5:=ue h3 T;have du:=ua (bm.q T);have b3:=ua (am q a2).1;have aj:=(am q a2).2;have fs:=wN (Yq a2) bg.o;have fp:=(JO (ug o) ls q.e).2 (b2.o q a2).2.2.2.1;have hN:Nl (λ_=>True) wr va la (ug o) ls:=⟨aw.o.q T,(ci.o.q T).g (λ_ _=>trivial),dt.o,ds.o,by have:=ax.o;omega,by have:=ad.o;omega⟩;have fn:=jH q.e.tk;have E:=(A7 (λ_=>True) va la vc lc (ug o) ls wr hN q.e (λx H=>(aj x H).ok oM) oM ⟨oM,JP 1048576 oM (λx H=>((aj x H).ok oM).2.2)⟩).2.1 (b2.o q a2).2.2.2.1 ba bc wr zM ((h4.q T).g (λ_ _=>trivial)) h5;obtain⟨D,hD⟩:=nm (q.e.e (ug o) ls);rw[<-ax.o,ad.o,hD]at E;have aa:=ua E;have dm:=ua hD;have gg:q.f.nm.length<=1000000:=oH b3.o.c;clear F N J h3 h4 h5 q2 bm B E hD hN aj fp fs fn T;go_wp2_with fail;refine aa.o.mono ?_;clear aa;rintro e W8 ⟨co,cp,rfl,eg,ag⟩;have dj:=ua eg;have ch:=ua ag;have j0:=ue k0 ag.u;have j1:=ue k1 ag.u;clear k0 k1 k5 eg;cases ao:q.a with
  |some cc =>
   have HC:Hid (q.a.isSome=true):=(by rw[ao];rfl);rw[HC.o]at j0;have d8:q.f.nm∈ls:=(bw.o _).2 (by
    unfold uB;refine Hi.2 ⟨q,a2,?_⟩;unfold yL;rw[HC.o];simp)
   obtain⟨k,bl,eh⟩:=(Uf q.f.nm ls 0).1 d8;have ae:=jF (λb=>b<W6.heap.size) Q1 ls q.f.nm la qa lc qc W8 ((ci.o.q di).q ag.u) (du.o.q ag.u) ds.o b3.o.j (oH ad.o);rw[eh,zL,ad.o]at ae;have av:=ua ae;have ga:k<NS:=oG ((zT.1 bl).1) ad.o;have hkN':(k:Int)<NS:=oM;obtain⟨x,H⟩:∃x,cs[k]?=some x:=⟨_,zG (oH a8.o)⟩;have ef:x.d.nm=q.f.nm:=by
    have h:(cs.map (·.d))[k]?=some x.d:=(by rw[Du,H];rfl);rw[al.o]at h;unfold uG at h;rw[Du,bl]at h;injection h with h;rw[<-h];exact xu _ _ _ _
   have dw:Hid (∀V,Kf W8 V->∃g c,(Sl Z cs.length ak:Vl)=Sl (Sm g 0) cs.length c/\W6.heap.size≠g/\V.cell? (Ad g (k*3+1))=some (.bool x.d.h)/\V.frozen? (Ad g (k*3+1))=false/\V.cell? (Ad g (k*3+2))=some (Sl x.ba x.d.bd.length x.bc)/\V.frozen? (Ad g (k*3+2))=false /\
     Ug C W6.heap.size wE W7 (ug o) ls o (Iv ((i:Int)+1)) ((V.setCell (Ad g (k*3+1)) Bt).setCell (Ad g (k*3+2)) (Sl co D.length cp))):=λV kV=>by
    obtain⟨g,c,e1,e2,e3,e4,e5,e6,⟨G',fg⟩,e8⟩:=R.o.g (ch.o.c kV) (D:=D) (ba:=co) (bc:=cp) ((dj.o.on (λb E=>kV.d b E.2 (λq=>q))).g (λb E=>⟨E.1,wX E.2 kV.h⟩)) H;refine⟨g,c,e1,e2,e3,e4,e5,e6,i+1,G',_,_,rs,_,O,sM,fg,?_,?_,e8 W7 be.o ab.o⟩
    ·rw[Hu,HQ.o];show _=uE _ _ (_++[q]);rw[xL,ck.o,HC.o];simp
    rw[Hu,HQ.o];show _=uG _ _ (_++[q]);rw[IH ca.o bl HC.o (λs Y=>qp bn.o i q HQ.o s (by simpa using Y)),List.map_set,al.o,ef,dm.o]
   have z1:=(R.o.q ag 3).v.c1;have f6:(k:Int)<(cs.length:Int):=oH a8.o;clear bl eh H d8 ae ef ag;go_wp2_with fail;refine av.o.mono ?_;rintro e W ⟨rfl,m,rfl⟩;have kV:=ut W8 m;replace z1:=ue z1 kV.u;replace j0:=ue j0 kV.u;replace j1:=ue j1 kV.u;obtain⟨g,c9,e1,e2,e3,e4,e5,e6,e7⟩:=dw.o _ kV;have HE:=ua e7;obtain rfl:Z=some (Ad g 0):=(by injection e1);have e2':¬g=W6.heap.size:=λq=>e2 q.symm
   clear e7 e1 dw av kV;generalize W8.drewN m=V8 at *;go_wp2;go_roundw;all_goals first
    |exact HE.o
    |(simp[intOf];omega)
  |none =>
   rw[ao]at j0;simp only[Option.isSome_none]at j0;have z0:=(R.o.q ag 3).v.c0;have gw:=ud z0;have gn:=ud j1;have ex:=ua ((du.o.q ag.u).q (wA.j (λ_=>False) W8).u);have eq:=ua ao;have gl:rs.length<=8000:=oM;clear ag ao;go_upto_region 48 with fail;go_region_law (first
    |(refine D4 rfl (.tmp 224) (.tmp 230) rfl (W:=W8.drew) (ya:=qa) (yc:=qc) (z:=q.f.nm) rfl (by simp[Act.eval,Act.put]) (by simp[Act.eval,Act.put]) ex.o oM ?_;intro a3 c3 W3 ew dp;have z3:=(R.o.q ((ch.o.c (Bz _)).c dp.o) 3).v.c0;have gx:=ud z3)
    |(obtain⟨G2,hO,hF⟩:=G9 R.o ck.o al.o be.o ab.o HQ.o O eq.o dm.o ch.o dj.o ew.o dp.o (c3:=c3) rfl;refine Nk rfl (.tmp 223) (.tmp 234) 34 34 rfl (v:=Sl ah rs.length au) (y:=Sl (Sm W3.heap.size 0) 1 1) (by simp[Act.eval,Act.put]) (by simp[Act.eval,Act.put]) EP hO (C7 (x:=⟨⟨q.f.nm,true,D⟩,a3,c3,co,cp⟩) (Df W3 _)) oM ?_;intro v6 W9 aq bk de;obtain⟨a6,c6,rfl⟩:=uq aq;obtain⟨hE,y1,y2⟩:=hF _ _ aq bk;have HE:=ua hE;clear aq bk de hE hF hO))
   all_goals go_goals
   all_goals
    go_wp2;go_roundw;all_goals first
     |exact HE.o
     |(simp[intOf];omega)
     |omega
 have hlt':¬(i:Int)<C:=oM;have ce:Hid (gram (rs.map (·.d)) (cs.map (·.d))=ux ls o):=by
  have N:=ck.o;have J:=al.o;rw[Jo (oH ac.o)]at N J;show _=_;rw[N,J];rfl
 obtain⟨fx,gv,fu,gs,er,el,d7⟩:=R.o.v.gr.f;have d6:Bl (Of wr) wr ah Z (ux ls o):=by
  have h:=d7.d;rw[ce.o]at h;obtain rfl:ah=fx:=by injection er
  obtain rfl:Z=fu:=by injection el
  exact⟨h.a.g (λb E=>E.2),h.c.g (λb E=>E.2)⟩
 have b0:Hid ((ux ls o).nr=rs.length/\(ux ls o).nb=cs.length):=by
  rw[<-ce.o];exact⟨by show(rs.map (·.d)).length=_;rw[zN],by show(cs.map (·.d)).length=_;rw[zN]⟩
 have z0:=R.o.v.c0;have z1:=R.o.v.c1;have fr:=A.o.g.x.2.2;have k7:=A.o.m.c cg.o;have dq:Hid (Kf w wr):=by
  have gc:w.heap.size<=W6.heap.size:=A.o.m.h;exact⟨ab.o.os.trans k7.os,ab.o.g.trans k7.g,ab.o.f.trans k7.f,wN k7.h ab.o.h,λb E hn=>(ab.o.d b (oH k7.h) (by show ¬b=_;omega)).trans (k7.d b E hn)⟩
 have da:=SR (Of wr) ah Z au ak (ux ls o) wr d6 (D6 b2.o bg.o am.o dc (oH ac.o) (oH ad.o) (λz I=>bu.o z ((bw.o z).1 I)));rw[b0.o.1,b0.o.2]at da;have d2:=ua da;clear d7 er el d6 da k7;go_wp2_with fail;refine d2.o.mono ?_;clear d2;rintro e W9 ⟨⟨r,rfl,hr⟩,bh⟩;have dv:=ua ((A.o.g.on di.o).on bh);obtain⟨X,f0,l0⟩:=dv.o.x;unfold zv at X;have y0:=ue z0 bh;have y1:=ue z1 bh;have a9:Hid (Kf wr W9):=wA.i bh (λk hk _=>hk);clear bh z0 z1;cases r with
 |false =>
  have aa:=ua ((d1.o ls ca.o bw.o).2 (λh=>aB (hr.2 h) dC));clear hr;go_wp2;exact wL (v:=zt 7 0) (by simp[zt,results,f12,go_sem, *]) rfl (qo aa (dq.o.c a9.o))
 |true =>
  have HV:=ua (hr.1 rfl);have ev:Hid (Ue t w (Rt (.tuple #[.agg #[Sl ah rs.length au,Sl Z cs.length ak],Iv 0,Iv 0])) ((W9.setCell (Ad w.heap.size 0) (Sl ah rs.length au)).setCell (Ad w.heap.size 1) (Sl Z cs.length ak))):=by
   refine⟨0,0,ux ls o,ah,au,Z,ak,(d1.o ls ca.o bw.o).1 HV.o,by rw[b0.o.1,b0.o.2],?_,qM (qM (dq.o.c a9.o) wF) wF⟩;obtain⟨tt,fj⟩:=dv.o;obtain⟨fw,gu,ft,gq,er,el,hX⟩:=R.o.c (u:=Sl ah rs.length au) (v:=Sl Z cs.length ak) a9.o fj fr;rw[ce.o]at hX;obtain rfl:ah=fw:=(by injection er);obtain rfl:Z=ft:=(by injection el);exact hX
  clear hr;go_wp2;exact wL (v:=.tuple #[.agg #[Sl ah rs.length au,Sl Z cs.length ak],Iv 0,Iv 0]) (by simp[results,f12,go_sem, *]) rfl ev.o
end Go.Proofs.YtoihadcablknpaaGreatDoor
