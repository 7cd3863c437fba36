import Derived.Test.YtoihadcablknpaaGreatDoorT22
import Derived.Test.YtoihadcablknpaaGreatDoorT27
set_option linter.unusedVariables false
set_option linter.unusedSimpArgs false
set_option linter.defProp false
set_option maxHeartbeats 40000000
set_option maxRecDepth 100000
namespace Go.Proofs.YtoihadcablknpaaGreatDoor
open Go.RowKit
open Go.Proofs.Tryz
open M (OpD uh Gr)
def PE.d(e:PE):∀l,e.ok l->∀t∈e.tk,t.e≠59:=by
 induction e with
 |ref t=>intro l h x f;have:=Aw.1 f;subst this;have h:x.e=110:=h;omega
 |thr c t=>intro l h x f;obtain⟨k,j⟩:=h;simp[PE.tk]at f;rcases f with rfl|rfl<;>omega
 |str t=>intro l h x f;have:=Aw.1 f;subst this;have h:x.e=34:=h;omega
 |cls t=>intro l h x f;have:=Aw.1 f;subst this;have h:x.e=91:=h;omega
 |dot t=>intro l h x f;have:=Aw.1 f;subst this;have h:x.e=46:=h;omega
 |grp o e c i=>intro l h x f;obtain⟨k,j,g⟩:=h;simp[PE.tk]at f;rcases f with rfl|f|rfl<;>first|omega|exact i 5 g x f
 |star e t i=>intro l h x f;obtain⟨k,j,g⟩:=h;simp[PE.tk]at f;rcases f with f|rfl<;>first|omega|exact i 0 g x f
 |opt e t i=>intro l h x f;obtain⟨k,j,g⟩:=h;simp[PE.tk]at f;rcases f with f|rfl<;>first|omega|exact i 0 g x f
 |not t e i=>intro l h x f;obtain⟨k,j,g⟩:=h;simp[PE.tk]at f;rcases f with rfl|f<;>first|omega|exact i 2 g x f
 |amp t e i=>intro l h x f;obtain⟨k,j,g⟩:=h;simp[PE.tk]at f;rcases f with rfl|f<;>first|omega|exact i 2 g x f
 |emp=>intro l h x f;cases f
 |seq a b m n=>intro l h x f;obtain⟨k,j,g⟩:=h;simp[PE.tk]at f;rcases f with f|f;exact m 3 j x f;exact n 2 g x f
 |alt a t b m n=>intro l h x f;obtain⟨k,j,g,p⟩:=h;simp[PE.tk]at f;rcases f with f|rfl|f;exact m 5 g x f;omega;exact n 4 p x f
def Rl.k(q:Rl):Nat:=if q.a.isSome then 1 else 0
def Rl.c(q:Rl):q.tk.length=q.k+2+q.e.tk.length+1:=by
 unfold Rl.tk Rl.k;cases q.a<;>simp<;>omega
def Rl.g(q:Rl):q.tk[q.k]?=some q.f:=by
 unfold Rl.tk Rl.k;cases q.a<;>simp
def Rl.h(q:Rl):(q.tk.drop (q.k+2)).take q.e.tk.length=q.e.tk:=by
 unfold Rl.tk Rl.k;cases q.a<;>simp
def Rl.b(q:Rl):q.tk[q.k+2+q.e.tk.length]?=some q.d:=by
 unfold Rl.tk Rl.k;cases q.a
 ·simp[show 2+q.e.tk.length=q.e.tk.length+1+1 by omega]
 simp[show 1+2+q.e.tk.length=q.e.tk.length+1+1+1 by omega]
def Rl.i{q:Rl}(h:q.ok){m:Nat}{x:wH}(b:m<q.k+2+q.e.tk.length)(g:q.tk[m]?=some x):x.e≠59:=by
 obtain⟨j,o,p,l,r⟩:=h;have e:q.tk=(q.a.toList++(q.f::q.eq::q.e.tk))++[q.d]:=by simp[Rl.tk]
 rw[e,Cr (by unfold Rl.k at b;cases n:q.a<;>simp[n]at b ⊢<;>omega)]at g;have c:=Be g;simp at c;rcases c with h|rfl|rfl|h
 ·have:=j x h;omega
 ·omega
 ·omega
 exact q.e.d 5 l x h
def Ri(Q:Np)(w:Wl)(b o:Nat)(q:Rl):Prop :=
 w.cell? (Ad b o)=some (.bool q.a.isSome)/\Gg Q w b (o+1) q.f/\∃a c,w.cell? (Ad b (o+5))=some (Sl a q.e.tk.length c)/\zK Q w a q.e.tk/\q.e.tk.length<=c
def Fm(Q:Np)(w:Wl)(a:Oa)(c:List Rl):Prop:=c = []\/∃b off,a=some (Ad b off)/\∀i q,c[i]?=some q->Ri Q w b (off+i*6) q
def Ri.q{Q w w' b o q}(h:Ri Q w b o q)(t:Bw w w'):Ri Q w' b o q:=by
 obtain⟨d,e,a,c,f,g,i⟩:=h;exact⟨ue d t,e.q t,a,c,ue f t,g.q t,i⟩
def Fm.q{Q w w' a c}(h:Fm Q w a c)(t:Bw w w'):Fm Q w' a c:=by
 rcases h with h|⟨b,off,e,h⟩
 ·exact .inl h
 exact .inr ⟨b,off,e,λi q d=>(h i q d).q t⟩
def Fm.at{Q w a c}(h:Fm Q w a c){i}(d:i<c.length):∃b off,a=some (Ad b off)/\∀i q,c[i]?=some q->Ri Q w b (off+i*6) q:=by
 rcases h with h|h
 ·subst h;simp at d
 exact h
structure RC where
 q:Rl
 na:Option Addr
 nc:Nat
 sa:Option Addr
 sc:Nat
 ba:Option Addr
 bc:Nat
def Ej(x:RC):List Value:=[.bool x.q.a.isSome,Bv x.q.f.e,Iv x.q.f.f,Sl x.na x.q.f.nm.length x.nc,Sl x.sa x.q.f.set.length x.sc,Sl x.ba x.q.e.tk.length x.bc]
def JV x:(Ej x).length=6:=rfl
def J2:(prog.info? 72).map (λi=>(i.zero,i.size,i.bytes))=some (some (.agg #[Bf,Bv 0,Iv 0,nS,nS,nS]),6,96):=rR
def JW:vA 67 72 6 96:=⟨underlying67,⟨_,J2,rfl⟩,oM⟩
structure Zc(Q:Np)(w wr:Wl)(v:Vl)(L:List RC)(P:Np):Prop where
 r:wC P wr v 6 L.length (L.flatMap Ej)
 e:∀b,P b->wM w wr b
 a:∀x∈L,wB Q .u8 w x.na x.q.f.nm.length (lf x.q.f.nm)/\wB Q .i64 w x.sa x.q.f.set.length (lf x.q.f.set)/\zK Q w x.ba x.q.e.tk/\x.q.e.tk.length<=x.bc
 m:Kf w wr
def Ek(Q:Np)(w wr:Wl)(v:Vl)(L:List RC):Prop:=∃P,Zc Q w wr v L P
def Ek.nil{Q w wr}(h:Kf w wr):Ek Q w wr nS [] :=
 ⟨λ_=>False,.inl ⟨rfl,rfl,rfl⟩,λ_ q=>q.elim,(λx a=>by cases a),h⟩
def Ek.a{Q w wr v l}(h:Ek Q w wr v l):∃a c,v=Sl a l.length c:=by
 obtain⟨P,h⟩:=h;exact uq h.r
def JX{Q w wr W1 d v v5 l x P}(h:Zc Q w wr v l P)(k:Kf wr W1)(r:wB Q .u8 w x.na x.q.f.nm.length (lf x.q.f.nm)/\wB Q .i64 w x.sa x.q.f.set.length (lf x.q.f.set)/\zK Q w x.ba x.q.e.tk/\x.q.e.tk.length<=x.bc)(s:wC (λb=>P b\/W1.heap.size<=b) d v5 6 (l.length+1) (l.flatMap Ej++Ej x))(i:wS P W1 d):Ek Q w d v5 (l++[x]):=by
 have B:=h.m.h;have C:=k.h;have D:=i.h;refine⟨λb=>(P b\/W1.heap.size<=b)/\b<d.heap.size,?_,?_,?_,yt (h.m.c k) i (λb q=>(h.e b q).1)⟩
 ·have e:(l++[x]).flatMap Ej=l.flatMap Ej++Ej x:=sM;rw[e,wK,Bs];rcases s with⟨_,q,_⟩|⟨b,cap,e,t,n,o,p,g⟩
  ·omega
  refine .inr ⟨b,cap,e,⟨t,?_⟩,n,o,p,g⟩;obtain⟨u,z⟩:=Dt.1 (g 0 oM).1;exact ud z
 ·rintro b ⟨q|q,j⟩
  ·exact⟨(h.e b q).1,j⟩
  exact⟨oM,j⟩
 intro y A;rcases Bh.1 A with q|q
 ·exact h.a y q
 obtain rfl:=Aw.1 q;exact r
def Ek.b{Q w wr a n c L}(h:Ek Q w wr (Sl a n c) L):Fm Q wr a (L.map (·.q)):=by
 obtain⟨P,h⟩:=h;rcases h.r with⟨_,q,_⟩|⟨g,cap,e,F,B,C,o,D⟩
 ·exact .inl (by rw[Hh q];rfl)
 injection e with e1 e2 e3;subst e1;refine .inr ⟨g,0,rfl,λi x l=>?_⟩;rw[Du]at l;obtain⟨y,k,rfl⟩:=Gu.1 l;have E:=(zT.1 k).1;have s:=ki Ej 6 JV L;have d:∀j,j<6->wr.cell? (Ad g (0+i*6+j))=(Ej y)[j]?:=λj p=>by
  rw[zL,o (i*6+j) (by rw[s];omega),yu Ej 6 JV L i j y k p]
 obtain⟨t,v,z,A⟩:=h.a y (Be k);have f:=h.m.u;exact⟨d 0 oM,⟨d 1 oM,d 2 oM,⟨y.na,y.nc,d 3 oM,t.q f⟩,⟨y.sa,y.sc,d 4 oM,v.q f⟩⟩,y.ba,y.bc,d 5 oM,z.q f,A⟩
def JY(W:Wl)(x:RC){ty}:Src prog 6 67 (Sl (Sm W.heap.size 0) 1 1) 1 (Ej x) (W.alloc (Oc #[.bool x.q.a.isSome,Bv x.q.f.e,Iv x.q.f.f,Sl x.na x.q.f.nm.length x.nc,Sl x.sa x.q.f.set.length x.sc,Sl x.ba x.q.e.tk.length x.bc] ty)) :=
 vC underlying67 rfl (λj u b=>by
  have c:=Df W (Oc #[.bool x.q.a.isSome,Bv x.q.f.e,Iv x.q.f.f,Sl x.na x.q.f.nm.length x.nc,Sl x.sa x.q.f.set.length x.sc,Sl x.ba x.q.e.tk.length x.bc] ty);simp only[World.cell?,c];rw[<-b];simp[Ej]) (λu b=>by
  simp only[Ej,Bx,Jp,or_false]at b;rcases b with rfl|rfl|rfl|rfl|rfl|rfl<;>rfl)
def Zd(Q:Np)(w:Wl)(b:List Rl)(v u:Vl)(wr:Wl):Prop :=
 ∃(a rest:List Rl) (L:List RC) (d:Nat),b=a++rest/\L.map (·.q)=a/\d=(a.flatMap Rl.tk).length/\u=Iv (d:Nat)/\Ek Q w wr v L
def J3(Q:Np)(b:List Rl)(w:Wl)(e:Ending)(w':Wl):Prop:=∃a c,e=Rt (Sl a b.length c)/\Fm Q w' a b/\Kf w w'
def J4 Q s(aq:∀q∈s,q.ok)a c n w(hn:n=(s.flatMap Rl.tk).length)(hT:zK Q w a (s.flatMap Rl.tk))(hl:n<=1048576)(hc:n<=c) :
  Cs 29 #[Sl a n c] w (J3 Q s w):=by
 have HT:Hid (zK Q w a (s.flatMap Rl.tk)):=hT;have R:Hid (n=(s.flatMap Rl.tk).length):=hn;have aw:Hid (∀q∈s,q.ok):=aq;clear hT hn aq;go_enter func29,ntmps29;go_wp2;go_loopw [3,4] (Zd Q w s) (λ_ u _=>n-(intOf u).toNat)
 ·exact⟨[],s,[],0,rfl,rfl,rfl,rfl,Ek.nil zM⟩
 obtain⟨t,rest,L,d,H,U,W,rfl,hR⟩:=hrel;obtain⟨I,vc,rfl⟩:=hR.a;cases rest with
 |nil =>
  have ax:d=n:=by rw[W,R.o,H,Ca]
  have a7:¬(d:Int)<(n:Int):=oM;clear R W ax;have HR:Hid (Ek Q w wr (Sl I L.length vc) L):=hR;have HL:Hid (L.map (·.q)=s):=by rw[H,Ca];exact U
  clear H U hR;go_wp2;go_ret;have hl:L.length=s.length:=by rw[<-HL.o,zN]
  obtain⟨P,V⟩:=HR.o;exact⟨I,vc,by rw[hl];rfl,by rw[<-HL.o];exact HR.o.b,V.m⟩
 |cons q rest =>
  have ad:=aw q (by rw[H];simp);have ak:s.flatMap Rl.tk=t.flatMap Rl.tk++(q.tk++rest.flatMap Rl.tk):=by rw[H];simp
  have ay:n=d+(q.tk.length+(rest.flatMap Rl.tk).length):=by rw[R.o,ak,wK,wK,W]
  have a3:=q.c;have az:d<n:=oM;obtain⟨b,off,rfl,ao⟩:=HT.at (i:=d) (by rw[<-R.o];exact az);have ap:∀m,m<q.tk.length->(s.flatMap Rl.tk)[d+m]?=q.tk[m]?:=λm hm=>by
   rw[ak,Di oM,show d+m-(t.flatMap Rl.tk).length=m by omega,Cr hm]
  have aa:∀m x,q.tk[m]?=some x->Gg Q w b (off+(d+m)*4) x:=λm x p=>ao (d+m) x ((ap m (zT.1 p).1).trans p)
  have an:zK Q w (Sm b (off+(d+q.k+2)*4)) q.e.tk:=by
   have:=zK.a (l:=q.tk) (off:=off+d*4) (λm x p=>by rw[show off+d*4+m*4=off+(d+m)*4 by omega];exact aa m x p) (q.k+2) q.e.tk.length;rw[q.h]at this;rwa [show off+(d+q.k+2)*4=off+d*4+(q.k+2)*4 by omega]
  obtain⟨P,V⟩:=hR;have kb:=V.m.u;have D:Hid (Zc Q w wr (Sl I L.length vc) L P):=V;have ab:∀m x,q.tk[m]?=some x->Gg Q wr b (off+(d+m)*4) x:=λm x p=>(aa m x p).q kb
  obtain⟨E,hE⟩:∃E,E=q.k+2+q.e.tk.length:=⟨_,rfl⟩;have a5:d+E<n:=oM;have ah:Hid (wr.cell? (Ad b (off+(d+E)*4))=some (Bv 59)):=by
   have:=(ab E q.d (by rw[hE];exact q.b)).e;rw[ad.2.2.2.2]at this;exact this
  have ae:Hid (∀m,m<E->∃kk,wr.cell? (Ad b (off+(d+m)*4))=some (Bv kk)/\kk≠59):=λm hm=>by
   obtain⟨x,p⟩:∃x,q.tk[m]?=some x:=⟨_,zG oM⟩;exact⟨x.e,(ab m x p).e,Rl.i ad oM p⟩
  have S:=ua (aa q.k q.f q.g);have z:=ua an;have HF:Hid (∃k0,wr.cell? (Ad b (off+d*4))=some (Bv k0)/\(k0==94)=q.a.isSome):=by
   obtain⟨x,p⟩:∃x,q.tk[0]?=some x:=⟨_,zG oM⟩;refine⟨x.e,(ab 0 x p).e,?_⟩;unfold Rl.tk at p;obtain⟨h1,h2,_⟩:=ad;cases hc:q.a with
   |none=>rw[hc]at p;simp at p;subst p;simp[h2]
   |some c=>rw[hc]at p;simp at p;subst p;simp[h1 c hc]
  have HQ:Hid (s=t++q::rest/\L.map (·.q)=t/\d=(t.flatMap Rl.tk).length):=⟨H,U,W⟩;have a4:L.length<=1048576:=by
   have h1:L.length=t.length:=(by rw[<-U,zN]);have h2:∀l:List Rl,l.length<=(l.flatMap Rl.tk).length:=λl=>by
    induction l with
    |nil=>simp
    |cons x l ih=>have:=x.c;simp only[Dj,wK,zQ];omega
   have:=h2 t;omega
  clear H U W ak ap aa an ab V ao R ad ay a3;have hlt':(d:Int)<n:=oM;go_wp2;go_loopw [5] (λvj w2=>∃m,m<=E/\vj=Iv ((d+m:Nat):Int)/\wr=w2) (λvj _=>n-(intOf vj).toNat)
  ·exact⟨0,oM,rfl,rfl⟩
  obtain⟨m,hm,rfl,rfl⟩:=hrel;by_cases a1:m=E
  ·subst a1;have ks:=ah.o;obtain⟨k0,kf,ac⟩:=HF.o;clear HF ae ah;have hE':=hE;have C:Hid (m=q.k+2+q.e.tk.length):=hE;clear hE hE';obtain⟨na,nc,n2,au⟩:=S.nm;obtain⟨sa,sc,n3,av⟩:=S.set;have N:Hid (wB Q .u8 w na q.f.nm.length (lf q.f.nm)/\wB Q .i64 w sa q.f.set.length (lf q.f.set)):=⟨au,av⟩;have A:=ue S.e kb;have r1:=ue S.f kb;have r2:=ue n2 kb;have r3:=ue n3 kb;clear n2 n3 au av S;cases O:q.a with
   |none =>
    have Y:q.k=0:=(by unfold Rl.k;rw[O];rfl);rw[O]at ac;rw[Y]at A r1 r2 r3 z C;simp only[Cc,Option.isSome_none]at A r1 r2 r3 ac z C;obtain rfl:q.f.e=k0:=(by rw[kf]at A;injection A with A;injection A with _ A;exact A.symm);clear kf;have al:m=2+q.e.tk.length:=oH C.o;obtain⟨o,T⟩:∃o,o=d+2:=⟨_,rfl⟩;rw[<-T]at z;obtain⟨J,G⟩:∃J,J=d+m:=⟨_,rfl⟩;have z9:d<=J:=oM;have z2:o<=J:=oM;have z3:(J:Int)<=(c:Int):=oM;have z4:¬c=o:=oM;have z5:q.e.tk.length<=c-o:=oM;have z6:J-o=q.e.tk.length:=oM;have z7:IntKind.i64.wrap ((d:Int)+2)=(o:Int):=(by rw[show(d:Int)+2=(o:Int) by omega];exact Nn oM oM);have z8:0<=(d:Int):=oM;have af:Hid (wB Q .u8 w na q.f.nm.length (lf q.f.nm)/\wB Q .i64 w sa q.f.set.length (lf q.f.set)/\zK Q w (Sm b (off+o*4)) q.e.tk/\q.e.tk.length<=c-o):=⟨N.1,N.2,z,z5⟩;have F:Hid (s=(t++[q])++rest/\(L++[(⟨q,na,nc,sa,sc,some (Ad b (off+o*4)),c-o⟩:RC)]).map (·.q)=t++[q]/\J+1=((t++[q]).flatMap Rl.tk).length):=by
     obtain⟨e1,e2,e3⟩:=HQ;refine⟨by rw[e1];simp,by rw[Cl,e2];rfl,?_⟩;rw[List.flatMap_append,wK,<-e3];simp only[Dj,List.flatMap_nil,Ca,q.c];omega
    have ai:Hid (∀W1 v5 B,Kf wr W1->wC (λb=>P b\/W1.heap.size<=b) B v5 6 (L.length+1) (L.flatMap Ej++Ej ⟨q,na,nc,sa,sc,some (Ad b (off+o*4)),c-o⟩)->wS P W1 B->Ek Q w B v5 (L++[⟨q,na,nc,sa,sc,some (Ad b (off+o*4)),c-o⟩])):=λW1 v5 B k ho hg=>JX (x:=⟨q,na,nc,sa,sc,some (Ad b (off+o*4)),c-o⟩) D k af ho hg
    have ag:Hid (wC P (wr.drew.alloc (Oc #[Bf,Bv q.f.e,Iv q.f.f,Sl na q.f.nm.length nc,Sl sa q.f.set.length sc,Sl (Sm b (off+o*4)) q.e.tk.length (c-o)] 72)) (Sl I L.length vc) 6 L.length (L.flatMap Ej)):=D.o.r.on (λb hb=>((wA.j (λ_=>False) wr).c wU).d b (D.o.e b hb).2 (λq=>q));have aj:Hid (Src prog 6 67 (Sl (Sm wr.drew.heap.size 0) 1 1) 1 (Ej ⟨q,na,nc,sa,sc,some (Ad b (off+o*4)),c-o⟩) (wr.drew.alloc (Oc #[Bf,Bv q.f.e,Iv q.f.f,Sl na q.f.nm.length nc,Sl sa q.f.set.length sc,Sl (Sm b (off+o*4)) q.e.tk.length (c-o)] 72))):=by
     have:=JY wr.drew ⟨q,na,nc,sa,sc,some (Ad b (off+o*4)),c-o⟩ (ty:=72);simp only[O,Option.isSome_none]at this;exact this
    have a2:(J:Int)<(n:Int):=oM;rw[<-G]at ks;rw[<-G];have a0:(d:Int)<(n:Int):=oM;clear al D N z HQ C T G;go_upto_region 10 with fail;go_region_law
     (refine Nk rfl (.tmp 29) (.tmp 41) 67 67 rfl (v:=Sl I L.length vc) (y:=Sl (Sm wr.drew.heap.size 0) 1 1) (by simp[Act.eval]) (by simp[Act.eval]) JW (Q:=P) (n:=L.length) (cs:=L.flatMap Ej) (m:=1) (news:=Ej ⟨q,na,nc,sa,sc,some (Ad b (off+o*4)),c-o⟩) ag.o aj.o oM ?_;intro v4 W4 Z X am;have HE:Hid (Zd Q w s v4 (Iv ((J+1:Nat):Int)) W4):=⟨_,_,_,_,F.1,F.2.1,F.2.2,rfl,ai _ _ _ ((wA.j (λ_=>False) wr).c wU) Z X⟩;clear Z X am)
    all_goals go_goals
    all_goals (
     go_wp2;go_roundw;all_goals first
      |exact HE
      |(simp[intOf];omega)
      |omega)
   |some cc =>
    have Y:q.k=1:=(by unfold Rl.k;rw[O];rfl);rw[O]at ac;rw[Y]at A r1 r2 r3 z C;simp only[Option.isSome_some]at A r1 r2 r3 ac z C;have al:m=3+q.e.tk.length:=oH C.o;obtain⟨o,T⟩:∃o,o=d+1+2:=⟨_,rfl⟩;rw[<-T]at z;obtain⟨J,G⟩:∃J,J=d+m:=⟨_,rfl⟩;have z9:d<=J:=oM;have z2:o<=J:=oM;have z3:(J:Int)<=(c:Int):=oM;have z4:¬c=o:=oM;have z5:q.e.tk.length<=c-o:=oM;have z6:J-o=q.e.tk.length:=oM;have z7:IntKind.i64.wrap (((d:Int)+1)+2)=(o:Int):=(by rw[show((d:Int)+1)+2=(o:Int) by omega];exact Nn oM oM);have z8:0<=((d:Int)+1):=oM;have af:Hid (wB Q .u8 w na q.f.nm.length (lf q.f.nm)/\wB Q .i64 w sa q.f.set.length (lf q.f.set)/\zK Q w (Sm b (off+o*4)) q.e.tk/\q.e.tk.length<=c-o):=⟨N.1,N.2,z,z5⟩;have F:Hid (s=(t++[q])++rest/\(L++[(⟨q,na,nc,sa,sc,some (Ad b (off+o*4)),c-o⟩:RC)]).map (·.q)=t++[q]/\J+1=((t++[q]).flatMap Rl.tk).length):=by
     obtain⟨e1,e2,e3⟩:=HQ;refine⟨by rw[e1];simp,by rw[Cl,e2];rfl,?_⟩;rw[List.flatMap_append,wK,<-e3];simp only[Dj,List.flatMap_nil,Ca,q.c];omega
    have ai:Hid (∀W1 v5 B,Kf wr W1->wC (λb=>P b\/W1.heap.size<=b) B v5 6 (L.length+1) (L.flatMap Ej++Ej ⟨q,na,nc,sa,sc,some (Ad b (off+o*4)),c-o⟩)->wS P W1 B->Ek Q w B v5 (L++[⟨q,na,nc,sa,sc,some (Ad b (off+o*4)),c-o⟩])):=λW1 v5 B k ho hg=>JX (x:=⟨q,na,nc,sa,sc,some (Ad b (off+o*4)),c-o⟩) D k af ho hg
    have ag:Hid (wC P (wr.drew.alloc (Oc #[Bt,Bv q.f.e,Iv q.f.f,Sl na q.f.nm.length nc,Sl sa q.f.set.length sc,Sl (Sm b (off+o*4)) q.e.tk.length (c-o)] 72)) (Sl I L.length vc) 6 L.length (L.flatMap Ej)):=D.o.r.on (λb hb=>((wA.j (λ_=>False) wr).c wU).d b (D.o.e b hb).2 (λq=>q));have aj:Hid (Src prog 6 67 (Sl (Sm wr.drew.heap.size 0) 1 1) 1 (Ej ⟨q,na,nc,sa,sc,some (Ad b (off+o*4)),c-o⟩) (wr.drew.alloc (Oc #[Bt,Bv q.f.e,Iv q.f.f,Sl na q.f.nm.length nc,Sl sa q.f.set.length sc,Sl (Sm b (off+o*4)) q.e.tk.length (c-o)] 72))):=by
     have:=JY wr.drew ⟨q,na,nc,sa,sc,some (Ad b (off+o*4)),c-o⟩ (ty:=72);simp only[O,Option.isSome_some]at this;exact this
    have a2:(J:Int)<(n:Int):=oM;rw[<-G]at ks;rw[<-G];have a0:((d:Int)+1)<(n:Int):=oM;clear al D N z HQ C T G;go_upto_region 10 with fail;go_region_law
     (refine Nk rfl (.tmp 29) (.tmp 41) 67 67 rfl (v:=Sl I L.length vc) (y:=Sl (Sm wr.drew.heap.size 0) 1 1) (by simp[Act.eval]) (by simp[Act.eval]) JW (Q:=P) (n:=L.length) (cs:=L.flatMap Ej) (m:=1) (news:=Ej ⟨q,na,nc,sa,sc,some (Ad b (off+o*4)),c-o⟩) ag.o aj.o oM ?_;intro v4 W4 Z X am;have HE:Hid (Zd Q w s v4 (Iv ((J+1:Nat):Int)) W4):=⟨_,_,_,_,F.1,F.2.1,F.2.2,rfl,ai _ _ _ ((wA.j (λ_=>False) wr).c wU) Z X⟩;clear Z X am)
    all_goals go_goals
    all_goals (
     go_wp2;go_roundw;all_goals first
      |exact HE
      |(simp[intOf];omega)
      |omega)
  obtain⟨kk,ks,Y⟩:=ae m oM;have hk':(kk != 59)=true:=by simpa using Y
  have a6:((d+m:Nat):Int)<n:=oM;clear HF ae ah;go_wp2;go_roundw
  ·exact⟨m+1,oM,by go_num,by trivial⟩
  simp[intOf];omega
def Ei:List Int->List Int->Prop
 |_,[]=>False
 |[],_::_=>True
 |x::r,y::s=>x<y\/(x=y/\Ei r s)
def Ub{a}:¬Ei a []:=by cases a<;>exact λh=>h
def yK:∀a,¬Ei a a
 |[]=>λh=>h
 |x::r=>λh=>h.elim (λq=>oM) (λq=>yK r q.2)
def Rg:∀{a b c},Ei a b->Ei b c->Ei a c
 |_,[],_,h,_=>absurd h (Ub)
 |_,_::_,[],_,h=>absurd h (Ub)
 |[],_::_,_::_,_,_=>trivial
 |x::a,y::b,z::c,h,k=>by
  rcases h with h|⟨h,d⟩<;>rcases k with k|⟨k,e⟩
  ·exact .inl oM
  ·exact .inl oM
  ·exact .inl oM
  exact .inr ⟨oM,Rg d e⟩
def Uc:∀a b,Ei a b\/a=b\/Ei b a
 |[],[]=>.inr (.inl rfl)
 |[],_::_=>.inl trivial
 |_::_,[]=>.inr (.inr trivial)
 |x::a,y::b=>by
  rcases Int.lt_trichotomy x y with h|h|h
  ·exact .inl (.inl h)
  ·rcases Uc a b with k|k|k
   ·exact .inl (.inr ⟨h,k⟩)
   ·exact .inr (.inl (by rw[h,k]))
   exact .inr (.inr (.inr ⟨h.symm,k⟩))
  exact .inr (.inr (.inl h))
def Ud:∀a b,M.LessT a.length (lf a) b.length (lf b)↔Ei a b
 |a,[]=>by
  constructor
  ·rintro⟨k,_,f,g,h|h⟩
   ·simp at h
   simp at h
  exact λh=>aB h (Ub)
 |[],y::s=>⟨λ_=>trivial,λ_=>⟨0,λi l=>oM,wP,wP,.inr ⟨rfl,sM⟩⟩⟩
 |x::r,y::s=>by
  constructor
  ·rintro⟨k,e,f,g,h⟩;cases k with
   |zero =>
    rcases h with⟨_,_,h⟩|⟨h,_⟩
    ·exact .inl h
    simp at h
   |succ k =>
    refine .inr ⟨e 0 oM,(Ud r s).1 ⟨k,λi l=>e (i+1) oM,by simpa using f,by simpa using g,?_⟩⟩;rcases h with⟨c,d,j⟩|⟨c,d⟩
    ·exact .inl ⟨by simpa using c,by simpa using d,j⟩
    exact .inr ⟨by simpa using c,by simpa using d⟩
  rintro (h|⟨h,m⟩)
  ·exact⟨0,λi l=>oM,wP,wP,.inl ⟨sM,sM,h⟩⟩
  obtain⟨k,e,f,g,n⟩:=(Ud r s).2 m;refine⟨k+1,λi l=>?_,by simpa using f,by simpa using g,?_⟩
  ·cases i with
   |zero=>exact h
   |succ i=>exact e i oM
  rcases n with⟨c,d,j⟩|⟨c,d⟩
  ·exact .inl ⟨by simpa using c,by simpa using d,j⟩
  exact .inr ⟨by simpa using c,by simpa using d⟩
def Dp:List LI->Prop
 |[]=>True
 |x::r=>(∀y∈r,Ei x y)/\Dp r
def Dp.d:∀{l:List LI} {z:LI},Dp l->(∀y∈l,Ei y z)->Dp (l++[z])
 |[],z,_,_=>⟨(λy a=>by cases a),trivial⟩
 |x::r,z,h,k=>⟨λy a=>by
   rcases Bh.1 a with q|q
   ·exact h.1 y q
   rw[Aw.1 q];exact k x sM,Dp.d h.2 (λy a=>k y (by simp[a]))⟩
def Dp.c:∀{l m:List LI},Dp l->(∀z∈l,z∈m)->l.length<=m.length
 |[],m,_,_=>wP
 |x::l,m,h,k=>by
  have a:=k x sM;have:=Dp.c (m:=m.erase x) h.2 (λz b=>(List.mem_erase_of_ne (λq=>by subst q;exact yK z (h.1 z b))).2 (k z (by simp[b])));rw[List.length_erase_of_mem a]at this;have:0<m.length:=List.length_pos_of_mem a;simp only[zQ];omega
def uF:List wH->List LI
 |[]=>[]
 |[_]=>[]
 |x::y::r=>(if x.e=94 then [y.nm] else [])++uF (y::r)
def yL(q:Rl):List LI:=(if q.a.isSome then [q.f.nm] else [])++uF q.e.tk
def uB(a:List Rl):List LI:=a.flatMap yL
def G1{l:List wH}{j:Nat}{x y:wH}(a:l[j]?=some x)(b:l[j+1]?=some y):uF (l.drop j)=(if x.e=94 then [y.nm] else [])++uF (l.drop (j+1)):=by
 rw[vD a,vD b,uF]
def G2{l:List wH}{j:Nat}(h:l.length<=j+1):uF (l.drop j) = []:=by
 by_cases a:j<l.length
 ·have e:l.drop j = [l[j]]:=by rw[Qj a,Jq h]
  rw[e,uF]
 rw[Jq oM,uF]
def JA:∀{l:List wH} {z:LI},z∈uF l->∃t∈l,t.nm=z
 |[],_,h=>by cases h
 |[_],_,h=>by cases h
 |x::y::r,z,h=>by
  rw[uF]at h;rcases Bh.1 h with q|q
  ·split at q
   ·exact⟨y,sM,(Aw.1 q).symm⟩
   cases q
  obtain⟨t,a,b⟩:=JA q;exact⟨t,On _ a,b⟩
def JB:∀l:List wH,(uF l).length<=l.length
 |[]=>wF
 |[_]=>wP
 |x::y::r=>by
  have:=JB (y::r);rw[uF,wK];split<;>simp at this ⊢<;>omega
structure NC where
 z:List Int
 a:Option Addr
 c:Nat
def Gp(x:NC):List Value:=[Sl x.a x.z.length x.c]
def IN x:(Gp x).length=1:=rfl
def D8:(prog.info? 22).map (λi=>(i.zero,i.size,i.bytes))=some (some nS,1,24):=rR
def IP:vA 73 22 1 24:=⟨underlying73,⟨_,D8,rfl⟩,oM⟩
structure Re(w wr:Wl)(v:Vl)(L:List NC)(P:Np):Prop where
 r:wC P wr v 1 L.length (L.flatMap Gp)
 e:∀b,P b->wM w wr b
 nm:∀x∈L,wB (λb=>b<wr.heap.size/\¬P b) .u8 wr x.a x.z.length (lf x.z)
 m:Kf w wr
def Ed(w wr:Wl)(v:Vl)(L:List NC):Prop:=∃P,Re w wr v L P
def Ed.nil{w wr}(h:Kf w wr):Ed w wr nS [] :=
 ⟨λ_=>False,.inl ⟨rfl,rfl,rfl⟩,λ_ q=>q.elim,(λx a=>by cases a),h⟩
def Ed.a{w wr v l}(h:Ed w wr v l):∃a c,v=Sl a l.length c:=by
 obtain⟨P,h⟩:=h;exact uq h.r
def Ed.m{w wr v l}(h:Ed w wr v l):Kf w wr:=by
 obtain⟨P,h⟩:=h;exact h.m
def IQ{w wr W W1 i v v5 l x P}(h:Re w wr v l P)(n:Kf wr W)(k:Kf W W1)(C:wB (λb=>b<W.heap.size/\¬P b) .u8 W x.a x.z.length (lf x.z))(D:wC (λb=>P b\/W1.heap.size<=b) i v5 1 (l.length+1) (l.flatMap Gp++Gp x))(j:wS P W1 i):Ed w i v5 (l++[x]):=by
 have H:=h.m.h;have I:=n.h;have J:=k.h;have L:=j.h;refine⟨λb=>(P b\/W1.heap.size<=b)/\b<i.heap.size,?_,?_,?_,yt ((h.m.c n).c k) j (λb q=>(h.e b q).1)⟩
 ·have e:(l++[x]).flatMap Gp=l.flatMap Gp++Gp x:=sM;rw[e,wK,Bs];rcases D with⟨_,q,_⟩|⟨b,cap,e,E,t,A,B,o⟩
  ·omega
  refine .inr ⟨b,cap,e,⟨E,?_⟩,t,A,B,o⟩;obtain⟨u,F⟩:=Dt.1 (o 0 oM).1;exact ud F
 ·rintro b ⟨q|q,p⟩
  ·exact⟨(h.e b q).1,p⟩
  exact⟨oM,p⟩
 intro y G;rcases Bh.1 G with q|q
 ·have s:=h.nm y q;have st:wQ (λb=>b<wr.heap.size/\¬P b) wr i:=λb f=>(j.d b (oH f.1) f.2).trans ((k.d b (oH f.1) (λe=>e)).trans (n.d b f.1 (λe=>e)))
  exact(s.on st).g (λb f=>⟨by have:=f.1;omega,λr=>r.1.elim f.2 (λr=>oH f.1)⟩)
 obtain rfl:=Aw.1 q;have st:wQ (λb=>b<W.heap.size/\¬P b) W i:=λb f=>(j.d b (oH f.1) f.2).trans (k.d b f.1 (λe=>e))
 exact(C.on st).g (λb f=>⟨by have:=f.1;omega,λr=>r.1.elim f.2 (λr=>oH f.1)⟩)
def Re.c{w wr a n c L P}(h:Re w wr (Sl a n c) L P){i x}(d:L[i]?=some x):∃b,a=some (Ad b 0)/\P b/\wr.cell? (Ad b i)=some (Sl x.a x.z.length x.c):=by
 have p:=(zT.1 d).1;rcases h.r with⟨_,q,_⟩|⟨g,cap,e,k,l,m,f,o⟩
 ·omega
 injection e with e1 e2 e3;subst e1;have j:=ki Gp 1 IN L;refine⟨g,rfl,k,?_⟩;have:=yu Gp 1 IN L i 0 x d oM;rw[Mb,Cc]at this;rw[f i (by rw[j];omega),this];rfl
def Ed.b{w wr a n c L}(h:Ed w wr (Sl a n c) L):Dn (λb=>b<wr.heap.size) wr a (L.map (·.z)):=by
 obtain⟨P,h⟩:=h;cases L with
 |nil=>exact .inl rfl
 |cons y r =>
  obtain⟨g,rfl,_,_⟩:=h.c (i:=0) (x:=y) rfl;refine .inr ⟨g,0,rfl,λi z f=>?_⟩;rw[Du]at f;obtain⟨x,d,rfl⟩:=Gu.1 f;obtain⟨j,e,m,l⟩:=h.c d;obtain rfl:g=j:=by injection e with e;injection e
  exact⟨x.a,x.c,by rw[zL];exact l,(h.nm x (Be d)).g (λb k=>k.1)⟩
def IR(W:Wl)(x:NC){ty}:Src prog 1 73 (Sl (Sm W.heap.size 0) 1 1) 1 (Gp x) (W.alloc (Oc #[Sl x.a x.z.length x.c] ty)) :=
 vC underlying73 rfl (λj u b=>by
  have d:=Df W (Oc #[Sl x.a x.z.length x.c] ty);simp only[World.cell?,d];rw[<-b];simp[Gp]) (λu b=>by
  simp only[Gp,Bx,Jp,or_false]at b;subst b;rfl)
def wB.of{Q k w a n S}(h:wB Q k w a n S):wB (λb=>b<w.heap.size) k w a n S:=by
 rcases h with h|⟨b,off,e,d,h⟩
 ·exact .inl h
 by_cases c:n=0
 ·exact .inl c
 exact .inr ⟨b,off,e,ud (h 0 oM),h⟩
def D9{Q w wr W1 c v v5 l x P}(h:Re w wr v l P)(k:Kf wr W1)(i:wB Q .u8 w x.a x.z.length (lf x.z))(j:wC (λb=>P b\/W1.heap.size<=b) c v5 1 (l.length+1) (l.flatMap Gp++Gp x))(f:wS P W1 c):Ed w c v5 (l++[x]) :=
 IQ h zM k ((i.of.q h.m.u).g (λb d=>⟨wX d h.m.h,λq=>by have:=(h.e b q).1;omega⟩)) j f
def IS:Vl->Nat
 |.slice _ n _=>n
 |_=>0
def Ys{ops:Array Oper}{rest:List Oper}{o:Oper}{a:Act}{i:Exit->Act->World->Prop}{Q:Np}{w wr W:Wl}(D:o.guard=none)(s x:Operand)(F:o.op=.call { callee:=.builtin .append,args:=#[s,x],argTypes:=#[73,73] })
  {v:Vl} {L:List NC} {y:NC} {ty:TypeId} (G:a.eval s=v) (H:a.eval x=Sl (Sm W.heap.size 0) 1 1) (B:Ed w wr v L) (k:Kf wr W) (I:wB Q .u8 w y.a y.z.length (lf y.z)) (J:L.length<=1048576)
  (h:∀j l f,Hid (Ed w f (Sl j (L.length+1) l) (L++[y]))->wpList prog ops i rest (a.put o.dst (Sl j (L.length+1) l)) f):wpList prog ops i (o::rest) a (W.alloc (Oc #[Sl y.a y.z.length y.c] ty)):=by
 obtain⟨P,g⟩:=B;have t:Kf wr (W.alloc (Oc #[Sl y.a y.z.length y.c] ty)):=k.c wU;refine Jt D s x 73 73 F G H IP (Q:=P) (n:=L.length) (cs:=L.flatMap Gp) (m:=1) (news:=Gp y) (g.r.on (λb C=>t.d b (g.e b C).2 (λq=>q))) (IR W y) oM ?_;intro v5 f p E N;obtain⟨u,A,rfl⟩:=uq p;exact h u A f (D9 g t I p E)
def E0{ops:Array Oper}{rest:List Oper}{o:Oper}{a:Act}{l:Exit->Act->World->Prop}{w wr W:Wl}(D:o.guard=none)(s x:Operand)(F:o.op=.call { callee:=.builtin .append,args:=#[s,x],argTypes:=#[73,73] })
  {v:Vl} {L:List NC} {y:NC} {ty:TypeId} (G:a.eval s=v) (H:a.eval x=Sl (Sm W.heap.size 0) 1 1) (C:Ed w wr v L) (k:Kf wr W) (I:wB (wM wr W) .u8 W y.a y.z.length (lf y.z)) (N:L.length<=1048576)
  (h:∀p t f,Hid (Ed w f (Sl p (L.length+1) t) (L++[y]))->wpList prog ops l rest (a.put o.dst (Sl p (L.length+1) t)) f):wpList prog ops l (o::rest) a (W.alloc (Oc #[Sl y.a y.z.length y.c] ty)):=by
 obtain⟨P,i⟩:=C;have J:Kf wr (W.alloc (Oc #[Sl y.a y.z.length y.c] ty)):=k.c wU;refine Jt D s x 73 73 F G H IP (Q:=P) (n:=L.length) (cs:=L.flatMap Gp) (m:=1) (news:=Gp y) (i.r.on (λb j=>J.d b (i.e b j).2 (λq=>q))) (IR W y) oM ?_;intro v5 f u E O;obtain⟨A,B,rfl⟩:=uq u;exact h A B f (IQ i k wU (I.g (λb j=>⟨j.2,λq=>by have:=(i.e b q).2;have:=j.1;omega⟩)) u E)
def E1{ops:Array Oper}{rest:List Oper}{o:Oper}{a:Act}{f:Exit->Act->World->Prop}{Q:Np}{W:Wl}(y:o.guard=none)(s x:Operand)(B:o.op=.call { callee:=.builtin .append,args:=#[s,x],argTypes:=#[22,22] })
  {ya:Oa} {yc:Nat} {z:LI} {ty:TypeId} (D:a.eval s=Sl (Sm W.heap.size 0) 0 0) (E:a.eval x=Sl ya z.length yc) (w:wB Q .u8 W ya z.length (lf z)) (F:z.length<=1048576)
  (h:∀i v c,Hid (wB (wM W c) .u8 c i z.length (lf z))->Hid (Kf W c)->wpList prog ops f rest (a.put o.dst (Sl i z.length v)) c):wpList prog ops f (o::rest) a (W.alloc (Oc #[] ty)):=by
 refine Jt y s x 22 22 B D E qg (Q:=λb=>b=W.heap.size) (n:=0) (cs:=[]) (m:=z.length) (news:=uQ .u8 (lf z) z.length) (.inr ⟨W.heap.size,0,rfl,rfl,rfl,wF,(λj r=>by simp at r),(λj r=>oM)⟩) (wB.a underlying22 (w.q (wG W))) oM ?_;intro v3 c d l G;rw[zL,Dl]at d;obtain⟨u,c3,rfl⟩:=uq d;have H:W.heap.size+1<=c.heap.size:=by have:=l.h;simpa using this
 have A:=yt wU l (λb q=>by rw[q];exact wF);refine h u c3 c ?_ A;by_cases t:z.length=0
 ·exact .inl t
 have p:=yE d;have hi2:=p.of;rcases p with q|⟨g,off,e,C,k⟩
 ·exact aB q t
 refine .inr ⟨g,off,e,⟨?_,ud (k 0 oM)⟩,k⟩;rcases C with q|q
 ·omega
 have q:W.heap.size+1<=g:=by simpa using q
 omega
def Ty{Q Q':Np}{V}{x y:NC}{r:Bool}(l:wB Q .u8 V x.a x.z.length (lf x.z))(m:wB Q' .u8 V y.a y.z.length (lf y.z))(i:wW x.z)(f:wW y.z)(n:r=true↔Ei x.z y.z)(d:Nat) :
  Cs 57 #[Sl x.a x.z.length x.c,Sl y.a y.z.length y.c] (V.drewN d) λe w'=>e=Rt (.bool r)/\w'=V.drewN d :=
 (DW (λ_=>True) x.a y.a x.z.length x.c y.z.length y.c (lf x.z) (lf y.z) _ ((l.q (zB (wI V) d)).g (λ_ _=>trivial)) ((m.q (zB (wI V) d)).g (λ_ _=>trivial)) i.j f.j).mono (λe W h=>by
  obtain⟨⟨b,rfl,k⟩,rfl⟩:=h;rw[Ud]at k;obtain rfl:b=r:=by
   cases r<;>cases b<;>simp_all
  exact⟨rfl,rfl⟩)
def E2(w:Wl)(b:List Rl)(v u:Vl)(wr:Wl):Prop :=
 ∃(a rest:List Rl) (L:List NC),b=a++rest/\u=Iv (a.length:Nat)/\L.map (·.z)=uB a/\Ed w wr v L
def E3(w:Wl)(l:List wH)(R:List LI)(v u:Vl)(wr:Wl):Prop :=
 ∃(j:Nat) (L:List NC),1<=j/\j<=l.length+1/\u=Iv (j:Nat)/\L.map (·.z)++uF (l.drop (j-1))=R/\Ed w wr v L
def ql:∀a:List Rl,(uB a).length<=(a.flatMap Rl.tk).length
 |[]=>wF
 |q::a=>by
  have b:=ql a;have d:=JB q.e.tk;have f:=q.c;have g:(yL q).length<=q.tk.length:=by
   unfold yL;rw[wK];split<;>simp<;>omega
  simp only[uB,Dj,wK]at b ⊢;omega
def Dp.b:∀{l:List LI} {x:LI},Dp (l++[x])->∀y∈l,Ei y x
 |[],x,_,y,hy=>by cases hy
 |u::l,x,h,y,hy=>by
  rcases Bx.1 hy with rfl|q
  ·exact h.1 x sM
  exact Dp.b h.2 y q
def Iq(out:List LI)(z:LI):Prop:=∀y,out.getLast? = some y->Ei y z
def E4{out z}(h:Dp out)(d:Iq out z):∀y∈out,Ei y z:=by
 intro y c;rcases List.eq_nil_or_concat out with e|⟨l,x,e⟩
 ·subst e;cases c
 subst e;rw[List.concat_eq_append]at *;have a:=d x sM;rcases Bh.1 c with q|q
 ·exact Rg (h.b y q) a
 rw[Aw.1 q];exact a
structure Cz(all out:List LI):Prop where
 k:Dp out
 a:∀z∈out,z∈all
 h:∀z∈all,z ∉ out->∀y∈out,Ei y z
def Cz.b{a out}(h:Cz a out){z}(e:z∈a)(c:z ∉ out):Iq out z:=λy d=>h.h z e c y (List.mem_of_getLast? d)
def wZ(a out:List LI)(i:Nat):Option Nat->Prop
 |none=>∀j z,j<i->a[j]?=some z->¬Iq out z
 |some k=>k<i/\∃m,a[k]?=some m/\Iq out m/\∀j z,j<i->a[j]?=some z->Iq out z->¬Ei z m
def wZ.skip{c out i}{k:Option Nat}{z}(h:wZ c out i k)(g:c[i]?=some z)(d:¬Iq out z):wZ c out (i+1) k:=by
 have l:∀j,j<i+1->j<i\/j=i:=λj b=>by omega
 cases k with
 |none =>
  intro j y b a;rcases l j b with q|rfl
  ·exact h j y q a
  rw[g]at a;injection a with e;subst e;exact d
 |some k =>
  obtain⟨r,m,n,o,p⟩:=h;refine⟨oM,m,n,o,λj y b a f=>?_⟩;rcases l j b with q|rfl
  ·exact p j y q a f
  rw[g]at a;injection a with e;subst e;exact aB f d
def wZ.a{b out i z}(h:wZ b out i none)(d:b[i]?=some z)(f:Iq out z):wZ b out (i+1) (some i) :=
 ⟨oM,z,d,f,λj y k c g=>by
  by_cases e:j=i
  ·subst e;rw[d]at c;injection c with e;subst e;exact yK _
  exact aB g (h j y oM c)⟩
def wZ.g{a out i k z m}(h:wZ a out i (some k))(q:a[k]?=some m)(f:a[i]?=some z)(n:Iq out z)(p:Ei z m):wZ a out (i+1) (some i):=by
 obtain⟨r,u,c,s,l⟩:=h;rw[q]at c;injection c with e;subst e;refine⟨oM,z,f,n,λj y t b o d=>?_⟩;by_cases e:j=i
 ·subst e;rw[f]at b;injection b with e;subst e;exact yK _ d
 exact l j y oM b o (Rg d p)
def wZ.more{a out i k z m}(h:wZ a out i (some k))(d:a[k]?=some m)(o:a[i]?=some z)(n:¬Ei z m):wZ a out (i+1) (some k):=by
 obtain⟨p,r,c,f,g⟩:=h;rw[d]at c;injection c with e;subst e;refine⟨oM,m,d,f,λj y q b l=>?_⟩;by_cases e:j=i
 ·subst e;rw[o]at b;injection b with e;subst e;exact n
 exact g j y oM b l
def Cz.e{c out}(h:Cz c out)(g:wZ c out c.length none):∀z,z∈out↔z∈c:=λz=>by
 refine⟨h.a z,λf=>Classical.byContradiction λi=>?_⟩;obtain⟨j,d⟩:=Nb f;exact g j z (zT.1 d).1 d (h.b f i)
def Cz.d{c out k m}(h:Cz c out)(s:wZ c out c.length (some k))(n:c[k]?=some m):Cz c (out++[m]):=by
 obtain⟨v,w,i,o,p⟩:=s;rw[n]at i;injection i with e;subst e;have t:=E4 h.k o;refine⟨h.k.d t,λz f=>?_,λz f g y u=>?_⟩
 ·rcases Bh.1 f with q|q
  ·exact h.a z q
  rw[Aw.1 q];exact Be n
 simp only[Bh,Aw,not_or]at g;rcases Bh.1 u with q|q
 ·exact h.h z f g.1 y q
 rw[Aw.1 q];obtain⟨j,l⟩:=Nb f;rcases Uc m z with r|r|r
 ·exact r
 ·exact aB r.symm g.2
 exact aB r (p j z (zT.1 l).1 l (h.b f g.1))
def No:Option Nat->Int
 |none=>-1
 |some k=>k
def E5(w1:Wl)(a:List LI)(v:Vl)(wr:Wl):Prop:=∃L:List NC,Cz a (L.map (·.z))/\Ed w1 wr v L
def Yt(wr:Wl)(a out:List LI)(v7 v8:Vl)(b:Wl):Prop:=∃(i m:Nat) (k:Option Nat),i<=a.length/\v8=Iv (i:Nat)/\v7=Iv (No k)/\b=wr.drewN m/\wZ a out i k
def E6 z:Iq [] z:=λy a=>by simp at a
def E7 l x z:Iq (l++[x]) z↔Ei x z:=by
 unfold Iq;simp
def E8(d:List LI)(w:Wl)(e:Ending)(w':Wl):Prop :=
 ∃a c ls,e=Rt (Sl a ls.length c)/\Dp ls/\(∀z,z∈ls↔z∈d)/\Dn (λb=>b<w'.heap.size) w' a ls/\Kf w w'
def E9 Q o a c w(hT:Fm Q w a o)(hl:(o.flatMap Rl.tk).length<=1000000)(hb:∀z∈uB o,wW z)(bd:∀z∈uB o,z.length<=1000000) :
  Cs 31 #[Sl a o.length c] w (E8 (uB o) w):=by
 have am:=ql o;have cm:o.length<=(o.flatMap Rl.tk).length:=by
  clear hT hb hl am bd;induction o with
  |nil=>simp
  |cons q o ih=>have:=q.c;simp only[Dj,wK,zQ];omega
 have cu:o.length<=1000000:=oM;have cq:(uB o).length<=1000000:=oM;have HB:Hid (∀z∈uB o,wW z):=hb;have HT:Hid (Fm Q w a o):=hT;have b8:Hid ((o.flatMap Rl.tk).length<=1000000):=hl;have bl:Hid (∀z∈uB o,z.length<=1000000):=bd;clear hT hb hl am cm bd;go_enter func31,ntmps31;go_wp2;go_loopw [3,4] (E2 w o) (λ_ u _=>o.length-(intOf u).toNat)
 ·exact⟨[],o,[],rfl,rfl,rfl,Ed.nil zM⟩
 obtain⟨s,rest,L,D,rfl,hL,hR⟩:=hrel;obtain⟨va,vc,rfl⟩:=hR.a;cases rest with
 |nil =>
  have a2:¬((s.length:Nat):Int)<o.length:=by rw[D];simp
  have F:Hid (L.map (·.z)=uB o):=by rw[D,Ca];exact hL
  have H:Hid (Ed w wr (Sl va L.length vc) L):=hR;have HZ:Hid (∀x∈L,wW x.z):=λx B=>HB.o x.z (by rw[<-F.o];exact List.mem_map_of_mem B)
  have cb:Hid (∀x∈L,x.z.length<=1000000):=λx B=>bl.o x.z (by rw[<-F.o];exact List.mem_map_of_mem B)
  clear bl;have ce:L.length<=1000000:=by
   have:=zD List.length F.o;rw[zN]at this;omega
  clear D hL hR;generalize uB o=r at *;go_wp2
  rename World=>w1
  go_loopw [6] (E5 w1 r) (λv _=>r.length+1-IS v)
  ·exact⟨[],⟨trivial,(λz hz=>by cases hz),(λz _ _ y t=>by cases t)⟩,Ed.nil zM⟩
  obtain⟨L2,hO,I⟩:=hrel;obtain⟨oa,oc,rfl⟩:=I.a;have HO:Hid (Cz r (L2.map (·.z))):=hO;have O:Hid (Ed w1 wr (Sl oa L2.length oc) L2):=I;have KK:Hid (Kf w1 wr):=I.m;have bp:L2.length<=r.length:=by
   have:=hO.k.c hO.a;rwa [zN]at this
  have bm:L.length=r.length:=by rw[<-F.o,zN]
  have Z:Hid (L.length=r.length):=bm;obtain⟨A,az⟩:∃A,A=L2.length:=⟨_,rfl⟩;rw[<-az]at O bp ⊢;have G:Hid (A=L2.length):=az;clear hO I bm az;go_wp2;go_loopw [7,8] (Yt wr r (L2.map (·.z))) (λ_ v8 _=>r.length-(intOf v8).toNat)
  ·exact⟨0,0,none,wP,rfl,rfl,rfl,(λj z hj=>aB hj oM)⟩
  obtain⟨i,m,k,hi,rfl,rfl,rfl,hB⟩:=hrel;have C:Hid (wZ r (L2.map (·.z)) i k):=hB;clear hB;obtain⟨V,hV⟩:∃V,wr.drewN m=V:=⟨_,rfl⟩;have b9:Hid (∀n,∃q,V.drewN n=wr.drewN q):=λn=>⟨m+n,by rw[<-hV,Nc]⟩
  have ag:Hid (Bw wr V):=by rw[<-hV];exact zB (wI wr) m
  have af:Hid (V.heap.size=wr.heap.size/\Kf wr V):=by rw[<-hV];exact⟨sM,ut wr m⟩
  have aa:Hid (Bw w1 V):=uf KK.o.u ag.o;rw[hV];clear hV;by_cases bq:i<r.length
  ·have cv:(i:Int)<L.length:=oH Z.o;have cj:i<L.length:=oH Z.o;obtain⟨x,B⟩:∃x,L[i]?=some x:=⟨_,zG cj⟩;have ai:Hid (r[i]?=some x.z):=(by show _=_;rw[<-F.o,Du,B];rfl);obtain⟨P,E⟩:=H.o;obtain⟨gb,rfl,_,c0⟩:=E.c B;have c0':=ue c0 aa.o;have HX:Hid (wB (λb=>b<w1.heap.size/\¬P b) .u8 V x.a x.z.length (lf x.z)):=(E.nm x (Be B)).q aa.o;have BX:Hid (wW x.z):=HZ.o x (Be B);have bf:Hid (∀n S,wZ r (L2.map (·.z)) (i+1) S->Yt wr r (L2.map (·.z)) (Iv (No S)) (Iv ((i:Int)+1)) (V.drewN n)):=λn S hk=>by
    obtain⟨q,D⟩:=b9.o n;exact⟨i+1,q,S,bq,sM,rfl,D,hk⟩
   clear E c0 B;rcases List.eq_nil_or_concat L2 with a9|⟨l,y,J⟩
   focus
    have ap:Hid (Iq (L2.map (·.z)) x.z):=(by rw[a9];exact E6 _);obtain rfl:A=0:=(by rw[G.o,a9];rfl);clear a9;go_upto_region 17 with fail;go_quiet (fail);go_upto_region 18 with fail
   rotate_left
   focus
    rw[List.concat_eq_append]at J;have an:L2[l.length]?=some y:=(by rw[J];simp);obtain⟨P2,a0⟩:=O.o;obtain⟨go,rfl,_,d0⟩:=a0.c an;have d0':=ue d0 ag.o;have av:Hid (wB (λb=>b<wr.heap.size/\¬P2 b) .u8 V y.a y.z.length (lf y.z)):=(a0.nm y (Be an)).q ag.o;have ao:Hid (wW y.z):=HB.o _ (HO.o.a _ (List.mem_map_of_mem (Be an)));have ah:Hid (Iq (L2.map (·.z)) x.z↔Ei y.z x.z):=by
     show _↔_;rw[J,Cl];exact E7 _ _ _
    have br:(A:Int) > 0:=(by rw[G.o,J];simp only[wK,Bs];omega);have cw:decide ((A:Int) > 0)=true:=Gi br;have cx:decide ((0:Int)<(A:Int))=true:=Gi br;have ck:0<A:=oM;have cy:decide (0<A)=true:=Gi ck;have cz:IntKind.i64.wrap ((A:Int)-1)=(l.length:Nat):=by
     rw[show(A:Int)-1=(l.length:Nat) by rw[G.o,J];simp];exact Nn oM (by have:=zD List.length J;have:=G.o;simp only[wK,Bs]at *;omega)
    have cn:(A:Int)-1=(l.length:Nat):=(by rw[G.o,J];simp);have am:(l.length:Int)<A:=(by rw[G.o,J];simp only[wK,Bs];omega);clear a0 d0 an J;by_cases ab:Ei y.z x.z
    rotate_left
    ·have bz:Hid (wZ r (L2.map (·.z)) (i+1) k):=C.skip ai (λq=>ab (ah.1 q));have N:Hid (∀d,Cs 57 #[Sl y.a y.z.length y.c,Sl x.a x.z.length x.c] (V.drewN d) λe w'=>e=Rt Bf/\w'=V.drewN d):=Ty av.o HX.o ao.o BX.o ⟨λq=>aB q dC,λq=>aB q ab⟩;clear ab ah C;go_upto_region 17 with fail;go_quiet (first|(go_at_call 57;exact Fz (N _)));go_wp2;go_roundw;all_goals first
      |exact(bf _ k bz)
      |(simp[intOf];omega)
    have ap:Hid (Iq (L2.map (·.z)) x.z):=ah.o.2 ab;have N:Hid (∀d,Cs 57 #[Sl y.a y.z.length y.c,Sl x.a x.z.length x.c] (V.drewN d) λe w'=>e=Rt Bt/\w'=V.drewN d):=Ty av.o HX.o ao.o BX.o ⟨λ_=>ab,λ_=>rfl⟩;clear ab ah;go_upto_region 17 with fail;go_quiet (first|(go_at_call 57;exact Fz (N.o _)));clear N av ao d0' cn am;go_upto_region 18 with fail
   all_goals
    obtain⟨V2,ak⟩:∃V2,V.drewN nq=V2:=⟨_,rfl⟩;have U:Hid (Bw V V2):=(by rw[<-ak];exact zB (wI V) nq);have aq:Hid (∀n S,wZ r (L2.map (·.z)) (i+1) S->Yt wr r (L2.map (·.z)) (Iv (No S)) (Iv ((i:Int)+1)) (V2.drewN n)):=λn S hk=>by rw[<-ak,Nc];exact bf.o _ _ hk
    rw[ak];clear ak;have c0'':=ue c0' U.o;clear c0';cases k with
    |none =>
     (try simp only[No])
     have ad:Hid (wZ r (L2.map (·.z)) (i+1) (some i)):=wZ.a C.o ai.o ap.o;clear C;go_quiet (fail);go_wp2;go_roundw;all_goals first
      |exact(aq.o _ (some i) ad.o)
      |(simp[intOf];omega)
    |some kk =>
     (try simp only[No])
     obtain⟨ch,mm,Y,a7,a8⟩:=C.o;rw[<-F.o,Du]at Y;obtain⟨y,t,rfl⟩:=Gu.1 Y;have bh:Hid (r[kk]?=some y.z):=(by show _=_;rw[<-F.o,Du,t];rfl);obtain⟨P,E⟩:=H.o;obtain⟨cd,e',_,c1⟩:=E.c t;obtain rfl:gb=cd:=(by injection e' with e';injection e');have c1':=ue c1 (uf aa U);have HY:=ua ((E.nm y (Be t)).q (uf aa U));have BY:=ua (HZ y (Be t));have ci:(kk:Int)<L.length:=oM;have cg:¬(kk:Int)<0:=oM;clear E e' c1 Y a7 a8 t;by_cases ac:Ei x.z y.z
     ·have ad:Hid (wZ r (L2.map (·.z)) (i+1) (some i)):=wZ.g C bh ai ap ac;have N:=ua (Ty (HX.q U) HY BX BY ⟨λ_=>ac,λ_=>rfl⟩);clear C ac;go_quiet (first|(go_at_call 57;exact Fz (N _)));go_wp2;go_roundw;all_goals first
       |exact(aq _ (some i) ad)
       |(simp[intOf];omega)
     have ad:Hid (wZ r (L2.map (·.z)) (i+1) (some kk)):=wZ.more C bh ai ac;have N:Hid (∀d,Cs 57 #[Sl x.a x.z.length x.c,Sl y.a y.z.length y.c] (V2.drewN d) λe w'=>e=Rt Bf/\w'=V2.drewN d):=Ty (HX.q U) HY BX BY ⟨λq=>aB q dC,λq=>aB q ac⟩;clear C ac;go_quiet (first|(go_at_call 57;exact Fz (N _)));go_wp2;go_roundw;all_goals first
      |exact(aq _ (some kk) ad)
      |(simp[intOf];omega)
  have hlt':¬(i:Int)<L.length:=oH Z.o;have HI:Hid (i=r.length):=by show i=r.length;omega
  cases k with
  |none =>
   (try simp only[No])
   have HE:Hid (∀z,z∈L2.map (·.z)↔z∈r):=HO.e (by have:=C;rw[HI.o]at this;exact this);go_wp2;go_ret;have hr:=O.b.q ag;rw[<-af.o.1]at hr;exact⟨oa,oc,L2.map (·.z),by rw[zN,<-G.o];rfl,HO.o.k,HE.o,hr,(H.o.m.c KK.o).c af.o.2⟩
  |some kk =>
   (try simp only[No])
   have hB:=C;rw[HI.o]at hB;have U:=ua hB;obtain⟨ch,mm,Y,a7,a8⟩:=hB;rw[<-F.o,Du]at Y;obtain⟨y,t,rfl⟩:=Gu.1 Y;have b7:Hid (Cz r (L2.map (·.z)++[y.z])):=HO.d U (by rw[<-F.o,Du,t];rfl);obtain⟨P,E⟩:=H;obtain⟨gb,rfl,_,c1⟩:=E.c t;have c1':=ue c1 aa;have HY:=ua ((E.nm y (Be t)).q aa);have c4:=ud c1';have ci:(kk:Int)<L.length:=oH Z.o;have cg:¬(kk:Int)<0:=oM;have c2:=cb y (Be t);have ca:Hid (∀W3 a3,wB (wM V W3) .u8 W3 a3 y.z.length (lf y.z)->wB (wM wr W3) .u8 W3 a3 y.z.length (lf y.z)):=λW3 a3 h=>h.g (λb hb=>⟨by have:=af.1;have:=hb.1;omega,hb.2⟩)
   have b5:=ua af.2;have cf:L2.length<=1048576:=oH G.o;clear E c1 Y a7 a8 t C af;go_wp2_with (first|(at_builtin;refine E1 rfl _ _ rfl rfl rfl (z:=y.z) HY.o oM ?_;intro a3 c3 W3 b3 b4)|(at_builtin;refine E0 rfl _ _ rfl rfl rfl (y:=⟨y.z,a3,c3⟩) O.o (b5.c b4) (ca _ _ b3) cf ?_;intro a5 c5 W5 ae));go_roundw
   ·exact⟨L2++[⟨y.z,a3,c3⟩],by rw[Cl];exact b7.o,ae.o⟩
   simp only[IS];have:=G.o;omega
 |cons q rest =>
  have a2:s.length<o.length:=by rw[D];simp
  have ce:L.length<=1000000:=by
   have W:L.length=(uB s).length:=(by rw[<-hL,zN]);have R:(uB o).length=(uB s).length+(uB (q::rest)).length:=(by rw[D];simp[uB]);omega
  have a6:o[s.length]?=some q:=by rw[D];simp
  obtain⟨b,off,rfl,X⟩:=HT.at a2;obtain⟨W,R,ba,bc,h3,h4,h5⟩:=X _ q a6;have bk:=ua (X _ q a6);have H:Hid (Ed w wr (Sl va L.length vc) L):=hR;have HQ:Hid (o=(s++[q])++rest/\L.map (·.z)=uB s):=⟨by rw[D];simp,hL⟩;have Z:Hid ((uB s).length+(yL q).length<=1000000):=by
   have R:(uB o).length=(uB s).length+((yL q).length+(uB rest).length):=(by rw[D];simp[uB]);show _<=_;omega
  have cr:q.e.tk.length<=1000000:=by
   have R:(o.flatMap Rl.tk).length=(s.flatMap Rl.tk).length+(q.tk.length+(rest.flatMap Rl.tk).length):=(by rw[D];simp);have:=q.c;have:=b8.o;omega
  have hdl':((s.length:Nat):Int)<o.length:=oM;clear X W R h3 h4 h5 D hL hR a6;have be:Hid (∃d,d=s.length):=⟨_,rfl⟩;obtain⟨d,a4⟩:=be.o;have b0:Hid (d=s.length):=a4;rw[<-a4]at a2 hdl' bk ⊢;clear a4 be;have T:=H.m.u;obtain⟨W,R,ba,bc,h3,h4,h5⟩:=bk;obtain⟨na,nc,n2,bt⟩:=R.nm;have bi:=ua bt;have bw:=ua h4;have bx:Hid (w.cell? (Ad b (off+d*6+5))=some (Sl ba q.e.tk.length bc)):=h3;have r0:=ue W T;have r1:=ue n2 T;clear W R h3 h4 h5 n2 bt T;go_upto_if 19 with fail;go_cut [3] from 9 to 61 (λv wc=>∃L:List NC,L.map (·.z)=uB s++(if q.a.isSome then [q.f.nm] else [])/\Ed w wc v L)
  ·cases al:q.a with
   |none =>
    rw[al]at r0;simp only[Option.isSome_none]at r0;go_wp2;go_meet
    case rel=>exact⟨L,by rw[HQ.o.2];simp[al],H.o⟩
   |some cc =>
    rw[al]at r0;simp only[Option.isSome_some]at r0;go_wp2_with (at_builtin;refine Ys rfl _ _ rfl rfl rfl (y:=⟨q.f.nm,na,nc⟩) H.o zM bi.o oM ?_;intro a5 c5 W5 ae);go_meet
    case rel=>exact⟨L++[⟨q.f.nm,na,nc⟩],by rw[Cl,HQ.o.2];simp[al],ae.o⟩
  obtain⟨L1,bn,a1⟩:=hcut;obtain⟨c6,c7,rfl⟩:=a1.a;have bg:=ua bn;have bj:=ua a1;clear bn a1 r0 r1 H bi;go_wp2;go_loopw [3,5] (E3 w q.e.tk (uB s++yL q)) (λ_ u _=>q.e.tk.length+1-(intOf u).toNat)
  ·exact⟨1,L1,oM,oM,rfl,by rw[bg.o];simp[yL],bj⟩
  obtain⟨j,L2,cs,ct,rfl,ay,I⟩:=hrel;obtain⟨co,cp,rfl⟩:=I.a;have T:=I.m.u;have r5:=ue bx.o T;have au:Hid (L2.map (·.z)++uF (q.e.tk.drop (j-1))=uB s++yL q):=ay;have O:Hid (Ed w wr (Sl co L2.length cp) L2):=I;have bp:L2.length<=1000000:=by
   have W:=zD List.length ay;have R:=Z.o;simp only[wK,zN]at W;omega
  clear ay I bj bg;by_cases bq:j<q.e.tk.length
  ·obtain⟨p,rfl⟩:∃p,j=p+1:=⟨j-1,oM⟩;obtain⟨bb,bo,rfl,X⟩:=bw.at (i:=p) oM;obtain⟨x,B⟩:∃x,q.e.tk[p]?=some x:=⟨_,zG oM⟩;obtain⟨y,t⟩:∃y,q.e.tk[p+1]?=some y:=⟨_,zG oM⟩;have s0:=ue (X p x B).e T;obtain⟨ya,yc,y2,bu⟩:=(X (p+1) y t).nm;have s1:=ue y2 T;have HY:=ua bu;have ax:Hid (L2.map (·.z)++((if x.e=94 then [y.nm] else [])++uF (q.e.tk.drop (p+1)))=uB s++yL q):=by
    have:=au.o;rw[Ke,G1 B t]at this;exact this
   have v1:((p+1:Nat):Int)-1=(p:Int):=oM;have hp:(p:Int)<q.e.tk.length:=oM;have hlt':((p+1:Nat):Int)<q.e.tk.length:=oM;clear X B t y2 bu au T;by_cases aj:x.e=94
   ·have aw:Hid ((L2++[(⟨y.nm,ya,yc⟩:NC)]).map (·.z)++uF (q.e.tk.drop (p+1))=uB s++yL q):=by
     have:=ax.o;rw[Zp aj]at this;rw[Cl,zU];exact this
    rw[aj]at s0;clear ax;go_wp2_with (at_builtin;refine Ys rfl _ _ rfl rfl rfl (y:=⟨y.nm,ya,yc⟩) O.o zM HY.o oM ?_;intro a5 c5 W5 ae);go_roundw
    ·exact⟨p+1+1,_,oM,oM,by go_num,aw.o,ae.o⟩
    simp[intOf];omega
   have aw:Hid (L2.map (·.z)++uF (q.e.tk.drop (p+1))=uB s++yL q):=by
    have:=ax;rw[Zn aj,Dl]at this;exact this
   have h94':(x.e==94)=false:=(by simpa using aj);go_wp2;go_roundw
   ·exact⟨p+1+1,_,oM,oM,by go_num,aw,O⟩
   simp[intOf];omega
  have hlt':¬(j:Int)<q.e.tk.length:=oM;have b6:Hid (L2.map (·.z)=uB (s++[q])):=by
   have:=au;rw[G2 oM,Ca]at this;exact this.trans (by simp[uB])
  have b2:Hid (((d:Int)+1)=((s++[q]).length:Nat)):=by
   have:=b0;show((d:Int)+1)=((s++[q]).length:Nat);rw[wK,<-this];simp
  go_wp2;go_roundw
  ·exact⟨s++[q],rest,L2,HQ.1,by rw[<-b2.o],b6,O⟩
  simp[intOf];omega
structure NL where
 nm:List Int
 h:Bool
 bd:List OpD
instance:Inhabited NL:=⟨⟨[],false,[]⟩⟩
structure GC where
 d:NL
 na:Option Addr
 nc:Nat
 ba:Option Addr
 bc:Nat
def Hl(x:GC):List Value:=[Sl x.na x.d.nm.length x.nc,Sl x.ba x.d.bd.length x.bc]
def Es(x:GC):List Value:=[Sl x.na x.d.nm.length x.nc,.bool x.d.h,Sl x.ba x.d.bd.length x.bc]
def Yp x:(Hl x).length=2:=rfl
def qK x:(Es x).length=3:=rfl
def C3(l:List GC):∀u∈l.flatMap Hl,u.oneCell'=true:=λu a=>by
 obtain⟨x,_,h⟩:=Hi.1 a;simp[Hl]at h;rcases h with rfl|rfl<;>rfl
def C4(l:List GC):∀u∈l.flatMap Es,u.oneCell'=true:=λu a=>by
 obtain⟨x,_,h⟩:=Hi.1 a;simp[Es]at h;rcases h with rfl|rfl|rfl<;>rfl
def Tg(G:Nat->Nat)(w:Wl)(t:Nat):Nat->Prop:=λb=>b<w.heap.size/\G b=t
structure Dv(w0:Wl)(G:Nat->Nat)(w:Wl)(rv lv:Vl)(rs ls:List GC):Prop where
 a:wC (Tg G w 0) w rv 2 rs.length (rs.flatMap Hl)
 c:wC (Tg G w 1) w lv 3 ls.length (ls.flatMap Es)
 rn:∀x∈rs,wB (Tg G w 2) .u8 w x.na x.d.nm.length (lf x.d.nm)
 ln:∀x∈ls,wB (Tg G w 2) .u8 w x.na x.d.nm.length (lf x.d.nm)
 rb:∀i x,rs[i]?=some x->zF (Tg G w (4+2*i)) w (Sl x.ba x.d.bd.length x.bc) x.d.bd
 lb:∀i x,ls[i]?=some x->zF (Tg G w (5+2*i)) w (Sl x.ba x.d.bd.length x.bc) x.d.bd
 e:∀b,G b≠3->w0.heap.size<=b
def qL{G w w'}(c:∀b,b<w.heap.size->G b≠3->w'.heap[b]?=w.heap[b]?){t}(d:t≠3):wQ (Tg G w t) w w':=λb a=>c b a.1 (by rw[a.2];exact d)
def xr{G c w w'}(e:w.heap.size<=w'.heap.size)(d:∀b,b<w.heap.size->c b=G b)t:∀b,Tg G w t b->Tg c w' t b:=λb a=>⟨by have:=a.1;omega,(d b a.1).trans a.2⟩
def Dv.on{w0 w w' G k m l rs ls}(h:Dv w0 G w m l rs ls)(j:w.heap.size<=w'.heap.size)(f:∀b,b<w.heap.size->G b≠3->w'.heap[b]?=w.heap[b]?)(e:∀b,b<w.heap.size->k b=G b)(n:∀b,k b≠3->w0.heap.size<=b):Dv w0 k w' m l rs ls :=
 ⟨uA (h.a.on (qL f oM)) (xr j e 0),uA (h.c.on (qL f oM)) (xr j e 1),
  λx d=>((h.rn x d).on (qL f oM)).g (xr j e 2),λx d=>((h.ln x d).on (qL f oM)).g (xr j e 2),
  λi x d=>((h.rb i x d).on (qL f oM)).g (xr j e _),λi x d=>((h.lb i x d).on (qL f oM)).g (xr j e _),n⟩
def ji(G:Nat->Nat)(w:Wl)(t:Nat):Nat->Nat:=λb=>if b<w.heap.size then G b else t
def vV{G w t b}(h:b<w.heap.size):ji G w t b=G b:=Zp h
def HR{G w t b}(h:w.heap.size<=b):ji G w t b=t:=Zn oM
def Dv.q{w0 w w' G f c rs ls C}(h:Dv w0 G w f c rs ls)(k:wA C w w')(g:∀b,C b->G b=3)t(j:w0.heap.size<=w.heap.size):Dv w0 (ji G w t) w' f c rs ls :=
 h.on k.h (λb a i=>k.d b a (λq=>i (g b q))) (λb a=>vV a) (λb a=>by
  by_cases e:b<w.heap.size
  ·rw[vV e]at a;exact h.e b a
  omega)
def C5{G w w' t b}(h:wM w w' b):Tg (ji G w t) w' t b:=⟨h.2,HR h.1⟩
def HT{α:Type}{l:List α}{x:α}{P:Nat->α->Prop}(h:∀i y,l[i]?=some y->P i y)(b:P l.length x):∀i y,(l++[x])[i]?=some y->P i y:=λi y a=>by
 by_cases e:i<l.length
 ·exact h i y (by rwa [Cr e]at a)
 have:=(zT.1 a).1;simp at this;obtain rfl:i=l.length:=oM;simp at a;exact a▸b
def HY{α:Type}{l:List α}{x:α}{P:α->Prop}(h:∀y∈l,P y)(a:P x):∀y∈l++[x],P y:=λy b=>(Bh.1 b).elim (h y) λq=>Aw.1 q▸a
def HZ{w0 w:Wl}{G:Nat->Nat}(h:∀b,G b≠3->w0.heap.size<=b)(c:w0.heap.size<=w.heap.size)(t:Nat):∀b,ji G w t b≠3->w0.heap.size<=b:=λb a=>by
 by_cases e:b<w.heap.size
 ·rw[vV e]at a;exact h b a
 omega
def IA{W W':Wl}{G:Nat->Nat}{t m:Nat}{v:Vl}{l:List GC}{x:GC}{f:GC->List Value}(own:wC (λb=>Tg G W t b\/W.heap.size<=b) W' v m (l.length+1) (l.flatMap f++f x))(k:0<m)(o:∀b,Tg G W t b->Tg (ji G W t) W' t b):wC (Tg (ji G W t) W' t) W' v m (l++[x]).length ((l++[x]).flatMap f):=by
 rw[show(l++[x]).length=l.length+1 by simp,show(l++[x]).flatMap f=l.flatMap f++f x by simp];rcases own with⟨_,q,_⟩|⟨g,cap,e,n,a,i,c,j⟩
 ·omega
 refine .inr ⟨g,cap,e,n.elim (o g) λq=>⟨?_,HR q⟩,a,i,c,j⟩;have d:0<(l.flatMap f++f x).length:=by rw[a];exact Nat.mul_pos oM k
 have h:=c 0 d;rw[zG d]at h;exact ud h
def Dv.h{w0 W2 W4 G p v4 l rs ls x}(h:Dv w0 G W2 p l rs ls)(o:w0.heap.size<=W2.heap.size)(m:wB (Tg G W2 2) .u8 W2 x.na x.d.nm.length (lf x.d.nm))(f:zF (Tg G W2 (4+2*rs.length)) W2 (Sl x.ba x.d.bd.length x.bc) x.d.bd)(own:wC (λb=>Tg G W2 0 b\/W2.heap.size<=b) W4 v4 2 (rs.length+1) (rs.flatMap Hl++Hl x))(k:wS (Tg G W2 0) W2 W4):Dv w0 (ji G W2 0) W4 v4 l (rs++[x]) ls:=by
 have st:∀{t:Nat},t≠0->wQ (Tg G W2 t) W2 W4:=λ{t} n b f=>k.d b f.1 (λq=>n (f.2.symm.trans q.2))
 have a:∀t b,Tg G W2 t b->Tg (ji G W2 0) W4 t b:=xr k.h (λb f=>vV f);exact⟨IA own oM (a 0),uA (h.c.on (st oM)) (a 1),HY (λy q=>((h.rn y q).on (st oM)).g (a 2)) ((m.on (st oM)).g (a 2)),λy j=>((h.ln y j).on (st oM)).g (a 2),HT (λi y j=>((h.rb i y j).on (st oM)).g (a _)) ((f.on (st oM)).g (a _)),λi y j=>((h.lb i y j).on (st oM)).g (a _),HZ h.e o 0⟩
def Dv.g{w0 W2 W4 G l v4 p rs ls x}(h:Dv w0 G W2 l p rs ls)(o:w0.heap.size<=W2.heap.size)(m:wB (Tg G W2 2) .u8 W2 x.na x.d.nm.length (lf x.d.nm))(f:zF (Tg G W2 (5+2*ls.length)) W2 (Sl x.ba x.d.bd.length x.bc) x.d.bd)(own:wC (λb=>Tg G W2 1 b\/W2.heap.size<=b) W4 v4 3 (ls.length+1) (ls.flatMap Es++Es x))(k:wS (Tg G W2 1) W2 W4):Dv w0 (ji G W2 1) W4 l v4 rs (ls++[x]):=by
 have st:∀{t:Nat},t≠1->wQ (Tg G W2 t) W2 W4:=λ{t} n b f=>k.d b f.1 (λq=>n (f.2.symm.trans q.2))
 have c:∀t b,Tg G W2 t b->Tg (ji G W2 1) W4 t b:=xr k.h (λb f=>vV f);exact⟨uA (h.a.on (st oM)) (c 0),IA own oM (c 1),λy j=>((h.rn y j).on (st oM)).g (c 2),HY (λy q=>((h.ln y q).on (st oM)).g (c 2)) ((m.on (st oM)).g (c 2)),λi y j=>((h.rb i y j).on (st oM)).g (c _),HT (λi y j=>((h.lb i y j).on (st oM)).g (c _)) ((f.on (st oM)).g (c _)),HZ h.e o 1⟩
def getElem?_set'{α:Type}{l:List α}{i j:Nat}{x y z:α}(b:l[i]?=some x)(h:(l.set i y)[j]?=some z):(j=i/\z=y)\/(j≠i/\l[j]?=some z):=by
 have a:=(zT.1 b).1;by_cases e:j=i
 ·subst e;rw[Lz a]at h;exact .inl ⟨rfl,(Ko h).symm⟩
 rw[Ol oM]at h;exact .inr ⟨e,h⟩
def C6{α:Type}{l:List α}{i:Nat}{y z:α}(h:z∈l.set i y):z=y\/z∈l:=(List.mem_or_eq_of_mem_set h).symm
def Dv.k{w0 w G r rs ls g n c i j x y u}(h:Dv w0 G w r (Sl (Sm g 0) n c) rs ls)(o:ls[i]?=some x)(v:j<3)(D:Es y=(Es x).set j u)(s:Tg G w 1 g)(A:wB (Tg G w 2) .u8 w y.na y.d.nm.length (lf y.d.nm))(m:zF (Tg G w (5+2*i)) w (Sl y.ba y.d.bd.length y.bc) y.d.bd) :
  Dv w0 G (w.setCell (Ad g (i*3+j)) u) r (Sl (Sm g 0) n c) rs (ls.set i y):=by
 have F:=(zT.1 o).1;have st:∀{t:Nat},t≠1->wQ (Tg G w t) w (w.setCell (Ad g (i*3+j)) u):=λ{t} C b m=>zJ _ (λe=>C (by rw[<-m.2,e];exact s.2))
 have f:∀t b,Tg G w t b->Tg G (w.setCell (Ad g (i*3+j)) u) t b:=xr (by rw[uj];exact wF) (λb m=>rfl);have B:n=ls.length:=by
  rcases h.c with⟨e,_⟩|⟨E,cap,e,_⟩
  ·cases e
  injection e
 refine⟨uA (h.a.on (st oM)) (f 0),?_,λz l=>((h.rn z l).on (st oM)).g (f 2),λz l=>?_,λk z l=>((h.rb k z l).on (st oM)).g (f _),λk z l=>?_,h.e⟩
 ·have p:=h.c;rw[B]at p ⊢;have:=uA (wC.k p (j:=i*3+j) (by rw[ki Es 3 qK];omega) u) (f 1);rw[GY Es 3 qK ls i j x y u o v D]at this;rw[Kq];exact this
 ·rcases C6 l with rfl|q
  ·exact(A.on (st oM)).g (f 2)
  exact((h.ln z q).on (st oM)).g (f 2)
 rcases getElem?_set' o l with⟨rfl,rfl⟩|⟨_,q⟩
 ·exact(m.on (st oM)).g (f _)
 exact((h.lb k z q).on (st oM)).g (f _)
def Dv.l{w0 w G n s rs ls}(h:Dv w0 G w n s rs ls){i x}(j:rs[i]?=some x):∃g c,n=Sl (Sm g 0) rs.length c/\Tg G w 0 g/\rs.length<=c/\w.cell? (Ad g (i*2))=some (Sl x.na x.d.nm.length x.nc)/\w.cell? (Ad g (i*2+1))=some (Sl x.ba x.d.bd.length x.bc)/\w.frozen? (Ad g (i*2))=false/\w.frozen? (Ad g (i*2+1))=false:=by
 have t:=(zT.1 j).1;obtain⟨g,c,e,r,q,b⟩:=h.a.f oM;rw[ki Hl 2 Yp]at b;have k:=b (i*2) oM;have m:=b (i*2+1) oM;have o:=yu Hl 2 Yp rs i 0 x j oM;have p:=yu Hl 2 Yp rs i 1 x j oM;exact⟨g,c,e,r,q,k.1.trans o,m.1.trans p,k.2,m.2⟩
def Dv.j{w0 w G t m rs ls}(h:Dv w0 G w t m rs ls){i x}(b:ls[i]?=some x):∃g c,m=Sl (Sm g 0) ls.length c/\Tg G w 1 g/\ls.length<=c/\w.cell? (Ad g (i*3))=some (Sl x.na x.d.nm.length x.nc)/\w.cell? (Ad g (i*3+1))=some (.bool x.d.h)/\w.cell? (Ad g (i*3+2))=some (Sl x.ba x.d.bd.length x.bc)/\w.frozen? (Ad g (i*3+1))=false/\w.frozen? (Ad g (i*3+2))=false:=by
 have u:=(zT.1 b).1;obtain⟨g,c,e,s,r,a⟩:=h.c.f oM;rw[ki Es 3 qK]at a;have q:=a (i*3) oM;have k:=a (i*3+1) oM;have l:=a (i*3+2) oM;have n:=yu Es 3 qK ls i 0 x b oM;have o:=yu Es 3 qK ls i 1 x b oM;have p:=yu Es 3 qK ls i 2 x b oM;exact⟨g,c,e,s,r,q.1.trans n,k.1.trans o,l.1.trans p,k.2,l.2⟩
def uR(x:NL):uh:=⟨x.nm.length,lf x.nm,x.h,x.bd.length,df x.bd⟩
def gram(rs ls:List NL):Gr:=⟨rs.length,λi=>uR (rs.getD i default),ls.length,λi=>uR (ls.getD i default)⟩
def IB{l:List GC}{i:Nat}{x:GC}(h:l[i]?=some x):(l.map (·.d)).getD i default=x.d:=by rw[Cx,Du,h];rfl
def Dv.f{w0 w G E C rs ls}(h:Dv w0 G w E C rs ls):∃ra rc la lc,E=Sl ra rs.length rc/\C=Sl la ls.length lc/\zC (wM w0 w) w ra la (gram (rs.map (·.d)) (ls.map (·.d))):=by
 have o:∀{t:Nat},t≠3->∀b,Tg G w t b->wM w0 w b:=λ{t} L b k=>⟨h.e b (by rw[k.2];exact L),k.1⟩
 obtain⟨ra,rc,u⟩:=uq h.a;obtain⟨la,lc,r⟩:=uq h.c;refine⟨ra,rc,la,lc,u,r,⟨?_,?_⟩⟩
 ·by_cases x:rs.length=0
  ·exact .inl (by show(rs.map (·.d)).length=0;rw[zN];exact x)
  obtain⟨g,c,e,A,I,J⟩:=h.a.f oM;rw[u]at e;obtain rfl:ra=some (Ad g 0):=by injection e
  refine .inr ⟨g,0,rfl,o oM g A,λi z=>?_⟩;have hi':i<rs.length:=by
   have:i<(rs.map (·.d)).length:=z;rwa [zN]at this
  have n:rs[i]?=some rs[i]:=zG hi';have s:(Go.Proofs.YtoihadcablknpaaGreatDoor.gram (rs.map (·.d)) (ls.map (·.d))).a i=uR rs[i].d:=by show uR _=_;rw[IB n]
  rw[s];obtain⟨v,F,p,_,_,B,q,_,_⟩:=h.l n;rw[u]at p;obtain rfl:v=g:=by injection p with e1;injection e1 with e1;injection e1 with e1;exact e1.symm
  have k:=h.rb i _ n;obtain⟨_,H,m,y⟩:=k.a;injection m with _ _ m;rw[zL];exact⟨⟨⟨_,_,B,(h.rn _ (Gb hi')).g (o oM)⟩,⟨_,_,q,k.e.g (o oM)⟩⟩,⟨_,_,q,by rw[m];exact y⟩⟩
 by_cases x:ls.length=0
 ·exact .inl (by show(ls.map (·.d)).length=0;rw[zN];exact x)
 obtain⟨g,c,e,A,I,J⟩:=h.c.f oM;rw[r]at e;obtain rfl:la=some (Ad g 0):=by injection e
 refine .inr ⟨g,0,rfl,o oM g A,λi z=>?_⟩;have hi':i<ls.length:=by
  have:i<(ls.map (·.d)).length:=z;rwa [zN]at this
 have n:ls[i]?=some ls[i]:=zG hi';have s:(Go.Proofs.YtoihadcablknpaaGreatDoor.gram (rs.map (·.d)) (ls.map (·.d))).d i=uR ls[i].d:=by show uR _=_;rw[IB n]
 rw[s];obtain⟨v,F,p,_,_,B,q,D,_,_⟩:=h.j n;rw[r]at p;obtain rfl:v=g:=by injection p with e1;injection e1 with e1;injection e1 with e1;exact e1.symm
 have k:=h.lb i _ n;obtain⟨_,H,m,y⟩:=k.a;injection m with _ _ m;rw[zL];exact⟨⟨⟨_,_,B,(h.ln _ (Gb hi')).g (o oM)⟩,q,⟨_,_,D,k.e.g (o oM)⟩⟩,⟨_,_,D,by rw[m];exact y⟩⟩
structure Gz(gb:Nat)(w0:Wl)(G:Nat->Nat)(w:Wl)(rv lv:Vl)(rs ls:List GC):Prop where
 c0:w.cell? (Ad gb 0)=some rv
 c1:w.cell? (Ad gb 1)=some lv
 f0:w.frozen? (Ad gb 0)=false
 f1:w.frozen? (Ad gb 1)=false
 gr:Dv w0 G w rv lv rs ls
 tg:G gb=3
 lt:gb<w.heap.size
 le:w0.heap.size<=w.heap.size
def Gz.a{gb R w0 w G c b rs ls}(h:Gz gb w0 G w c b rs ls)(d:R<w0.heap.size):G R=3:=by
 by_cases e:G R=3
 ·exact e
 have:=h.gr.e R e;omega
def Gz.q{gb w0 w w' G g f rs ls C}(h:Gz gb w0 G w g f rs ls)(k:wA C w w')(e:∀b,C b->b<w0.heap.size/\b≠gb)t:Gz gb w0 (ji G w t) w' g f rs ls:=by
 have c:=k.d gb h.lt (λq=>(e gb q).2 rfl);exact⟨(zI (a:=(Ad gb 0)) c).trans h.c0,(zI (a:=(Ad gb 1)) c).trans h.c1,(Ec (a:=(Ad gb 0)) c).trans h.f0,(Ec (a:=(Ad gb 1)) c).trans h.f1,
  h.gr.q k (λb q=>h.a (e b q).1) t h.le,by rw[vV h.lt];exact h.tg,wX h.lt k.h,wN h.le k.h⟩
def C7{W g x t}(b:W.heap[g]?=some (Oc #[Sl x.na x.d.nm.length x.nc,Sl x.ba x.d.bd.length x.bc] t)):Src prog 2 34 (Sl (Sm g 0) 1 1) 1 (Hl x) W:=by
 refine vC underlying34 rfl (λj u a=>?_) (λu a=>C3 [x] u (by simpa using a));simp only[World.cell?,b];rw[<-a];simp[Hl]
def C8{W g x t}(b:W.heap[g]?=some (Oc #[Sl x.na x.d.nm.length x.nc,.bool x.d.h,Sl x.ba x.d.bd.length x.bc] t)):Src prog 3 35 (Sl (Sm g 0) 1 1) 1 (Es x) W:=by
 refine vC underlying35 rfl (λj u a=>?_) (λu a=>C4 [x] u (by simpa using a));simp only[World.cell?,b];rw[<-a];simp[Es]
def C9{gb a b W2 W4 G f e rs ls}(h:Gz gb b G W2 f e rs ls)(g:a≠3)(c:wS (Tg G W2 a) W2 W4):W4.heap[gb]?=W2.heap[gb]? :=
 c.d gb h.lt (λq=>by have:=q.2;rw[h.tg]at this;omega)
def Tv{gb e f W2 W4 G d c rs ls}(h:Gz gb f G W2 d c rs ls)(i:e≠3)(g:wS (Tg G W2 e) W2 W4):W4.cell? (Ad gb 0)=some d/\W4.cell? (Ad gb 1)=some c/\W4.frozen? (Ad gb 0)=false/\W4.frozen? (Ad gb 1)=false:=by
 have b:=C9 h i g;exact⟨(zI (a:=(Ad gb 0)) b).trans h.c0,(zI (a:=(Ad gb 1)) b).trans h.c1,(Ec (a:=(Ad gb 0)) b).trans h.f0,(Ec (a:=(Ad gb 1)) b).trans h.f1⟩
def D0 P w:zF P w nS []:=⟨λ_=>0,[],⟨.inl ⟨rfl,rfl,rfl⟩,λi x a=>by simp at a⟩,rfl⟩
def Dv.set{w0 w G c a u rs ls rb o}(h:Dv w0 G w c a rs ls)(f:G rb=3):Dv w0 G (w.setCell (Ad rb o) u) c a rs ls :=
 h.on (by rw[uj];exact wF) (λb d g=>zJ _ (λe=>g (by rw[show b=rb from e];exact f))) (λb d=>rfl) h.e
structure Ar(n:Nat)(x:wH):Prop where
 j:wW x.nm
 c:x.nm.length<=n
 set:x.set = []\/∃M,x.set=rg M 256
 cls:x.e=91->∃M,x.set=rg M 256
 f:x.e=110->(∀y∈x.nm,yd y)/\∃y r,x.nm=y::r/\M.bH y
def JK t:∀(f j:Nat) (z:LI),wW z->(∀y∈z,yd y)->j<=t.n->wW (vO t f j z).1/\(∀y∈(vO t f j z).1,yd y)/\(vO t f j z).1.length+j=z.length+(vO t f j z).2/\(∃r,(vO t f j z).1=z++r)
 |0,j,z,hb,hc,hj=>⟨hb,hc,rfl,[],by rw[Ca];rfl⟩
 |f+1,j,z,hb,hc,hj=>by
  rw[vO];split
  ·rename_i h;have g:∀y∈z++[t.T j],yd y:=λy a=>by
    rcases Bh.1 a with q|q
    ·exact hc y q
    rw[Aw.1 q];exact h.2
   have i:wW (z++[t.T j]):=λy a=>by
    rcases Bh.1 a with q|q
    ·exact hb y q
    rw[Aw.1 q];exact t.j j
   obtain⟨b,c,d,r,e⟩:=JK t f (j+1) _ i g h.1;refine⟨b,c,?_,t.T j::r,by rw[e];simp⟩;simp at d;omega
  exact⟨hb,hc,rfl,[],by rw[Ca]⟩
def JL t:∀(f j:Nat) (z:LI) (r:List Int×Nat),wW z->j<=t.n->Hy t f j z=some r->wW r.1/\r.1.length+j<=z.length+r.2
 |0,j,z,r,hb,hj,h=>by rw[Hy]at h;cases h
 |f+1,j,z,r,hb,hj,h=>by
  rw[Hy]at h;split at h
  ·injection h with h;subst h;exact⟨hb,sM⟩
  split at h
  ·cases h
  rename_i e;have a:=xO t j false hj;obtain⟨b,c⟩:=JL t f _ _ r (λy d=>by
   rcases Bh.1 d with q|q
   ·exact hb y q
   rw[Aw.1 q];exact⟨a.1,a.2.1⟩) a.2.2 h
  refine⟨b,?_⟩;simp at c;omega
def JM t{i}(a:i<t.n):Ar t.n (vF t i).1/\((vF t i).1.e≠0->(vF t i).1.nm.length+i<=(vF t i).2)/\((vF t i).1.e=0->(vF t i).1.nm = []):=by
 have c:wW []:=λy b=>by cases b
 have bad:Ar t.n (⟨0,i,[],[]⟩:wH):=⟨c,wP,.inl rfl,(λh=>aB h (by show(0:Int)≠91;omega)),(λh=>aB h (by show(0:Int)≠110;omega))⟩;unfold vF;split
 ·rename_i f;have m:t.n-i=(t.n-i-1)+1:=oM;rw[m,vO,Zp ⟨a,.inl f⟩,Dl];have g:wW [t.T i]:=λy b=>by rw[Aw.1 b];exact t.j i
  have d:∀y∈[t.T i],yd y:=λy b=>by rw[Aw.1 b];exact .inl f
  obtain⟨k,l,s,r,u⟩:=JK t (t.n-i-1) (i+1) [t.T i] g d a;have x:=Zk t (t.n-i-1) (i+1) [t.T i] a;simp only[Bs]at s;refine⟨⟨k,by first|(simp only;omega)|omega,.inl rfl,(λh=>aB h (by show(110:Int)≠91;omega)),λ_=>⟨l,t.T i,r,by rw[u];rfl,f⟩⟩,(λ_=>by first|(simp only;omega)|omega),(λh=>aB h (by show(110:Int)≠0;omega))⟩
 rename_i f;split
 ·rename_i p;cases h:Jj t i with
  |none=>exact⟨bad,(λq=>absurd rfl q),(λ_=>rfl)⟩
  |some q =>
   obtain⟨z,j⟩:=q;have o:=Yy a h;obtain⟨k,l⟩:=JL t _ _ _ _ c a h;simp only[Ef,zL]at l o;simp only;exact⟨⟨k,by first|(simp only;omega)|omega,.inl rfl,(λh=>aB h (by show(34:Int)≠91;omega)),(λh=>aB h (by show(34:Int)≠110;omega))⟩,(λ_=>by first|(simp only;omega)|omega),(λh=>aB h (by show(34:Int)≠0;omega))⟩
 split
 ·cases h:jY t i with
  |none=>exact⟨bad,(λq=>absurd rfl q),(λ_=>rfl)⟩
  |some q =>
   obtain⟨z,j⟩:=q;have o:=Za a h;have g:∃M,z=rg M 256:=by
    unfold jY at h;cases d:xf t (t.n+2-i) (Kz t i) (λ_=>false) with
    |none=>rw[d]at h;cases h
    |some q=>rw[d]at h;injection h with h;injection h with m p;exact⟨_,m.symm⟩
   simp only at o ⊢;exact⟨⟨c,wP,.inr g,(λ_=>g),(λh=>aB h (by show(91:Int)≠110;omega))⟩,(λ_=>sO),(λh=>aB h (by show(91:Int)≠0;omega))⟩
 split
 ·rename_i p v w;simp only;refine⟨⟨c,wP,.inl rfl,(λh=>aB h v),(λh=>?_)⟩,(λ_=>sM),(λ_=>by trivial)⟩;have h:t.T i=110:=h;exact aB w (by rw[h];decide)
 simp only;exact⟨bad,(λq=>aB rfl q),(λ_=>by trivial)⟩
def Bb:List wH->Nat
 |[]=>0
 |x::r=>x.nm.length+1+Bb r
def xM a b:Bb (a++b)=Bb a+Bb b:=by
 induction a with
 |nil=>simp[Bb]
 |cons x a c=>rw[Cb,Bb,Bb,c];omega
def jH a:a.length<=Bb a:=by
 induction a with
 |nil=>simp[Bb]
 |cons x a b=>rw[Bb,zQ];omega
def JN t:∀f i,i<=t.n->(∀x∈yN t f i,Ar t.n x)/\Bb (yN t f i)<=2*(t.n-i)
 |0,i,hi=>⟨(λx a=>by cases a),wP⟩
 |f+1,i,hi=>by
  rw[yN];split
  ·rename_i d;obtain⟨c,g,h⟩:=JM t d;split
   ·rename_i b;refine⟨λx a=>by rw[Aw.1 a];exact c,?_⟩;have:=h b;simp[Bb,this];omega
   rename_i b;have j:=Rj t d b;have m:=Ui t (vF t i).2;have k:=Uj t j.2;obtain⟨e,l⟩:=JN t f (skip t (vF t i).2) k;have:=g b;refine⟨λx a=>?_,?_⟩
   ·rcases Bx.1 a with rfl|q
    ·exact c
    exact e x q
   rw[Bb];omega
  exact⟨(λx a=>by cases a),wP⟩
def Uh t:(∀x∈uI t,Ar t.n x)/\Bb (uI t)<=2*t.n:=by
 have h:=JN t (t.n+1) (skip t 0) (Uj t wP);exact⟨h.1,wN h.2 oM⟩
def Ar.ok{n x}(h:Ar n x)(a:n<=400000):HP x:=by
 refine⟨h.j,wN h.c a,?_⟩;rcases h.set with q|⟨M,q⟩
 ·rw[q];exact wP
 rw[q];exact wN (CT M 256) oM
def H1 z:(yi z).length<=2*z.length+1:=by
 cases z with
 |nil=>simp[yi,uN]
 |cons x r=>rw[yi,jE];simp[vr];omega
def JO(rs ls:List LI)(e:PE):(∀l,l<=3->e.ok l->(e.e rs ls).length+1<=4*Bb e.tk)/\(e.ok 5->(e.e rs ls).length<=4*Bb e.tk+1):=by
 induction e with
 |ref t|thr c t=>exact⟨λl f h=>by simp[PE.e,PE.tk,uN,Bb];omega,λh=>by simp[PE.e,PE.tk,uN,Bb]⟩
 |str t=>have:=H1 t.nm;exact⟨λl f h=>by simp[PE.e,PE.tk,Bb];omega,λh=>by simp[PE.e,PE.tk,Bb];omega⟩
 |cls t|dot t=>exact⟨λl f h=>by simp[PE.e,PE.tk,vr,Bb];omega,λh=>by simp[PE.e,PE.tk,vr,Bb]⟩
 |grp o e c g =>
  have d:e.ok 5->(e.e rs ls).length+1<=4*Bb (PE.grp o e c).tk:=λh=>by have:=g.2 h;simp only[PE.tk,Bb,xM];omega
  exact⟨λl f h=>d h.2.2,λh=>by have:=d h.2.2;simp only[PE.e];omega⟩
 |star e t g =>
  have d:e.ok 0->(Bu 6 (e.e rs ls)).length+1<=4*Bb (PE.star e t).tk:=λh=>by have:=g.1 0 oM h;simp only[PE.tk,Bb,xM,Bu,wK,Bs];omega
  exact⟨λl f h=>d h.2.2,λh=>by have:=d h.2.2;simp only[PE.e];omega⟩
 |opt e t g =>
  have d:e.ok 0->(vU 5 (e.e rs ls) (uN 0 0)).length+1<=4*Bb (PE.opt e t).tk:=λh=>by have:=g.1 0 oM h;simp only[PE.tk,Bb,xM,vU,uN,wK,Bs];omega
  exact⟨λl f h=>d h.2.2,λh=>by have:=d h.2.2;simp only[PE.e];omega⟩
 |not t e g =>
  have d:e.ok 2->(Bu 7 (e.e rs ls)).length+1<=4*Bb (PE.not t e).tk:=λh=>by have:=g.1 2 oM h;simp only[PE.tk,Bb,Bu,wK,Bs];omega
  exact⟨λl f h=>d h.2.2,λh=>by have:=d h.2.2;simp only[PE.e];omega⟩
 |amp t e g =>
  have d:e.ok 2->(Bu 7 (Bu 7 (e.e rs ls))).length+1<=4*Bb (PE.amp t e).tk:=λh=>by have:=g.1 2 oM h;simp only[PE.tk,Bb,Bu,wK,Bs];omega
  exact⟨λl f h=>d h.2.2,λh=>by have:=d h.2.2;simp only[PE.e];omega⟩
 |emp=>exact⟨λl f h=>absurd (show 4<=l from h) oM,λ_=>by simp[PE.e,uN]⟩
 |seq a b i j =>
  have d:a.ok 3->b.ok 2->(vU 4 (a.e rs ls) (b.e rs ls)).length+1<=4*Bb (PE.seq a b).tk:=λh k=>by have:=i.1 3 oM h;have:=j.1 2 oM k;simp only[PE.tk,xM,vU,wK,Bs];omega
  exact⟨λl f h=>d h.2.1 h.2.2,λh=>by have:=d h.2.1 h.2.2;simp only[PE.e];omega⟩
 |alt a t b i j =>
  refine⟨λl f h=>aB h.1 oM,λh=>?_⟩;have:=i.2 h.2.2.1;have:=j.2 (PE.c b oM h.2.2.2);simp only[PE.e,PE.tk,Bb,xM,vU,wK,Bs];omega
def H2:∀z,∀x∈yi z,x.sl<=2:=by
 have c:∀(r:LI) (D:List OpD),(∀x∈D,x.sl<=2)->∀x∈r.foldl (λout y=>out++vr (yB y)++[zY 4 0]) D,x.sl<=2:=by
  intro r;induction r with
  |nil=>exact λD h=>h
  |cons y r b =>
   intro D h;rw[List.foldl_cons];refine b _ (λx a=>?_);simp only[Bh,Aw]at a;rcases a with (q|q)|q
   ·exact h x q
   ·rw[vr]at q;rw[Aw.1 q];exact wF
   rw[q];exact wP
 intro z;cases z with
 |nil=>intro x a;rw[yi,uN]at a;rw[Aw.1 a];exact wP
 |cons y r=>exact c r _ (λx a=>by rw[vr]at a;rw[Aw.1 a];exact wF)
def JP{rs ls:List LI}{e:PE}(N:Nat)(l:2<=N)(h:∀t∈e.tk,t.set.length<=N):∀x∈e.e rs ls,x.sl<=N:=by
 have m:∀k a,∀x∈uN k a,x.sl<=N:=λk a x d=>by rw[uN]at d;rw[Aw.1 d];exact wP
 have un:∀k D,(∀x∈D,x.sl<=N)->∀x∈Bu k D,x.sl<=N:=λk D h x d=>by
  rw[Bu]at d;rcases Bh.1 d with q|q
  ·exact h x q
  rw[Aw.1 q];exact wP
 have j:∀k D i,(∀x∈D,x.sl<=N)->(∀x∈i,x.sl<=N)->∀x∈vU k D i,x.sl<=N:=λk D i h n x d=>by
  rw[vU]at d;simp only[Bh,Aw]at d;rcases d with (q|q)|q
  ·exact h x q
  ·exact n x q
  rw[q];exact wP
 induction e with
 |ref t|thr c t|emp=>exact m _ _
 |str t=>exact λx d=>wN (H2 _ x d) l
 |cls t=>intro x d;rw[PE.e,vr]at d;rw[Aw.1 d];exact h t (by simp[PE.tk])
 |dot t=>intro x d;rw[PE.e,vr]at d;rw[Aw.1 d];exact l
 |grp o e c g=>exact g (λt f=>h t (by simp[PE.tk,f]))
 |star e t g|not t e g=>exact un _ _ (g (λt f=>h t (by simp[PE.tk,f])))
 |opt e t g=>exact j _ _ _ (g (λt f=>h t (by simp[PE.tk,f]))) (m _ _)
 |amp t e g=>exact un _ _ (un _ _ (g (λt f=>h t (by simp[PE.tk,f]))))
 |seq a b iha ihb|alt a t b iha ihb=>exact j _ _ _ (iha (λt f=>h t (by simp[PE.tk,f]))) (ihb (λt f=>h t (by simp[PE.tk,f])))
def xH(s q:Rl):Bool:=(s.a.isSome==q.a.isSome)&&decide (s.f.nm=q.f.nm)
def yM:List Rl->List Rl->Option Nat
 |_,[]=>none
 |seen,q::r=>if seen.any (λs=>xH s q) then some q.f.f else yM (seen++[q]) r
def ug(b:List Rl):List LI:=(b.filter (λq=>!q.a.isSome)).map (λq=>q.f.nm)
def yU(a:List LI):Bool->List wH->Option Nat
 |_,[]=>none
 |pc,t::r=>if t.e=110/\pc=false/\t.nm ∉ a then some t.f else yU a (t.e==94) r
def yW(a:List LI):List Rl->Option Nat
 |[]=>none
 |q::r=>match yU a false q.e.tk with|some p=>some p|none=>yW a r
def Ph(a ls:List LI)(q:Rl):NL:=⟨q.f.nm,true,q.e.e a ls⟩
def uE(b ls:List LI)(c:List Rl):List NL:=(c.filter (λq=>!q.a.isSome)).map (Ph b ls)
def vx(b ls:List LI)(c:List Rl)(z:LI):NL :=
 match c.find? (λq=>q.a.isSome&&decide (q.f.nm=z)) with
 |some q=>⟨z,true,q.e.e b ls⟩
 |none=>⟨z,false,[]⟩
def uG(a ls:List LI)(b:List Rl):List NL:=ls.map (vx a ls b)
def ux(ls:List LI)(a:List Rl):Gr:=gram (uE (ug a) ls a) (uG (ug a) ls a)
def yh:Gr:=gram [] []
def yA(n:Nat)(a:List Rl)(c b:Int)(g:Gr):Prop :=
 match yM [] a with
 |some p=>c=6/\b=(p:Nat)/\g=yh
 |none =>
  match yW (ug a) a with
  |some p=>c=6/\b=(p:Nat)/\g=yh
  |none =>
   if ug a = [] then c=6/\b=(n:Nat)/\g=yh
   else ∃ls,Dp ls/\(∀z,z∈ls↔z∈uB a)/\((M.Valid (ux ls a)/\c=0/\b=0/\g=ux ls a)\/(¬M.Valid (ux ls a)/\c=7/\b=0/\g=yh))
def qp:∀{seen b:List Rl},yM seen b=none->∀(i:Nat) (q:Rl),b[i]?=some q->∀s∈seen++b.take i,xH s q=false
 |seen,[],_,i,q,hq=>by simp at hq
 |seen,x::r,h,i,q,hq=>by
  rw[yM]at h;split at h
  ·cases h
  rename_i c;have hn':∀s∈seen,xH s x=false:=λs a=>by
   by_cases e:xH s x=true
   ·exact aB (List.any_eq_true.2 ⟨s,a,e⟩) c
   simpa using e
  cases i with
  |zero =>
   simp at hq;subst hq;simpa using hn'
  |succ i =>
   simp at hq;have:=qp h i q hq;intro s a;refine this s ?_;simp at a ⊢;exact a
end Go.Proofs.YtoihadcablknpaaGreatDoor
