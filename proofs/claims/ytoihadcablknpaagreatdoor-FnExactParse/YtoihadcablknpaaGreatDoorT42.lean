import Derived.Test.YtoihadcablknpaaGreatDoorT38
import Derived.Test.YtoihadcablknpaaGreatDoorT41
set_option linter.unusedVariables false
set_option linter.unusedSimpArgs false
set_option linter.defProp false
set_option maxHeartbeats 40000000
set_option maxRecDepth 100000
namespace Go.Proofs.YtoihadcablknpaaGreatDoor
open Go.RowKit
open Go.Proofs.Tryz
open M (OpD uh Gr uw)
attribute [local go_sem] udz
def Q3{mO:Int}{s:wD}(d:s.e=false)(x:uw)(il:Nat)(I:Nat->Int):(s.q x il I mO).e=true->0<=(s.q x il I mO).i:=by
 have g:∀(s:wD) (c:Int),0<=c->(s.t c).e=true->0<=(s.t c).i:=λs c h _=>h
 have j:∀s:wD,s.e=false->s.fail.e=true->0<=s.fail.i:=λs h=>by
  unfold wD.fail;split
  ·exact g _ _ dC
  intro q;have q':=q;rw[h]at q';cases q'
 have p:∀(s:wD) f,s.e=false->(s.n f mO).e=true->0<=(s.n f mO).i:=λs f h=>by
  unfold wD.n;split
  ·exact g _ _ dC
  intro q;have q':=q;rw[h]at q';cases q'
 have l:∀t:wD,t.e=false->t.e=true->0<=t.i:=λt h q=>by rw[h]at q;cases q
 have o:∀n S,(s.m n S).e=s.e:=λn S=>AM
 have k:∀(c:Prop) [Decidable c] (a b:wD),(a.e=true->0<=a.i)->(b.e=true->0<=b.i)->(if c then a else b).e=true->0<=(if c then a else b).i:=λc _ a b r v=>by split<;>assumption
 unfold wD.q wD.u;repeat' first|exact l _ d|exact p _ _ d|exact g _ _ dC|exact j _ d|exact j _ (by split;exact d;exact(o _ _).trans d)|refine k _ _ _ ?_ ?_
def LW{mO:Int}{s:wD}(x:uw)(il:Nat)(I:Nat->Int)(h:x.e<0\/13<=x.e):s.q x il I mO=s.t 4:=by
 unfold wD.q;have n:∀k:Int,0<=k->k<13->¬x.e=k:=λk a b e=>by omega
 simp[n 0 dC dC,n 1 dC dC,n 2 dC dC,n 3 dC dC,n 4 dC dC,n 5 dC dC,n 6 dC dC,n 7 dC dC,n 8 dC dC,n 9 dC dC,n 10 dC dC,n 11 dC dC,n 12 dC dC]
def Q4 K L Q Q'(b l m n:Nat)s x sa(sc:Nat)c(il ic:Nat)I(mO:Int)g(h:Nat)la(lc:Nat)(k:Nat)w(i:wO K L w b s.nx c il ic mO g h la lc)(j:AP mO s)(G:s.d<=1048576)(a:x.e=(k:Int))(o:k<13)(B:wB Q .i64 w sa x.sl x.set)(F:x.sl<=1048576)(A:wB Q' .u8 w c il I)(z:Fe il I)(C:il<=1048576)(D:¬Q b)(E:∀y,Q y->y<w.heap.size)(r:w.cell? (Ad l 0)=some (Iv 0))(t:w.cell? (Ad m 0)=some (Iv 1))(u:w.cell? (Ad n 0)=some (Iv 2))(p:¬L l/\¬L m/\¬L n) :
  ∃f cap,(Nu l m n)[k]?=some (.func (.func f) #[] cap)/\(∀args w,(callFunc f args).run prog w=.ok (.enter f args) w)/\Cs f (#[.pointer (Sm b 0),kL x sa sc]++cap) w (wE (s.q x il I mO) K L b c il ic mO w):=by
 match k,o,a with
 |0,_,a=>exact⟨_,#[],rfl,enters_of func175 rR rfl,S1 K L Q Q' b s x sa sc c il ic I mO g h la lc w i j a B F A z C D E⟩
 |1,_,a=>exact⟨_,#[],rfl,enters_of func176 rR rfl,L4 K L b s x sa sc c il ic I mO g h la lc w i j a⟩
 |2,_,a=>exact⟨_,#[],rfl,enters_of func177 rR rfl,KN K L b s x sa sc c il ic I mO g h la lc w i j (.inl ⟨a,rfl⟩)⟩
 |3,_,a=>exact⟨_,#[],rfl,enters_of func178 rR rfl,L6 K L b s x sa sc c il ic I mO g h la lc w i j a⟩
 |4,_,a=>exact⟨_,#[],rfl,enters_of func179 rR rfl,L8 K L b s x sa sc c il ic I mO g h la lc w i j a⟩
 |5,_,a=>exact⟨_,#[],rfl,enters_of func180 rR rfl,L5 K L b s x sa sc c il ic I mO g h la lc w i j a⟩
 |6,_,a =>
  refine⟨_,#[],rfl,enters_of func181 rR rfl,?_⟩;have e:s.q x il I mO=s.v x mO:=by unfold wD.q;simp only[a];simp
  rw[e];exact KM K L b s x sa sc c il ic I mO g h la lc w i j
 |7,_,a=>exact⟨_,#[],rfl,enters_of func182 rR rfl,KN K L b s x sa sc c il ic I mO g h la lc w i j (.inr ⟨a,rfl⟩)⟩
 |8,_,a=>exact⟨_,#[],rfl,enters_of func183 rR rfl,L7 K L b s x sa sc c il ic I mO g h la lc w i j G a⟩
 |9,_,a =>
  refine⟨_,#[.pointer (Sm l 0)],rfl,enters_of func211 rR rfl,?_⟩;have e:s.q x il I mO=s.k 0 x.f:=by unfold wD.q;simp only[a];simp
  rw[e];exact qq K L b l 0 s x sa sc c il ic mO g h la lc w i j r p.1
 |10,_,a =>
  refine⟨_,#[.pointer (Sm m 0)],rfl,enters_of func211 rR rfl,?_⟩;have e:s.q x il I mO=s.k 1 x.f:=by unfold wD.q;simp only[a];simp
  rw[e];exact qq K L b m 1 s x sa sc c il ic mO g h la lc w i j t p.2.1
 |11,_,a =>
  refine⟨_,#[.pointer (Sm n 0)],rfl,enters_of func211 rR rfl,?_⟩;have e:s.q x il I mO=s.k 2 x.f:=by unfold wD.q;simp only[a];simp
  rw[e];exact qq K L b n 2 s x sa sc c il ic mO g h la lc w i j u p.2.2
 |12,_,a=>exact⟨_,#[],rfl,enters_of func185 rR rfl,L3 K L b s x sa sc c il ic I mO g h la lc w i j a⟩
 |k+13,o,_=>exact absurd o oM
def LX{P:Program}{ops:Array Oper}{o:Oper}{a:Act}{w:Wl}{K:Act->World->Prop}{d:Exit->Act->World->Prop}{E:Prop}{f:FuncId}{cap:Av}(i:∀args w,(callFunc f args).run P w=.ok (.enter f args) w)(k:o.guard=none)(g b c:Operand)(s t:TypeId)
  (m:o.op=.call { callee:=.value g,args:=#[b,c],argTypes:=#[s,t] }) {y1 y2:Vl} (j:a.eval g=.func (.func f) #[] cap) (q:a.eval b=y1) (r:a.eval c=y2) (h:Calls P f (#[y1,y2]++cap) w (λe w'=>∃u,e=Rt u/\K (a.put o.dst u) w')):if Region.wanted o (yielded ops a.tmps)=true then Oper.wp P o a w K d else E:=by
 have p:Region.wanted o (yielded ops a.tmps)=true:=by simp[Region.wanted,k]
 rw[Zp p];have n:(execOp a.eval o).run P w=.ok (.enter f (#[y1,y2]++cap)) w:=by
  unfold execOp;simp only[m,resolve,invoke,Deferred.ofValue,Fa,Gc,Gk,Hs,Er,Gl,q,r,j];simpa using i (#[y1,y2]++cap) w
 unfold Oper.wp;rw[n];refine Calls.mono h ?_;rintro e w' ⟨u,rfl,l⟩;exact l
def Rn(wr:World)(b:Nat):Nat:=match wr.cell? (Ad b 263) with|some (.int _ z)=>z.toNat|_=>0
def LY{wr b}{k:Nat}(h:wr.cell? (Ad b 263)=some (Iv (k:Int))):Rn wr b=k:=by unfold Rn;rw[h];simp
structure AE(w0:Wl)(t:wD)(n:Nat)(R:Nat->uw)(il:Nat)(I:Nat->Int)(fU mO:Int)(b:Nat)(ia:Oa)(ic:Nat)(s:wD)(wr:Wl)(ka:Oa)(kc:Nat)(la:Oa)(lc:Nat)(K L:Np):Prop where
 a:wO K L wr b s ia il ic mO ka kc la lc
 lo:∀x,K x\/L x->w0.heap.size<=x
 l:Kept (λx=>x=b) w0 wr
 d:Good mO s
 st:(s.b:Int)<=fU
 thr:s.d<=s.b
 c:Ends n R il I fU mO s t
 nd:s.e=false
def LZ(w0:Wl)(t:wD)(n:Nat)(R:Nat->uw)(il:Nat)(I:Nat->Int)(fU mO:Int)(b:Nat)(a:Oa)(ic:Nat)(wr:Wl):Prop :=
 ∃s c d la lc,∃K L:Nat->Prop,AE w0 t n R il I fU mO b a ic s wr c d la lc K L
def Up(t:wD)(b:Nat)(a:Oa)(il ic:Nat)(mO:Int)(w:Wl)(e:Ending)(w':Wl):Prop :=
 e=Rt (Iv t.i)/\∃z st c d la lc,∃K L:Nat->Prop,wO K L w' b { t with f:=z,st:=st } a il ic mO c d la lc/\(∀x,K x\/L x->w.heap.size<=x)/\Kept (λx=>x=b) w w'
def AF{w w0 t n R il I fU mO b m ic s wr W G J la lc K L}(h:AE w0 t n R il I fU mO b m ic s wr G J la lc K L)(a:Bw w w0){T e}(j:s.p n R il I fU mO=T)(u:T.e=true)(A:wE T K L b m il ic mO wr e W):Up t b m il ic mO w e W:=by
 have B:t=T:=by
  have o:=h.c.p h.nd;rw[j]at o;exact o.d u
 subst B;obtain⟨C,z,st,H,N,O,P,v,y,U,D,E,F,i⟩:=A;have Q:=a.size;have S:=h.l.h;refine⟨by rw[C];unfold jl;rw[u];rfl,z,st,H,N,O,P,v,y,D,λx k=>?_,?_⟩
 ·rcases k with q|q
  ·rcases E x q with r|r
   ·have:=h.lo x (.inl r);omega
   have:=r.1;omega
  rcases F x q with r|r
  ·have:=h.lo x (.inr r);omega
  have:=r.1;omega
 refine⟨i.os.trans (h.l.os.trans a.os),i.g.trans (h.l.g.trans a.tape),i.f.trans (h.l.f.trans a.output),by have:=i.h;omega,λx k j=>?_⟩;refine(i.d x oM (λq=>?_)).trans ((h.l.d x oM j).trans (a.block x k));rcases q with q|q|q
 ·have:=h.lo x (.inl q);omega
 ·have:=h.lo x (.inr q);omega
 exact j q
def AG{w0 t n R il I fU mO b u ic s wr W F H la lc K L}(h:AE w0 t n R il I fU mO b u ic s wr F H la lc K L){T e}(i:s.p n R il I fU mO=T)(m:T.e=false)(B:T.d<=T.b)(A:wE T K L b u il ic mO wr e W) :
  LZ w0 t n R il I fU mO b u ic W/\fU.toNat-Rn W b<fU.toNat-Rn wr b:=by
 obtain⟨S,z,st,G,J,N,O,w,y,C,v,D,E,j⟩:=A;obtain⟨rfl,rfl⟩:=C m;have P:=h.l.h;have k:=RB (n:=n) (R:=R) (il:=il) (I:=I) (mO:=mO) h.nd h.st;rw[i]at k;have Q:T.b=s.b+1:=by
  rcases k.2 with⟨q,_⟩|q
  ·rw[m]at q;cases q
  exact q
 refine⟨⟨T,G,J,N,O,w,y,v,λx o=>?_,?_,i▸ulX h.d,k.1,B,i▸h.c.p h.nd,m⟩,?_⟩
 ·rcases o with q|q
  ·rcases D x q with r|r
   ·exact h.lo x (.inl r)
   have:=r.1;omega
  rcases E x q with r|r
  ·exact h.lo x (.inr r)
  have:=r.1;omega
 ·refine⟨j.os.trans h.l.os,j.g.trans h.l.g,j.f.trans h.l.f,by have:=j.h;omega,λx o i=>?_⟩;refine(j.d x oM (λq=>?_)).trans (h.l.d x o i);rcases q with q|q|q
  ·have:=h.lo x (.inl q);omega
  ·have:=h.lo x (.inr q);omega
  exact i q
 rw[LY v.c.c8,LY h.a.c.c8];show fU.toNat-T.b<fU.toNat-s.b;have:=k.1;omega
def Q5 Q Q' b a n c R D il ic I fU mO t w(hA:wO (λ_=>False) (λ_=>False) w b s0 D il ic mO none 0 none 0)(hP:En Q w a n R)(hn:n<=1048576)(hI:wB Q' .u8 w D il I)(hB:Fe il I)(bi:il<=1048576)(hR:QP n R fU mO)(hE:Ends n R il I fU mO s0 t)(hq:¬Q b)(bo:∀y,Q y->y<w.heap.size)(bn:¬Q' b)(bp:∀y,Q' y->y<w.heap.size) :
  Cs 112 #[.pointer (Sm b 0),Sl a n c,Iv fU] w (Up t b D il ic mO w):=by
 have HA:=ua hA;have a8:=ua hP;have HI:=ua hI;have a4:=ua hB;have aj:=ua hR;have a5:=ua hE;have E:Hid ((¬Q b)/\(∀y,Q y->y<w.heap.size)/\(¬Q' b)/\∀y,Q' y->y<w.heap.size):=⟨hq,bo,bn,bp⟩;have lb:=hA.bl;have bc:=hR.f0;have bx:=hR.f1;go_enter func112,ntmps112;go_wp2_with fail;refine(N6 _).mono ?_;rintro e W1 bd;obtain⟨⟨k0,k1,k2,rfl,h0,u,z⟩,ax⟩:=bd;unfold Nu Jy Rm;go_wp2;generalize hX:W1.alloc _=B;have hX':=hX;have A:Hid (Bw w B):=hX'▸uf ax (wG W1);have aw:Hid (B.heap[W1.heap.size]?=some (Oc (Nu k0 k1 k2) 264)):=hX'▸xq W1 _ _ rfl;have a7:Hid (B.cell? (Ad k0 0)=some (Iv 0)/\B.cell? (Ad k1 0)=some (Iv 1)/\B.cell? (Ad k2 0)=some (Iv 2)):=hX'▸⟨uv _ h0,uv _ u,uv _ z⟩;have ba:=ua ax.size;go_loopw [11] (λ_ wr=>LZ B t n R il I fU mO b D ic wr) (λ_ wr=>fU.toNat-Rn wr b)
 ·refine⟨s0,none,0,none,0,λ_=>False,λ_=>False,HA.q A,λx P=>(P.elim id id).elim,xW _,⟨?_,wF,λf hf=>?_,List.Pairwise.nil,λf hf=>?_⟩,bc,wF,a5,rfl⟩
  ·exact aj.m0
  ·simp[s0]at hf
  simp[s0]at hf
 obtain⟨s,ka,kc,la,lc,K,L,J⟩:=hrel;have r:=ua J;have c2:=J.a.c.c2;have c8:=J.a.c.c8;have f2:=J.a.c.fz 2;have f8:=J.a.c.fz 263;have b9:=J.a.bl;have b5:=J.st;have b3:(s.b:Int)<=50000:=oM;have au:=ua J.nd;have ah:Hid (∀(N:Int) (W:Wl),s.p n R il I fU mO=s.t N->Bw wr W->Up t b D il ic mO w (Rt (Iv N)) W):=λN W u z =>
  AF r A u rfl (xy (t:=s.t N) (r.a.q z) (Kept.of z) rfl ⟨_,_,rfl⟩)
 by_cases ac:s.f<0
 ·have F:Hid (s.p n R il I fU mO=s.t 4):=by show _=_;unfold wD.p;rw[Zp (.inl ac)]
  go_wp2;go_ret;exact ah 4 _ F (wI _)
 have ha0':¬s.f<0:=ac;by_cases ad:(n:Int)<=s.f
 ·have F:Hid (s.p n R il I fU mO=s.t 4):=by show _=_;unfold wD.p;rw[Zp (.inr ad)]
  go_wp2;go_ret;exact ah 4 _ F (wI _)
 have ha1':¬(n:Int)<=s.f:=ad;by_cases af:(s.b:Int)=fU
 ·have F:Hid (s.p n R il I fU mO=s.t 3):=by show _=_;unfold wD.p;rw[Zn (λq=>q.elim ac ad),Zp af]
  have hfu':((s.b:Int)==fU)=true:=by simp[af]
  go_wp2;go_ret;exact ah 3 _ F (wI _)
 have hfu':((s.b:Int)==fU)=false:=by simp[af]
 obtain⟨q,hq⟩:=Me (show 0<=s.f by omega);have a1:q<n:=oM;have F:Hid (s.p n R il I fU mO=wD.q { s with b:=s.b+1 } (R q) il I mO):=by
  unfold wD.p;rw[Zn (λq=>q.elim ac ad),Zn af,hq];rfl
 have al:=(a8.q A).on (λy C=>r.l.d y (wX (E.2.1 y C) A.size) (λe=>E.1 (e▸C)));rcases al with h0|⟨pb,po,rfl,bm,al⟩
 ·omega
 obtain⟨p0,p1,p2,sa,sc,p3,bq⟩:=al q a1;have a9:=ua bq;have b0:pb≠b:=λe=>E.1 (e▸bm)
 have b4:=aj.h q a1;have lp:=ud p0;generalize R q=x at *;have b2:(q:Int)<(n:Int):=oM;have a3:=ua hq;rw[hq]at c2;have d0:decide ((q:Int)<0)=false:=sM;have d1:decide ((n:Int)<=(q:Int))=false:=sO;have ag:Hid (wO K L (wr.setCell (Ad b 263) (Iv ((s.b:Int)+1))) b { s with b:=s.b+1 } D il ic mO ka kc la lc):=by
  have h:=r.a.k (s':={ s with b:=s.b+1 }) ((Bk.e _ wr).set b 263 (Iv ((s.b+1:Nat):Int)) rfl) rfl rfl (r.a.c.m (s.b+1));rw[Mf,Int.natCast_one]at h;exact h
 have an:Hid (∀o:Obj,s.p n R il I fU mO=wD.t { s with b:=s.b+1 } 4->Up t b D il ic mO w (Rt (Iv 4)) ((wr.setCell (Ad b 263) (Iv ((s.b:Int)+1))).alloc o)):=λo h =>
  AF r A h rfl (xy (t:=wD.t { s with b:=s.b+1 } 4) (ag.q (wG _)) (vm (vS (vG (xW wr) 263)) (λy h=>.inr (.inr h))) rfl ⟨_,_,rfl⟩)
 by_cases a0:x.e<0
 ·have G:Hid (s.p n R il I fU mO=wD.t { s with b:=s.b+1 } 4):=by show _=_;rw[F.o,LW x il I (.inl a0)]
  go_wp2;go_ret;exact an _ G
 have hk0':¬x.e<0:=a0;by_cases bj:13<=x.e
 ·have G:Hid (s.p n R il I fU mO=wD.t { s with b:=s.b+1 } 4):=by show _=_;rw[F.o,LW x il I (.inr bj)]
  go_wp2;go_ret;exact an _ G
 obtain⟨k,hk⟩:=Me (show 0<=x.e by omega);have bk:k<13:=oM;have aq:=ua hk;have a6:=ua bk;rw[hk]at p0;have b8:(k:Int)<13:=oM;have e0:decide ((k:Int)<0)=false:=sM;have e1:decide (13<=(k:Int))=false:=sO;have a2:Hid (wO K L ((wr.setCell (Ad b 263) (Iv ((s.b:Int)+1))).setCell (Ad b 2) (Iv ((q:Int)+1))) b (wD.nx { s with b:=s.b+1 }) D il ic mO ka kc la lc):=by
  have h:=ag.k (s':=wD.nx { s with b:=s.b+1 }) ((Bk.e _ _).set b 2 (Iv (s.f+1)) rfl) rfl rfl (ag.c.d (s.f+1));have e:Iv (s.f+1)=Iv ((q:Int)+1):=by rw[a3.o]
  rw[e]at h;exact h
 have av:Hid (∀y,y≠b->y<wr.heap.size->((wr.setCell (Ad b 263) (Iv ((s.b:Int)+1))).setCell (Ad b 2) (Iv ((q:Int)+1))).heap[y]?=wr.heap[y]?):=λy u z=>(zJ _ u).trans (zJ _ u)
 have U:Hid (Kept (λy=>K y\/L y\/y=b) wr ((wr.setCell (Ad b 263) (Iv ((s.b:Int)+1))).setCell (Ad b 2) (Iv ((q:Int)+1)))):=vm (vG (vG (xW wr) 263) 2) (λy h=>.inr (.inr h));have bb:Hid (((wr.setCell (Ad b 263) (Iv ((s.b:Int)+1))).setCell (Ad b 2) (Iv ((q:Int)+1))).heap.size=wr.heap.size):=by show _=_;rw[uj,uj]
 go_wp2;generalize (wr.setCell (Ad b 263) (Iv ((s.b:Int)+1))).setCell (Ad b 2) (Iv ((q:Int)+1))=Y at *;have bt:Y.heap.size=wr.heap.size:=bb.o;have P:=xq Y (Oc #[Iv k,Iv x.f,Iv x.to,Sl sa x.sl sc] 202) wr.heap.size bt.symm;have H:Hid (Bw Y (Y.alloc (Oc #[Iv k,Iv x.f,Iv x.to,Sl sa x.sl sc] 202))):=wG Y;have b7:wr.heap.size<(Y.alloc (Oc #[Iv k,Iv x.f,Iv x.to,Sl sa x.sl sc] 202)).heap.size:=by rw[zV];omega
 generalize Y.alloc (Oc #[Iv k,Iv x.f,Iv x.to,Sl sa x.sl sc] 202)=X at *;have x0:=uP (j:=0) P rfl;have x1:=uP (j:=1) P rfl;have x2:=uP (j:=2) P rfl;have x3:=uP (j:=3) P rfl;have aa:Hid (Kept (λy=>K y\/L y\/y=b) wr X.drew):=LG ⟨H.o.os.trans U.o.os,H.o.tape.trans U.o.g,H.o.output.trans U.o.f,wN U.o.h H.o.size,λy u z=>(H.o.block y oM).trans (U.o.d y u z)⟩;have ai:Hid (∀y,y≠b->y<B.heap.size->X.drew.heap[y]?=B.heap[y]?):=λy u z=>(H.o.block y (oH r.o.l.h)).trans ((av.o y u (oH r.o.l.h)).trans (r.o.l.d y z u))
 have bw:=(Cq.1 aw).1;have br:W1.heap.size≠b:=λe=>oG ba.o HA.o.bl
 have bu:∀y v,B.cell? (Ad y 0)=some (Iv v)->v<=2->0<=v->y≠b:=λy v u z h3 e=>by
  subst e;have h4:=ue HA.c.c0 A;rw[u]at h4;cases h4
 have am:∀y v,B.cell? (Ad y 0)=some (Iv v)->v<=2->0<=v->X.drew.cell? (Ad y 0)=some (Iv v)/\¬L y:=λy v u z h3=>⟨(zI (a:=(Ad y 0)) (ai y (bu y v u z h3) (ud u))).trans u,λq=>by have h5:=r.lo y (.inr q);have h6:y<B.heap.size:=ud u;omega⟩
 obtain⟨j0,j1,j2⟩:=a7;have g0:=am k0 0 j0 dC dC;have g1:=am k1 1 j1 dC dC;have g2:=am k2 2 j2 dC dC;have be:AP mO { s with b:=s.b+1 }:=⟨aj.m1,r.d.c,r.d.b,r.d.a,by have:=r.d.e;show s.a.length<=_;omega,au⟩;have b6:=r.thr;obtain⟨f,cap,bh,bg,ae⟩:=Q4 K L Q Q' b k0 k1 k2 { s with b:=s.b+1 } x sa sc D il ic I mO ka kc la lc k X.drew ((a2.q H).q (wI X).drew) be (by show s.d<=_;omega) aq a6
  (a9.o.on (λy C=>(H.o.block y (by have:=E.o.2.1 y C;have:=A.o.size;have:=r.o.l.h;omega)).trans (av.o y (λe=>E.o.1 (e▸C)) (by have:=E.o.2.1 y C;have:=A.o.size;have:=r.o.l.h;omega)))) oM
  ((HI.q A).on (λy C=>ai y (λe=>E.2.2.1 (e▸C)) (wX (E.2.2.2 y C) A.size))) a4 bi E.1 (λy C=>by have:=E.2.1 y C;have:=A.size;have:=r.l.h;show y<X.heap.size;omega) g0.1 g1.1 g2.1 ⟨g0.2,g1.2,g2.2⟩
 have tc:=uP (j:=k) (t:=264) ((ai W1.heap.size br bw).trans aw) bh;have ca:=ud tc;obtain⟨T,hT⟩:=nm (wD.q { s with b:=s.b+1 } x il I mO);have G:Hid (s.p n R il I fU mO=T):=by show _=_;rw[F.o,hT]
 have ak:Hid (T.d<=T.b):=by
  show _<=_;rw[<-hT,RA];have u:=ujj (mO:=mO) (s:={ s with b:=s.b+1 }) x il I;have z:({ s with b:=s.b+1 }:wD).d=s.d:=rfl;rw[z]at u;show _<=s.b+1;omega
 have ay:=Q3 (mO:=mO) (s:={ s with b:=s.b+1 }) au x il I;rw[hT]at ay ae;unfold kL at ae;rw[aq.o]at ae;have ao:=ua ae;have ap:=ua bg;cases Z:T.e with
 |true =>
  have V:=ua Z;have bf:=ay Z;obtain⟨N,az⟩:=nm T.i;have ab:Hid (jl T=N):=by show _=_;unfold jl;rw[Z,<-az];rfl
  rw[az]at bf;have bz:(N != -1)=true:=sO;go_region_law (first
   |(refine LX ap rfl (.tmp 63) (.tmp 64) (.tmp 65) 261 202 rfl (f:=f) (cap:=cap) (y1:=.pointer (Sm b 0)) (y2:=.agg #[Iv (k:Int),Iv x.f,Iv x.to,Sl sa x.sl sc]) (by simp[Act.eval]) (by simp[Act.eval]) (by simp[Act.eval]) (ao.mono ?_);rintro e W O;obtain⟨he,O⟩:=O;have S:Hid (wE T K L b D il ic mO X.drew (Rt (Iv (jl T))) W):=⟨rfl,O⟩;rw[ab.o]at he;subst he;refine⟨_,rfl,?_⟩))
  all_goals go_goals
  all_goals go_wp2
  all_goals go_ret
  all_goals
   have h:=S.a aa;rw[ab.o]at h;exact AF r A G V h
 |false =>
  have V:=ua Z;have ab:Hid (jl T = -1):=by show _=_;unfold jl;rw[Z];rfl
  go_region_law (first
   |(refine LX ap rfl (.tmp 63) (.tmp 64) (.tmp 65) 261 202 rfl (f:=f) (cap:=cap) (y1:=.pointer (Sm b 0)) (y2:=.agg #[Iv (k:Int),Iv x.f,Iv x.to,Sl sa x.sl sc]) (by simp[Act.eval]) (by simp[Act.eval]) (by simp[Act.eval]) (ao.mono ?_);rintro e W O;obtain⟨he,O⟩:=O;have S:Hid (wE T K L b D il ic mO X.drew (Rt (Iv (jl T))) W):=⟨rfl,O⟩;rw[ab.o]at he;subst he;refine⟨_,rfl,?_⟩))
  all_goals go_goals
  all_goals go_wp2
  all_goals go_roundw
  all_goals first
   |exact(AG r G V ak (S.a aa)).2
   |exact(AG r G V ak (S.a aa)).1
   |((repeat apply Exists.intro);exact⟨(AG r G V ak (S.a aa)).1,rfl⟩)
def Pj(M:Nat->Bool):List Value:=(List.range 256).map (fun i=>.bool (M i))
theorem LK M:(Pj M).length=256:=by simp[Pj]
theorem LL M{i}(h:i<256):(Pj M)[i]? = some (.bool (M i)):=by simp[Pj,h]
theorem P3{w b s d il ic mO e g f la ln lc}(h:wY w b s d il ic mO e g f la ln lc):w.rangeAt b 7 (Pj s.j):=fun j v a=>by
  have c:j<256:=by have:=(zT.1 a).1;rw[LK]at this;exact this
  rw[LL _ c]at a;cases a
  exact h.ex j c
theorem wJ.s8{w b a c d c3 f g i j}(h:wJ w b #[a,c,d,c3,f,g,i,j])v0 v1 v2 v3 v4 v5 v6 v7:wJ ((((((((w.setCell (Ad b 0) v0).setCell (Ad b 1) v1).setCell (Ad b 2) v2).setCell (Ad b 3) v3).setCell (Ad b 4) v4).setCell (Ad b 5) v5).setCell (Ad b 6) v6).setCell (Ad b 7) v7) b #[v0,v1,v2,v3,v4,v5,v6,v7]:=by
  have e:=(((((((h.set 0 v0).set 1 v1).set 2 v2).set 3 v3).set 4 v4).set 5 v5).set 6 v6).set 7 v7;simp only[List.setIfInBounds_toArray,List.set_cons_zero,List.set_cons_succ]at e;exact e
theorem wJ.c8{w b a c d c3 e f g i}(h:wJ w b #[a,c,d,c3,e,f,g,i]):w.cell? (Ad b 0)=some a/\w.cell? (Ad b 1)=some c/\w.cell? (Ad b 2)=some d/\w.cell? (Ad b 3)=some c3/\w.cell? (Ad b 4)=some e/\w.cell? (Ad b 5)=some f/\w.cell? (Ad b 6)=some g/\w.cell? (Ad b 7)=some i/\∀o,w.frozen? (Ad b o)=false:=let ⟨z,p,_⟩:=h.x;⟨z 0,z 1,z 2,z 3,z 4,z 5,z 6,z 7,p⟩
def oC(a ps lb e:Int)(b:Oa)(d c:Nat)(st th:Int)(f:Oa)(g vc:Nat):Array Value:=#[Iv a,Iv ps,Iv lb,Iv e,Sl b d c,Iv st,Iv th,Sl f g vc]
def XQ(X W:Wl)(a:Nat):Nat->Prop:=fun x=>X.heap.size<=x/\x<W.heap.size/\x≠a
theorem Zz{X W a}:¬XQ X W a a:=fun h=>h.2.2 rfl
theorem AA{X W b a}(k:a<X.heap.size):¬XQ X W b a:=fun h=>oH h.1
theorem LM{X W:Wl}{o:Obj}:¬wM (X.alloc o).drew W X.heap.size:=fun h=>by
  have k:(X.alloc o).drew.heap.size<=X.heap.size:=h.1;rw[World.size_drew,zV]at k;omega
theorem Dw.t{L:Np}{w X W W'}{d b:Nat}{a}{M:Nat->Bool}(h:Dw (XQ X W d) W a b M)(e:wQ (XQ X W d) W W')(i:W.heap.size<=W'.heap.size)(f:w.heap.size<=X.heap.size):Dw (fun x=>L x\/wM w W' x) W' a b M:=(h.on e).g fun x c=>.inr ⟨wN f c.1,wX c.2.1 i⟩
theorem P4 K L b u ia il ic mO ka kc la lc f w(O:wO K L w b u ia il ic mO ka kc la lc)(R:f=u.i)(S:f=0\/f=1\/f=2\/f=3) :
    Cs 113 #[.pointer (Sm b 0),Iv f] w (NR (fun w' x=>L x\/wM w w' x) u w):=by
  have V:=ua O;have lb:=O.bl;have U:=ua (um w #[Iv 0,Iv 0,Iv 0,Iv 0,nS,Iv 0,Iv 0,nS] 44);have Y:=ua (uk w (Oc #[Iv 0,Iv 0,Iv 0,Iv 0,nS,Iv 0,Iv 0,nS] 44));have y:=ua (O.q Y);have HK:=ua S;have E:=ua R;by_cases h3:f=3
  · subst h3
    clear R S;go_enter func113,ntmps113;go_wp2;refine wL (v:=.agg (oC 3 0 0 0 none 0 0 0 0 none 0 0)) ?_ rfl ⟨_,_,_,_,_,_,_,_,_,_,_,_,rfl,E.o,.inr (.inr (.inr rfl)),fun h=>aB rfl h,fun h=>aB h dC,fun h=>aB h dC,wG w,fun _=>rfl⟩
    unfold oC;simp[results,f113,go_sem, *]
  have f4:(f==4)=false:=sO;have f3:(f==3)=false:=sO;clear h3 R S;go_enter func113,ntmps113;go_upto_region 3 with fail
  generalize w.alloc _=X at *;have lX:=U.x.2.2;obtain⟨EX,P⟩:=nm (Pj u.j);have aa:=P▸LK _;have ah:=underlying207;have ae:(prog.info? 207).map (·.size)=some EX.length:=by rw[aa];exact AD
  have ac:Hid (∀W,Cs 148 #[.agg EX.toArray,Bt] W (fun e W'=>∃a n c,e=Rt (Sl a n c)/\Dw (wM W W') W' a n u.j/\Bw W W')):=fun W=>(LV true EX.toArray u.j W (by simp[aa]) (fun i hi=>by rw[List.getElem?_toArray,<-P,beq_true];exact LL _ hi)).mono (fun e W' ⟨a,c,h,Q,_⟩=>⟨a,_,c,h,⟨rfl,CY Q,RE Q⟩,Q.u⟩)
  have HZ:Hid (∀W,Bw X W->W.cell? (Ad b 6)=some (Iv u.h)/\W.cell? (Ad b 263)=some (Iv u.b)/\W.cell? (Ad b 264)=some (Iv u.d)/\W.rangeAt b 7 EX):=fun W I=>⟨ue y.c.c6 I,ue y.c.c8 I,ue y.c.c9 I,fun j v hv=>ue (P3 y.c j v (P▸hv)) I⟩
  obtain⟨c6,c8,c9,ag⟩:=HZ X (wI _);go_cut [5] (fun v wc=>∃B o r s,v=.pointer (Sm B 0)/\wJ wc B (oC f 0 0 u.h o r s u.b u.d none 0 0)/\Bw X wc/\X.heap.size<=B/\Dw (XQ X wc B) wc o r u.j)
  case first =>
    go_region_held3 (fun W'=>W'.cell? (Ad b 6)=some (Iv u.h)/\W'.cell? (Ad b 263)=some (Iv u.b)/\W'.cell? (Ad b 264)=some (Iv u.d)/\W'.rangeAt b 7 EX)
      ((refine HZ.o _ ?_;repeat with_reducible first|exact D.o | exact wI _ | refine Below.drew ?_ | refine uy ?_ wF | refine uf ?_ (wG _)))
      ((go_at_call 148
        with_reducible refine (ac.o _).mono ?_
        rintro e W ⟨o,r,s,rfl,A,m⟩;have HX:=ua A;have D:Hid (Bw X W):=by first|exact uf (wI X).drew m | exact uf (wG X).drew m
        try (have T:Hid (wJ W X.heap.size #[Iv 0,Iv 0,Iv 0,Iv 0,nS,Iv 0,Iv 0,nS]):=⟨_,(m.block X.heap.size (by show _<(X.alloc _).heap.size;simp)).trans (Df X _)⟩
             obtain⟨r0,r1,r2,r3,r4,r5,r6,r7,pk⟩:=T.c8)
        have ad:=ua m.size;clear m A))
    all_goals go_wp2
    · go_meet
      exact⟨_,o,r,s,rfl,Cm,uf D (wG _),D.size,(HX.q (wG _)).g fun x ⟨H,N⟩=>⟨H,sO,oM⟩⟩
    · go_meet
      refine⟨_,o,r,s,rfl,T.s8 _ _ _ _ _ _ _ _,?_,wF,(HX.on ?_).g fun x ⟨H,N⟩=>⟨?_,?_,?_⟩⟩
      · repeat with_reducible first|exact D.o | refine uy ?_ wF
      · repeat with_reducible first|exact Rq | refine wQ.k ?_ _ _ _ LM
      · exact Nat.le_of_succ_le (by simpa using H)
      · simpa using N
      · intro e;subst e;exact LM ⟨H,N⟩
  case rest =>
    obtain⟨B,o,r,s,rfl,BO,m,af,A⟩:=hcut;have J:=ua A;clear A;have m3:=ue y.c.c3 m;have m5:=ue y.c.c5 m;have ai:=ue y.c.a m;obtain⟨z,p,l⟩:=BO.x;unfold oC at z;obtain⟨zr,pr,lr⟩:=(U.on m).x;have C:=ua (uf Y m);have aj:B≠w.heap.size:=oM;have ak:b≠B:=oM;have al:b≠w.heap.size:=oM;by_cases F:f=0
    · subst F
      go_wp2;go_region;all_goals
        go_wp2;refine wL (v:=.agg (oC 0 u.c 0 u.h o r s u.b u.d la u.a.length lc)) ?_ rfl ⟨_,_,_,_,_,_,_,_,_,_,_,_,rfl,E.o,.inl rfl,?_,?_,?_,?_,fun _=>rfl⟩
        · unfold oC
          simp[results,f113,go_sem, *]
        · exact fun _=>⟨rfl,rfl,J.t (by repeat with_reducible first|exact Rq | refine wQ.j ?_ | refine wQ.k ?_ _ _ _ Zz | refine wQ.k ?_ _ _ _ (AA oM)) sM oM⟩
        · exact fun _=>⟨rfl,rfl,_,uA (V.a.on (fun x A=>Below.block (by repeat with_reducible first|exact C.o | refine Below.drew ?_ | refine uy ?_ oM) x (V.lt x (.inr A)))) (fun x=>.inl)⟩
        · exact fun h=>aB h dC
        · repeat with_reducible first|exact C.o | refine Below.drew ?_ | refine uy ?_ oM
    have f0:(f==0)=false:=by simp[F]
    have Z:=ua F;by_cases G:f=2
    · subst G
      go_wp2;go_region;all_goals
        go_wp2;refine wL (v:=.agg (oC 2 u.c u.label u.h o r s u.b u.d none 0 0)) ?_ rfl ⟨_,_,_,_,_,_,_,_,_,_,_,_,rfl,E.o,.inr (.inr (.inl rfl)),?_,?_,?_,?_,fun q=>aB rfl q⟩
        · unfold oC
          simp[results,f113,go_sem, *]
        · exact fun _=>⟨rfl,rfl,J.t (by repeat with_reducible first|exact Rq | refine wQ.j ?_ | refine wQ.k ?_ _ _ _ Zz | refine wQ.k ?_ _ _ _ (AA oM)) sM oM⟩
        · exact fun h=>aB h Z.o
        · exact fun _=>⟨rfl,rfl⟩
        · repeat with_reducible first|exact C.o | refine Below.drew ?_ | refine uy ?_ oM
    · have f2:(f==2)=false:=by simp[G]
      have ab:=ua G;clear F G;go_wp2;refine wL (v:=.agg (oC f 0 0 u.h o r s u.b u.d none 0 0)) ?_ rfl ⟨_,_,_,_,_,_,_,_,_,_,_,_,rfl,E.o,HK.o,?_,?_,?_,?_,fun _=>rfl⟩
      · unfold oC
        simp[results,f113,go_sem, *]
      · exact fun _=>⟨rfl,rfl,J.t (by repeat with_reducible first|exact Rq | refine wQ.j ?_ | refine wQ.k ?_ _ _ _ Zz | refine wQ.k ?_ _ _ _ (AA oM)) sM oM⟩
      · exact fun h=>aB h Z.o
      · exact fun h=>aB h ab.o
      · repeat with_reducible first|exact C.o | refine Below.drew ?_ | refine uy ?_ oM
def Dq:Array Value:=#[nS,Iv 0,Iv 0,Iv 0,nS,nS,Iv 0]++(madeCells #[Bf] 256++#[Iv 0,Iv 0,Iv 0])
def KV:(prog.info? 209).map (λi=>(i.zero,i.size))=some (some (.agg Dq),266):=rR
def xV:Dq.size=266:=by simp[Dq,size_madeCells]
def M8{i}(h:i<256):Dq[7+i]?=some Bf:=by
 unfold Dq;rw[Array.getElem?_append_right sM,Array.getElem?_append_left (by simp[size_madeCells];omega)];have e:7+i-(#[nS,Iv 0,Iv 0,Iv 0,nS,nS,Iv 0]:Av).size=i:=sM;rw[e];exact Zy h
def Ir(a:Oa)(il ic:Nat)(mO:Int):Array Value:=(Dq.setIfInBounds 0 (Sl a il ic)).setIfInBounds 1 (Iv mO)
def KW a il ic mO:(Ir a il ic mO).size=266:=by unfold Ir;simp[xV]
def M9 b il ic mO{j v}(c:j≠0)(d:j≠1)(a:Dq[j]?=some v):(Ir b il ic mO)[j]?=some v:=by
 unfold Ir;rw[Iz oM,Iz oM];exact a
def N0(W:Wl)(b:Oa)(il ic:Nat)(mO:Int):wO (λ_=>False) (λ_=>False) (W.alloc (Oc (Ir b il ic mO) 209)) W.heap.size s0 b il ic mO none 0 none 0:=by
 have a:=xq W (Oc (Ir b il ic mO) 209) _ rfl;have g:=λ(j:Nat) (v:Vl) (c:j≠0) (d:j≠1) (f:Dq[j]?=some v)=>uP (j:=j) a (M9 b il ic mO c d f)
 refine⟨⟨uP (j:=0) a ?_,uP (j:=1) a ?_,g 2 _ dC dC rR,g 3 _ dC dC rR,g 4 _ dC dC rR,g 5 _ dC dC rR,g 6 _ dC dC rR,λi e=>g (7+i) _ oM oM (M8 e),g 263 _ dC dC rR,g 264 _ dC dC rR,g 265 _ dC dC rR,λj=>Qr a⟩,.inl ⟨rfl,rfl,rfl⟩,.inl ⟨rfl,rfl,rfl⟩,λx k=>(k.elim id id).elim,λx h=>h.elim,id,id⟩
 ·unfold Ir;rw[Iz dC];simp[xV]
 unfold Ir;simp[xV]
def N3(W:Wl)(b:Oa)(il ic:Nat)(mO:Int):(storeCells (Ad W.heap.size 0) ((Dq.toList.set 0 (Sl b il ic)).set 1 (Iv mO))).run prog (W.alloc (Oc Dq 209))=.ok () (W.alloc (Oc (Ir b il ic mO) 209)):=by
 have c:Dq.all Value.oneCell'=true:=rR;have h:=run_storeCells_new (P:=prog) W 209 Dq (Ir b il ic mO) (by rw[KW];exact(zero_of_info (P:=prog) KV).2) (by rw[xV,KW]) (by
  rw[Array.all_eq_true_iff_forall_mem];intro v a;rcases Array.mem_or_eq_of_mem_setIfInBounds a with a|rfl
  ·rcases Array.mem_or_eq_of_mem_setIfInBounds a with a|rfl
   ·exact Array.all_eq_true_iff_forall_mem.1 c v a
   rfl
  rfl)
 have e:(Ir b il ic mO).toList=(Dq.toList.set 0 (Sl b il ic)).set 1 (Iv mO):=by unfold Ir;simp
 rw[e]at h;exact h
def N4 Q Q' a n c R j il ic I fU mO t w(O:En Q w a n R)(V:QP n R fU mO)(hn:n<=1048576)(U:wB Q' .u8 w j il I)(S:Fe il I)(ag:il<=1048576)(T:Ends n R il I fU mO s0 t)(Y:t.i=0\/t.i=1\/t.i=2\/t.i=3)(aa:∀y,Q y->y<w.heap.size)(ab:∀y,Q' y->y<w.heap.size) :
  Cs 73 #[Sl a n c,Sl j il ic,Iv fU,Iv mO] w (NT t w):=by
 have G:=ua O;have HI:=ua U;have m:=ua V;have ac:=ua S;have ae:=ua T;have ad:=ua Y;have J:=ua aa;have HQ':=ua ab;have hz:=(zero_of_info (P:=prog) KV).1;have p:=ua (um w #[Iv 0,Iv 0,Iv 0,Iv 0,nS,Iv 0,Iv 0,nS] 44);clear O U V S T aa ab Y;go_enter func73,ntmps73;go_wp2_with fail;refine(LA fU mO _).mono ?_;rintro e W ⟨rfl,hW⟩;subst W;rw[show decide (0<=fU/\fU<=50000/\0<=mO/\mO<=1000)=true from Gi ⟨m.o.f0,m.o.f1,m.o.m0,m.o.m1⟩];go_wp2_with fail;refine(O0 Q a n c R _ (G.q (wG w)) hn (λi E=>wN (m.h i E) oM)).mono ?_;rintro e W ⟨⟨r,rfl,hr⟩,D⟩;have s:=ua (uf (wG w) D);replace p:=ua (p.on D);have am:=p.x.2.2;cases r with
 |true=>obtain⟨i,E,hl⟩:=hr.1 rfl;have:=m.h i E;omega
 |false =>
  have ai:=xV;have ah:¬Dq=#[]:=λh=>by have v:=xV;rw[h]at v;cases v
  have aj:=N3 W j il ic mO;have b:=ua (uk W (Oc (Ir j il ic mO) 209));have af:=ua (N0 W j il ic mO);clear D hr;go_wp2_with fail;generalize W.alloc (Oc (Ir j il ic mO) 209)=X at *;clear aj ai ah hz;refine(Q5 Q Q' W.heap.size a n c R j il ic I fU mO t X af ((G.q s).q b) hn ((HI.q s).q b) ac ag m ae (λq=>oH (J _ q)) (λy q=>by have N:=J y q;have v:=b.size;omega) (λq=>oH (HQ' _ q)) (λy q=>by have N:=HQ' y q;have v:=b.size;omega)).mono ?_;rintro e W2 ⟨rfl,z,st,ka,kc,la,lc,K,L,C,Z,o⟩;have al:=b.size;have ak:=o.h;have HM:=ua C;replace p:=ua (((p.on b).a (o.d _ oM oM)));have B:Hid (Bw w W2):=⟨o.os.trans (b.os.trans s.os),o.g.trans (b.tape.trans s.tape),o.f.trans (b.output.trans s.output),oM,λx hx=>(o.d x oM oM).trans ((b.block x oM).trans (s.block x hx))⟩;have H:Hid (∀x,L x->w.heap.size<x/\x<W2.heap.size):=λx q=>⟨by have:=Z x (.inr q);omega,C.lt x (.inr q)⟩
  have ao:w.heap.size<W2.heap.size:=oM;clear C Z o;go_wp2_with fail;refine(P4 K L W.heap.size { t with f:=z,st:=st } j il ic mO ka kc la lc t.i W2 HM rfl ad.o).mono ?_;rintro e W3 ⟨cd,ps,lb,fa,ea,en,ec,su,th,va,vn,vc,rfl,F⟩;have A:=F.u;have an:=A.size;have HN:Hid (¬(L w.heap.size\/wM W2 W3 w.heap.size)):=λq=>q.elim (λq=>aB (H.o _ q).1 (Jc _)) (λq=>aB q.1 oM)
  replace B:=ua (uf B A);obtain⟨zr,pr,lr⟩:=(p.on A).x;have l:=ua F;clear A F;go_wp2;refine wL (by simp[results,f73,go_sem, *];rfl) rfl ?_;refine⟨_,_,_,_,_,_,_,_,_,_,_,_,rfl,(show Ds _ t _ _ _ _ _ _ _ _ _ _ _ from ⟨l.o.i,l.o.e,l.o.h,l.o.ok,l.o.d,l.o.u,l.o.lz⟩).mv ?_ (λx h=>?_) ?_⟩
  ·repeat with_reducible first|exact Rq|refine wQ.k ?_ _ _ _ HN.o
  ·rcases h with h|h
   ·have:=H.o x h;exact⟨oM,sO⟩
   have N:=h.1;have v:=h.2;exact⟨oM,sO⟩
  repeat with_reducible first|exact B.o|refine uy ?_ wF
end Go.Proofs.YtoihadcablknpaaGreatDoor
