import Derived.Test.YtoihadcablknpaaGreatDoorT14
import Derived.Test.YtoihadcablknpaaGreatDoorT10
set_option linter.unusedVariables false
set_option linter.unusedSimpArgs false
set_option linter.defProp false
set_option maxHeartbeats 40000000
set_option maxRecDepth 100000
namespace Go.Proofs.YtoihadcablknpaaGreatDoor
open Go.RowKit
open Go.Proofs.Tryz
section
open M (OpD uh Gr uw EX ins uJ emit_len)
def Ax(n:Nat)(R:Nat->uw)(p:Nat)(l:List uw):Prop:=∀i x,l[i]?=some x->p+i<n/\R (p+i)=x
section
variable {n:Nat} {R:Nat->uw} {p:Nat} {u v:List uw} {x:uw}
def Ax.left(h:Ax n R p (u++v)):Ax n R p u:=λi x c =>
 h i x (by rw[Cr (zT.1 c).1];exact c)
def Ax.b(h:Ax n R p (u++v)):Ax n R (p+u.length) v:=λi x c=>by
 have:=h (u.length+i) x (by rw[Di oM,Nat.add_sub_cancel_left];exact c);rw[Eo];exact this
def Ax.h(h:Ax n R p (x::v)):p<n/\R p=x:=h 0 x rfl
def Ax.a(h:Ax n R p (x::v)):Ax n R (p+1) v:=λi y c=>by
 have:=h (i+1) y c;rw[show p+1+i=p+(i+1) by omega];exact this
end
structure EC where
 g:Gr
 ra:Option Addr
 rc:Nat
 la:Option Addr
 lc:Nat
 ia:Option Addr
 il:Nat
 ic:Nat
 I:Nat->Int
 c:Int
 a:Int
 n:Nat
 R:Nat->uw
 t:wD
 b:Nat
 w0:Wl
 Q:Nat->Prop
def EC.E(K:EC)(s:wD):Prop:=Ends K.n K.R K.il K.I K.c K.a s K.t
def EC.wd(K:EC)(s:wD)(f:Oa)(i xc:Nat)(e lb ps:Int):Array Value :=
 #[Sl K.ra K.g.nr K.rc, Sl K.la K.g.nb K.lc, Sl K.ia K.il K.ic, Iv K.c, Iv K.a, Iv (s.b : Int), Iv (s.h : Int), Sl f i xc, Iv (s.d : Int), Iv e, Iv lb, Iv ps]
structure EC.Ok(K:EC):Prop where
 a:M.Sound K.g
 f:zC K.Q K.w0 K.ra K.la K.g
 c:wB K.Q .u8 K.w0 K.ia K.il K.I
 j:Fe K.il K.I
 il:K.il<=1048576
 f0:0<=K.c
 f1:K.c<=50000
 m0:0<=K.a
 m1:K.a<=1000
 b:K.w0.heap.size<=K.b
 q:∀x,K.Q x->x<K.w0.heap.size
structure EC.f(K:EC)(A:Np)(s:wD)(xa:Oa)(xn xc:Nat)(cd lb ps:Int)(W:Wl):Prop where
 e:wJ W K.b (K.wd s xa xn xc cd lb ps)
 ex:Dw (λx=>K.b<x/\x<W.heap.size/\¬A x) W xa xn s.j
 u:Below K.w0.heap.size K.w0 W
def EC.Wd(K:EC)(A:Np)(s:wD)(W:Wl):Prop:=∃b c xc a lb ps,K.f A s b c xc a lb ps W
inductive Nst(nb:Nat):Nat->Nat->List Au->Prop
 |nil {p q:Nat}:p<=q->Nst nb p q []
 |one {p q:Nat} {L:List Au} {k a:Int}:Nst nb p q L->k=0\/k=1/\0<=a/\a<nb->Nst nb p q ([⟨k,a,p⟩]++L++[⟨2,0,q⟩])
 |app {p q r:Nat} {L M:List Au}:Nst nb p q L->Nst nb q r M->Nst nb p r (L++M)
structure Mj(nb:Nat)(t:wD):Prop where
 ok:t.i=0->Nst nb 0 t.c t.a/\t.a.length<=50000
 d:t.i=2->0<=t.label/\t.label<nb
def EC.k(K:EC)(W:Wl):Prop:=∃s a b xc lb ps,K.f (λ_=>False) s a b xc K.t.i lb ps W/\(K.t.i=3\/(K.t.i=2/\lb=K.t.label/\ps=(K.t.c:Int)/\s.h=K.t.h/\s.j=K.t.j/\s.d=K.t.d/\0<=lb/\lb<K.g.nb))
structure EC.Sg(K:EC)(s:wD):Prop where
 e:s.e=false
 thr:s.d<=s.b
 a:s.a.length<=s.b
 st:(s.b:Int)<=K.c
 c:(s.st.length:Int)<=K.a
abbrev EC.Kp(K:EC)(W W':Wl):Prop:=wA (λx=>x=K.b) W W'
structure EC.i(K:EC)(s s':wD)(q:Nat)(L:List Au):Prop where
 st:s'.st=s.st
 f:s'.f=(q:Int)
 a:s'.a=s.a++L
 e:K.E s'
 sg:K.Sg s'
 more:s.b<=s'.b
 b:Nst K.g.nb s.c s'.c L
structure EC.j(K:EC)(s s':wD):Prop where
 st:∃F,s'.st=s.st++F/\∀f,f∈F->f.e=2
 a:∃L,s'.a=s.a++L
 e:K.E s'.fail
 sg:K.Sg s'
 more:s.b<=s'.b
structure Bp(w0 w:Wl)(P:Np)(v:Vl)(l:List Au):Prop where
 r:wC P w v 3 l.length (uS l)
 e:∀x,P x->w0.heap.size<=x/\x<w.heap.size
 nil:l = []->v=nS
def yI(a pos:Int)(v:Vl):Ending:=Rt (.tuple #[Iv a,Iv pos,v])
structure EC.h(K:EC)(A:Np)(s:wD)(q:Nat)(W:Wl)(P:Ew):Prop where
 ok:∀s' L B a n c W',K.i s s' q L->K.Wd (λx=>A x\/B x) s' W'->Bp W W' B (Sl a n c) L->K.Kp W W'->P (yI 0 (s'.c:Int) (Sl a n c)) W'
 fail:∀s' z W',K.j s s'->K.Wd A s' W'->K.Kp W W'->P (yI 1 z nS) W'
 b:∀z W',K.k W'->K.Kp W W'->P (yI 2 z nS) W'
def EC.e(K:EC)(m:Nat)(T:TR):Prop:=∀(d off c p l:Nat) (k i:Int) (j:Bool) (A:Np) (s:wD) (W:Wl) (P:Ew),
 l=T.n->T.Ok (M.bE K.g.nr K.g.nb)->T.n<=c->T.n<=2000->TA K.Q K.w0 d T off->Ax K.n K.R p (uJ (Cw K.g) (T.a (M.bB K.g.nr)) p)->s.f=(p:Int)->k=(s.c:Int)->i=(s.st.length:Int)->j=s.l ->
 K.E s->K.Sg s->K.Wd A s W->(∀x,A x->x<W.heap.size)->(K.c-s.b).toNat<=m->K.h A s (p+(T.a (M.bB K.g.nr)).c) W P ->
 Cs 67 #[.pointer (Sm K.b 0),Sl (Sm d off) l c,Iv k,Iv i,.bool j] W P
def EC.l(K:EC)(m:Nat):Prop:=∀(k q:Nat) (i n e:Int) (j:Bool) (A:Np) (s d:wD) (W:Wl) (P:Ew),k<K.g.nr+K.g.nb->0<(nd K.g k).bl->i=(k:Int)->d.f=Cw K.g k->d.st=s.st++[⟨2,(q:Int),0,0⟩]->d.a=s.a/\d.c=s.c->s.b<=d.b->n=(d.c:Int)->e=(d.st.length:Int)->j=d.l ->
 K.E d->K.Sg d->K.Wd A d W->(∀x,A x->x<W.heap.size)->(K.c-d.b).toNat<=m->K.h A s q W P ->
 Cs 41 #[.pointer (Sm K.b 0),Iv i,Iv n,Iv e,.bool j] W P
def wD.g(s:wD):wD:={ s with b:=s.b+1 }
section
variable {K:EC} {s s':wD} {q:Nat} {W W' V:Wl} {A B:Np} {xa:Oa} {xn xc:Nat} {cd lb ps cd' lb' ps':Int}
def EC.E.b(h:K.E s)(j:K.Sg s)(d:s.f=(q:Int))(k:q<K.n)(i:(s.b:Int)≠K.c):K.E (s.g.q (K.R q) K.il K.I K.a):=by
 have:=Ends.p h j.e;unfold wD.p at this;rw[Zn (by rw[d];omega),Zn i,show s.f.toNat=q by rw[d];rfl]at this;exact this
def EC.E.o(h:K.E s)(i:K.Sg s)(a:s.f=(q:Int))(j:q<K.n)(g:(s.b:Int)=K.c):K.t=s.t 3:=by
 have:=Ends.p h i.e;unfold wD.p at this;rw[Zn (by rw[a];omega),Zp g]at this;exact this.d rfl
def EC.Sg.g(h:K.Sg s)(f:(s.b:Int)≠K.c):K.Sg s.g:=⟨h.e,by have:=h.thr;show s.d<=s.b+1;omega,by have:=h.a;show s.a.length<=s.b+1;omega,by have:=h.st;show((s.b+1:Nat):Int)<=_;omega,h.c⟩
def EC.Wd.u(h:K.Wd A s W):Below K.w0.heap.size K.w0 W:=let ⟨_,_,_,_,_,_,h⟩:=h;h.u
def EC.Wd.lt(h:K.Wd A s W):K.b<W.heap.size:=let ⟨_,_,_,_,_,_,h⟩:=h;h.e.x.2.2
def EC.Wd.d(h:K.Wd A s W)(c:s'.b=s.b)(f:s'.h=s.h)(g:s'.j=s.j)(i:s'.d=s.d):K.Wd A s' W:=by
 obtain⟨k,l,xc,a,lb,ps,h⟩:=h;exact⟨k,l,xc,a,lb,ps,⟨by have:=h.e;unfold EC.wd at this ⊢;rw[c,f,i];exact this,g▸h.ex,h.u⟩⟩
def EC.f.g(h:K.f A s xa xn xc cd lb ps W)(b:∀x,B x->A x):K.f B s xa xn xc cd lb ps W:=⟨h.e,h.ex.g (λx a=>⟨a.1,a.2.1,λq=>a.2.2 (b x q)⟩),h.u⟩
def EC.Wd.g(h:K.Wd A s W)(a:∀x,B x->A x):K.Wd B s W:=let ⟨xa,xn,xc,cd,lb,ps,h⟩:=h;⟨xa,xn,xc,cd,lb,ps,h.g a⟩
def EC.f.m(h:K.f A s xa xn xc cd lb ps W)(k:Kf W W'):K.f A s xa xn xc cd lb ps W' :=
 ⟨h.e.on k.u,(h.ex.on (λx a=>k.d x a.2.1 (λe=>e))).g (λx a=>⟨a.1,wX a.2.1 k.h,a.2.2⟩),uf h.u k.u⟩
def EC.Wd.m(h:K.Wd A s W)(k:Kf W W'):K.Wd A s W':=let ⟨xa,xn,xc,cd,lb,ps,h⟩:=h;⟨xa,xn,xc,cd,lb,ps,h.m k⟩
def EC.f.set(c:K.Ok)(h:K.f A s xa xn xc cd lb ps W){o:Nat}{v:Vl}(d:(K.wd s xa xn xc cd lb ps).setIfInBounds o v=K.wd s' xa xn xc cd' lb' ps')(i:s'.j=s.j):K.f A s' xa xn xc cd' lb' ps' (W.setCell (Ad K.b o) v) :=
 ⟨d▸h.e.set o v,i▸(h.ex.on (λx a=>zJ _ (Nat.ne_of_gt a.1))).g (λx a=>⟨a.1,by rw[uj];exact a.2.1,a.2.2⟩),uy h.u c.b⟩
def EC.d(o:Nat)(v:Vl):K.Kp W (W.setCell (Ad K.b o) v):=⟨rfl,rfl,rfl,by rw[uj];exact wF,λx _ a=>zJ _ a⟩
end
def Yh:∀(F l:List Cp),(∀f,f∈F->f.e=2)->vg (F++l)=vg l
 |[],l,_=>rfl
 |f::F,l,h=>by rw[Cb,vg,Zp (h f sM),Yh F l (λg a=>h g (by simp[a]))]
section
variable {K:EC} {s s1 s':wD} {q:Nat} {W W':Wl} {P:Ew}
def EC.j.b(h:K.j s1 s'){f:Cp}(n:s1.st=s.st++[f])(l:f.e≠2)(m:f.a=s.a.length)(d:s1.a=s.a):s'.fail={ s' with st:=s.st,c:=f.c,a:=s.a,f:=f.to }:=by
 obtain⟨F,e,k⟩:=h.st;obtain⟨L,i⟩:=h.a;unfold wD.fail;have o:vg s'.st.reverse=some (f,s.st.reverse):=by
  rw[e,n,List.reverse_append,List.reverse_append,Yh _ _ (λg d=>k g (by simpa using d))];show vg (f::s.st.reverse)=_;rw[vg,Zn l]
 rw[o];simp only[List.reverse_reverse,m,i,d,List.take_left]
def EC.j.over(h:K.j s s')(c:s.st = []):K.t=s'.t 1:=by
 obtain⟨F,e,a⟩:=h.st;have f:vg s'.st.reverse=none:=by
  have:=Yh F.reverse [] (λg b=>a g (by simpa using b));rw[Ca]at this;rw[e,c,Dl,this,vg]
 have e:=h.e;unfold wD.fail at e;rw[f]at e;exact Ends.d e rfl
def EC.j.of(c:K.E s'.fail)(i:K.Sg s')(g:s'.st=s.st)(d:s'.a=s.a)(e:s.b<=s'.b):K.j s s':=⟨⟨[],by rw[g];simp,λf h=>by cases h⟩,⟨[],by rw[d];simp⟩,c,i,e⟩
end
section
variable {w0 w1 w w':Wl} {P P2:Np} {v:Vl} {l:List Au} {a2:Oa} {n2 c2:Nat} {L L2:List Au}
def HI{w0}{w}:Bp w0 w (λ_=>False) nS []:=⟨.inl ⟨rfl,rfl,rfl⟩,λ_ q=>q.elim,λ_=>rfl⟩
def Bp.m{C:Np}(h:Bp w0 w P v l)(k:wA C w w')(b:∀x,C x->¬P x):Bp w0 w' P v l:=⟨h.r.on (λx a=>k.d x (h.e x a).2 (λq=>b x q a)),λx a=>⟨(h.e x a).1,wX (h.e x a).2 k.h⟩,h.nil⟩
def Bp.b(h:Bp w0 w P v l)(c:w1.heap.size<=w0.heap.size):Bp w1 w P v l:=⟨h.r,λx a=>⟨wN c (h.e x a).1,(h.e x a).2⟩,h.nil⟩
def Bp.c(h:Bp w0 w P (Sl a2 n2 c2) l):n2=l.length:=by
 rcases h.r with⟨e,a,_⟩|⟨g,cap,e,_⟩
 ·injection e with _ e2 _;omega
 injection e with _ e2 _
def HJ(w:Wl)(e:Au)(b:w0.heap.size<=w.heap.size):Bp w0 (w.alloc (Oc #[Iv e.e,Iv e.f,Iv e.c] 99)) (λx=>x=w.heap.size) (Sl (Sm w.heap.size 0) 1 1) [e]:=by
 obtain⟨z,p,lz⟩:=(um w #[Iv e.e,Iv e.f,Iv e.c] 99).x;refine⟨.inr ⟨w.heap.size,1,rfl,rfl,rfl,wF,λj a=>(z j).trans (by simp[uS,Hp]),λj a=>⟨?_,p j⟩⟩,λx d=>⟨oM,oM⟩,λh=>by cases h⟩;rw[z j];match j,a with
 |0,_=>rfl
 |1,_=>rfl
 |2,_=>rfl
def ZT(ty:TypeId)(h:Bp w0 w P v L)(k:Bp w1 w P2 (Sl a2 n2 c2) L2)(A:L.length+L2.length<=16777216)(n:w0.heap.size<=w.heap.size) :
  ∃i s j W',(Builtin.append_ #[42,42] ty #[v,Sl a2 n2 c2]).run prog w=.ok (Sl i s j) W'/\Bp w0 W' (λx=>(P x\/w.heap.size<=x)/\x<W'.heap.size) (Sl i s j) (L++L2)/\wA P w W':=by
 obtain rfl:=k.c;have o:=uq6 k.r;by_cases m:0<L.length+L2.length
 ·obtain⟨F,w',C,p,b,E⟩:=CR ty QN h.r o A;obtain⟨i,j,rfl⟩:=uq p;refine⟨i,_,j,w',C,⟨?_,λx a=>⟨a.1.elim (λq=>(h.e x q).1) (λq=>wN n q),a.2⟩,λe=>by rw[List.append_eq_nil_iff]at e;rw[e.1,e.2]at m;simp at m⟩,⟨b.os,b.g,b.f,b.h,b.d⟩⟩;have e:uS (L++L2)=uS L++uS L2:=by simp[uS]
  rw[wK,e];rcases p with⟨_,q,_⟩|⟨g,cap,e,B,t,y,z,l⟩
  ·omega
  obtain⟨u,D⟩:=Dt.1 (l 0 oM).1;refine .inr ⟨g,cap,e,⟨B,ud D⟩,t,y,z,l⟩
 obtain rfl:L = []:=Hh oM;obtain rfl:L2 = []:=Hh oM;rw[h.nil rfl];exact⟨_,_,_,_,Tf ty QN o,⟨.inl ⟨rfl,rfl,rfl⟩,λx a=>⟨a.1.elim (λq=>(h.e x q).1) (λq=>wN n q),a.2⟩,λ_=>rfl⟩,zM⟩
end
def Tr{ops:Array Oper}{rest:List Oper}{o:Oper}{a:Act}{f:Exit->Act->World->Prop}{w0 w1 w:Wl}(p:o.guard=none)(s x:Operand)(r:o.op=.call { callee:=.builtin .append,args:=#[s,x],argTypes:=#[42,42] })
  {P l:Np} {v:Vl} {g:Oa} {j i:Nat} {L L2:List Au} (u:a.eval s=v) (y:a.eval x=Sl g j i) (h:Bp w0 w P v L) (e:Bp w1 w l (Sl g j i) L2) (q:L.length+L2.length<=16777216) (z:w0.heap.size<=w.heap.size)
  (k:∀W' b d c,Hid (Bp w0 W' (λx=>(P x\/w.heap.size<=x)/\x<W'.heap.size) (Sl b d c) (L++L2))->Hid (wA P w W')->wpList prog ops f rest (a.put o.dst (Sl b d c)) W'):wpList prog ops f (o::rest) a w:=by
 refine wpList_plain p λK n=>?_
 obtain⟨b,d,c,w',t,m,e⟩:=ZT o.type h e q z;unfold Oper.wp execOp;simp only[r,resolve,invoke,builtin,Fa,Gc,Gk,Hs,Er,Gl,u,y,t];exact n _ _ (k w' b d c m e)
def yJ{K:EC}(o:K.Ok){A:Np}{s}{q:Nat}{W}{P:Ew}(h:K.Wd A s W)(t:K.E s)(l:K.Sg s)(r:s.f=(q:Int))(u:q<K.n)(ok:∀W',K.Wd A s.g W'->K.Kp W W'->K.E (s.g.q (K.R q) K.il K.I K.a)->K.Sg s.g->(s.b:Int)<K.c->P (Rt Bt) W')(F:∀W',K.k W'->K.Kp W W'->P (Rt Bf) W'):Cs 39 #[.pointer (Sm K.b 0)] W P:=by
 obtain⟨v,w,xc,C,lb,ps,h⟩:=h;have H:=ua h;have G:=ua o;obtain⟨z,p,lz⟩:=h.e.x;unfold EC.wd at z;have L:=l.st;have J:=o.f1;by_cases i:(s.b:Int)=K.c
 ·have D:((s.b:Int)==K.c)=true:=by simp[i]
  have y:=ua (F ((W.drew).setCell (Ad K.b 9) (Iv 3)) ⟨s,v,w,xc,lb,ps,(by rw[t.o l r u i];exact((h.m (Bz _)).set o rfl rfl).g (λ_ q=>q.elim)),.inl (by rw[t.o l r u i];rfl)⟩ ((Bz _).c (EC.d _ _)));go_enter func39,ntmps39;go_upto_region 1 with fail;go_region;go_wp2;exact y
 have D:((s.b:Int)==K.c)=false:=by simp[i]
 have B:=ua (ok ((W.drew).setCell (Ad K.b 5) (Iv ((s.b:Int)+1))) ⟨v,w,xc,C,lb,ps,(h.m (Bz _)).set o rfl rfl⟩ ((Bz _).c (EC.d _ _)) (t.b l r u i) (l.g i) oM);go_enter func39,ntmps39;go_upto_region 1 with fail;go_region;go_wp2;exact B
def Pa{K:EC}(r:K.Ok){A:Np}{s W}{P:Ew}{c:Int}(u:c=(s.st.length:Int))(h:K.Wd A s W)(y:K.Sg s)(ok:∀W',K.Wd A s W'->K.Kp W W'->(s.st.length:Int)<K.a->P (Rt Bt) W')(w:∀W',(∀f,s.n f K.a=s.t 3)->(K.t=s.t 3->K.k W')->K.Kp W W'->P (Rt Bf) W'):Cs 40 #[.pointer (Sm K.b 0),Iv c] W P:=by
 subst u;obtain⟨i,j,xc,o,lb,ps,h⟩:=h;obtain⟨z,p,lz⟩:=h.e.x;unfold EC.wd at z;by_cases v:K.a<=(s.st.length:Int)
 ·have l:=ua (w (W.setCell (Ad K.b 9) (Iv 3)) (λf=>Zp v) (λe=>⟨s,i,j,xc,lb,ps,(by rw[e];exact(h.set r rfl rfl).g (λ_ q=>q.elim)),.inl (by rw[e];rfl)⟩) (EC.d _ _));go_enter func40,ntmps40;go_wp2;exact l
 have m:=ua (ok W ⟨i,j,xc,o,lb,ps,h⟩ zM oM);go_enter func40,ntmps40;go_wp2;exact m
end
section
open M (OpD uh Gr uw EX ins uJ emit_len)
section
variable {K:EC} {A:Np} {s s':wD} {q:Nat} {W W':Wl} {P:Ew}
def EC.h.f(h:K.h A s q W P)(a:K.i s s' q [])(b:K.Wd A s' W')(k:K.Kp W W'):P (yI 0 (s'.c:Int) nS) W' :=
 h.ok s' [] (λ_=>False) none 0 0 W' a (b.g (λx q=>q.elim id False.elim)) (HI) k
def jX{c:Av}{x:Nat}(h:K.Kp W W')(e:wJ W x c)(f:x≠K.b):wJ W' x c:=e.a (h.d x e.x.2.2 f)
def Yg w d:Kf w (w.drewN d):=wA.i (zB (Wz w.heap.size w) d) (λk a _=>a)
def EC.E.a{n:Nat}{S:Nat->Int}(h:K.E (s.u n S K.il K.I))(b:s.c<K.il/\ve n S (K.I s.c)=true):K.E { s with c:=s.c+1,f:=s.f+1 }:=by
 rw[wD.u,Zp b]at h;exact h
def EC.E.c{n:Nat}{S:Nat->Int}(h:K.E (s.u n S K.il K.I))(a:¬(s.c<K.il/\ve n S (K.I s.c)=true)):(s.l=true->K.E s.fail)/\(s.l=false->K.E (s.m n S).fail):=by
 rw[wD.u,Zn a]at h;exact⟨λe=>by rw[e]at h;exact h,λe=>by rw[e]at h;exact h⟩
def EC.f.j{z l:Oa}{B xc k m:Nat}{o lb ps:Int}{V a:Wl}{M E':Nat->Bool}(t:K.Ok)(h:K.f A s z B xc o lb ps V)(r:∀x,A x->x<V.heap.size)(n:zO V a (Sl l (rg M 256).length m) (rg M 256))(w:(rg M 256).length=k)(v:∀b,b<256->M b=E' b) :
  K.f A { s with j:=E' } l k m o lb ps (a.setCell (Ad K.b 7) (Sl l k m))/\K.Kp V (a.setCell (Ad K.b 7) (Sl l k m)):=by
 have p:=uq7 n v;rw[w]at p;have C:=h.e.x.2.2;refine⟨⟨(h.e.on n.u).set 7 _,?_,uy (uf h.u n.u) t.b⟩,(wA.i n.u (λ_ q _=>q)).c (EC.d _ _)⟩;exact(p.on (GO a (Ad K.b 7) _ (λq=>by have:=q.1;simp at this;omega))).g (λx q=>⟨by have:=q.1;omega,by rw[uj];exact q.2,λy=>by have:=r x y;have:=q.1;omega⟩)
def EC.f.a{k:Oa}{l xc:Nat}{g lb ps:Int}(i:K.Ok)(h:K.f A s k l xc g lb ps W)(z:Nat):K.f A { s with h:=z,j:=λ_=>false } none 0 0 g lb ps ((W.setCell (Ad K.b 6) (Iv (z:Int))).setCell (Ad K.b 7) nS)/\K.Kp W ((W.setCell (Ad K.b 6) (Iv (z:Int))).setCell (Ad K.b 7) nS) :=
 ⟨⟨(h.e.set 6 _).set 7 _,⟨Ix.symm,.inl rfl,λ_ _ _ e=>by cases e⟩,uy (uy h.u i.b) i.b⟩,(EC.d _ _).c (EC.d _ _)⟩
def HB{Q:Np}{d:Oa}{a:Nat}{M:Nat->Bool}(h:Dw Q W d a M){n:Nat}{S:Nat->Int}{b:Nat}(c:b<256):(ve a (lf (rg M 256)) (b:Int)||ve n S (b:Int))=(ve n S (b:Int)||M b):=by
 rw[h.1,utG M c,Bool.or_comm]
def Tq{w}:Bw w w.drew:=(wI w).drew
def vk(k:Kf W W'):K.Kp W W':=k.l (λ_ q=>q.elim)
end
variable {K:EC} {m:Nat}
def ZM(L:K.Ok)(o:OpD)(q:o.e=0):K.e m (.lf o):=by
 intro F off c p l U G T A s W P r R k B w N x D y C z E t J Q j;simp only[TR.n]at k B r;subst r D y C;obtain⟨b,⟨sa,sc,h,S⟩,i⟩:=w;have d:=t.u;replace b:=ue b d;replace h:=ue h d;replace i:=ue i d;rw[q]at b;have H:=k;have I:¬c=0:=oM;have O:=ud b;have e:(TR.lf o).a (M.bB K.g.nr)=.empty:=by simp[TR.a,M.bB,q]
 rw[e]at j;have v:=ua (j.f (s':=s) (W':=W.alloc (Oc #[Iv 0,Sl sa o.sl sc,Iv o.f] 128)) ⟨rfl,by rw[x];rfl,sM,z,E,wF,.nil wF⟩ (t.m wU) (vk wU));go_enter func67,ntmps67;go_wp2;exact wL (by simp[results,f67,go_sem]) rfl v
def ZN(hK:K.Ok)(o:OpD)(hk:o.e=1):K.e m (.lf o):=by
 intro bb off c p l pv dv nv A s W P hl ak hc hn hT hL aa aw au aj he hs hw hA hm hR;simp only[TR.n]at hc hn hl;subst hl aw au;obtain⟨U,⟨sa,sc,c1,al⟩,Y⟩:=hT;have t:=hw.u;replace U:=ue U t;replace c1:=ue c1 t;replace Y:=ue Y t;rw[hk]at U;have f1:0<c:=hc;have f3:¬c=0:=oM;have ax:=ud U;have e:(TR.lf o).a (M.bB K.g.nr)=.set o.sl o.set:=by simp[TR.a,M.bB,hk]
 rw[e]at hR hL;obtain⟨hq,hr⟩:=Ax.h hL;have ac:o.sl<=1048576:=oH (DG (ak.2.2.2.1 hk));have G:=ua hK;have J:=ua hR;have HS:=ua al;have ag:=ua aj;have am:=ua aa;have ap:=ua hs;generalize hX:W.alloc (Oc #[Iv 1,Sl sa o.sl sc,Iv o.f] 128)=X;have B:=ua (hX▸um W #[Iv 1,Sl sa o.sl sc,Iv o.f] 128);have KX:Hid (Kf W X):=hX▸wU;have ab:W.heap.size≠K.b:=oH hw.lt;have TK:Hid (∀P',_->_->Cs 39 #[.pointer (Sm K.b 0)] X P'):=λP'=>yJ (P:=P') hK (hw.m KX.o) he hs aa hq
 rw[hr]at TK;clear hR al aj aa hs he hw ak hL t hk e hr;go_enter func67,ntmps67;obtain⟨z,p',lz⟩:=B.o.x;go_wp2_with fail;clear z p' lz;refine TK.o _ (λW1 w1 N e1 g1 l1=>?_) (λW1 w1 N=>?_)
 rotate_left
 ·go_wp2;exact wL (by simp[results,f67,go_sem]) rfl (J.o.b (s.c:Int) _ w1 ((vk KX.o).c N))
 have k2:=(vk KX.o).c N;obtain⟨ai,hh⟩:=nm (decide (s.c<K.il/\ve o.sl o.set (K.I s.c)=true));have T:=ua hh;have af:=ua N;obtain⟨z,p',lz⟩:=(jX N B.o ab).x;obtain⟨xa,xn,xc,cd,lb,ps,w1⟩:=w1;have ah:=w1.u;obtain⟨y,py,ly⟩:=w1.e.x;simp only[EC.wd,wD.g]at y;have r:=ua w1;have i:=ua e1;have k:=ua g1;have ao:=ua k2;have HA:=ua hA;clear hh w1 e1 g1 k2 N TK hA;go_upto_region 17 with fail;go_cut [115] (λv wc=>v=.bool ai/\Kf W1 wc)
 ·by_cases D:s.c<K.il
  ·rcases G.o.c with h0|⟨ib,a3,av,az,hI⟩
   ·omega
   have hi:=ue (hI s.c D) ah;have aq:=G.o.j s.c D;have ae:=ua T.o;obtain⟨x,L⟩:=nm (K.I s.c);rw[L]at hi aq ae;rw[av]at y;have a4:=ud hi;have hp':(s.c:Int)<(K.il:Int):=oM;clear hI L;have HQ:Hid (∀d,Cs 93 #[Sl sa o.sl sc,Iv x] (W1.drewN d) (CU (ve o.sl o.set x) (W1.drewN d))):=λd=>CW K.Q sa o.sl sc o.set x (HS.o.q (uf ah (Yg W1 d).u)) ac
   go_quiet (first|(go_at_call 93;exact Fz (HQ.o _)));go_wp2;go_meet;exact⟨by rw[<-ae.o];simp[D],Yg _ _⟩
  have hp':decide ((s.c:Int)<(K.il:Int))=false:=Gv oM;go_quiet (fail);go_wp2;go_meet;exact⟨by rw[<-T.o];simp[D],Yg _ _⟩
 obtain⟨rfl,kc⟩:=hcut;replace r:=ua (r.o.m kc);have H:=ua (ao.o.c (vk kc));have ad:Hid (∀x,A x->x<wc.heap.size):=λx L=>wX (HA.o x L) H.o.h
 have a0:=ap.o.thr;replace i:Hid (K.E (s.g.u o.sl o.set K.il K.I)):=i.o;obtain⟨y,py,ly⟩:=r.o.e.x;simp only[EC.wd,wD.g]at y;obtain⟨z,p',lz⟩:=(jX (af.o.c (vk kc)) B.o ab).x;cases ai with
 |true =>
  have D:=of_decide_eq_true T.o;have hp':=D.1;have ay:=G.o.il;replace i:=ua (i.o.a D);go_wp2;exact wL (by simp[results,f67,go_sem]) rfl (J.o.f (s':={ s.g with c:=s.c+1,f:=s.f+1 }) ⟨rfl,by show s.f+1=_;rw[am.o];rfl,by simp[wD.g],i.o,⟨k.o.e,k.o.thr,k.o.a,k.o.st,k.o.c⟩,Gw _,.nil (Gw _)⟩ (EC.Wd.d (s:=s.g) ⟨_,_,_,_,_,_,r.o⟩ rfl rfl rfl rfl) H.o)
 |false =>
  replace i:=ua (i.o.c (of_decide_eq_false T.o));cases nv with
  |true =>
   replace i:=ua (i.o.1 ag.o.symm);go_wp2;exact wL (by simp[results,f67,go_sem]) rfl (J.o.fail s.g (s.c:Int) _ (.of i.o k.o rfl rfl (Gw _)) ⟨_,_,_,_,_,_,r.o⟩ H.o)
  |false =>
   replace i:=ua (i.o.2 ag.o.symm);by_cases h1:s.h<s.c
   ·have h1':(s.h:Int)<(s.c:Int):=oM;have e:s.g.m o.sl o.set={ s.g with h:=s.c,j:=λb=>ve o.sl o.set (b:Int) }:=Zp h1;rw[e]at i;clear e;have F:=r.o.a G.o s.c;generalize hV:(wc.setCell (Ad K.b 6) (Iv s.c)).setCell (Ad K.b 7) nS=V at F;have HV:=ua F.1;have KV:=ua F.2;have O:=ua F.1.ex;obtain⟨y',a7,a5⟩:=F.1.e.x;simp only[EC.wd,wD.g]at y';obtain⟨z',q',a6⟩:=(jX (af.o.c ((vk kc).c F.2)) B.o ab).x;have an:Hid (∀x,A x->x<V.heap.size):=λx L=>wX (ad.o x L) KV.o.h
    clear F;go_upto_region 23 with fail;go_region_with (go_at_call 94;refine(QY K.Q none sa 0 o.sl 0 sc (lf (rg (λ_=>false) 256)) o.set (O.o.2.1.q (Tq)) (HS.o.q (uf HV.o.u (Tq))) oM ac).mono ?_;rintro e V2 ⟨a2,Y,rfl,w⟩;generalize C:(rg (λb=>ve 0 (lf (rg (λ_=>false) 256)) (b:Int)||ve o.sl o.set (b:Int)) 256).length=m2 at *;obtain⟨S,R⟩:=EC.f.j (E':=λb=>ve o.sl o.set (b:Int)) G.o (HV.o.m (Bz _)) an.o (C▸w) C (λb t=>(HB O.o t).trans (Nd _));have W3:=ua S;have K3:=ua (H.o.c (KV.o.c ((Bz _).c R)));obtain⟨y,py,ly⟩:=((HV.o.m (Bz _)).e.on w.u).x;simp only[EC.wd,wD.g]at y;clear w C S R);all_goals go_wp2
    all_goals exact wL (by simp[results,f67,go_sem]) rfl (J.o.fail { s.g with h:=s.c,j:=λb=>ve o.sl o.set (b:Int) } (s.c:Int) _ (.of i.o ⟨k.o.e,k.o.thr,k.o.a,k.o.st,k.o.c⟩ rfl rfl (Gw _)) ⟨_,_,_,_,_,_,W3.o⟩ K3.o)
   have h1':¬(s.h:Int)<(s.c:Int):=oM;by_cases Z:s.c=s.h
   ·have h2':((s.c:Int)==(s.h:Int))=true:=(by simp[Z]);have e:s.g.m o.sl o.set={ s.g with j:=λb=>ve o.sl o.set (b:Int)||s.j b }:=(Zn h1).trans (Zp Z);rw[e]at i;clear Z e;have O:=ua r.o.ex;have a1:=r.o.ex.le;go_upto_region 23 with fail;go_region_with (go_at_call 94;refine(QY K.Q xa sa xn o.sl xc sc (lf (rg s.j 256)) o.set (O.o.2.1.q (Tq)) (HS.o.q (uf r.o.u (Tq))) oM ac).mono ?_;rintro e V2 ⟨a2,Y,rfl,w⟩;generalize C:(rg (λb=>ve xn (lf (rg s.j 256)) (b:Int)||ve o.sl o.set (b:Int)) 256).length=m2 at *;obtain⟨S,R⟩:=EC.f.j (E':=λb=>ve o.sl o.set (b:Int)||s.j b) G.o (r.o.m (Bz _)) ad.o (C▸w) C (λb t=>HB O.o t);have W3:=ua S;have K3:=ua (H.o.c ((Bz _).c R));obtain⟨y,py,ly⟩:=((r.o.m (Bz _)).e.on w.u).x;simp only[EC.wd,wD.g]at y;clear w C S R);all_goals go_wp2
    all_goals exact wL (by simp[results,f67,go_sem]) rfl (J.o.fail { s.g with j:=λb=>ve o.sl o.set (b:Int)||s.j b } (s.c:Int) _ (.of i.o ⟨k.o.e,k.o.thr,k.o.a,k.o.st,k.o.c⟩ rfl rfl (Gw _)) ⟨_,_,_,_,_,_,W3.o⟩ K3.o)
   have h2':((s.c:Int)==(s.h:Int))=false:=sO;have e:s.g.m o.sl o.set=s.g:=(Zn h1).trans (Zn Z);rw[e]at i;go_wp2;exact wL (by simp[results,f67,go_sem]) rfl (J.o.fail s.g (s.c:Int) _ (.of i.o k.o rfl rfl (Gw _)) ⟨_,_,_,_,_,_,r.o⟩ H.o)
end
section
open M (OpD uh Gr uw EX ins uJ emit_len)
def Ts(P:Ew)(e:Ending)(W:Wl):Prop:=∃h z a n c,e=yI h z (Sl a n c)/\P e W
def EC.h.d{K:EC}{A:Np}{s}{q:Nat}{W}{P:Ew}(h:K.h A s q W P):K.h A s q W (Ts P) :=
 ⟨λs' L B a n c W' e f g i=>⟨_,_,a,n,c,rfl,h.ok s' L B a n c W' e f g i⟩,λs' z W' e f g=>⟨_,_,_,_,_,rfl,h.fail s' z W' e f g⟩,λz W' e f=>⟨_,_,_,_,_,rfl,h.b z W' e f⟩⟩
def EC.h.e{K:EC}{A:Np}{s}{q:Nat}{W V}{P:Ew}(h:K.h A s q W P)(k:K.Kp W V):K.h A s q V P :=
 ⟨λs' L B a n c W' d f g i=>h.ok s' L B a n c W' d f (g.b k.h) (k.c i),λs' z W' d f g=>h.fail s' z W' d f (k.c g),λz W' d f=>h.b z W' d (k.c f)⟩
def jC{s:wD}{mO:Int}(f:Cp)(h:(s.st.length:Int)<mO):s.n f mO={ s with st:=s.st++[f] }:=Zn oM
def Yi{nr a n B}(h:M.bF nr a n B):0<n:=by
 by_cases e:n=0
 ·subst e;have:=h.2.2;simp[M.dep]at this
 omega
def HL args w:(callFunc 41 args).run prog w=.ok (.enter 41 args) w:=by simp[callFunc,func41,f41,go_sem]
def ZU{g}(a:M.Sound g){j}(b:j<g.nb):(g.d j).h=decide (0<(nd g (g.nr+j)).bl):=by
 rw[yo];cases h:(g.d j).h with
 |true=>have:=(a.lb j b h);simp;exact Yi this
 |false=>have:=a.lz j b h;simp;omega
variable {K:EC} {m:Nat}
def ZV(L:K.Ok)(hN:∀j,j<m->K.l j)(o:OpD)(C:o.e=2):K.e m (.lf o):=by
 intro bb off c p l pv r nv A s W P hl ac hc hn hT Y aa am ab ah he hs O hA hm Z;simp only[TR.n]at hc hn hl;subst hl am;obtain⟨I,⟨sa,sc,c1,an⟩,J⟩:=hT;have N:=O.u;replace I:=ue I N;replace c1:=ue c1 N;replace J:=ue J N;obtain⟨j,v⟩:=Ws ac.2;have h6:=ac.2.2.2.2.2.2;unfold M.bM at h6;rw[Zn oM,Zp C,v]at h6;have af:j<K.g.nr:=oM;have hr:=L.a.r2;have TG:=ua (λw=>SF K.ra K.la sa K.g.nr K.rc K.g.nb K.lc sc o w (.inl C) C v oM oM oM);have ai:M.tg K.g.nr o=j:=by unfold M.tg;rw[Zn oM,v];rfl
 rw[ai]at TG;have e:(TR.lf o).a (M.bB K.g.nr)=.ref j:=by simp[TR.a,M.bB,C,v]
 rw[C]at I;rw[v]at J;have f1:0<c:=hc;have f3:¬c=0:=oM;have ap:=ud I;rw[e]at Z Y;obtain⟨hq,hr⟩:=Ax.h Y;have HK:=ua L;have S:=ua Z;have ag:W.heap.size≠K.b:=oH O.lt;generalize hX:W.alloc (Oc #[Iv 2,Sl sa o.sl sc,Iv j] 128)=X;have B:=ua (hX▸um W #[Iv 2,Sl sa o.sl sc,Iv j] 128);have H:Hid (Kf W X):=hX▸wU;have U:Hid (∀T,_->_->Cs 39 #[.pointer (Sm K.b 0)] X T):=λT=>yJ (P:=T) L (O.m H.o) he hs aa hq
 rw[hr]at U;have au:r<=1000:=oG hs.c L.m1;have aq:0<=r:=oM;have ao:IntKind.i64.wrap (r+1)=r+1:=by rw[ab];exact uM (s.st.length+1) oM
 have HD:=ua ab;have ak:=ua ah;have aj:=ua aa;have HA:=ua hA;have HM:=ua hm;have HN:=ua hN;clear Z an ah aa hs he O ac Y N C e hr ab hA hm hN v ai;go_enter func67,ntmps67;obtain⟨z,p',lz⟩:=B.o.x;go_wp2_with fail;clear z p' lz;refine U.o _ (λW1 w1 F e1 t l1=>?_) (λW1 w1 F=>?_)
 rotate_left
 ·go_wp2;exact wL (by simp[results,f67,go_sem]) rfl (S.o.b (s.c:Int) _ w1 ((vk H.o).c F))
 obtain⟨z,p',lz⟩:=(jX F B.o ag).x;have R:=ua F;have D:Hid (K.E (({ s.g with f:=Cw K.g j }:wD).n ⟨2,s.f+1,0,0⟩ K.a)):=e1;have k:Hid (K.Sg { s.g with f:=Cw K.g j }):=⟨t.e,t.thr,t.a,t.st,t.c⟩;have HW:Hid (K.Wd A { s.g with f:=Cw K.g j } W1):=w1.d rfl rfl rfl rfl;clear e1 t w1 F U;go_wp2_with fail;refine Pa HK.o (by rw[HD.o];rfl) HW.o k.o (λW2 G Q l2=>?_) (λW2 h1 h2 Q=>?_)
 rotate_left
 ·have h3:=h2 (Ends.d (by have:=D.o;rw[h1]at this;exact this) rfl);go_wp2;exact wL (by simp[results,f67,go_sem]) rfl (S.o.b (s.c:Int) _ h3 (((vk H.o).c R.o).c Q))
 obtain⟨z,p',lz⟩:=(jX (R.o.c Q) B.o ag).x;have ad:=ua (((vk H.o).c R.o).c Q);replace D:=ua (jC ⟨2,s.f+1,0,0⟩ l2▸D.o);have ND:Hid (∀V,Kf W2 V->Cs 41 #[.pointer (Sm K.b 0),Iv j,Iv s.c,Iv (r+1),.bool nv] V (Ts P)):=λV kV=>by
  have av:(s.b:Int)<K.c:=l1;refine HN.o (m-1) (oH HM.o) j (p+1) _ _ _ _ A s { s.g with f:=Cw K.g j,st:=s.st++[⟨2,((p+1:Nat):Int),0,0⟩] } V _ oM (by rw[vJ K.g af];exact Yi (HK.o.a.rb j af)) rfl rfl rfl ⟨rfl,rfl⟩ (Gw _) rfl ?_ ?_ ?_ ?_ ((G.m kV).d rfl rfl rfl rfl) (λx hx=>wX (HA.o x hx) (ad.o.c (vk kV)).h) ?_ (S.o.e (ad.o.c (vk kV))).d
  ·rw[HD.o];simp
  ·rw[ak.o];simp[wD.l]
  ·have:=D.o;rw[aj.o]at this;exact this
  ·exact⟨k.o.e,k.o.thr,k.o.a,k.o.st,by have:=l2;simp;exact this⟩
  show(K.c-((s.b+1:Nat):Int)).toNat<=m-1;have:=HM.o;omega
 obtain⟨xa,xn,xc,cd,lb,ps,G⟩:=G;obtain⟨y,py,ly⟩:=G.e.x;simp only[EC.wd]at y;clear G D k HW;go_upto_region 37 with fail;go_region_law (first
  |(refine yp SE rfl #[.tmp 214,.tmp 215] #[37,128] rfl (ys:=#[.agg #[Sl K.ra K.g.nr K.rc,Sl K.la K.g.nb K.lc],.agg #[Iv 2,Sl sa o.sl sc,Iv (j:Int)]]) (by simp[Act.eval,Act.put]) ((TG.o _).mono ?_);rintro e W3 ⟨rfl,ae⟩;have K3:Hid (Kf W2 W3):=(Bz _).c (wA.i ae (λ_ q _=>q));clear ae;refine⟨_,rfl,?_⟩)
  |(refine yp HL rfl #[.tmp 210,.tmp 216,.tmp 217,.tmp 219,.tmp 220] #[87,3,3,3,4] rfl (ys:=#[.pointer (Sm K.b 0),Iv (j:Int),Iv (s.c:Int),Iv (r+1),.bool nv]) (by simp[Act.eval,Act.put,ao]) ((ND.o _ K3.o).mono ?_);rintro e W4 ⟨h,z2,a2,n2,J,rfl,HP⟩;have al:=ua HP;clear HP;unfold yI;refine⟨_,rfl,?_⟩))
 all_goals go_wp2
 all_goals exact wL (by simp[results,f67,go_sem]) rfl al.o
end
section
open M (OpD uh Gr uw EX ins uJ emit_len)
def Yk(l:List Cp)(f:Cp):(l++[f]).any (λf=>f.e==1)=(l.any (λf=>f.e==1)||f.e==1):=sM
def ZZ{s:wD}{l:List Cp}{f:Cp}(h:s.st=l++[f])(a:f.e=1)(il:Nat)(I:Nat->Int)(mO:Int):s.q (ins 5 0 0) il I mO=s.r.fail:=by
 have b:s.s 1=true:=by unfold wD.s;rw[h,Ot];simp[a]
 unfold wD.q;simp[ins,b]
def Yl{s:wD}{l:List Cp}{f:Cp}(h:s.st=l++[f]):s.r.st=l:=by unfold wD.r;simp[h]
section
variable {K:EC} {s s1 s':wD}
def EC.j.to(h:K.j s1 s'){f:Cp}(k:s1.st=s.st++[f])(p:f.e≠2)(r:f.a=s.a.length)(i:s1.a=s.a){q:Nat}(u:f.to=(q:Int))(t:s.b<=s1.b):∃g,K.E g/\K.Sg g/\g.st=s.st/\g.a=s.a/\g.c=f.c/\g.f=(q:Int)/\s.b<=g.b/\s1.b<=g.b/\∀A W,K.Wd A s' W->K.Wd A g W:=by
 have e:=h.e;rw[h.b k p r i]at e;obtain⟨F,l,_⟩:=h.st;obtain⟨L,m⟩:=h.a;have n:=h.sg.a;have o:=h.sg.c;rw[m,i,wK]at n;rw[l,k,wK,wK]at o;refine⟨_,e,⟨h.sg.e,h.sg.thr,by show s.a.length<=s'.b;omega,h.sg.st,by show(s.st.length:Int)<=_;omega⟩,rfl,rfl,rfl,u,wN t h.more,h.more,λA W w=>w.d rfl rfl rfl rfl⟩
end
variable {K:EC} {m:Nat}
def A0(hK:K.Ok)(o:OpD)(hk:o.e=7)(x:TR)(ix:K.e m x):K.e m (.un o x):=by
 intro bb off c p l pv dv nv A s W P hl ai hc hn hT v ab an ag am he hs U hA hm S;simp only[TR.n]at hc hn hl;subst an;obtain⟨hx,D,⟨sa,sc,c1,ao⟩,c2⟩:=hT;have T:=U.u;replace D:=ue D T;replace c1:=ue c1 T;replace c2:=ue c2 T;obtain⟨k,ac⟩:=nm x.n;have nx:=x.n0;rw[ac]at D c1 c2 hc hn hl nx;subst hl;have x2:((k+1:Nat):Int)-1=(k:Int):=oM;have x3:(k:Int)<((k+1:Nat):Int):=oM;have z6:=uM k oM;have f1:k<c:=oM;have f2:k<=c:=oM;have f3:¬c=0:=oM;rw[hk]at D;have ap:=ud D;have e:(TR.un o x).a (M.bB K.g.nr)=.not (x.a (M.bB K.g.nr)):=by simp[TR.a,M.bB,hk]
 rw[e]at S v;obtain⟨xl,V⟩:=nm (x.a (M.bB K.g.nr)).c;simp only[uJ,EX.c,V]at S v;obtain⟨hq,hr⟩:=v.h;have HL:=ua v.a.left;have ad:=v.a.b;rw[emit_len,V]at ad;have ae:=ua ad.h;have af:=ua V;have HK:=ua hK;have j:=ua S;have ah:W.heap.size≠K.b:=oH U.lt;generalize hX:W.alloc (Oc #[Iv 7,Sl sa o.sl sc,Iv o.f] 128)=X;have B:=ua (hX▸um W #[Iv 7,Sl sa o.sl sc,Iv o.f] 128);have R:Hid (Kf W X):=hX▸wU;have q:Hid (∀C,_->_->Cs 39 #[.pointer (Sm K.b 0)] X C):=λC=>yJ (P:=C) hK (U.m R.o) he hs ab hq
 rw[hr]at q;have au:dv<=1000:=oG hs.c hK.m1;have aq:0<=dv:=oM;have HD:=ua ag;have aj:=ua ab;have HA:=ua hA;have HM:=ua hm;have IX:=ua (ix bb off c (p+1) k · (dv+1) true A · · · ac.symm ai.2.2 oM oM hx HL.o);clear S ao am ab hs he U ai v T hk e hr ag hA hm ix hx ac ad V;go_enter func67,ntmps67;obtain⟨z,p',lz⟩:=B.o.x;go_wp2_with fail;clear z p' lz;refine q.o _ (λW1 w1 H e1 t l1=>?_) (λW1 w1 H=>?_)
 rotate_left
 ·go_wp2;exact wL (by simp[results,f67,go_sem]) rfl (j.o.b (s.c:Int) _ w1 ((vk R.o).c H))
 obtain⟨z,p',lz⟩:=(jX H B.o ah).x;have aa:=ua H;have N:Hid (K.E (({ s.g with f:=s.f+1 }:wD).n ⟨1,((p+xl+2:Nat):Int),s.c,s.a.length⟩ K.a)):=e1;have w:Hid (K.Sg { s.g with f:=s.f+1 }):=⟨t.e,t.thr,t.a,t.st,t.c⟩;have HW:Hid (K.Wd A { s.g with f:=s.f+1 } W1):=w1.d rfl rfl rfl rfl;clear e1 t w1 H q;go_wp2_with fail;refine Pa HK.o (by rw[HD.o];rfl) HW.o w.o (λW2 w2 k2 l2=>?_) (λW2 h1 h2 k2=>?_)
 rotate_left
 ·have h3:=h2 (Ends.d (by have:=N.o;rw[h1]at this;exact this) rfl);go_wp2;exact wL (by simp[results,f67,go_sem]) rfl (j.o.b (s.c:Int) _ h3 (((vk R.o).c aa.o).c k2))
 obtain⟨z,p',lz⟩:=(jX (aa.c k2) B ah).x;have O:=ua (((vk R).c aa).c k2);replace N:=ua (jC ⟨1,((p+xl+2:Nat):Int),s.c,s.a.length⟩ l2▸N.o);have al:=ua w2;have av:=l1;go_wp2_with fail;obtain⟨s1,i⟩:=nm ({ s.g with f:=s.f+1,st:=s.st++[⟨1,((p+xl+2:Nat):Int),s.c,s.a.length⟩] }:wD);have Y:s1.st=s.st++[⟨1,((p+xl+2:Nat):Int),s.c,s.a.length⟩]:=i▸rfl;have i2:s1.a=s.a:=i▸rfl;have i3:s1.b=s.b+1:=i▸rfl;refine IX _ s1 W2 _ ?_ (i▸rfl) ?_ ?_ ?_ ?_ (i▸al.d rfl rfl rfl rfl) (λy hy=>wX (HA y hy) O.h) ?_ ⟨λs' L B' a n c' W3 f J r I=>?_,λs' z3 W3 f J I=>?_,λz3 W3 J I=>?_⟩
 ·rw[<-i];show s.f+1=_;rw[aj.o];rfl
 ·rw[Y,HD.o];simp
 ·unfold wD.l;rw[Y,Yk];simp
 ·exact i▸N.o
 ·exact i▸⟨w.e,w.thr,w.a,w.st,by have h:(s.st.length:Int)<K.a:=l2;show((s.st++[_]).length:Int)<=_;rw[wK,Bs];omega⟩
 ·rw[i3];have:=HM.o;omega
 ·have k4:=O.c I;have F:=ua f;have Z:=f.st.trans Y;have q:=ua (λC=>yJ (P:=C) HK (J.g (B:=A) (λ_=>.inl)) f.e f.sg f.f (by rw[af.o];exact ae.1));rw[af.o,ae.o.2]at q;have K4:=ua k4;unfold yI;go_wp2_with fail;refine q _ (λW4 w4 k5 e4 G l4=>?_) (λW4 w4 k5=>?_)
  ·rw[ZZ (s:=s'.g) Z rfl]at e4;have ak:=ua e4;go_wp2;refine wL (by simp[results,f67,go_sem]) rfl (j.fail s'.g.r (s.c:Int) _ ⟨⟨[],by rw[Yl (s:=s'.g) Z];simp,λf h=>by cases h⟩,⟨L,F.a.trans (by rw[i2])⟩,ak,⟨G.e,G.thr,G.a,G.st,?_⟩,?_⟩ (w4.d rfl rfl rfl rfl) (K4.c k5))
   ·rw[Yl (s:=s'.g) Z];have:=G.c;rw[show s'.g.st=_ from Z]at this;simp at this;omega
   have:=F.more;show s.b<=s'.b+1;omega
  go_wp2;exact wL (by simp[results,f67,go_sem]) rfl (j.b (s.c:Int) _ w4 (K4.c k5))
 ·obtain⟨s2,h1,h2,h3,h4,h5,h6,h7,_,h8⟩:=f.to (s:=s) Y (by show(1:Int)≠2;decide) rfl i2 rfl oM;have h5':=h5;have Q:=ua (j.f (s':=s2) ⟨h3,by rw[h6,<-Eo],by rw[h4];simp,h1,h2,h7,h5'▸.nil wF⟩ (h8 _ _ J) (O.c I));rw[h5']at Q;unfold yI;go_wp2;exact wL (by simp[results,f67,go_sem]) rfl Q
 have Q:=ua (j.b (s.c:Int) _ J (O.c I));unfold yI;go_wp2;exact wL (by simp[results,f67,go_sem]) rfl Q
end
end Go.Proofs.YtoihadcablknpaaGreatDoor
