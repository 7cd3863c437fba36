import Derived.Test.YtmlblamikgkdcaaGreatT17
set_option linter.unusedVariables false
set_option linter.unusedSimpArgs false
set_option linter.defProp false
set_option maxHeartbeats 40000000
set_option maxRecDepth 100000
namespace Go.Proofs.YtmlblamikgkdcaaGreat
open Go.RowKit
open Go.Proofs.Tryz
section
open M (OpD ug Gr)
def Jy(w:Wl)(b r:Nat)(a:List LI)(g:List Int->Nat)(c:List Int->Prop)(cnt:Nat):Prop :=
 ∃D left,w.ranges prog 9 (plainElem (H:=Unit) prog 3) b r a.length D left cnt/\(∀l,Maps.has D l=true↔∃z∈a,l=ke z)/\(∀z∈a,D.atKey (ke z) (.lit (.int .i64 0))=.lit (.int .i64 (g z:Nat)))/\(∀z∈a,(left (ke z)=true↔c z))/\∀l,left l=true->Maps.has D l=true
def Jy.g{w b r a}{g:List Int->Nat}{c:List Int->Prop}{cnt}(h:Jy w b r a g c cnt):w.rangeLeft b r=cnt:=by
 obtain⟨D,left,h,_⟩:=h;exact h.left_eq
def Jy.lt{w b r a}{g:List Int->Nat}{c:List Int->Prop}{cnt}(h:Jy w b r a g c cnt):b<w.heap.size/\r<w.heap.size:=by
 obtain⟨D,left,h,_⟩:=h;exact⟨h.owns.lt,h.lt⟩
def Jy.on{w w' b r a}{g:List Int->Nat}{c:List Int->Prop}{cnt}(h:Jy w b r a g c cnt)(m:w'.heap[b]?=w.heap[b]?)(n:w'.heap[r]?=w.heap[r]?):Jy w' b r a g c cnt:=by
 obtain⟨D,left,h,j⟩:=h;refine⟨D,left,?_,j⟩;obtain⟨f,e,p,seen,d,i,F,o,l,k,rest⟩:=h;exact⟨f,e,p,seen,d,m.trans i,F,o,l,n.trans k,rest⟩
section
variable (w:Wl) {ops:Array Oper} {rest:List Oper} {o:Oper} {a:Act} {Q:Exit->Act->World->Prop}
def uvK(t:o.guard=none)(m:Operand)(v:o.op=Op.range 82 m)(b:Nat)(c:List LI)(g:List Int->Nat)(u:a.eval m=.map (some b))(h:zU w b c g){r:Nat}(x:r=w.heap.size)
  (s:∀W',Hid (Jy W' b r c g (λ_=>True) c.length)->Hid (w.grownBy W' none)->Hid (W'.heap.size=w.heap.size+1)->wpList prog ops Q rest (a.put o.dst (Pt r 0)) W'):wpList prog ops Q (o::rest) a w:=by
 subst x;let⟨D,j,n,e,p⟩:=h.k;refine wpList_range_own w t m 82 v 9 3 Rf underlying82 _ b _ D u j (λW' d f i=>s W' ?_ f i);rw[n]at d;exact⟨D,_,d,e,p,λz y=>⟨λ_=>trivial,λ_=>(e _).2 ⟨z,y,rfl⟩⟩,λl q=>q⟩
def uxk(X:o.guard=none)p(ac:o.op=Op.next p false)b r f(g:List Int->Nat)(j:List Int->Prop)cnt(Y:a.eval p=.pointer (Sm r 0))(h:Jy w b r f g j cnt)(B:∀z∈f,zW z){F:List Int->World->Prop}(T:∀z W',z∈f->w.grownBy W' (some r)->F z W')(S:Hid (∀z∈f,¬j z)->wpList prog ops Q rest (a.put o.dst (.tuple #[Bf])) w)(U:∀(z:LI) (W':Wl) (i:Nat),Hid (z∈f)->Hid (j z)->Hid (Jy W' b r f g (λy=>j y/\y≠z) i)->Hid (i<cnt)->Hid (w.grownBy W' (some r))->Hid (W'.heap.size=w.heap.size)->(Instr.entry (Pt r 0)).run prog W'=.ok (.tuple #[.string (str z.length (lf z)),Iv (g z:Nat)]) W'->F z W' ->
   wpList prog ops Q rest (a.put o.dst (.tuple #[Bt,.string (str z.length (lf z)),Iv (g z:Nat)])) W'):wpList prog ops Q (o::rest) a w:=by
 obtain⟨D,left,R,t,u,k,A⟩:=h;refine wpList_next_ranges w X p ac 9 Rf _ encStr (Value.int .i64) (λaf kl m=>by let⟨x,hx,_⟩:=Maps.keyOf_str underlying9 m;exact⟨x,hx⟩) (λv y n=>by obtain⟨c,rfl,_⟩:=plainElem_int_inv underlying3 n;exact⟨c,rfl⟩) b r _ D left cnt Y R (λ_ Z=>S (λz d q=>?_)) (λx c kl y W' i m G n V ad aa E ae C=>?_)
 .have:=(k z d).2 q;rw[Z]at this;cases this
 obtain⟨x',N,rfl,_⟩:=Maps.keyOf_str underlying9 m;obtain rfl:x=x':=encStr_inj N;let⟨z,d,P⟩:=(t _).1 (A _ G);have ez':x=u8 z:=Lit.string.inj P;subst ez';obtain⟨c',L,O,_⟩:=plainElem_int_inv underlying3 n;cases L;have W:c=(g z:Nat):=by
  have s:=V (.lit (.int .i64 0));rw[<-BK,u z d,O]at s;have I:(DataW.lit (.int .i64 ((g z:Nat):Int)):DataW Unit)=.lit (.int .i64 c):=s;have J:=DataW.lit.inj I;exact(Lit.int.inj J).2.symm
 subst W;rw[YJ]at C ⊢;refine U z W' i d ((k z d).1 (by rw[BK];exact G)) ⟨D,_,ad,t,u,λy H=>?_,λl q=>A l (by simp only[Ng]at q;exact q.1)⟩ aa E ae C (T z W' d E);by_cases e:y=z
 .subst e;simp only[BK,ne_eq,not_true,and_false,iff_false,Ng,Bool.not_eq_true',not_and];intro _;simp[Lit.sameKey]
 have ab:(ke y).sameKey (.string (u8 z))=false:=Maps.sameKey_ne (λq=>e (CY (B y H) (B z d) (by rw[BK z];exact q)));rw[ab];simp only[Bool.not_false,Bool.and_true];exact(k y H).trans ⟨λq=>⟨q,e⟩,λq=>q.1⟩
end
abbrev Uo(n:Nat):Array Value:=madeCells #[nS,Bf,nS] (n*3)
def JF n j(h:j<n*3):(Uo n)[j]?=if j%3=1 then some Bf else some nS:=by
 unfold Uo madeCells;rw[Array.getElem?_map,Array.getElem?_range,Zp h];have a:j%3=0\/j%3=1\/j%3=2:=oM;rcases a with e|e|e<;>simp[e]
def uqt b Z W n:Oo b Z W (Uo n) (List.replicate n ⟨[],false,[]⟩):=by
 refine⟨by rw[Ox];exact size_madeCells _ _,λi x a=>?_⟩;rw[List.getElem?_replicate]at a;split at a
 .obtain rfl:=(Qu a).symm;refine⟨none,0,none,0,?_,?_,?_,⟨.inl rfl,.inl rfl,zD⟩⟩
  .rw[JF _ _ oM,Zn oM];rfl
  .rw[JF _ _ oM,Zp oM]
  rw[JF _ _ oM,Zn oM];rfl
 cases a
structure XI(qs:List Rl)(ls:List LI):Prop where
 nm:BF qs
 g:jk [] qs=none
 r:Fg ls
 i:∀q∈qs,q.a.isSome=true->q.f.nm∈ls
 j:∀q∈qs,∀t∈q.e.b,t.nm∈uq qs
 m:∀q∈qs,∀t∈q.e.a,t.nm∈ls
 e:∀q∈qs,(q.e.e (uq qs) ls).length<=1000000
def JG(a:Wl)(b1 d:Nat)(ls:List LI)(v:Vl)(wr:Wl):Prop :=
 ∃b cnt c lb,Jy wr d (a.heap.size+4) ls (Cg ls) b cnt/\BU a b1 d wr (λ_=>False) nS c [] lb/\lb.length=ls.length/\a.heap.size+5<=wr.heap.size/\∀(i:Nat) (z:LI),ls[i]?=some z->(b z->lb[i]?=some ⟨[],false,[]⟩)/\(¬b z->lb[i]?=some ⟨z,false,[]⟩)
def BC(b:Wl)(b1 d:Nat)(a:List Rl)(ls:List LI)(v:Vl)(wr:Wl):Prop :=
 ∃m A e c,m<=a.length/\v=Iv (m:Nat)/\BU b b1 d wr A e c (vF (uq a) ls (a.take m)) (vE (uq a) ls (a.take m))/\b.heap.size+5<=wr.heap.size
def XJ{w w' r}(h:w.grownBy w' (some r)):zA (λb=>b=r) w w':=⟨h.os,h.tape,h.output,h.size,λb a c=>h.block b a (λq=>c (Qu q))⟩
section
variable {K:RK} {z:RZ} {W0 W W' W2:Wl} {qs:List Rl} {P:Ew} {b1 b2:Nat} {ls:List LI} {v:Vl}
def uqu{a:List Int->Prop}{lb d}(c:lb.length=ls.length)(h:∀(i:Nat) (z:LI),ls[i]?=some z->(a z->lb[i]?=some ⟨[],false,[]⟩)/\(¬a z->lb[i]?=some ⟨z,false,[]⟩))(b:∀z∈ls,¬a z):lb=vE d ls []:=by
 refine Oy (λi=>?_);unfold vE;rw[Ev];cases e:ls[i]? with
 |none=>rw[List.getElem?_eq_none (by rw[c];exact List.getElem?_eq_none_iff.1 e)];rfl
 |some z=>rw[(h i z e).2 (b z (Cn e))];rfl
def us2{m:List Int->Prop}{cnt nc:Nat}{y:LI}{c:Av}{lb:List NL}(nd:ls.Nodup)(N:b2<W0.heap.size)(I:y∈ls)(H:m y)(h:BU W0 b1 b2 W (λ_=>False) nS c [] lb)(s:lb.length=ls.length)(L:W0.heap.size+5<=W.heap.size)(o:∀(i:Nat) (z:LI),ls[i]?=some z->(m z->lb[i]?=some ⟨[],false,[]⟩)/\(¬m z->lb[i]?=some ⟨z,false,[]⟩))
  (B:zA (λb=>b=W0.heap.size+4) W W') (u:Jy W' b2 (W0.heap.size+4) ls (Cg ls) (λx=>m x/\x≠y) cnt) (k:Kf W' W2) (P:W2.heap.size=W'.heap.size+1) (G:Ints (λb=>b=W'.heap.size) .u8 W2 (Sm W'.heap.size 0) y.length (lf y)) :
  zG W2 (W0.heap.size+2) c/\c.size=ls.length*3/\(∀v,JG W0 b1 b2 ls v (W2.setCell (Ad (W0.heap.size+2) (Cg ls y*3)) (Sl (Sm W'.heap.size 0) y.length nc)))/\(W2.setCell (Ad (W0.heap.size+2) (Cg ls y*3)) (Sl (Sm W'.heap.size 0) y.length nc)).rangeLeft b2 (W0.heap.size+4)=cnt:=by
 have p:Cg ls y<ls.length:=List.idxOf_lt_length_of_mem I;have C:ls[Cg ls y]?=some y:=by rw[Bb p];exact Bj some (List.getElem_idxOf p)
 have U:=(h.on B).on (k.h (λ_ q=>q.elim));have S:=B.l;have w:=(o _ _ C).1 H;have D:Jy (W2.setCell (Ad (W0.heap.size+2) (Cg ls y*3)) (Sl (Sm W'.heap.size 0) y.length nc)) b2 (W0.heap.size+4) ls (Cg ls) (λx=>m x/\x≠y) cnt :=
  u.on ((Bn (by show b2≠W0.heap.size+2;omega)).trans (k.d _ u.lt.1 (λe=>e))) ((Bn (by show W0.heap.size+4≠W0.heap.size+2;omega)).trans (k.d _ u.lt.2 (λe=>e)))
 refine⟨U.d,by rw[U.la.sz,s],λv=>⟨_,cnt,c.setIfInBounds (Cg ls y*3+0) (Sl (Sm W'.heap.size 0) y.length nc),lb.set (Cg ls y) ⟨y,false,[]⟩,D,U.set (j:=0) w oM _ ?_,by rw[Hb,s],by rw[uh];omega,λi z a=>?_⟩,D.g⟩
 .obtain⟨na,R,ba,bc,J,E,F,A⟩:=U.la.f _ _ w;have Q:=U.la.sz;refine U.la.n w sM (λk O=>by rw[Jk oM]) (by rw[Dy,Yb oM]) (by rw[Jk oM];exact E) (by rw[Jk oM];exact F) ⟨G.g (λb q=>⟨⟨by rw[q];omega,λx=>x.elim (λx=>oM) id⟩,.inl (by rw[q];omega)⟩),A.bd,A.r⟩
 by_cases e:z=y
 .subst e;obtain rfl:i=Cg ls z:=(Xl nd a).symm;rw[Ie (by rw[s];exact p)];exact⟨λq=>aB rfl q.2,λ_=>rfl⟩
 rw[Oz (λq=>e (by rw[<-q,C]at a;exact(Qu a).symm))];exact⟨λq=>(o i z a).1 q.1,λq=>(o i z a).2 (λt=>q ⟨t,e⟩)⟩
def Jg.at{b Z w}:∀{rs:List NL} {cs:List Value},Jg b Z w rs cs->cs.length=rs.length*2/\∀{k:Nat} {x:NL},rs[k]?=some x->∃na nc ba bc,cs[k*2]?=some (Sl na x.nm.length nc)/\cs[k*2+1]?=some (Sl ba x.bd.length bc)/\NB b Z w x na ba bc
 |[],cs,h=>⟨by rw[show cs = [] from h];rfl,λa=>by simp at a⟩
 |y::r,_,⟨na,nc,ba,bc,cs',rfl,h1,h2⟩=>by
  have c:=Jg.at h2;refine⟨by rw[zJ,c.1,Db];simp;omega,λ{k d} a=>?_⟩;cases k with
  |zero =>
   obtain rfl:y=d:=(by simpa using a);exact⟨na,nc,ba,bc,rfl,rfl,h1⟩
  |succ k =>
   obtain⟨n,o,l,m,f,g,i⟩:=c.2 (k:=k) (by simpa using a);have e:∀j,([Sl na y.nm.length nc,Sl ba y.bd.length bc]++cs')[(k+1)*2+j]?=cs'[k*2+j]?:=λj=>by
    rw[Fb sO];congr 1;simp;omega
   exact⟨n,o,l,m,(e 0).trans f,(e 1).trans g,i⟩
def getD_some{α}[Inhabited α]{l:List α}{i}(h:i<l.length):l[i]?=some (l.getD i default):=by rw[El,Bb h];rfl
def BU.j{A:Np}{w:Vl}{c:Av}{rs lb:List NL}(h:BU W0 b1 b2 W A w c rs lb):∃ra rc,w=Sl ra rs.length rc/\zV (λb=>(b<W.heap.size/\b≠W0.heap.size+1)/\(W0.heap.size<=b\/Li W0 b)) W ra (Sm (W0.heap.size+2) 0) (gram rs lb):=by
 let⟨cs,v,y⟩:=h.g;have n:∀b,Ou W0 (ZB W0 A) W b->(b<W.heap.size/\b≠W0.heap.size+1)/\(W0.heap.size<=b\/Li W0 b):=λb q=>⟨⟨q.1.1,λe=>q.1.2 (.inl ⟨oM,oM⟩)⟩,q.2⟩;have E:=h.sz;obtain⟨ra,rc,rfl⟩:=uj v;refine⟨ra,rc,rfl,⟨?_,.inr ⟨W0.heap.size+2,0,rfl,⟨⟨oM,oM⟩,.inl oM⟩,λi l=>?_⟩⟩⟩
 .rcases v with⟨_,s,_⟩|⟨g,cap,e,u,B,C,t,D⟩
  .exact .inl s
  injection e with s e2 e3;subst s e3;refine .inr ⟨g,0,rfl,⟨⟨(h.a g u).2,by have:=(h.a g u).1;omega⟩,.inl (oH ((h.a g u).1))⟩,λi l=>?_⟩;have l:i<rs.length:=l;let⟨na,nc,ba,bc,o,m,k⟩:=y.at.2 (getD_some l);rw[Bp];exact⟨⟨⟨na,nc,(t _ oM).trans o,k.nm.g n⟩,⟨ba,bc,(t _ oM).trans m,k.bd.g n⟩⟩,⟨ba,bc,(t _ oM).trans m,k.r⟩⟩
 let⟨na,nc,ba,bc,o,m,k,p⟩:=h.la.f i _ (getD_some l);have z:=h.d.x.1;rw[Bp];exact⟨⟨⟨na,nc,(z _).trans o,p.nm.g n⟩,(z _).trans m,⟨ba,bc,(z _).trans k,p.bd.g n⟩⟩,⟨ba,bc,(z _).trans k,p.r⟩⟩
def BU.i{A:Np}{u:Vl}{c:Av}{rs lb:List NL}{i c':Nat}{x:NL}{a:Oa}{D:List OpD}(h:BU W0 b1 b2 W A u c rs lb)(l:lb[i]?=some x)(C:zM (Ou W0 (ZB W0 A) W) W a D.length (df D))(E:D.length<=c') :
  ∃v,BU W0 b1 b2 ((W.setCell (Ad (W0.heap.size+2) (i*3+1)) Bt).setCell (Ad (W0.heap.size+2) (i*3+2)) (Sl a D.length c')) A u v rs (lb.set i ⟨x.nm,true,D⟩):=by
 let⟨na,nc,ba,bc,o,s,t,e⟩:=h.la.f i x l;have w:=(Bz.1 l).1;have F:=h.la.sz;have m:Cu (ZB W0 A) W (ZB W0 A) (W.setCell (Ad (W0.heap.size+2) (i*3+1)) Bt):=Cu.d (Dh (.inl ⟨by show _<=W0.heap.size+2;omega,by show W0.heap.size+2<_;omega⟩));have g:=h.set (y:=⟨x.nm,true,x.bd⟩) (j:=1) l oM Bt (h.la.n l sM (λk z=>Jk oM) ((Jk oM).trans o) (Yb oM) ((Jk oM).trans t) ⟨e.nm,e.bd,e.r⟩);have p:(lb.set i ⟨x.nm,true,x.bd⟩)[i]?=some ⟨x.nm,true,x.bd⟩:=Ie w;have B:=g.la.sz;let⟨na,nc,ba,bc,o,s,t,e⟩:=g.la.f i _ p;have q:=g.set (y:=⟨x.nm,true,D⟩) (j:=2) p oM (Sl a D.length c') (g.la.n p sM (λk z=>Jk oM) ((Jk oM).trans o) ((Jk oM).trans s) (Yb (by rw[B,Hb];omega)) ⟨e.nm,JN C m,E⟩);rw[List.set_set]at q;exact⟨_,q⟩
def us3(s:K.DS z qs W)(M1:zU W b1 (uq qs) (Cg (uq qs)))(F:zU W b2 ls (Cg ls))(hH:XI qs ls)(bh:∀ra rc la lc W',zV (λb=>b<W'.heap.size/\(W.heap.size<=b\/Li W b)) W' ra la (uZ ls qs)->Kf W W'->P (Rt (.agg #[Sl ra (uZ ls qs).nr rc,Sl la (uZ ls qs).nb lc])) W') :
  Cs 34 #[rp K.rb,.agg #[.map (some b1),.map (some b2)]] W P:=by
 have NX:=ua bh;have Y:=ua hH;have N1:=ua M1;have N2:=ua F;have ce:qs.length<=1000000:=oH s.c;let⟨ca,ah,ap⟩:=s.g;let⟨ra,rc,az⟩:=uj ah;have c6:W.cell? (Ad K.rb 6)=some (Sl ra qs.length rc):=(s.st.sc.e.x.1 6).trans (Bj some az);have bw:=s.st.sc.e.x.2.2;rw[az]at ah;have bk:Hid (∀m q,qs[m]?=some q->∃g ty u,ra=some (Ad g 0)/\g<W.heap.size/\TrV W (uq qs) ls (.iface ty u) (q.e.e (uq qs) ls)/\∀j,j<4->W.cell? (Ad g (m*4+j))=(Sk q (.iface ty u))[j]?):=λm q B=>(by
  let⟨g,e,hg,hc⟩:=JK (w':=W) ah ap.at.1 (Bz.1 B).1;let⟨ty,u,ht,h3⟩:=ap.at.2 B;have hm:=Cn B;exact⟨g,ty,u,e,(s.st.d g hg).1,ht.b (hH.j q hm) (hH.m q hm),λj hj=>(hc j hj).trans (h3 j hj)⟩)
 have cd:ls.length<=1000000:=F.c;have am:b2<W.heap.size:=F.lt;have a0:=ua F.h;have bn:=ua F.nd;have bt:=λV=>M8 ls.length oM V;generalize aa:(W.alloc (Oc #[.map (some b1),.map (some b2)] 84)).alloc (Oc #[nS,nS] 34)=G;have s1:G.heap.size=W.heap.size+2:=by rw[<-aa];simp
 have k1:Kf W G:=aa▸zY.c zY;have b0:zG G W.heap.size #[.map (some b1),.map (some b2)]:=aa▸(um W _ 84).al _;have a5:zG G (W.heap.size+1) #[nS,nS]:=aa▸uW _ _ 34 _ sM;generalize ab:(G.alloc (Oc (Uo ls.length) 69)).alloc (Oc #[nS,Sl (Sm (W.heap.size+2) 0) ls.length ls.length] 34)=V3;have s3:V3.heap.size=W.heap.size+4:=by rw[<-ab];simp[s1]
 have S:Kf G V3:=ab▸zY.c zY;have b2':zG V3 (W.heap.size+2) (Uo ls.length):=ab▸(uW G _ 69 _ s1.symm).al _;have b3:zG V3 (W.heap.size+3) #[nS,Sl (Sm (W.heap.size+2) 0) ls.length ls.length]:=ab▸uW _ _ 34 _ (by simp[s1]);have af:=ua (F.on (k1.d _ am (λe=>e)));have a2:=ua (af.o.on (S.d _ af.o.lt (λe=>e)));have U0:Hid (BU W b1 b2 V3 (λ_=>False) nS (Uo ls.length) [] (List.replicate ls.length ⟨[],false,[]⟩)) :=
  ⟨k1.c S,b0.on S.q,a5.on S.q,b2',by rw[Ox];exact b3,uqt _ _ _ _,⟨[],.inl ⟨rfl,rfl,rfl⟩,rfl⟩,λ_ q=>q.elim⟩
 let⟨q0,p0,l0⟩:=b0.x;let⟨q1,p1,l1⟩:=(b0.on S.q).x;clear s ah ap az hH bh M1 F k1 S b0 a5 b2' b3;go_enter func34,ntmps34;go_wp2_with (first
  |(at_len;refine CZ _ rfl _ rfl b2 ls (Cg ls) rfl af.o ?_)
  |(at_range;refine uvK _ rfl _ rfl b2 ls (Cg ls) rfl a2.o (r:=W.heap.size+4) s3.symm ?_;intro V4 ac H bf))
 go_frame;have HI:Hid (∀v,JG W b1 b2 ls v V4):=λv=>⟨_,_,_,_,ac.o,U0.o.on ⟨H.o.os,H.o.tape,H.o.output,H.o.size,λb hb _=>H.o.block b hb sM⟩,by rw[Ox],by rw[bf.o,s3];omega,λi z hz=>⟨λ_=>by rw[List.getElem?_replicate,Zp (Bz.1 hz).1],λq=>aB trivial q⟩⟩;clear ac H bf aa ab q0 p0 l0 q1 p1 l1 U0 af a2 bt;go_loopw [6] (JG W b1 b2 ls) (λ_ wr=>wr.rangeLeft b2 (W.heap.size+4))
 .exact HI.o _
 clear HI;obtain⟨b8,cnt,c,lb,ac,t,au,C,hi⟩:=hrel;have RG:=ua ac;have w:=ua t;have ae:=ua au;have I:=ua C;have ak:=ua hi;have bq:ls.length=lb.length:=au.symm;have HF:Hid (∀y W',y∈ls->wr.grownBy W' (some (W.heap.size+4))->W'.cell? (Ad (W.heap.size+3) 1)=some (Sl (Sm (W.heap.size+2) 0) ls.length ls.length)/\W.heap.size+3<W'.heap.size/\((Cg ls y:Nat):Int)<(ls.length:Int)):=λy W' hy hg=>(by
  have:=(w.o.on (XJ hg)).h.x;rw[ae.o]at this;have hl:Cg ls y<ls.length:=List.idxOf_lt_length_of_mem hy;exact⟨this.1 1,this.2.2,oM⟩)
 have d6:wr.cell? (Ad K.rb 6)=some (Sl ra qs.length rc):=(t.kp.p (p:=(Ad K.rb 6)) bw (λz=>z)).trans c6;clear ac t au hi bq;go_wp2_with (first
  |(at_next;refine uxk _ rfl _ rfl b2 (W.heap.size+4) ls (Cg ls) b8 cnt rfl RG.o a0.o HF.o (λa8=>?_) (λy W' b9 hy bz bx av bs cf cb b5=>?_))
  |(let⟨nc,W2,N,hn,R,aj⟩:=XX W' (a0.o y hy.o);refine XY rfl _ rfl rfl N ?_;let⟨bl,bp,E,NL⟩:=us2 (nc:=nc) bn.o am hy.o bz.o w.o ae.o I.o ak.o (XJ bs.o) bx.o R aj hn;obtain⟨u0,bg⟩:∃u,c[Cg ls y*3]?=some u:=⟨_,Qv (oH b5.2.2)⟩;let⟨T,p5,l5⟩:=bl.x;have r0:=(T _).trans bg;have rf:=p5 (Cg ls y*3);have E:=ua E;have bm:Hid ((W2.setCell (Ad (W.heap.size+2) (Cg ls y*3)) (Sl (Sm W'.heap.size 0) y.length nc)).rangeLeft b2 (W.heap.size+4)<wr.rangeLeft b2 (W.heap.size+4)):=(by rw[NL,RG.o.g];exact av.o);clear N hn R aj bl bp NL bg T p5))
 .have a1:Hid (BC W b1 b2 qs ls (Iv ((0:Nat):Int)) wr):=⟨0,λ_=>False,nS,c,zK,rfl,(by rw[List.take_zero,<-uqu ae.o ak.o a8.o];exact w.o),I.o⟩;clear a8 w ae I ak HF RG c6;go_wp2;go_loopw [37] (BC W b1 b2 qs ls) (λv _=>qs.length-(intOf v).toNat)
  .exact a1.o
  clear a1 d6;obtain⟨m,A,rv,c,hm,rfl,t,C⟩:=hrel;by_cases ai:m<qs.length
  .obtain⟨q,B⟩:∃q,qs[m]?=some q:=⟨_,Bb ai⟩;obtain⟨g,ty,u,rfl,hg,ht,hc⟩:=bk.o m q B;let⟨y0,y1,y2,y3⟩:=BE (w':=wr) hc (t.kp.d g hg (λe=>e));have ax:=Cn B;have H:g<wr.heap.size:=oH t.kp.l;have av:(m:Int)<(qs.length:Int):=oM;let⟨bv,an⟩:=nm q.a.isSome;let⟨sz,ay⟩:=nm (str q.f.nm.length (lf q.f.nm));have HQ:=ua B;have ad:=ua an;have a3:=ua ay;have HZ:=ua (Y.o.nm q ax);rw[an]at y2;rw[ay]at y0;generalize hX:wr.alloc (Oc #[.string sz,Iv (q.f.f:Nat),.bool bv,.iface ty u] 170)=X;have kX:Kf wr X:=hX▸zY;have J:=t.on (kX.h (λ_ q=>q.elim));have BD:zG X wr.heap.size #[.string sz,Iv (q.f.f:Nat),.bool bv,.iface ty u]:=hX▸um wr _ 170;let⟨q0,p0,l0⟩:=J.e.x;let⟨q1,p1,l1⟩:=BD.x;let⟨D,hD⟩:=nm (q.e.e (uq qs) ls);have HD:=ua hD;have a7:=Y.o.e q ax;rw[hD]at ht a7;have HC:=ua (λP'=>uvJ N1.o N2.o ht X nS [] (λ_=>False) P' J.kp ⟨⟨[],.inl ⟨rfl,rfl,rfl⟩,rfl⟩,λ_ q=>q.elim⟩ (by show 0+D.length<=_;omega));have a4:Hid (∀(a:Oa) (c':Nat) (U:Wl) (O:Np),Ln W O U (Sl a D.length c') D->Cu (λ_=>False) X O U->BU W b1 b2 U A rv c (vF (uq qs) ls (qs.take m)) (vE (uq qs) ls (qs.take m))/\zG U wr.heap.size #[.string sz,Iv (q.f.f:Nat),.bool bv,.iface ty u]/\W.heap.size+5<=U.heap.size/\zM (Ou W (ZB W A) U) U a D.length (df D)/\D.length<=c'):=λa c' U O L m1=>(by
    have hA:=t.a;have cc:=J.kp.l;have ks:=kX.l;have ku:Kf X U:=m1.kp;have ku':=ku.l;have cg:wr.heap.size<X.heap.size:=l1;let⟨o1,o2⟩:=L.e (Q:=Ou W (ZB W A) U) (J.kp.c ku) (λb q=>⟨⟨(L.o b q).2,λz=>by have h:=(m1.nw b q).resolve_left (λe=>e);exact z.elim (λz=>oM) (λz=>oH ((hA b z).2))⟩,.inl (L.o b q).1⟩) (λb q=>⟨⟨by have:=q.1;omega,λz=>by have:=q.1;exact z.elim (λz=>oM) (λz=>oH ((hA b z).1))⟩,.inr q⟩);exact⟨J.on (ku.h (λ_ q=>q.elim)),BD.on ku.q,oM,o1,o2⟩)
   clear hc ht t C B ax an ay kX J BD hD a7;go_wp2_with fail;clear hX;refine HC.o _ λa c' U O L m1=>?_;let⟨ag,bd,C,ob,bi⟩:=a4.o a c' U O L m1;have w:=ua ag;have OB:=ua (show zM (Ou W (ZB W A) U) U a D.length (df D)/\D.length<=c' from ⟨ob,bi⟩);have I:=ua C;clear L m1 ob bi HC a4 q0 p0 l0 q1 p1 l1 y0 y1 y2 y3;let⟨q0,p0,l0⟩:=ag.e.x;let⟨q1,p1,l1⟩:=bd.x;let⟨q2,p2,l2⟩:=ag.h.x;have TK:=ua (JJ HQ.o);clear ag bd C;have br:([]++D).length=D.length:=rfl;rw[br];cases bv with
   |true =>
    have aw:=Y.o.i q (Cn HQ.o) ad.o;have aq:Cg ls q.f.nm<ls.length:=List.idxOf_lt_length_of_mem aw;have hk:ls[Cg ls q.f.nm]?=some q.f.nm:=(by rw[Bb aq];exact Bj some (List.getElem_idxOf aq));have hx:(vE (uq qs) ls (qs.take m))[Cg ls q.f.nm]?=some (kR (uq qs) ls (qs.take m) q.f.nm):=(by unfold vE;rw[Ev,hk];rfl);let⟨na,nc,ba,bc,e1,e2,e3,_⟩:=w.o.la.f _ _ hx;let⟨T,p5,l5⟩:=w.o.d.x;have r1:=(T _).trans e2;have r2:=(T _).trans e3;have E:Hid (BC W b1 b2 qs ls (Iv ((m:Int)+1)) ((U.setCell (Ad (W.heap.size+2) (Cg ls q.f.nm*3+1)) Bt).setCell (Ad (W.heap.size+2) (Cg ls q.f.nm*3+2)) (Sl a D.length c'))):=(by
     let⟨c2,hB⟩:=w.o.i hx OB.o.1 OB.o.2;refine⟨m+1,A,rv,c2,ai,sM,?_,by simp only[uh];exact I.o⟩;rw[TK.o,kh,ad.o,QT Y.o.r hk ad.o (λs hs=>GM Y.o.g m q HQ.o s (by simpa using hs)),HD.o];have bu:(kR (uq qs) ls (qs.take m) q.f.nm).nm=q.f.nm:=by unfold kR;split<;>rfl
     rw[bu]at hB;simpa using hB)
    have hil':((Cg ls q.f.nm:Nat):Int)<(ls.length:Int):=oM;have MU:=ua (N2.o.on (w.o.kp.d _ am (λe=>e)));have HV:Hid (Rg ls (Cg ls) q.f.nm=Cg ls q.f.nm):=Zp aw;have bb:(vE (uq qs) ls (qs.take m)).length=ls.length:=(by unfold vE;rw[Bl]);rw[bb]at q2;let⟨ix,a9⟩:=nm (Cg ls q.f.nm);rw[a9]at r1 r2 E hil' HV;clear hk hx e1 e2 e3 T aw aq a9 bb;generalize D.length=dl at *;go_wp2_with (at_lookup;refine LQ _ rfl _ _ rfl b2 ls (Cg ls) q.f.nm rfl MU.o (by rw[a3.o];rfl) HZ.o.1 HZ.o.2 ?_;rw[HV.o]);go_roundw;all_goals first
     |exact E.o
     |(simp[intOf];omega)
   |false =>
    let⟨nc,W2,N,hn,R,aj⟩:=XX U HZ.o.1;have ao:q.a=none:=by have:=ad.o;cases h:q.a with|none=>rfl|some x=>rw[h]at this;cases this
    have hA:=w.o.a;have b4:=w.o.sz;have C:=I.o;have U2:=w.o.on (R.h (λ_ q=>q.elim));have m2:Cu (ZB W A) U (ZB W A) W2:=Cu.d (R.h (λ_ q=>q.elim));let⟨a',c2,W3,A',be,a6,Z⟩:=U2.k (x:=⟨q.f.nm,true,D⟩) (nc:=nc) (na:=some (Ad U.heap.size 0)) ⟨hn.g (λb q=>⟨⟨by rw[q];omega,λz=>z.elim (λz=>oM) (λz=>oH ((hA b z).2))⟩,.inl (by rw[q];omega)⟩),JN OB.o.1 m2,OB.o.2⟩ (by unfold vF;rw[Bl];exact zP (List.length_filter_le _ _) (by rw[Fw];omega)) oM;have E:Hid (BC W b1 b2 qs ls (Iv ((m:Int)+1)) (W3.setCell (Ad (W.heap.size+3) 0) (Sl a' (vF (uq qs) ls (qs.take m)++[(⟨q.f.nm,true,D⟩:NL)]).length c2))):=(by
     refine⟨m+1,A',Sl a' (vF (uq qs) ls (qs.take m)++[(⟨q.f.nm,true,D⟩:NL)]).length c2,c,ai,sM,?_,?_⟩
     .rw[TK.o,kh,ao,QS ao];have:=Z;unfold Zy;rw[HD.o];simpa using this
     have h3:=Z.a;have h4:=Z.kp.l;let⟨cs,o1,_⟩:=Z.g;rcases o1 with⟨_,e,_⟩|⟨g2,_,_,B,_⟩
     .simp at e
     have:=h3 g2 B;omega)
    rw[a3.o]at N;have HR:=ua N;have bo:=ua be;let⟨q3,p3,l3⟩:=a6.x;let⟨q4,p4,l4⟩:=U2.h.x;clear N hn R aj U2 m2 be a6 Z hA b4 C ao;generalize (vF (uq qs) ls (qs.take m)++[(⟨q.f.nm,true,D⟩:NL)]).length=nn at *;generalize D.length=dl at *;generalize q.f.nm.length=nl at *;go_wp2_with (first
     |(refine XY rfl _ rfl rfl HR.o ?_)
     |(at_builtin;refine Qi rfl _ _ rfl rfl rfl bo.o ?_))
    go_roundw;all_goals first
     |exact E.o
     |(simp[intOf];omega)
  obtain rfl:m=qs.length:=oM;have av:¬((qs.length:Int)<(qs.length:Int)):=oM;rw[Pa]at t;obtain⟨b6,b7,rfl,GX⟩:=t.j;let⟨q0,p0,l0⟩:=t.f.x;let⟨q2,p2,l2⟩:=t.h.x;have bj:Hid (∀v0 v1,P (Rt (.agg #[Sl b6 (uZ ls qs).nr b7,Sl (Sm (W.heap.size+2) 0) (uZ ls qs).nb (uZ ls qs).nb])) ((wr.setCell (Ad (W.heap.size+1) 0) v0).setCell (Ad (W.heap.size+1) 1) v1)):=λv0 v1=>(by
   have st:zS (λb=>(b<wr.heap.size/\b≠W.heap.size+1)/\(W.heap.size<=b\/Li W b)) wr ((wr.setCell (Ad (W.heap.size+1) 0) v0).setCell (Ad (W.heap.size+1) 1) v1):=λb q=>(Bn q.1.2).trans (Bn q.1.2);have wd:∀b,((b<wr.heap.size/\b≠W.heap.size+1)/\(W.heap.size<=b\/Li W b))->b<((wr.setCell (Ad (W.heap.size+1) 0) v0).setCell (Ad (W.heap.size+1) 1) v1).heap.size/\(W.heap.size<=b\/Li W b):=λb q=>⟨by simp only[uh];exact q.1.1,q.2⟩;exact NX.o _ _ _ _ _ ⟨(GX.c.on st).g wd,(GX.e.on st).g wd⟩ (xT (xT t.kp oM) oM))
  clear GX t C hm ai;have e1:(vF (uq qs) ls qs).length=(uZ ls qs).nr:=rfl;have e2:(vE (uq qs) ls qs).length=(uZ ls qs).nb:=rfl;rw[e1,e2]at q2;generalize (uZ ls qs).nr=n1 at *;generalize (uZ ls qs).nb=n2 at *;go_wp2;exact zL (by simp[results,f34,go_sem, *]) rfl (bj.o _ _)
 go_roundw
 .exact E.o _
 exact bm.o
end
end
open M (OpD ug Gr)
def Yj{t:Tx}{c:List Rl}(h:uY t=c.flatMap Rl.tk):∀q∈c,Dg t.n q.f/\∀x∈q.e.tk,Dg t.n x:=λq d=>by
 have b:∀x∈q.tk,Dg t.n x:=λx a=>(Zx t).1 x (by rw[h];exact Kj.2 ⟨q,d,a⟩);exact⟨b _ (by simp[Rl.tk]),λx a=>b x (by simp[Rl.tk,a])⟩
def MJ{t:Tx}{a:List Rl}(h:uY t=a.flatMap Rl.tk)(b:t.n<=4000):Cy (a.flatMap Rl.tk)<=8000:=by
 rw[<-h];exact zP (Zx t).2 oM
def L2:∀(e:PE),e.a.length<=e.tk.length:=by
 intro e;induction e with
 |thr c t=>simp[PE.a,PE.tk]
 |ref t|str t|cls t|dot t|emp=>simp[PE.a]
 |grp o e c d=>simp only[PE.a,PE.tk,Db,zJ];omega
 |star e t d|opt e t d|seq a b f g=>simp only[PE.a,PE.tk,zJ];omega
 |not t e d|amp t e d=>simp only[PE.a,PE.tk,Db];omega
 |alt a t b f g=>simp only[PE.a,PE.tk,zJ,Db];omega
def MK:∀(b:List Rl),b.length+(jA b).length<=(b.flatMap Rl.tk).length
 |[]=>zD
 |q::r=>by
  have c:=MK r;have d:=L2 q.e;have e:jA (q::r)=q.e.a++jA r:=rfl;rw[e,Db,Eu,zJ,zJ];have f:q.e.tk.length+1<=q.tk.length:=by unfold Rl.tk;simp only[zJ,Db];omega
  omega
def L3{t a}(h:uY t=a.flatMap Rl.tk)(b:t.n<=4000):a.length+(jA a).length<=8000:=by
 have c:=MJ h b;have d:=qJ (a.flatMap Rl.tk);have e:=MK a;omega
def ML{t a}(h:uY t=a.flatMap Rl.tk)(d:t.n<=4000):BF a:=λq b=>by
 have:=(Yj h q b).1;exact⟨this.h,by have:=this.c;omega⟩
def L4{t b}(h:uY t=b.flatMap Rl.tk)(e:t.n<=4000):Xk (xS b):=λx a=>by
 let⟨q,d,a⟩:=Kj.1 a;have:=(Yj h q d).2 x (K6 _ x a);exact⟨this.h,by have:=this.c;omega⟩
def L5{t b}(h:uY t=b.flatMap Rl.tk)(e:t.n<=4000):Xk (jA b):=λx a=>by
 let⟨q,d,a⟩:=Kj.1 a;have:=(Yj h q d).2 x (K8 _ x a);exact⟨this.h,by have:=this.c;omega⟩
def Nw.e{t c ls}(h:Nw t.n c ls)(j:uY t=c.flatMap Rl.tk)(f:t.n<=4000):XI c ls :=
 ⟨ML j f,h.g,h.r,h.d,h.a,h.b,λq i=>(FW (uq c) ls i (h.ok q i) (MJ j f) (h.w q i).2 f).1⟩
def L6(e:PE):∀l,e.ok l->∀x∈e.tk,x.e≠0:=by
 induction e with
 |emp=>intro l h x d;cases d
 |ref t|str t|cls t|dot t =>
   intro l h x d;have:x=t:=by simpa[PE.tk] using d
   subst this;have h:x.e=_:=h;rw[h];decide
 |thr c t=>intro l h x d;obtain⟨i,j⟩:=h;simp only[PE.tk,Dm,Nk,or_false]at d;rcases d with rfl|rfl<;>omega
 |grp o e c g=>intro l h x d;obtain⟨i,j,f⟩:=h;simp only[PE.tk,Dm,By,Nk,or_false]at d;rcases d with rfl|d|rfl;omega;exact g 5 f x d;omega
 |star e t g|opt e t g=>intro l h x d;obtain⟨i,j,f⟩:=h;simp only[PE.tk,Dm,By,Nk,or_false]at d;rcases d with d|rfl;exact g 0 f x d;omega
 |not t e g|amp t e g=>intro l h x d;obtain⟨i,j,f⟩:=h;simp only[PE.tk,Dm]at d;rcases d with rfl|d;omega;exact g 2 f x d
 |seq a b k m=>intro l h x d;rcases By.1 d with q|q;exact k 3 h.2.1 x q;exact m 2 h.2.2 x q
 |alt a t b k m=>intro l h x d;obtain⟨i,j,f,n⟩:=h;simp only[PE.tk,Dm,By]at d;rcases d with d|rfl|d;exact k 5 f x d;omega;exact m 4 n x d
def L7{t:Tx}{b:List Rl}(h:uY t=b.flatMap Rl.tk)(f:∀q∈b,q.ok):∀x∈uY t,x.e≠0:=λx a=>by
 rw[h]at a;let⟨q,g,a⟩:=Kj.1 a;let⟨c,i,j,d,k⟩:=f q g;unfold Rl.tk at a;simp only[Dm,By,Nk,or_false]at a;rcases a with a|rfl|rfl|a|rfl
 .have:=c x (by simpa using a);omega
 .omega
 .omega
 .exact L6 _ _ d x a
 omega
def Jb:ByteArray:=⟨#[97,98,99,100,97,98,10,48,120,128]⟩
def Fe(t:Tp)(p:List Int×Nat):Nat->List Int×Nat
 |0=>p
 |m+1=>((Fe t p m).1++[Oe Jb (t.v (Fe t p m).2%10)],t.n (Fe t p m).2)
def OE t(p:List Int×Nat):∀m,(Fe t p m).1.length=p.1.length+m
 |0=>rfl
 |m+1=>by rw[Fe,zJ,OE t p m];rfl
open Classical in
noncomputable def di1 (t:Tp) (g:Gr) (i:Nat):List Int×Nat:=if 0<t.v i%8/\M.Valid g then smX t g (t.n i) else ([],t.n i)
def Rj(t:Tp)(k:Nat)(p:List Int×Nat):List Int×Nat:=if k<2 then Fe t (p.1,t.n p.2) (t.v p.2%12) else p
def To(t:Tp)(k:Nat)(p:List Int×Nat):List Int×Nat :=
 if k=2/\0<p.1.length then (p.1.set (t.v p.2%p.1.length) (97+(t.v (t.n p.2):Int)%4),t.n (t.n p.2)) else p
def Rk(k:Nat)(z:LI):List Int:=if k=3/\0<z.length then z.take (z.length-1) else z
def Wa(p:List Int×Nat):List Int×Nat:=(p.1.take 40,p.2)
def EJ(k:Nat)(p:List Int×Nat):List Int×Nat:=(if k=4 then Rk k p.1++[98] else Rk k p.1,p.2)
noncomputable def diT (t:Tp) (g:Gr) (i:Nat):List Int×Nat:=EJ (t.v i%8) (To t (t.v i%8) (Wa (Rj t (t.v i%8) (di1 t g i))))
def OF t{g}(l:M.Sound g)i:Ec (diT t g i).1/\(diT t g i).1.length<=41:=by
 have b1:Ec (di1 t g i).1:=by
  unfold di1;split
  .exact(PR t l _).1.2
  intro x a;cases a
 have c:∀k p,Ec p.1->Ec (Rj t k p).1:=λk p h=>by
  unfold Rj;split
  .have:∀m,Ec (Fe t (p.1,t.n p.2) m).1:=λm=>by
    induction m with
    |zero=>exact h
    |succ m o=>exact o.app (λx a=>by obtain rfl:=Bu.1 a;exact EG)
   exact this _
  exact h
 have d:∀k p,Ec p.1->Ec (To t k p).1/\(To t k p).1.length=p.1.length:=λk p h=>by
  unfold To;split
  .refine⟨λx a=>?_,Hb⟩;rcases Vg a with q|rfl
   .exact h x q
   omega
  exact⟨h,rfl⟩
 have e:∀(k:Nat) (z:LI),Ec z->Ec (Rk k z)/\(Rk k z).length<=z.length:=λk z h=>by
  unfold Rk;split
  .exact⟨λx a=>h x (Sz a),List.length_take_le' _ _⟩
  exact⟨h,zD⟩
 unfold diT;generalize t.v i%8=k;have f:Ec (Wa (Rj t k (di1 t g i))).1:=λx a=>c k _ b1 x (Sz a);have r:(Wa (Rj t k (di1 t g i))).1.length<=40:=List.length_take_le _ _;let⟨j,s⟩:=d k _ f;let⟨b,u⟩:=e k _ j;unfold EJ;dsimp only;split
 .exact⟨b.app (λx a=>by obtain rfl:=Bu.1 a;decide),by rw[zJ,Dd];omega⟩
 exact⟨b,oM⟩
def Aw.c{u R j w0 wr z a n c m}(h:Aw u R j w0 z (Sl a n c) wr)(b:m<=z.length):Aw u R j w0 (z.take m) (Sl a m c) wr:=by
 let⟨d,c',e⟩:=uj h.k;injection e with e1 e2 e3;subst e1 e2 e3;have:=ja h.k b;rw[Pb,<-List.map_take]at this;exact⟨by rw[Fw,Nat.min_eq_left b];exact this,h.on,h.lt⟩
def Aw.set{u R j w0 wr z v}(h:Aw u R j w0 z v wr)(s:0<z.length):∃b c,v=Sl (Sm b 0) z.length c/\b≠R/\b<wr.heap.size/\∀m,m<z.length->(wr.cell? (Ad b m)).isSome/\wr.frozen? (Ad b m)=false/\∀x:Int,Aw u R j w0 (z.set m x) (Sl (Sm b 0) z.length c) (wr.setCell (Ad b m) (Bv x)):=by
 rcases h.k with⟨_,e,_⟩|⟨b,c,rfl,i,o,p,q,a⟩
 .omega
 have f:=a 0 oM;let⟨y,l⟩:=Kc.1 f.1;have r:=h.lt;refine⟨b,c,rfl,oM,ud l,λm g=>⟨(a m oM).1,(a m oM).2,λx=>?_⟩⟩;have d:=zB.n h.k (j:=m) (by rw[Bl];exact g) (Bv x);rw[<-Pd]at d;exact⟨by rw[Hb];exact d,h.on.set i oM,h.lt⟩
def Q2 t{g}(hV:M.Sound g)(hS:vS g){Q R H ra la}rc lc i w(hG:GR Q R H ra la g w)(hR:Ch t R w i) :
  Cs 22 #[.agg #[Sl ra g.nr rc,Sl la g.nb lc],.pointer (Sm R 0)] w (λe w'=>∃v,e=Rt v/\Aw t R (diT t g i).2 w (diT t g i).1 v w'):=by
 have hv:=t.a i;have an:=hR.lt;have bn:w.heap.size≠R:=oM;have bh:=hV.r1;have bw:=hV.r2;let⟨zz,aj⟩:=nm (diT t g i);have A:=ua aj;unfold diT at A;rw[aj];clear aj;have K0:=ua (zA.a (λ_=>False) w (Oc #[Sl ra g.nr rc,Sl la g.nb lc] 34));have J:=ua (um w #[Sl ra g.nr rc,Sl la g.nb lc] 34);have G:=ua hG;have HV:=ua hV;have al:=ua hS;clear hG hV hS;go_enter func22,ntmps22;go_upto_region 1 with fail;generalize w.alloc _=W0 at *;go_wp2_with fail;refine(uE t R i W0 (hR.y K0 (λ_ e=>e.elim))).mono ?_;rintro e W1 ⟨rfl,u⟩;have HO:Hid (zE t R (t.n i) w W1):=⟨u.1,(K0.h (λ_ e=>e.elim)).c u.2⟩;replace J:=ua (J.b u.2 bn);replace G:=ua (G.y HO.2);clear u K0 hR;have aa:=ua (di1.eq_1 t g i);generalize di1 t g i=s at *;generalize t.v i=k0 at *;generalize t.n i=i1 at *;let⟨k,hk⟩:=nm (k0%8);have hk':(k0:Int)%8=(k:Int):=oM;have br:k<8:=oM;rw[hk]at A aa;clear hk;let⟨z0,p0,l0⟩:=J.x;go_upto_region 3 with fail;simp only[hk'];clear hk' hv
 classical
 let⟨ok,av⟩:=nm (decide (0<k/\M.Valid g));have W:=ua av;clear av;go_cut [20] (λv wc=>v=.bool ok/\Bw W1 wc)
 .by_cases q0:k=0
  .have b0:¬(0:Int)<(k:Int):=oM;have o:Hid (ok=false):=(by show _=_;rw[<-W.o];simp[q0]);clear q0;go_wp2;go_meet;exact⟨by rw[o.o],zH _⟩
  have b0:(0:Int)<(k:Int):=oM;have bf:0<k:=oM;go_wp2_with fail;refine(qS Q ra la rc lc g W1 G.g.a al).mono ?_;rintro e W2 ⟨⟨r,rfl,hr⟩,P⟩;have o:Hid (r=ok):=by show _=_;rw[<-W.o];simp only[bf,true_and];rw[Ni,hr];simp
  have f:=ua P;clear hr P;go_wp2;go_meet;exact⟨by rw[o.o],f⟩
 obtain⟨rfl,P⟩:=hcut;have ad:=ua (HO.d (yS P));replace G:=ua (G.y ((yS P).h (λ_ e=>e.elim)));replace J:=ua (J.on P);clear P z0 p0 l0;let⟨z0,p0,l0⟩:=J.x;go_upto_if 20 with fail;go_cut [6] (λv wc=>Aw t R s.2 w s.1 v wc/\s.1.length<=4782969)
 .cases ok with
  |false =>
   have o:Hid (s=([],i1)):=(by show _=_;rw[aa.o,Zn (of_decide_eq_false W.o)]);go_wp2;go_meet;rw[o.o];exact⟨.nil ad an,zK⟩
  |true =>
   have o:Hid (s=smX t g i1):=(by show _=_;rw[aa.o,Zp (of_decide_eq_true W.o)]);have ac:=PR t HV i1;rw[<-o.o]at ac;rcases G.g.c with q0|⟨rb,ro,rfl,bx,hL⟩
   .omega
   let⟨na,nc,ba,bc,v0,hn,v1,ao,ap⟩:=(hL 0 bh).e;rw[Gf,Dy]at v1;have lb:=ud v1;have hk':(0:Int)<(g.nr:Int):=oM;have HC:=ua (ac.2 R Q H _ la rc lc ba bc w wc.drew · (G.y Cj) (ao.m (zA.i (λ_=>False) _) (λ_ _ e=>e)) ap (zE.d ad.o Cj) an);have a7:=ua ac.1.1;clear ac hL hn v0 ao ap;go_wp2_with fail;go_region_law (refine uF jr rfl _ _ rfl (ys:=#[.agg #[Sl (Sm rb ro) g.nr rc,Sl la g.nb lc],Sl ba (g.a 0).bl bc,.pointer (Sm R 0),Iv 14]) (by simp[Act.eval]) (HC.o _ λa3 c3 W3 C=>⟨_,rfl,?_⟩));all_goals
    go_wp2;go_meet;exact⟨C,a7⟩
 obtain⟨l,a8⟩:=hcut;obtain⟨a1,c1,rfl⟩:=l.a;have f:=ua l;clear l aa W z0 p0 l0 J G ad HO al HV;let⟨E,af⟩:=nm (Rj t k s);rw[af]at A;have N:=ua af;unfold Rj at N;clear af;go_upto_if 30 with fail;go_cut [6] (λv wc=>Aw t R E.2 w E.1 v wc/\E.1.length<=4783000)
 .by_cases D:k<2
  .have b2:(k:Int)<2:=oM;rw[Zp D]at N;have bj:=t.a s.2;clear D;go_wp2_with fail;refine(uE t R s.2 _ f.on.1).mono ?_;rintro e W3 ⟨rfl,u⟩;replace f:=ua (f.p u);clear u;generalize t.v s.2=k1 at *;generalize t.n s.2=S at *;let⟨m,z⟩:=nm (k1%12);have hm':(k1:Int)%12=(m:Int):=oM;have bt:m<12:=oM;rw[z]at N;clear z;go_upto_region 8 with fail;simp only[hm'];clear hm';have bo:Jb.size=10:=rfl;go_loopw [6,8] (λov iv wr=>∃j:Nat,j<=m/\iv=Iv j/\Aw t R (Fe t (s.1,S) j).2 w (Fe t (s.1,S) j).1 ov wr) (λ_ iv _=>m-(intOf iv).toNat)
   .exact⟨0,zK,rfl,f⟩
   obtain⟨j,hj,rfl,l⟩:=hrel;obtain⟨a2,c2,rfl⟩:=l.a;have aq:=OE t (s.1,S) j;have o:=ua (Fe.eq_2 t (s.1,S) j);have HJ:Hid (∀i,j=i->Fe t (s.1,S) j=Fe t (s.1,S) i):=λi e=>by rw[e]
   have V:=ua l;clear l;generalize Fe t (s.1,S) j=L at *;have au:L.1.length<=4782969+12:=(by rw[aq];dsimp only;omega);clear aq;by_cases bs:j<m
   .have hlt':(j:Int)<(m:Int):=oM;have bk:=t.a L.2;go_wp2_with fail;refine(uE t R L.2 _ V.on.1).mono ?_;rintro e W4 ⟨rfl,u⟩;replace V:=ua (V.o.p u);clear u;generalize t.v L.2=Z at *;generalize t.n L.2=i3 at *;let⟨m3,z⟩:=nm (Z%10);have hm':(Z:Int)%10=(m3:Int):=oM;have bi:m3<Jb.size:=(by show m3<10;omega);rw[z,EF bi]at o;clear z;go_upto_region 12 with fail;rw[show(({ data:=#[97,98,99,100,97,98,10,48,120,128] }:ByteArray))=Jb from rfl];go_wp2_with (at_builtin;refine DO rfl _ _ rfl rfl rfl V.o oM ?_;intro Xa Xc W5 X);go_roundw
    .exact⟨j+1,oM,by go_num,by rw[o.o];exact X.o⟩
    simp[intOf];omega
   obtain rfl:j=m:=oM;have hlt':¬(j:Int)<(j:Int):=oM;have a6:Hid (L=E):=(by show _=_;rw[HJ.o _ rfl];exact N);go_wp2;go_meet;rw[<-a6.o];exact⟨V,oM⟩
  have b2:¬(k:Int)<2:=oM;rw[Zn D]at N;clear D;go_wp2;go_meet;rw[<-N.o];exact⟨f,oM⟩
 obtain⟨l,a9⟩:=hcut;obtain⟨a2,c2,rfl⟩:=l.a;replace f:=ua l;clear l N a8;let⟨q,ag⟩:=nm (Wa E);rw[ag]at A;have ab:=ua ag;clear ag;go_upto_if 52 with fail;go_cut [6] (λv wc=>Aw t R q.2 w q.1 v wc/\q.1.length<=40)
 .have au:q.1.length<=40:=by rw[<-ab.o];exact List.length_take_le _ _
  by_cases q4:40<E.1.length
  .have b4:(E.1.length:Int) > 40:=oM;have be:=(Yn f.k).2.2;have bb:40<=c2:=oM;have bd:(40:Int)<=(c2:Int):=oM;have C:Hid (Aw t R q.2 w q.1 (Sl a2 40 c2) wc):=(by show Aw _ _ _ _ _ _ _;rw[<-ab.o];exact f.c oM);go_wp2;all_goals go_meet
   all_goals exact⟨C,au⟩
  have b4:¬(E.1.length:Int) > 40:=oM;have C:Hid (E=q):=by show _=_;rw[<-ab.o];unfold Wa;rw[Kg oM]
  go_wp2;go_meet;rw[<-C.o];exact⟨f,oM⟩
 obtain⟨l,ae⟩:=hcut;obtain⟨a3,c3,rfl⟩:=l.a;replace f:=ua l;clear l ab a9;let⟨F,ah⟩:=nm (To t k q);rw[ah]at A;have O:=ua ah;unfold To at O;clear ah;let⟨D,aw⟩:=nm (decide (k=2/\0<q.1.length));have T:=ua aw;clear aw;go_upto_region 15 with fail;go_cut [61] (λv ak=>v=.bool D/\ak=wc)
 .by_cases Y:k=2
  .subst Y;by_cases B:0<q.1.length
   .have o:Hid (true=D):=(by show _=_;rw[<-T.o];simp[B]);go_wp2;go_meet;exact⟨by rw[<-o.o],rfl⟩
   have o:Hid (false=D):=(by show _=_;rw[<-T.o];simp[B]);go_wp2;go_meet;exact⟨by rw[<-o.o],rfl⟩
  have b2:((k:Int)==2)=false:=sO;have o:Hid (false=D):=by show _=_;rw[<-T.o];simp[Y]
  go_wp2;go_meet;exact⟨by rw[<-o.o],rfl⟩
 obtain⟨rfl,hw⟩:=hcut;subst hw;go_upto_if 61 with fail;go_cut [6] (λv wc=>Aw t R F.2 w F.1 v wc/\F.1.length<=40)
 .cases D with
  |false =>
   rw[Zn (of_decide_eq_false T.o)]at O;go_wp2;go_meet;rw[<-O.o];exact⟨f,ae⟩
  |true =>
   obtain⟨rfl,B⟩:=of_decide_eq_true T;rw[Zp ⟨rfl,B⟩]at O;have bj:=t.a q.2;have bk:=t.a (t.n q.2);have e3':¬(q.1.length:Int)=0:=oM;go_wp2_with fail;refine(uE t R q.2 _ f.on.1).mono ?_;rintro e W4 ⟨rfl,u⟩;replace f:=ua (f.p u);clear u;generalize t.v q.2=Z at *;generalize t.n q.2=i3 at *;let⟨m,z⟩:=nm (Z%q.1.length);have hm':(Z:Int)%(q.1.length:Int)=(m:Int):=(by rw[<-z];norm_cast);have bg:m<q.1.length:=(by rw[<-z];exact If _ B);have hml':(m:Int)<(q.1.length:Int):=oM;rw[z]at O;clear z;go_wp2_with fail;refine(uE t R i3 _ f.on.1).mono ?_;rintro e W5 ⟨rfl,u⟩;replace f:=ua (f.p u);clear u;generalize t.v i3=kw at *;let⟨sb,sc,he,b3,b5,a0⟩:=f.set B;injection he with he1 he2 he3;subst he1 he3;let⟨ay,bz,az⟩:=a0 m bg;let⟨cv,bq⟩:=Kc.1 ay;have C:=ua (az (97+(kw:Int)%4));have hx:0<=(kw:Int)%4/\(kw:Int)%4<4:=oM;clear a0 ay az;go_wp2;go_meet;rw[<-O.o];exact⟨C,by rw[Hb];exact ae⟩
 obtain⟨l,am⟩:=hcut;obtain⟨a4,c4,rfl⟩:=l.a;replace f:=ua l;clear l O ae T;let⟨z5,ai⟩:=nm (Rk k F.1);unfold EJ at A;rw[ai]at A;have I:=ua ai;unfold Rk at I;clear ai;let⟨q3,ax⟩:=nm (decide (k=3/\0<F.1.length));have U:=ua ax;clear ax;go_upto_region 18 with fail;go_cut [81] (λv ak=>v=.bool q3/\ak=wc)
 .by_cases Y:k=3
  .subst Y;by_cases B:0<F.1.length
   .have o:Hid (true=q3):=(by show _=_;rw[<-U.o];simp[B]);go_wp2;go_meet;exact⟨by rw[<-o.o],rfl⟩
   have o:Hid (false=q3):=(by show _=_;rw[<-U.o];simp[B]);go_wp2;go_meet;exact⟨by rw[<-o.o],rfl⟩
  have b2:((k:Int)==3)=false:=sO;have o:Hid (false=q3):=by show _=_;rw[<-U.o];simp[Y]
  go_wp2;go_meet;exact⟨by rw[<-o.o],rfl⟩
 obtain⟨rfl,hw⟩:=hcut;subst hw;go_upto_if 81 with fail;go_cut [6] (λv wc=>Aw t R F.2 w z5 v wc/\z5.length<=40)
 .cases q3 with
  |false =>
   rw[Zn (of_decide_eq_false U.o)]at I;go_wp2;go_meet;rw[<-I.o];exact⟨f,am⟩
  |true =>
   obtain⟨rfl,B⟩:=of_decide_eq_true U;rw[Zp ⟨rfl,B⟩]at I;let⟨m,z⟩:=nm (F.1.length-1);have hm':(F.1.length:Int)-1=(m:Int):=oM;have be:=(Yn f.k).2.2;have bb:m<=c4:=oM;have bd:(m:Int)<=(c4:Int):=oM;have bu:=uB m oM;have C:=ua (f.c (m:=m) oM);rw[z]at I;rw[I.o]at C;have bm:z5.length<=40:=(by rw[<-I.o];exact zP (List.length_take_le _ _) oM);clear z;go_wp2;all_goals go_meet
   all_goals exact⟨C.o,bm⟩
 obtain⟨l,bp⟩:=hcut;obtain⟨a5,c5,rfl⟩:=l.a;replace f:=ua l;clear l I am U;by_cases e4:k=4
 .subst e4;rw[Zp rfl]at A;go_wp2_with (at_builtin;refine DO rfl _ _ rfl rfl rfl f.o oM ?_;intro Xa Xc W5 X);go_ret;rw[<-A.o];exact⟨_,rfl,X⟩
 have b4:((k:Int)==4)=false:=sO;rw[Zn e4]at A;go_wp2;go_ret;rw[<-A.o];exact⟨_,rfl,f⟩
open M (uw)
noncomputable def txS (g:Gr):ByteArray:=(A3 g).choose
def Yx g:KM g (txS g)/\(txS g).size<=2700000:=(A3 g).choose_spec
def OZ:List Int:=[115,32,61,32,46,32,47,32,115,50,32,59,32,115,50,32,61,32,59]
def PA:List Int:=[115,32,61,32,40,34,98,34,32,47,32,94,101,41,42,32,59,32,94,101,32,61,32,34,97,34,32,59]
noncomputable def dpB (u:Tp) (k i:Nat):(Nat×(Nat->Int))×(Nat×(Nat->Int)) :=
 (if k<20 then Kn (lsT u (dG (g4 u i)) (u.n (u.n (diT u (dG (g4 u i)) (g4 u i).2).2))).1 else Kn (txS (dG (g4 u i))),Gn (diT u (dG (g4 u i)) (g4 u i).2).1)
noncomputable def dpT (u:Tp):(Nat×(Nat->Int))×(Nat×(Nat->Int)) :=
 if u.v 0%60=0 then (Gn OZ,Gn (List.replicate (3999+u.v (u.n 0)%3) 97))
 else if u.v 0%60=1 then (Gn PA,Gn (List.replicate (18+u.v (u.n 0)%5) 97))
 else if u.v 0%60=2 then (Kn (txS Pp),Gn (List.replicate (u.v (u.n 0)%60) 97))
 else if u.v 0%60<8 then (pgT (u.b (u.n 0)),Gn [97,98,97,98])
 else dpB u (u.v 0%60) (u.n 0)
def PB{l}(h:Ec l):Cz l.length (lf l):=λi a=>by
 unfold lf;rw[El,Bb a];exact h _ (Gi a)
def PC s:Cz s.size (bT s):=λi a=>by
 show 0<=((s.data.toList.getD i 0).toNat:Int)/\((s.data.toList.getD i 0).toNat:Int)<=255;have:=(s.data.toList.getD i 0).toNat_lt;omega
def PD s:Ec (bL s):=λx a=>by
 obtain⟨b,_,rfl⟩:=Gj.1 a;have:=b.toNat_lt;omega
def Tt{n}{c}(h:0<=c/\c<=255):Ec (List.replicate n c):=λx a=>by rw[(List.mem_replicate.1 a).2];exact h
def PF k d{c}(b:0<=c/\c<=255){n S}(e:Cz n S):∀m,m<=n->Ec (Fp k d c S m)
 |0,_=>λx a=>by cases a
 |m+1,h=>by
  rw[Fp];refine(PF k d b e m oM).app (λx a=>?_);have:=e m oM;split at a
  .split at a
   .cases a
   split at a
   .obtain rfl:=Bu.1 a;exact b
   rcases Dm.1 a with rfl|a
   .exact b
   obtain rfl:=Bu.1 a;exact this
  obtain rfl:=Bu.1 a;exact this
def PH:∀k,Ec (Eg k)
 |0=>λx a=>by cases a
 |k+1=>(PH k).app (PD _)
instance (z:LI):Decidable (Ec z):=by unfold Ec;exact List.decidableBAll _ _
def T6 k d(a:d<3):Ec (Ro k d)/\(Ro k d).length<=20000:=by
 unfold Ro;repeat' split
 .exact⟨Ec.app dC (Tt dC),sO⟩
 .exact⟨(Ec.app dC (Tt dC)).app dC,sO⟩
 .exact⟨PH _,by have:=FG (99+d) oM;omega⟩
 exact⟨(Ec.app dC (Tt dC)).app (PD _),by rw[zJ,zJ,EB,show(⟨#[32,59]⟩:ByteArray).size=2 from rfl];simp;omega⟩
def PI u:∀f L p,Ec L->Ec (Mi u f L p)
 |0,L,_,h=>h
 |f+1,L,p,h=>by
  rw[Mi];split
  .exact PI u f _ _ (h.app (λx a=>by obtain rfl:=Bu.1 a;exact EG))
  exact h
def BN(n:Nat)(p:Nat×(Nat->Int)):Prop:=Cz p.1 p.2/\p.1<=n
def Lg{n z}(h:Ec z)(a:z.length<=n):BN n (Gn z):=⟨PB h,a⟩
def Wi{n s}(a:s.size<=n):BN n (Kn s):=⟨PC s,a⟩
def T7 u:BN 6000000 (pgT u):=by
 have b:=(Yz u (u.n 0)).a oM;unfold pgT;repeat' split
 .have:=T6 (u.v (u.n 0)%4) (u.v (u.n (u.n 0))%3) oM;exact Lg this.1 oM
 .exact Lg (PI u 20 [] _ (λx c=>by cases c)) (by have:=OW u 20 [] (u.n 0);simp at this;omega)
 .unfold EU;repeat' split
  all_goals first|exact Wi dC|exact Lg dC dC
 .have d:(lsT u (dG (vG u (u.n 0))) (vG u (u.n 0)).2).1.size<=2700000:=Yv u b (vG u (u.n 0)).2;generalize lsT u (dG (vG u (u.n 0))) (vG u (u.n 0)).2=s at *;unfold Vz;refine Lg (PF _ _ (EG) (PC s.1) _ (by split<;>omega)) (zP (EI _ _ _ _ _) (by split<;>omega))
 exact Wi (zP (Yv u b _) oM)
def T8 u:BN 6000000 (dpT u).1/\BN 5000 (dpT u).2:=by
 unfold dpT;repeat' split
 .exact⟨Lg dC dC,Lg (Tt dC) sO⟩
 .exact⟨Lg dC dC,Lg (Tt dC) sO⟩
 .exact⟨Wi (zP (Yx _).2 oM),Lg (Tt dC) sO⟩
 .exact⟨T7 _,Lg dC dC⟩
 have b:M.Sound (dG (g4 u (u.n 0))):=(FE u (u.n 0)).a oM;have c:=OF u b (g4 u (u.n 0)).2;unfold dpB;refine⟨?_,Lg c.1 (zP c.2 oM)⟩;dsimp only;split
 .exact Wi (zP (Yv u b _) oM)
 exact Wi (zP (Yx _).2 oM)
def Pv(p:(Nat×(Nat->Int))×(Nat×(Nat->Int)))(w:Wl)(e:Ending)(w':Wl):Prop :=
 ∃a c b c',∃f s:Int,e=Rt (.tuple #[Sl a p.1.1 c,Sl b p.2.1 c',Iv f,Iv s])/\Ints (zF w w') .u8 w' a p.1.1 p.1.2/\Ints (zF w w') .u8 w' b p.2.1 p.2.2/\Kf w w'/\p.1.1<=c
def Mj(p:Nat×(Nat->Int))(w:Wl)(a:Oa)(W:Wl):Prop:=Ints (λb=>w.heap.size<=b) .u8 W a p.1 p.2
def Mj.y{p:Nat×(Nat->Int)}{w W W' a}(h:Mj p w a W)(k:Kf W W'):Mj p w a W':=Ints.m h k (λ_ _ e=>e)
def Tu{p:(Nat×(Nat->Int))×(Nat×(Nat->Int))}{w W a b c c' f s}(d:Mj p.1 w a W)(e:Mj p.2 w b W)(k:Kf w W)(g:p.1.1<=c):Pv p w (Rt (.tuple #[Sl a p.1.1 c,Sl b p.2.1 c',Iv f,Iv s])) W :=
 ⟨a,c,b,c',f,s,rfl,qD d,qD e,k,g⟩
def Tv{z w d W a n c}(h:Bk .u8 d z (Sl a n c) W)(e:w.heap.size<=d.heap.size):Mj (Gn z) w a W:=h.c.g (λb q=>zP e q.1)
def T9 Q a n c S w(hI:Ints Q .u8 w a n S)(hB:Cz n S)(hn:n<=1048576)(hc:n<=c)(bi:a=none->n=0/\c=0) :
  Cs 4 #[Sl a n c] w (Pv (dpT (Po n S hB)) w):=by
 have HC:=ua (N6 Q a n c S w hI hB hn hc bi);clear hI bi hc;generalize Po n S hB=u at *;clear hB;let⟨z,hz⟩:=nm (dpT u);have p:=ua hz;unfold dpT at p;rw[hz];clear hz;have hv:=u.a 0;go_enter func4,ntmps4;go_wp2_with fail;refine HC.o.mono ?_;rintro e W0 ⟨rfl,hr,hk⟩;generalize br:w.heap.size=R at *;go_wp2_with fail;refine(uE u R 0 W0 hr).mono ?_;rintro e W1 ⟨rfl,i⟩;have o:=ua (uV hk oM i.2);have t:=ua i.1;have D:Hid (w.heap.size<=R):=by show _<=_;omega
 clear hr hk i br;have cc:=u.a (u.n 0);generalize u.v 0=k0 at *;generalize u.n 0=r at *;let⟨k,bg⟩:=nm (k0%60);have hk':(k0:Int)%60=(k:Int):=oM;rw[bg]at p;clear bg;go_upto_if 24 with fail;simp only[hk'];clear hk';by_cases P:k=0
 .have b0:((k:Int)==0)=true:=by simp[P]
  rw[Zp P]at p;clear P;go_wp2_with fail;refine(uE u R r W1 t.o).mono ?_;rintro e W2 ⟨rfl,i⟩;replace o:=ua (uV o.o D.o i.2);clear i;generalize u.v r=O at *;let⟨d,hd⟩:=nm (O%3);have hd':(O:Int)%3=(d:Int):=oM;have bs:d<3:=oM;rw[hd]at p;clear hd;have HL:Hid (∀W,Cs 16 #[Bv 97,Iv (3999+(d:Int))] W (ED (List.replicate (3999+d) 97) W)):=λW=>by
   have:=EE 97 (3999+d) oM W;rwa [show((3999+d:Nat):Int)=3999+(d:Int) by omega]at this
  go_wp2_with (refine Oi OZ rfl _ rfl rfl rfl rfl oM ?_;intro I F);refine(HL.o I).mono ?_;rintro e W4 ⟨J,V,rfl,B⟩;have X:=F.o.2;have af:=X.l;have aa:=o.o.l;have H:Hid (Pv z w (Rt (.tuple #[Sl (Sm W2.heap.size 0) 19 19,Sl J (List.replicate (3999+d) (97:Int)).length V,Iv 1000,Iv 10])) W4):=by
   rw[<-p.o];exact Tu ((Tv F.o aa).y B.2) (Tv B oM) ((o.o.c X).c B.2) (kC F.o.1)
  clear B X;go_wp2;refine zL (by simp[results,f4,go_sem];rfl) rfl ?_;have:=H.o;rwa [Ox]at this
 have b0:((k:Int)==0)=false:=sO;rw[Zn P]at p;by_cases Z:k=1
 .have b1:((k:Int)==1)=true:=by simp[Z]
  rw[Zp Z]at p;clear P Z;go_wp2_with fail;refine(uE u R r W1 t.o).mono ?_;rintro e W2 ⟨rfl,i⟩;replace o:=ua (uV o.o D.o i.2);clear i;generalize u.v r=O at *;let⟨d,hd⟩:=nm (O%5);have hd':(O:Int)%5=(d:Int):=oM;have bs:d<5:=oM;rw[hd]at p;clear hd;have HL:Hid (∀W,Cs 16 #[Bv 97,Iv (18+(d:Int))] W (ED (List.replicate (18+d) 97) W)):=λW=>by
   have:=EE 97 (18+d) oM W;rwa [show((18+d:Nat):Int)=18+(d:Int) by omega]at this
  go_wp2_with (refine Oi PA rfl _ rfl rfl rfl rfl oM ?_;intro I F);refine(HL.o I).mono ?_;rintro e W4 ⟨J,V,rfl,B⟩;have X:=F.o.2;have af:=X.l;have aa:=o.o.l;have H:Hid (Pv z w (Rt (.tuple #[Sl (Sm W2.heap.size 0) 28 28,Sl J (List.replicate (18+d) (97:Int)).length V,Iv 5000,Iv 100])) W4):=by
   rw[<-p.o];exact Tu ((Tv F.o aa).y B.2) (Tv B oM) ((o.o.c X).c B.2) (kC F.o.1)
  clear B X;go_wp2;refine zL (by simp[results,f4,go_sem];rfl) rfl ?_;have:=H.o;rwa [Ox]at this
 have b1:((k:Int)==1)=false:=sO;rw[Zn Z]at p;by_cases q2:k=2
 .have b2:((k:Int)==2)=true:=by simp[q2]
  rw[Zp q2]at p;clear P Z q2;go_wp2_with fail;refine(uE u R r W1 t.o).mono ?_;rintro e W2 ⟨rfl,i⟩;replace o:=ua (uV o.o D.o i.2);replace t:=ua i.1;clear i;have cd:=u.a (u.n r);generalize u.v r=O at *;generalize u.n r=i2 at *;let⟨m,hm⟩:=nm (O%60);have hm':(O:Int)%60=(m:Int):=oM;have b3:m<60:=oM;rw[hm]at p;clear hm;go_wp2_with fail;refine(uE u R i2 W2 t.o).mono ?_;rintro e I ⟨rfl,i⟩;replace o:=ua (uV o.o D.o i.2);clear i;generalize u.v i2=kw at *;go_wp2_with fail;refine(O0 I).mono ?_;rintro e W4 ⟨ra,rc,la,lc,rfl,hX,bf⟩;have T:=ua (zA.a (λ_=>False) W4 (Oc #[Sl ra Pp.nr rc,Sl la Pp.nb lc] 34));have HX:=ua (hX.h T.o.q);replace o:=ua (o.o.c bf);have ah:=ua (Yx Pp).1;have ac:Hid (vS Pp):=Vx.c oM;clear hX bf;generalize txS Pp=s at *;generalize Pp=g at *;go_wp2_with fail;generalize W4.alloc _=W5 at *;refine(A5 _ ra la rc lc g s W5 HX.o ac.o ah.o).mono ?_;rintro e U ⟨a6,c6,rfl,ax,a1,bb⟩;have bp:=ua bb;clear bb;have k6:=yS a1;have HL:=ua (EE 97 m oM U);have bt:=o.o.l;have aa:=T.o.l;have af:=k6.l;have bn:Hid (Mj (Kn s) w a6 U):=ax.g (λb q=>oH q.1);replace o:=ua ((o.o.c T.o).c k6);clear ax a1 k6;go_wp2_with fail;refine HL.o.mono ?_;rintro e W7 ⟨a7,c7,rfl,ae⟩;have H:Hid (∀f:Int,Pv z w (Rt (.tuple #[Sl a6 s.size c6,Sl a7 (List.replicate m (97:Int)).length c7,Iv 20000,Iv f])) W7):=λf=>by
   rw[<-p.o];exact Tu (bn.o.y ae.2) (Tv ae oM) (o.o.c ae.2) bp.o
  clear ae;go_wp2;refine zL (by simp[results,f4,go_sem];rfl) rfl ?_;have:=H.o;rw[Ox]at this;exact this _
 have b2:((k:Int)==2)=false:=sO;rw[Zn q2]at p;by_cases q8:k<8
 .have b8:(k:Int)<8:=oM;rw[Zp q8]at p;clear P Z q2 q8;go_wp2_with fail;refine(U5 u R r W1 t.o).mono ?_;rintro e W2 ⟨a2,c2,rfl,aq,a9,i⟩;replace o:=ua (uV o.o D.o i.2);have HD:=ua (T5 u r R a2 c2 W2 aq a9 (λv j=>(Yz v j).a oM));clear aq a9 i;go_wp2_with fail;refine HD.o.mono ?_;rintro e I ⟨a3,c3,rfl,au,al,ba⟩;have bo:=ua ba;clear ba;have aa:=o.o.l;have af:=al.l;have F:Hid (Mj (pgT (u.b r)) w a3 I):=au.g (λb q=>oH q.1);replace o:=ua (o.o.c al);clear au al;generalize pgT (u.b r)=p3 at *;go_wp2_with (refine Oi [97,98,97,98] rfl _ rfl rfl rfl rfl oM ?_;intro W4 ag);refine zL (by simp[results,f4,go_sem];rfl) rfl ?_;rw[<-p.o];exact Tu (F.o.y ag.o.2) (Tv ag.o oM) (o.o.c ag.o.2) bo.o
 have b8:¬(k:Int)<8:=oM;rw[Zn q8]at p;clear P Z q2 q8;unfold dpB at p;have HV:Hid (M.Sound (dG (g4 u r))):=(FE u r).a oM;have ac:Hid (vS (dG (g4 u r))):=(FE u r).c oM;let⟨A,ak⟩:=nm (g4 u r);rw[ak]at p HV ac;go_wp2_with fail;refine(O3 u R r W1 t.o A ak).mono ?_;rintro e W2 ⟨rv,lv,G,rs,ls,rfl,be,an,am,i⟩;obtain⟨ra,rc,la,lc,rfl,rfl,hX⟩:=be.j;rw[an,am]at hX;have bu:=t.o.lt;have bt:=o.o.l;have C:=ua (show GR (zF W1 W2) R W2.heap.size ra la (dG A) W2 from ⟨λb q=>⟨by have:=q.1;omega,q.2⟩,zD,hX⟩);replace o:=ua (uV o.o D.o i.2);replace t:=ua i.1;have bj:rs.length=(dG A).nr:=by rw[show(dG A).nr=A.1.1.length from rfl,<-an,Bl]
 have bh:ls.length=(dG A).nb:=by rw[show(dG A).nb=A.1.2.length from rfl,<-am,Bl]
 rw[bj,bh];have T:=ua (zA.a (λ_=>False) W2 (Oc #[Sl ra (dG A).nr rc,Sl la (dG A).nb lc] 34));have E:=ua (um W2 #[Sl ra (dG A).nr rc,Sl la (dG A).nb lc] 34);have aa:=i.2.l;clear be an am i hX bj bh ak;generalize dG A=g at *;have ao:=ua (OF u HV.o A.2);go_upto_region 18 with fail;have bl:W2.heap.size≠R:=oM;have ca:W2.heap.size<(W2.alloc (Oc #[Sl ra g.nr rc,Sl la g.nb lc] 34)).heap.size:=sM;generalize bz:W2.heap.size=gb at *;generalize W2.alloc _=I at *;replace C:=ua (C.o.y (T.o.h (λ_ e=>e.elim)));replace t:=ua (t.o.y T.o (λ_ e=>e.elim));replace o:=ua (o.o.c T.o);let⟨z3,p3,l3⟩:=E.o.x;go_wp2_with fail;refine(Q2 u HV.o ac.o rc lc A.2 I C.o t.o).mono ?_;rintro e W4 ⟨v4,rfl,B⟩;obtain⟨J,V,rfl⟩:=B.a;have i:=B.on;let⟨_,av,_⟩:=Yn B.k;replace o:=ua (uV o.o D.o i.2);replace C:=ua (C.o.y i.2);replace t:=ua i.1;replace E:=ua (E.o.b i.2 bl);have af:=i.2.l;have ab:=ua av;clear B av i z3 p3 l3;generalize diT u g A.2=L at *;let⟨z3,p3,l3⟩:=E.o.x;go_wp2_with fail;refine(Y.lcomp_y HV.o W4 C.o.g).mono ?_;rintro e W5 ⟨a5,n5,c5,D5,rfl,b4,bk,aw,a0⟩;have N:=yS a0;have b6:=N.l;have bw:=t.o.lt;have ap:=ua (U1 u R L.2 (λb=>R<b/\b<W5.heap.size) a5 n5 c5 D5 J L.1.length V (lf L.1) W5 (λb q=>⟨oM,q.2⟩) (aw.g (λb q=>⟨by have:=q.1;omega,q.2⟩)) bk oM ((qD (ab.o.m N (λ_ _ e=>e))).g (λb q=>⟨by have:=q.1;omega,q.2⟩)) (PB ao.o.1) (oH ao.o.2) (t.o.y N (λ_ e=>e.elim)));replace o:=ua (o.o.c N);replace C:=ua (C.o.y (N.h (λ_ e=>e.elim)));replace ab:=ua (ab.o.m N (λ_ _ e=>e));replace E:=ua (E.o.a (N.d gb l3 (λe=>e)));clear aw a0 N bk z3 p3 l3;go_wp2_with fail;refine ap.o.mono ?_;rintro e U ⟨fu,sk,rfl,i⟩;have b7:=i.2.l;replace o:=ua (uV o.o D.o i.2);replace C:=ua (C.o.y i.2);replace t:=ua i.1;replace E:=ua (E.o.b i.2 bl);have ad:Hid (Ints (λb=>R<b) .u8 U J L.1.length (lf L.1)):=(ab.o.m i.2 (λb q=>oM)).g (λb q=>oM);have bx:=D.o;clear i ap ab;let⟨z6,p6,l6⟩:=E.o.x;by_cases bm:k<20
 .have bq:(k:Int)<20:=oM;rw[Zp bm]at p;go_wp2_with fail;refine(qW u HV.o rc lc _ U C.o t.o).mono ?_;rintro e W7 ⟨rfl,i⟩;have b9:=i.2.l;replace o:=ua (uV o.o D.o i.2);replace ad:Hid (Mj (Gn L.1) w J W7):=(ad.o.m i.2 (λb q=>oM)).g (λb q=>oM);clear i;generalize lsT u g (u.n (u.n L.2))=tx at *;let⟨a8,c8,W8,b5,az,ai,bd⟩:=Yf W7 tx.1;have H:Hid (Pv z w (Rt (.tuple #[Sl a8 tx.1.size c8,Sl J L.1.length V,Iv fu,Iv sk])) W8):=by
   rw[<-p.o];exact Tu (az.g (λb q=>oM)) (ad.o.y (yS ai)) (o.o.c (yS ai)) bd
  clear az ai bd;go_wp2;refine zL (by simp[results,f4,go_sem];rfl) rfl ?_;exact H.o
 have bq:¬(k:Int)<20:=oM;rw[Zn bm]at p;have ah:=ua (Yx g).1;generalize txS g=s at *;go_wp2_with fail;refine(A5 _ ra la rc lc g s U C.o.g ac.o ah.o).mono ?_;rintro e W7 ⟨a7,c7,rfl,ay,aj,bc⟩;have cb:=o.o.l;have H:Hid (Pv z w (Rt (.tuple #[Sl a7 s.size c7,Sl J L.1.length V,Iv fu,Iv sk])) W7):=by
  rw[<-p.o];exact Tu (ay.g (λb q=>oH q.1)) (Mj.y (W:=U) (ad.o.g (λb q=>oM)) (yS aj)) (o.o.c (yS aj)) bc
 clear ay aj bc;go_wp2;refine zL (by simp[results,f4,go_sem];rfl) rfl ?_;exact H.o
section
open M (OpD ug Gr)
section
variable {P:Ew} {W X:Wl} {c p:Int} {t:Tx}
def BD{w b i a v}(h:zG w b a)(c:a[i]?=some v):∀x:Nat,(w.setCell (Ad b i) v).heap[x]?=w.heap[x]?:=λx=>by
 by_cases e:x=b
 .subst e;obtain⟨t,h⟩:=h;have d:a.setIfInBounds i v=a:=by
   refine Array.ext_getElem? λk=>?_;by_cases e:i=k
   .subst e;rw[Yb (Gw.1 c).1,c]
   rw[Jk e]
  simp[World.setCell,Vf,h,d]
 exact Bn e
structure Qh(W X:Wl)(u0 u1:Vl):Prop where
 k:Kf W X
 g:zG X W.heap.size #[u0,u1]
 c:zG X (W.heap.size+1) #[Iv 0]
 a:zG X (W.heap.size+2) #[Iv 0]
def Qh.on{u0 u1:Vl}{V:Wl}{r:Nat}(h:Qh W X u0 u1)(k:zA (λb=>b=r) X V)(j:W.heap.size+3<=r):Qh W V u0 u1 :=
 ⟨⟨k.os.trans h.k.os,k.g.trans h.k.g,k.f.trans h.k.f,zP h.k.l k.l,λb e i=>(k.d b (Ba e h.k.l) oM).trans (h.k.d b e i)⟩,h.g.a (k.d _ h.g.x.2.2 oM),h.c.a (k.d _ h.c.x.2.2 oM),h.a.a (k.d _ h.a.x.2.2 oM)⟩
def Qh.kp{u0 u1:Vl}{V:Wl}(h:Qh W X u0 u1)(k:Kf X V):Qh W V u0 u1:=h.on (k.h (λ_ q=>q.elim)) zD
def Gd(w W:Wl)(b:Nat):Prop:=b<W.heap.size/\(w.heap.size<=b\/Li w b)
def uqA{a:Oa}{u:Nat}{g:Gr}(hT:Ints (Lo W) .u8 W a t.n t.T)(hc:t.n<=u)(hp:PV t g)
  (am:∀ra rc la lc W',zV (Gd W W') W' ra la g->Kf W W'->P (Rt (.tuple #[.agg #[Sl ra g.nr rc,Sl la g.nb lc],Iv 0,Iv 0])) W'):Cs 7 #[Sl a t.n u] W P:=by
 have hn:=t.le;have NX:=ua am;obtain⟨m,ls,B,C,ap,ad,aq,I,N,ak,rfl⟩:=hp;let⟨S,aj,_⟩:=(GO t.n _ _ (Iy _)).2 m C;have ag:=ua S;have s:=ua aj;have ah:=ua C;have HM:=ua λz=>(N z).trans (L1 S z);have ad:=(MH (uq m) m S).trans ad;have y:Hid (Nw t.n m ls):=⟨ag,Yj s,ap,ad,aq,I,HM⟩;have an:=ua ak;have ax:∀(fn:Fn) (first cap:Av) (w:Wl),(Instr.makeFunc fn first cap).run prog w=.ok (.func fn first cap) w:=λ_ _ _ _=>rfl;generalize A:((W.alloc (Oc #[nS,nS] 34)).alloc (Oc #[Iv 0] 3)).alloc (Oc #[Iv 0] 3)=V;have sV:Hid (V.heap.size=W.heap.size+3):=by rw[<-A];show _=_;simp
 have RV:Hid (Qh W V nS nS):=⟨A▸(zY.c zY).c zY,A▸((um W _ 34).al _).al _,A▸(uW _ _ 3 _ sM).al _,A▸uW _ _ 3 _ sM⟩;have hbig':¬((4000:Int)<(t.n:Int)):=oM;generalize R:V.alloc (Oc #[Sl a t.n u,Iv 0,Bv 0,Iv 0,.string ⟨#[]⟩,nS,nS,nS,nS] 80)=X;have kX:Kf V X:=R▸zY;have RX:=ua (RV.kp kX);have bX:zG X V.heap.size (Ut t (JD a u) a ((0:Nat):Int)):=R▸um V _ 80;have S0:Hid (Sc V.heap.size t (JD a u) 0 X):=⟨bX,(hT.on (λb q=>RX.o.k.d b q (λe=>e))).g (λb q=>⟨Ba q RX.o.k.l,by have q:b<W.heap.size:=q;have:=sV.o;omega⟩),zK⟩;have HX:=ua R;clear hT kX bX RV R am C S aj I N ak;go_enter_defers func7,ntmps7;go_wp2_with fail;rw[HX.o];clear HX A;refine unS S0 hc B (L7 s ag) (λp q=>nomatch ah.o.symm.trans q) λav v6 D z W1 v C s1 m1=>?_;obtain rfl:m=av:=Sum.inr.inj (ah.o.symm.trans C);have R1:=ua (RX.on m1.kp (Nat.le_of_eq sV.symm));have S1:=ua s1;clear C;go_wp2_with fail;refine uja (K:=RK.mk V.heap.size t a u v6 D) S1 (ML s B) (L4 s B) (L5 s B) (oH (L3 s B)) y.g y.j y.ne λb1 b2 au W2 M1 M2 I N k2=>?_;obtain rfl:ls=au:=SC y.r I (λz=>(y.f z).trans (N z).symm);have E:=ua (R1.kp k2);have aw:=ua M2.c;have s2:=S1.kp k2;clear I N;go_wp2_with fail;refine us3 (K:=RK.mk V.heap.size t a u v6 D) s2 M1 M2 (y.e s B) λra rc la lc G U k3=>?_;have R3:=E.kp k3;have nG:¬(W2.heap.size<=W.heap.size\/Li W2 W.heap.size):=(by
  rintro (q|⟨_,o,v,q⟩)
  .have:=E.g.x.2.2;omega
  rw[E.o.g.x.1 o]at q;match o,q with
  |0,q=>cases q
  |1,q=>cases q
  |o+2,q=>simp at q)
 let⟨q0,p0,l0⟩:=R3.g.x;generalize J:(G.setCell (Ad W.heap.size 0) (Sl ra (uZ ls m).nr rc)).setCell (Ad W.heap.size 1) (Sl la (uZ ls m).nb lc)=W4;have st:zS (λb=>b<G.heap.size/\(W2.heap.size<=b\/Li W2 b)) G W4:=λb q=>(by
  have e:b≠W.heap.size:=λe=>nG (e▸q.2);rw[<-J];exact(Bn e).trans (Bn e))
 have s4:W4.heap.size=G.heap.size:=by rw[<-J];simp only[uh]
 have G4:Hid (zV (Gd W W4) W4 ra la (uZ ls m)):=(by
  have O:∀b,(b<G.heap.size/\(W2.heap.size<=b\/Li W2 b))->Gd W W4 b:=λb q=>⟨by rw[s4];exact q.1,by
   by_cases h:W.heap.size<=b
   .exact .inl h
   rcases q.2 with e|⟨_,o,v,e⟩
   .have:=E.k.l;omega
   exact .inr ⟨oM,o,v,(Bd (a:=(Ad b o)) (E.k.d b oM id)).symm.trans e⟩⟩
  exact⟨(U.c.on st).g O,(U.e.on st).g O⟩)
 have R4:Hid (Qh W W4 (Sl ra (uZ ls m).nr rc) (Sl la (uZ ls m).nb lc)):=J▸⟨xT (xT R3.k zD) zD,(R3.g.set 0 _).set 1 _,(R3.c.i _ _ _ oM).i _ _ _ oM,(R3.a.i _ _ _ oM).i _ _ _ oM⟩;let⟨q4,p4,l4⟩:=R4.g.x;have HO:=ua (D7 _ ra la rc lc (uZ ls m) W4 G4.a an.o);let⟨n1,ab⟩:=nm (uZ ls m).nr;let⟨n2,ac⟩:=nm (uZ ls m).nb;have ae:=ua ab;have af:=ua ac;rw[ab,ac]at HO q4 J ⊢;clear U k3 R3 nG st s4 M1 M2 s2 k2 ab ac;go_wp2_with fail;clear J q0 p0 l0 q4 p4 l4;refine HO.mono ?_;rintro e W5 ⟨rfl,aa⟩;have Y:=Below.cD aa;have ao:=Y.l;have R5:=ua (R4.kp Y);have G5:=ua (G4.h aa);rw[ae.o,af.o]at R5;let⟨q0,p0,l0⟩:=R5.g.x;let⟨q1,p1,l1⟩:=R5.c.x;let⟨q2,p2,l2⟩:=R5.a.x;clear aa Y;go_wp2;have H:=BD R5.g (i:=0) (v:=Sl ra n1 rc) rfl;have Q:=BD (R5.o.g.a (H _)) (i:=1) (v:=Sl la n2 lc) rfl;have a3:=BD (R5.o.c.a ((Q _).trans (H _))) (i:=0) (v:=Iv 0) rfl;have a4:=BD (R5.o.a.a ((a3 _).trans ((Q _).trans (H _)))) (i:=0) (v:=Iv 0) rfl;generalize L:(((W5.setCell (Ad W.heap.size 0) (Sl ra n1 rc)).setCell (Ad W.heap.size 1) (Sl la n2 lc)).setCell (Ad (W.heap.size+1) 0) (Iv 0)).setCell (Ad (W.heap.size+2) 0) (Iv 0)=W6 at a4;have Z:Kf W5 W6:=⟨by rw[<-L];rfl,by rw[<-L];rfl,by rw[<-L];rfl,by rw[<-L];simp only[uh];exact zD,λb _ _=>(a4 b).trans ((a3 b).trans ((Q b).trans (H b)))⟩;simp only[Gy,Nat.reduceAdd];clear H Q a3 a4 L q0 p0 l0 q1 p1 l1 q2 p2 l2;refine leaves_cons (f:=32) (args:=#[.pointer (Sm W.heap.size 0),.pointer (Sm (W.heap.size+1) 0),.pointer (Sm (W.heap.size+2) 0)]) sM (by simp[go_sem]) ?_;refine(ukZ W.heap.size (W.heap.size+1) (W.heap.size+2) _).mono ?_;rintro e u' W7 ⟨rfl,rfl,k7⟩;have F:=R5.kp (Z.c k7);have b7:=(Z.c k7).q;have g0:=F.g.x.1 0;have g1:=F.g.x.1 1;have c0:=F.c.x.1 0;have a0:=F.a.x.1 0;have ay:=(Z.c k7).l;have O:∀b,Gd W W4 b->Gd W W7 b:=λb q=>⟨by have:=q.1;have:=ao;omega,q.2⟩;have ai:=NX ra rc la lc W7 ⟨((G5.h b7).c).g O,((G5.h b7).e).g O⟩ F.k;rw[ae.o,af.o]at ai;exact⟨_,by simp[results,f7,go_sem,g0,g1,c0,a0],ai⟩
end
end
end Go.Proofs.YtmlblamikgkdcaaGreat
