import Derived.Test.YtoihadcablknpaaGreatDoorT36
import Derived.Test.YtoihadcablknpaaGreatDoorT35
set_option linter.unusedVariables false
set_option linter.unusedSimpArgs false
set_option linter.defProp false
set_option maxHeartbeats 40000000
set_option maxRecDepth 100000
namespace Go.Proofs.YtoihadcablknpaaGreatDoor
open Go.RowKit
open Go.Proofs.Tryz
section
open M (OpD uh Gr)
def Jk(w:Wl)(b r:Nat)(a:List LI)(g:List Int->Nat)(c:List Int->Prop)(cnt:Nat):Prop :=
 ∃D left,w.ranges prog 9 (plainElem (H:=Unit) prog 3) b r a.length D left cnt/\(∀l,Maps.has D l=true↔∃z∈a,l=xJ z)/\(∀z∈a,D.atKey (xJ z) (.lit (.int .i64 0))=.lit (.int .i64 (g z:Nat)))/\(∀z∈a,(left (xJ z)=true↔c z))/\∀l,left l=true->Maps.has D l=true
def Jk.left{w b r a}{g:List Int->Nat}{c:List Int->Prop}{cnt}(h:Jk w b r a g c cnt):w.rangeLeft b r=cnt:=by
 obtain⟨D,left,h,_⟩:=h;exact h.left_eq
def Jk.lt{w b r a}{g:List Int->Nat}{c:List Int->Prop}{cnt}(h:Jk w b r a g c cnt):b<w.heap.size/\r<w.heap.size:=by
 obtain⟨D,left,h,_⟩:=h;exact⟨h.owns.lt,h.lt⟩
def Jk.on{w w' b r a}{g:List Int->Nat}{c:List Int->Prop}{cnt}(h:Jk w b r a g c cnt)(m:w'.heap[b]?=w.heap[b]?)(n:w'.heap[r]?=w.heap[r]?):Jk w' b r a g c cnt:=by
 obtain⟨D,left,h,j⟩:=h;refine⟨D,left,?_,j⟩;obtain⟨f,e,p,seen,d,i,F,o,l,k,rest⟩:=h;exact⟨f,e,p,seen,d,m.trans i,F,o,l,n.trans k,rest⟩
section
variable (w:Wl) {ops:Array Oper} {rest:List Oper} {o:Oper} {a:Act} {Q:Exit->Act->World->Prop}
def zz(s:o.guard=none)(m:Operand)(u:o.op=Op.range 183 m)(b:Nat)(c:List LI)(g:List Int->Nat)(t:a.eval m=.map (some b))(h:wV w b c g){r:Nat}(v:r=w.heap.size)
  (p:∀W',Hid (Jk W' b r c g (λ_=>True) c.length)->Hid (w.grownBy W' none)->Hid (W'.heap.size=w.heap.size+1)->wpList prog ops Q rest (a.put o.dst (Pt r 0)) W'):wpList prog ops Q (o::rest) a w:=by
 subst v;obtain⟨D,j,k,e,n⟩:=h.r;refine wpList_range_own w s m 183 u 9 3 Ni underlying183 _ b _ D t j (λW' d f i=>p W' ?_ f i);rw[k]at d;exact⟨D,_,d,e,n,λz x=>⟨λ_=>trivial,λ_=>(e _).2 ⟨z,x,rfl⟩⟩,λl q=>q⟩
def v7(X:o.guard=none)p(ac:o.op=Op.next p false)b r f(g:List Int->Nat)(j:List Int->Prop)cnt(Y:a.eval p=.pointer (Sm r 0))(h:Jk w b r f g j cnt)(B:∀z∈f,wW z){F:List Int->World->Prop}(T:∀z W',z∈f->w.grownBy W' (some r)->F z W')(S:Hid (∀z∈f,¬j z)->wpList prog ops Q rest (a.put o.dst (.tuple #[Bf])) w)(U:∀(z:LI) (W':Wl) (i:Nat),Hid (z∈f)->Hid (j z)->Hid (Jk W' b r f g (λy=>j y/\y≠z) i)->Hid (i<cnt)->Hid (w.grownBy W' (some r))->Hid (W'.heap.size=w.heap.size)->(Instr.entry (Pt r 0)).run prog W'=.ok (.tuple #[.string (str z.length (lf z)),Iv (g z:Nat)]) W'->F z W' ->
   wpList prog ops Q rest (a.put o.dst (.tuple #[Bt,.string (str z.length (lf z)),Iv (g z:Nat)])) W'):wpList prog ops Q (o::rest) a w:=by
 obtain⟨D,left,R,t,u,k,A⟩:=h;refine wpList_next_ranges w X p ac 9 Ni _ encStr (Value.int .i64) (λaf kl m=>by obtain⟨x,hx,_⟩:=Maps.keyOf_str underlying9 m;exact⟨x,hx⟩) (λv y n=>by obtain⟨c,rfl,_⟩:=plainElem_int_inv underlying3 n;exact⟨c,rfl⟩) b r _ D left cnt Y R (λ_ Z=>S (λz d q=>?_)) (λx c kl y W' i m G n V ad aa E ae C=>?_)
 ·have:=(k z d).2 q;rw[Z]at this;cases this
 obtain⟨x',N,rfl,_⟩:=Maps.keyOf_str underlying9 m;obtain rfl:x=x':=encStr_inj N;obtain⟨z,d,P⟩:=(t _).1 (A _ G);have ez':x=u8 z:=Lit.string.inj P;subst ez';obtain⟨c',L,O,_⟩:=plainElem_int_inv underlying3 n;cases L;have W:c=(g z:Nat):=by
  have s:=V (.lit (.int .i64 0));rw[<-Vy,u z d,O]at s;have I:(DataW.lit (.int .i64 ((g z:Nat):Int)):DataW Unit)=.lit (.int .i64 c):=s;have J:=DataW.lit.inj I;exact(Lit.int.inj J).2.symm
 subst W;rw[QC]at C ⊢;refine U z W' i d ((k z d).1 (by rw[Vy];exact G)) ⟨D,_,ad,t,u,λy H=>?_,λl q=>A l (by simp only[Kd]at q;exact q.1)⟩ aa E ae C (T z W' d E);by_cases e:y=z
 ·subst e;simp only[Vy,ne_eq,not_true,and_false,iff_false,Kd,Bool.not_eq_true',not_and];intro _;simp[Lit.sameKey]
 have ab:(xJ y).sameKey (.string (u8 z))=false:=Maps.sameKey_ne (λq=>e (Xf (B y H) (B z d) (by rw[Vy z];exact q)));rw[ab];simp only[Bool.not_false,Bool.and_true];exact(k y H).trans ⟨λq=>⟨q,e⟩,λq=>q.1⟩
end
abbrev Pm(n:Nat):Array Value:=madeCells #[nS,Bf,nS] (n*3)
def BQ n j(h:j<n*3):(Pm n)[j]?=if j%3=1 then some Bf else some nS:=by
 unfold Pm madeCells;rw[Array.getElem?_map,Array.getElem?_range,Zp h];have a:j%3=0\/j%3=1\/j%3=2:=oM;rcases a with e|e|e<;>simp[e]
def v8 b Z W n:Ls b Z W (Pm n) (List.replicate n ⟨[],false,[]⟩):=by
 refine⟨by rw[Qe];exact size_madeCells _ _,λi x a=>?_⟩;rw[List.getElem?_replicate]at a;split at a
 ·obtain rfl:=(Ko a).symm;refine⟨none,0,none,0,?_,?_,?_,⟨.inl rfl,.inl rfl,wF⟩⟩
  ·rw[BQ _ _ oM,Zn oM];rfl
  ·rw[BQ _ _ oM,Zp oM]
  rw[BQ _ _ oM,Zn oM];rfl
 cases a
structure OT(qs:List Rl)(ls:List LI):Prop where
 nm:Vr qs
 h:yM [] qs=none
 k:Dp ls
 i:∀q∈qs,q.a.isSome=true->q.f.nm∈ls
 j:∀q∈qs,∀t∈q.e.b,t.nm∈ug qs
 m:∀q∈qs,∀t∈q.e.a,t.nm∈ls
 e:∀q∈qs,(q.e.e (ug qs) ls).length<=1000000
def BR(a:Wl)(b1 d:Nat)(ls:List LI)(v:Vl)(wr:Wl):Prop :=
 ∃b cnt c lb,Jk wr d (a.heap.size+4) ls (zX ls) b cnt/\BU a b1 d wr (λ_=>False) nS c [] lb/\lb.length=ls.length/\a.heap.size+5<=wr.heap.size/\∀(i:Nat) (z:LI),ls[i]?=some z->(b z->lb[i]?=some ⟨[],false,[]⟩)/\(¬b z->lb[i]?=some ⟨z,false,[]⟩)
def Vp(b:Wl)(b1 d:Nat)(a:List Rl)(ls:List LI)(v:Vl)(wr:Wl):Prop :=
 ∃m A e c,m<=a.length/\v=Iv (m:Nat)/\BU b b1 d wr A e c (uE (ug a) ls (a.take m)) (uG (ug a) ls (a.take m))/\b.heap.size+5<=wr.heap.size
def OU{w w' r}(h:w.grownBy w' (some r)):wA (λb=>b=r) w w':=⟨h.os,h.tape,h.output,h.size,λb a c=>h.block b a (λq=>c (Ko q))⟩
section
variable {K:RK} {z:RZ} {W0 W W' W2:Wl} {qs:List Rl} {P:Ew} {b1 b2:Nat} {ls:List LI} {v:Vl}
def w0{a:List Int->Prop}{lb d}(c:lb.length=ls.length)(h:∀(i:Nat) (z:LI),ls[i]?=some z->(a z->lb[i]?=some ⟨[],false,[]⟩)/\(¬a z->lb[i]?=some ⟨z,false,[]⟩))(b:∀z∈ls,¬a z):lb=uG d ls []:=by
 refine List.ext_getElem? (λi=>?_);unfold uG;rw[Du];cases e:ls[i]? with
 |none=>rw[Oj (by rw[c];exact List.getElem?_eq_none_iff.1 e)];rfl
 |some z=>rw[(h i z e).2 (b z (Be e))];rfl
def w1{m:List Int->Prop}{cnt nc:Nat}{y:LI}{c:Av}{lb:List NL}(nd:ls.Nodup)(L:b2<W0.heap.size)(H:y∈ls)(G:m y)(h:BU W0 b1 b2 W (λ_=>False) nS c [] lb)(r:lb.length=ls.length)(J:W0.heap.size+5<=W.heap.size)(n:∀(i:Nat) (z:LI),ls[i]?=some z->(m z->lb[i]?=some ⟨[],false,[]⟩)/\(¬m z->lb[i]?=some ⟨z,false,[]⟩))
  (A:wA (λb=>b=W0.heap.size+4) W W') (s:Jk W' b2 (W0.heap.size+4) ls (zX ls) (λx=>m x/\x≠y) cnt) (k:Kf W' W2) (O:W2.heap.size=W'.heap.size+1) (F:wB (λb=>b=W'.heap.size) .u8 W2 (Sm W'.heap.size 0) y.length (lf y)) :
  wJ W2 (W0.heap.size+2) c/\c.size=ls.length*3/\(∀v,BR W0 b1 b2 ls v (W2.setCell (Ad (W0.heap.size+2) (zX ls y*3)) (Sl (Sm W'.heap.size 0) y.length nc)))/\(W2.setCell (Ad (W0.heap.size+2) (zX ls y*3)) (Sl (Sm W'.heap.size 0) y.length nc)).rangeLeft b2 (W0.heap.size+4)=cnt:=by
 have o:zX ls y<ls.length:=List.idxOf_lt_length_of_mem H;have B:ls[zX ls y]?=some y:=by rw[zG o];exact zD some (List.getElem_idxOf o)
 have U:=(h.on A).on (k.l (λ_ q=>q.elim));have R:=A.h;have u:=(n _ _ B).1 G;have C:Jk (W2.setCell (Ad (W0.heap.size+2) (zX ls y*3)) (Sl (Sm W'.heap.size 0) y.length nc)) b2 (W0.heap.size+4) ls (zX ls) (λx=>m x/\x≠y) cnt :=
  s.on ((zJ _ (by show b2≠W0.heap.size+2;omega)).trans (k.d _ s.lt.1 (λe=>e))) ((zJ _ (by show W0.heap.size+4≠W0.heap.size+2;omega)).trans (k.d _ s.lt.2 (λe=>e)))
 refine⟨U.d,by rw[U.la.sz,r],λv=>⟨_,cnt,c.setIfInBounds (zX ls y*3+0) (Sl (Sm W'.heap.size 0) y.length nc),lb.set (zX ls y) ⟨y,false,[]⟩,C,U.set (j:=0) u oM _ ?_,by rw[Kq,r],by rw[uj];omega,λi z a=>?_⟩,C.left⟩
 ·obtain⟨na,Q,ba,bc,I,D,E,w⟩:=U.la.f _ _ u;have P:=U.la.sz;refine U.la.k u sM (λk N=>by rw[Iz oM]) (by rw[Cc,Sw oM]) (by rw[Iz oM];exact D) (by rw[Iz oM];exact E) ⟨F.g (λb q=>⟨⟨by rw[q];omega,λx=>x.elim (λx=>oM) id⟩,.inl (by rw[q];omega)⟩),w.bd,w.p⟩
 by_cases e:z=y
 ·subst e;obtain rfl:i=zX ls z:=(qx nd a).symm;rw[Lz (by rw[r];exact o)];exact⟨λq=>aB rfl q.2,λ_=>rfl⟩
 rw[Ol (λq=>e (by rw[<-q,B]at a;exact(Ko a).symm))];exact⟨λq=>(n i z a).1 q.1,λq=>(n i z a).2 (λt=>q ⟨t,e⟩)⟩
def Iu.at{b Z w}:∀{rs:List NL} {cs:List Value},Iu b Z w rs cs->cs.length=rs.length*2/\∀{k:Nat} {x:NL},rs[k]?=some x->∃na nc ba bc,cs[k*2]?=some (Sl na x.nm.length nc)/\cs[k*2+1]?=some (Sl ba x.bd.length bc)/\NB b Z w x na ba bc
 |[],cs,h=>⟨by rw[show cs = [] from h];rfl,λa=>by simp at a⟩
 |y::r,_,⟨na,nc,ba,bc,cs',rfl,h1,h2⟩=>by
  have c:=Iu.at h2;refine⟨by rw[wK,c.1,zQ];simp;omega,λ{k d} a=>?_⟩;cases k with
  |zero =>
   obtain rfl:y=d:=(by simpa using a);exact⟨na,nc,ba,bc,rfl,rfl,h1⟩
  |succ k =>
   obtain⟨n,o,l,m,f,g,i⟩:=c.2 (k:=k) (by simpa using a);have e:∀j,([Sl na y.nm.length nc,Sl ba y.bd.length bc]++cs')[(k+1)*2+j]?=cs'[k*2+j]?:=λj=>by
    rw[Di sO];congr 1;simp;omega
   exact⟨n,o,l,m,(e 0).trans f,(e 1).trans g,i⟩
def getD_some{α}[Inhabited α]{l:List α}{i:Nat}(h:i<l.length):l[i]?=some (l.getD i default):=by rw[Cx,zG h];rfl
def BU.f{A:Np}{v:Vl}{c:Av}{rs lb:List NL}(h:BU W0 b1 b2 W A v c rs lb):∃ra rc,v=Sl ra rs.length rc/\zC (λb=>(b<W.heap.size/\b≠W0.heap.size+1)/\(W0.heap.size<=b\/Li W0 b)) W ra (Sm (W0.heap.size+2) 0) (gram rs lb):=by
 obtain⟨cs,u,w⟩:=h.y;have m:∀b,Ou W0 (ZB W0 A) W b->(b<W.heap.size/\b≠W0.heap.size+1)/\(W0.heap.size<=b\/Li W0 b):=λb q=>⟨⟨q.1.1,λe=>q.1.2 (.inl ⟨oM,oM⟩)⟩,q.2⟩
 have E:=h.sz;obtain⟨ra,rc,rfl⟩:=uq u;refine⟨ra,rc,rfl,⟨?_,.inr ⟨W0.heap.size+2,0,rfl,⟨⟨oM,oM⟩,.inl oM⟩,λi k=>?_⟩⟩⟩
 ·rcases u with⟨_,r,_⟩|⟨g,cap,e,t,B,C,s,D⟩
  ·exact .inl r
  injection e with r e2 e3;subst r e3;refine .inr ⟨g,0,rfl,⟨⟨(h.a g t).2,by have:=(h.a g t).1;omega⟩,.inl (oH ((h.a g t).1))⟩,λi k=>?_⟩;have k:i<rs.length:=k;obtain⟨na,nc,ba,bc,n,l,j⟩:=w.at.2 (getD_some k);rw[zL];exact⟨⟨⟨na,nc,(s _ oM).trans n,j.nm.g m⟩,⟨ba,bc,(s _ oM).trans l,j.bd.g m⟩⟩,⟨ba,bc,(s _ oM).trans l,j.p⟩⟩
 obtain⟨na,nc,ba,bc,n,l,j,o⟩:=h.la.f i _ (getD_some k);have z:=h.d.x.1;rw[zL];exact⟨⟨⟨na,nc,(z _).trans n,o.nm.g m⟩,(z _).trans l,⟨ba,bc,(z _).trans j,o.bd.g m⟩⟩,⟨ba,bc,(z _).trans j,o.p⟩⟩
def BU.i{A:Np}{u:Vl}{c:Av}{rs lb:List NL}{i n:Nat}{x:NL}{a:Oa}{D:List OpD}(h:BU W0 b1 b2 W A u c rs lb)(l:lb[i]?=some x)(C:wT (Ou W0 (ZB W0 A) W) W a D.length (df D))(E:D.length<=n) :
  ∃v,BU W0 b1 b2 ((W.setCell (Ad (W0.heap.size+2) (i*3+1)) Bt).setCell (Ad (W0.heap.size+2) (i*3+2)) (Sl a D.length n)) A u v rs (lb.set i ⟨x.nm,true,D⟩):=by
 obtain⟨na,nc,ba,bc,o,s,t,e⟩:=h.la.f i x l;have w:=(zT.1 l).1;have F:=h.la.sz;have m:Ay (ZB W0 A) W (ZB W0 A) (W.setCell (Ad (W0.heap.size+2) (i*3+1)) Bt):=Ay.d (zP (.inl ⟨by show _<=W0.heap.size+2;omega,by show W0.heap.size+2<_;omega⟩));have g:=h.set (y:=⟨x.nm,true,x.bd⟩) (j:=1) l oM Bt (h.la.k l sM (λk z=>Iz oM) ((Iz oM).trans o) (Sw oM) ((Iz oM).trans t) ⟨e.nm,e.bd,e.p⟩);have q:(lb.set i ⟨x.nm,true,x.bd⟩)[i]?=some ⟨x.nm,true,x.bd⟩:=Lz w;have B:=g.la.sz;obtain⟨na,nc,ba,bc,o,s,t,e⟩:=g.la.f i _ q;have r:=g.set (y:=⟨x.nm,true,D⟩) (j:=2) q oM (Sl a D.length n) (g.la.k q sM (λk z=>Iz oM) ((Iz oM).trans o) ((Iz oM).trans s) (Sw (by rw[B,Kq];omega)) ⟨e.nm,CA C m,E⟩);rw[List.set_set]at r;exact⟨_,r⟩
def w2(s:K.DS z qs W)(M1:wV W b1 (ug qs) (zX (ug qs)))(F:wV W b2 ls (zX ls))(hH:OT qs ls)(bh:∀ra rc la lc W',zC (λb=>b<W'.heap.size/\(W.heap.size<=b\/Li W b)) W' ra la (ux ls qs)->Kf W W'->P (Rt (.agg #[Sl ra (ux ls qs).nr rc,Sl la (ux ls qs).nb lc])) W') :
  Cs 99 #[rp K.rb,.agg #[.map (some b1),.map (some b2)]] W P:=by
 have NX:=ua bh;have Z:=ua hH;have N1:=ua M1;have N2:=ua F;have cf:qs.length<=1000000:=oH s.c;obtain⟨cb,ah,ap⟩:=s.y;obtain⟨ra,rc,az⟩:=uq ah;have c6:W.cell? (Ad K.rb 6)=some (Sl ra qs.length rc):=(s.st.sc.e.x.1 6).trans (zD some az);have bx:=s.st.sc.e.x.2.2;rw[az]at ah;have bk:Hid (∀m q,qs[m]?=some q->∃g ty u,ra=some (Ad g 0)/\g<W.heap.size/\TrV W (ug qs) ls (.iface ty u) (q.e.e (ug qs) ls)/\∀j,j<4->W.cell? (Ad g (m*4+j))=(Lv q (.iface ty u))[j]?):=λm q B=>(by
  obtain⟨g,e,hg,hc⟩:=BX (w':=W) ah ap.at.1 (zT.1 B).1;obtain⟨ty,u,ht,h3⟩:=ap.at.2 B;have hm:=Be B;exact⟨g,ty,u,e,(s.st.d g hg).1,ht.b (hH.j q hm) (hH.m q hm),λj hj=>(hc j hj).trans (h3 j hj)⟩)
 have ce:ls.length<=1000000:=F.c;have am:b2<W.heap.size:=F.lt;have a0:=ua F.j;have bn:=ua F.nd;have bu:=λV=>YX ls.length oM V
 generalize aa:(W.alloc (Oc #[.map (some b1),.map (some b2)] 185)).alloc (Oc #[nS,nS] 37)=G;have s1:G.heap.size=W.heap.size+2:=by rw[<-aa];simp
 have k1:Kf W G:=aa▸wU.c wU;have b0:wJ G W.heap.size #[.map (some b1),.map (some b2)]:=aa▸(um W _ 185).al _;have a5:wJ G (W.heap.size+1) #[nS,nS]:=aa▸uV _ _ 37 _ sM;generalize ab:(G.alloc (Oc (Pm ls.length) 50)).alloc (Oc #[nS,Sl (Sm (W.heap.size+2) 0) ls.length ls.length] 37)=V3;have s3:V3.heap.size=W.heap.size+4:=by rw[<-ab];simp[s1]
 have T:Kf G V3:=ab▸wU.c wU;have b2':wJ V3 (W.heap.size+2) (Pm ls.length):=ab▸(uV G _ 50 _ s1.symm).al _;have b3:wJ V3 (W.heap.size+3) #[nS,Sl (Sm (W.heap.size+2) 0) ls.length ls.length]:=ab▸uV _ _ 37 _ (by simp[s1]);have af:=ua (F.on (k1.d _ am (λe=>e)));have a2:=ua (af.o.on (T.d _ af.o.lt (λe=>e)));have U0:Hid (BU W b1 b2 V3 (λ_=>False) nS (Pm ls.length) [] (List.replicate ls.length ⟨[],false,[]⟩)) :=
  ⟨k1.c T,b0.on T.u,a5.on T.u,b2',by rw[Qe];exact b3,v8 _ _ _ _,⟨[],.inl ⟨rfl,rfl,rfl⟩,rfl⟩,λ_ q=>q.elim⟩
 obtain⟨q0,p0,l0⟩:=b0.x;obtain⟨q1,p1,l1⟩:=(b0.on T.u).x;clear s ah ap az hH bh M1 F k1 T b0 a5 b2' b3;go_enter func99,ntmps99;go_wp2_with (first
  |(at_len;refine Tc _ rfl _ rfl b2 ls (zX ls) rfl af.o ?_)
  |(at_range;refine zz _ rfl _ rfl b2 ls (zX ls) rfl a2.o (r:=W.heap.size+4) s3.symm ?_;intro V4 ac I bf))
 go_frame;have HI:Hid (∀v,BR W b1 b2 ls v V4):=λv=>⟨_,_,_,_,ac.o,U0.o.on ⟨I.o.os,I.o.tape,I.o.output,I.o.size,λb hb _=>I.o.block b hb sM⟩,by rw[Qe],by rw[bf.o,s3];omega,λi z hz=>⟨λ_=>by rw[List.getElem?_replicate,Zp (zT.1 hz).1],λq=>aB trivial q⟩⟩
 clear ac I bf aa ab q0 p0 l0 q1 p1 l1 U0 af a2 bu;go_loopw [6] (BR W b1 b2 ls) (λ_ wr=>wr.rangeLeft b2 (W.heap.size+4))
 ·exact HI.o _
 clear HI;obtain⟨b9,cnt,c,lb,ac,t,au,C,hi⟩:=hrel;have RG:=ua ac;have w:=ua t;have ae:=ua au;have J:=ua C;have ak:=ua hi;have bq:ls.length=lb.length:=au.symm;have HF:Hid (∀y W',y∈ls->wr.grownBy W' (some (W.heap.size+4))->W'.cell? (Ad (W.heap.size+3) 1)=some (Sl (Sm (W.heap.size+2) 0) ls.length ls.length)/\W.heap.size+3<W'.heap.size/\((zX ls y:Nat):Int)<(ls.length:Int)):=λy W' hy hg=>(by
  have:=(w.o.on (OU hg)).h.x;rw[ae.o]at this;have hl:zX ls y<ls.length:=List.idxOf_lt_length_of_mem hy;exact⟨this.1 1,this.2.2,oM⟩)
 have d6:wr.cell? (Ad K.rb 6)=some (Sl ra qs.length rc):=(t.kp.p (p:=(Ad K.rb 6)) bx (λz=>z)).trans c6;clear ac t au hi bq;go_wp2_with (first
  |(at_next;refine v7 _ rfl _ rfl b2 (W.heap.size+4) ls (zX ls) b9 cnt rfl RG.o a0.o HF.o (λa8=>?_) (λy W' ca hy b4 bz av bt cg cc b6=>?_))
  |(obtain⟨nc,W2,R,hn,S,aj⟩:=PI W' (a0.o y hy.o);refine PJ rfl _ rfl rfl R ?_;obtain⟨bl,bp,E,NL⟩:=w1 (nc:=nc) bn.o am hy.o b4.o w.o ae.o J.o ak.o (OU bt.o) bz.o S aj hn;obtain⟨u0,bg⟩:∃u,c[zX ls y*3]?=some u:=⟨_,Array.getElem?_eq_getElem (oH b6.2.2)⟩;obtain⟨Y,p5,l5⟩:=bl.x;have r0:=(Y _).trans bg;have rf:=p5 (zX ls y*3);have E:=ua E;have bm:Hid ((W2.setCell (Ad (W.heap.size+2) (zX ls y*3)) (Sl (Sm W'.heap.size 0) y.length nc)).rangeLeft b2 (W.heap.size+4)<wr.rangeLeft b2 (W.heap.size+4)):=(by rw[NL,RG.o.left];exact av.o);clear R hn S aj bl bp NL bg Y p5))
 ·have a1:Hid (Vp W b1 b2 qs ls (Iv ((0:Nat):Int)) wr):=⟨0,λ_=>False,nS,c,wP,rfl,(by rw[List.take_zero,<-w0 ae.o ak.o a8.o];exact w.o),J.o⟩;clear a8 w ae J ak HF RG c6;go_wp2;go_loopw [37] (Vp W b1 b2 qs ls) (λv _=>qs.length-(intOf v).toNat)
  ·exact a1.o
  clear a1 d6;obtain⟨m,A,rv,c,hm,rfl,t,C⟩:=hrel;by_cases ai:m<qs.length
  ·obtain⟨q,B⟩:∃q,qs[m]?=some q:=⟨_,zG ai⟩;obtain⟨g,ty,u,rfl,hg,ht,hc⟩:=bk.o m q B;obtain⟨y0,y1,y2,y3⟩:=Vq (w':=wr) hc (t.kp.d g hg (λe=>e));have ax:=Be B;have I:g<wr.heap.size:=oH t.kp.h;have av:(m:Int)<(qs.length:Int):=oM;obtain⟨bv,an⟩:=nm q.a.isSome;obtain⟨sz,ay⟩:=nm (str q.f.nm.length (lf q.f.nm));have HQ:=ua B;have ad:=ua an;have a3:=ua ay;have HZ:=ua (Z.o.nm q ax);rw[an]at y2;rw[ay]at y0;generalize hX:wr.alloc (Oc #[.string sz,Iv (q.f.f:Nat),.bool bv,.iface ty u] 237)=X;have kX:Kf wr X:=hX▸wU;have L:=t.on (kX.l (λ_ q=>q.elim));have BD:wJ X wr.heap.size #[.string sz,Iv (q.f.f:Nat),.bool bv,.iface ty u]:=hX▸um wr _ 237;obtain⟨q0,p0,l0⟩:=L.e.x;obtain⟨q1,p1,l1⟩:=BD.x;obtain⟨D,hD⟩:=nm (q.e.e (ug qs) ls);have HD:=ua hD;have a7:=Z.o.e q ax;rw[hD]at ht a7;have HC:=ua (λP'=>uts N1.o N2.o ht X nS [] (λ_=>False) P' L.kp ⟨⟨[],.inl ⟨rfl,rfl,rfl⟩,rfl⟩,λ_ q=>q.elim⟩ (by show 0+D.length<=_;omega));have a4:Hid (∀(a:Oa) (H:Nat) (U:Wl) (O:Np),Kl W O U (Sl a D.length H) D->Ay (λ_=>False) X O U->BU W b1 b2 U A rv c (uE (ug qs) ls (qs.take m)) (uG (ug qs) ls (qs.take m))/\wJ U wr.heap.size #[.string sz,Iv (q.f.f:Nat),.bool bv,.iface ty u]/\W.heap.size+5<=U.heap.size/\wT (Ou W (ZB W A) U) U a D.length (df D)/\D.length<=H):=λa H U O N m1=>(by
    have hA:=t.a;have cd:=L.kp.h;have ks:=kX.h;have ku:Kf X U:=m1.kp;have ku':=ku.h;have ch:wr.heap.size<X.heap.size:=l1;obtain⟨o1,o2⟩:=N.e (Q:=Ou W (ZB W A) U) (L.kp.c ku) (λb q=>⟨⟨(N.o b q).2,λz=>by have h:=(m1.nw b q).resolve_left (λe=>e);exact z.elim (λz=>oM) (λz=>oH ((hA b z).2))⟩,.inl (N.o b q).1⟩) (λb q=>⟨⟨by have:=q.1;omega,λz=>by have:=q.1;exact z.elim (λz=>oM) (λz=>oH ((hA b z).1))⟩,.inr q⟩);exact⟨L.on (ku.l (λ_ q=>q.elim)),BD.on ku.u,oM,o1,o2⟩)
   clear hc ht t C B ax an ay kX L BD hD a7;go_wp2_with fail;clear hX;refine HC.o _ λa H U O N m1=>?_
   obtain⟨ag,bd,C,ob,bi⟩:=a4.o a H U O N m1;have w:=ua ag;have OB:=ua (show wT (Ou W (ZB W A) U) U a D.length (df D)/\D.length<=H from ⟨ob,bi⟩);have J:=ua C;clear N m1 ob bi HC a4 q0 p0 l0 q1 p1 l1 y0 y1 y2 y3;obtain⟨q0,p0,l0⟩:=ag.e.x;obtain⟨q1,p1,l1⟩:=bd.x;obtain⟨q2,p2,l2⟩:=ag.h.x;have TK:=ua (jq HQ.o);clear ag bd C;have br:([]++D).length=D.length:=rfl;rw[br];cases bv with
   |true =>
    have aw:=Z.o.i q (Be HQ.o) ad.o;have aq:zX ls q.f.nm<ls.length:=List.idxOf_lt_length_of_mem aw;have hk:ls[zX ls q.f.nm]?=some q.f.nm:=(by rw[zG aq];exact zD some (List.getElem_idxOf aq));have hx:(uG (ug qs) ls (qs.take m))[zX ls q.f.nm]?=some (vx (ug qs) ls (qs.take m) q.f.nm):=(by unfold uG;rw[Du,hk];rfl);obtain⟨na,nc,ba,bc,e1,e2,e3,_⟩:=w.o.la.f _ _ hx;obtain⟨Y,p5,l5⟩:=w.o.d.x;have r1:=(Y _).trans e2;have r2:=(Y _).trans e3;have E:Hid (Vp W b1 b2 qs ls (Iv ((m:Int)+1)) ((U.setCell (Ad (W.heap.size+2) (zX ls q.f.nm*3+1)) Bt).setCell (Ad (W.heap.size+2) (zX ls q.f.nm*3+2)) (Sl a D.length H))):=(by
     obtain⟨c2,hB⟩:=w.o.i hx OB.o.1 OB.o.2;refine⟨m+1,A,rv,c2,ai,sM,?_,by simp only[uj];exact J.o⟩;rw[TK.o,xL,ad.o,IH Z.o.k hk ad.o (λs hs=>qp Z.o.h m q HQ.o s (by simpa using hs)),HD.o];have bw:(vx (ug qs) ls (qs.take m) q.f.nm).nm=q.f.nm:=by unfold vx;split<;>rfl
     rw[bw]at hB;simpa using hB)
    have hil':((zX ls q.f.nm:Nat):Int)<(ls.length:Int):=oM;have MU:=ua (N2.o.on (w.o.kp.d _ am (λe=>e)));have HV:Hid (Nj ls (zX ls) q.f.nm=zX ls q.f.nm):=Zp aw;have bb:(uG (ug qs) ls (qs.take m)).length=ls.length:=(by unfold uG;rw[zN]);rw[bb]at q2;obtain⟨ix,a9⟩:=nm (zX ls q.f.nm);rw[a9]at r1 r2 E hil' HV;clear hk hx e1 e2 e3 Y aw aq a9 bb;generalize D.length=dl at *;go_wp2_with (at_lookup;refine FG _ rfl _ _ rfl b2 ls (zX ls) q.f.nm rfl MU.o (by rw[a3.o];rfl) HZ.o.1 HZ.o.2 ?_;rw[HV.o]);go_roundw;all_goals first
     |exact E.o
     |(simp[intOf];omega)
   |false =>
    obtain⟨nc,W2,R,hn,S,aj⟩:=PI U HZ.o.1;have ao:q.a=none:=by have:=ad.o;cases h:q.a with|none=>rfl|some x=>rw[h]at this;cases this
    have hA:=w.o.a;have b5:=w.o.sz;have C:=J.o;have U2:=w.o.on (S.l (λ_ q=>q.elim));have m2:Ay (ZB W A) U (ZB W A) W2:=Ay.d (S.l (λ_ q=>q.elim));obtain⟨a',c2,W3,A',be,a6,U3⟩:=U2.k (x:=⟨q.f.nm,true,D⟩) (nc:=nc) (na:=some (Ad U.heap.size 0)) ⟨hn.g (λb q=>⟨⟨by rw[q];omega,λz=>z.elim (λz=>oM) (λz=>oH ((hA b z).2))⟩,.inl (by rw[q];omega)⟩),CA OB.o.1 m2,OB.o.2⟩ (by unfold uE;rw[zN];exact wN (Qf _ _) (by rw[Fy];omega)) oM;have E:Hid (Vp W b1 b2 qs ls (Iv ((m:Int)+1)) (W3.setCell (Ad (W.heap.size+3) 0) (Sl a' (uE (ug qs) ls (qs.take m)++[(⟨q.f.nm,true,D⟩:NL)]).length c2))):=(by
     refine⟨m+1,A',Sl a' (uE (ug qs) ls (qs.take m)++[(⟨q.f.nm,true,D⟩:NL)]).length c2,c,ai,sM,?_,?_⟩
     ·rw[TK.o,xL,ao,IF ao];have:=U3;unfold Ph;rw[HD.o];simpa using this
     have h3:=U3.a;have h4:=U3.kp.h;obtain⟨cs,o1,_⟩:=U3.y;rcases o1 with⟨_,e,_⟩|⟨g2,_,_,B,_⟩
     ·simp at e
     have:=h3 g2 B;omega)
    rw[a3.o]at R;have HR:=ua R;have bo:=ua be;obtain⟨q3,p3,l3⟩:=a6.x;obtain⟨q4,p4,l4⟩:=U2.h.x;clear R hn S aj U2 m2 be a6 U3 hA b5 C ao;generalize (uE (ug qs) ls (qs.take m)++[(⟨q.f.nm,true,D⟩:NL)]).length=nn at *;generalize D.length=dl at *;generalize q.f.nm.length=nl at *;go_wp2_with (first
     |(refine PJ rfl _ rfl rfl HR.o ?_)
     |(at_builtin;refine Mt rfl _ _ rfl rfl rfl bo.o ?_))
    go_roundw;all_goals first
     |exact E.o
     |(simp[intOf];omega)
  obtain rfl:m=qs.length:=oM;have av:¬((qs.length:Int)<(qs.length:Int)):=oM;rw[Ll]at t;obtain⟨b7,b8,rfl,GX⟩:=t.f;obtain⟨q0,p0,l0⟩:=t.g.x;obtain⟨q2,p2,l2⟩:=t.h.x;have bj:Hid (∀v0 v1,P (Rt (.agg #[Sl b7 (ux ls qs).nr b8,Sl (Sm (W.heap.size+2) 0) (ux ls qs).nb (ux ls qs).nb])) ((wr.setCell (Ad (W.heap.size+1) 0) v0).setCell (Ad (W.heap.size+1) 1) v1)):=λv0 v1=>(by
   have st:wQ (λb=>(b<wr.heap.size/\b≠W.heap.size+1)/\(W.heap.size<=b\/Li W b)) wr ((wr.setCell (Ad (W.heap.size+1) 0) v0).setCell (Ad (W.heap.size+1) 1) v1):=λb q=>(zJ _ q.1.2).trans (zJ _ q.1.2)
   have wd:∀b,((b<wr.heap.size/\b≠W.heap.size+1)/\(W.heap.size<=b\/Li W b))->b<((wr.setCell (Ad (W.heap.size+1) 0) v0).setCell (Ad (W.heap.size+1) 1) v1).heap.size/\(W.heap.size<=b\/Li W b):=λb q=>⟨by simp only[uj];exact q.1.1,q.2⟩
   exact NX.o _ _ _ _ _ ⟨(GX.a.on st).g wd,(GX.c.on st).g wd⟩ (xB (xB t.kp oM) oM))
  clear GX t C hm ai;have e1:(uE (ug qs) ls qs).length=(ux ls qs).nr:=rfl;have e2:(uG (ug qs) ls qs).length=(ux ls qs).nb:=rfl;rw[e1,e2]at q2;generalize (ux ls qs).nr=n1 at *;generalize (ux ls qs).nb=n2 at *;go_wp2;exact wL (by simp[results,f99,go_sem, *]) rfl (bj.o _ _)
 go_roundw
 ·exact E.o _
 exact bm.o
end
end
open M (OpD uh Gr)
def Ti{t:Tx}{c:List Rl}(h:uI t=c.flatMap Rl.tk):∀q∈c,Ar t.n q.f/\∀x∈q.e.tk,Ar t.n x:=λq d=>by
 have b:∀x∈q.tk,Ar t.n x:=λx a=>(Uh t).1 x (by rw[h];exact Hi.2 ⟨q,d,a⟩)
 exact⟨b _ (by simp[Rl.tk]),λx a=>b x (by simp[Rl.tk,a])⟩
def Tj{t:Tx}{a:List Rl}(h:uI t=a.flatMap Rl.tk)(b:t.n<=4000):Bb (a.flatMap Rl.tk)<=8000:=by
 rw[<-h];exact wN (Uh t).2 oM
def XZ:∀(e:PE),e.a.length<=e.tk.length:=by
 intro e;induction e with
 |thr c t=>simp[PE.a,PE.tk]
 |ref t|str t|cls t|dot t|emp=>simp[PE.a]
 |grp o e c d=>simp only[PE.a,PE.tk,zQ,wK];omega
 |star e t d|opt e t d|seq a b f g=>simp only[PE.a,PE.tk,wK];omega
 |not t e d|amp t e d=>simp only[PE.a,PE.tk,zQ];omega
 |alt a t b f g=>simp only[PE.a,PE.tk,wK,zQ];omega
def FY:∀(b:List Rl),b.length+(ja b).length<=(b.flatMap Rl.tk).length
 |[]=>wF
 |q::r=>by
  have c:=FY r;have d:=XZ q.e;have e:ja (q::r)=q.e.a++ja r:=rfl;rw[e,zQ,Dj,wK,wK];have f:q.e.tk.length+1<=q.tk.length:=by unfold Rl.tk;simp only[wK,zQ];omega
  omega
def FZ{t a}(h:uI t=a.flatMap Rl.tk)(b:t.n<=4000):a.length+(ja a).length<=8000:=by
 have c:=Tj h b;have d:=jH (a.flatMap Rl.tk);have e:=FY a;omega
def Xn{t a}(h:uI t=a.flatMap Rl.tk)(d:t.n<=4000):Vr a:=λq b=>by
 have:=(Ti h q b).1;exact⟨this.j,by have:=this.c;omega⟩
def YA{t b}(h:uI t=b.flatMap Rl.tk)(e:t.n<=4000):Ry (yG b):=λx a=>by
 obtain⟨q,d,a⟩:=Hi.1 a;have:=(Ti h q d).2 x (XT _ x a);exact⟨this.j,by have:=this.c;omega⟩
def GA{t b}(h:uI t=b.flatMap Rl.tk)(e:t.n<=4000):Ry (ja b):=λx a=>by
 obtain⟨q,d,a⟩:=Hi.1 a;have:=(Ti h q d).2 x (FV _ x a);exact⟨this.j,by have:=this.c;omega⟩
def Dg.s{t a ls}(h:Dg t.n a ls)(e:uI t=a.flatMap Rl.tk)(b:t.n<=4000):OT a ls :=
 ⟨Xn e b,h.h,h.k,h.d,h.g,h.i,λq c=>(Rb (ug a) ls c (h.ok q c) (Tj e b) (h.r q c).2 b).1⟩
def Dg.u{t b ls}(h:Dg t.n b ls)(i:uI t=b.flatMap Rl.tk)(d:t.n<=4000):∀x∈uE (ug b) ls b,Hx x:=λx e=>by
 unfold uE at e;obtain⟨q,g,rfl⟩:=Dc.1 e;have a:=(Ik.1 g).1;exact⟨by have:=(h.r q a).1.c;show q.f.nm.length<=_;omega,(h.r q a).1.j,Rb _ _ a (h.ok q a) (Tj i d) (h.r q a).2 d⟩
def Dg.v{t d ls}(h:Dg t.n d ls)(i:uI t=d.flatMap Rl.tk)(b:t.n<=4000):∀x∈uG (ug d) ls d,Hx x:=λx a=>by
 have j:∀z∈ls,wW z/\z.length<=1000000:=λz c=>by
  rcases(h.f z).1 c with k|⟨x,a,rfl⟩
  ·obtain⟨q,e,rfl⟩:=Dc.1 k;exact Xn i b q (Ik.1 e).1
  exact GA i b x a
 unfold uG at a;obtain⟨z,c,rfl⟩:=Dc.1 a;refine⟨by rw[xu];have:=(j z c).2;omega,by rw[xu];exact(j z c).1,?_⟩;unfold vx;split
 ·rename_i q e;have g:=List.mem_of_find?_eq_some e;exact Rb _ _ g (h.ok q g) (Tj i b) (h.r q g).2 b
 exact⟨wP,(λx a=>by cases a)⟩
def Dg.nr{t b ls}(d:uI t=b.flatMap Rl.tk)(c:t.n<=4000):(uE (ug b) ls b).length<=1048576:=by
 unfold uE;rw[zN];have:=Qf (λq:Rl=>!q.a.isSome) b;have:=FZ d c;omega
def Dg.c{t d ls}(h:Dg t.n d ls)(b:uI t=d.flatMap Rl.tk)(a:t.n<=4000)(e:ls.length<=1000000):yg (ux ls d) :=
 IJ (Dg.nr b a) (by unfold uG;rw[zN];omega) (h.u b a) (h.v b a)
def YB{t a p}(g:t.n<=4000)(k:uI t=a.flatMap Rl.tk)(i:∀q∈a,q.ok)(j:vQ t.n ((uI t).length+1) (uI t)=.inr a)(h:PF t.n a p):Dd t 6 (p:Nat) yh:=by
 refine .inr ⟨g,.inr ⟨a,j,?_⟩⟩;unfold yA;have d:=Xm (ug a) a i;rcases h with h|⟨b,h|⟨c,e,f⟩⟩
 ·rw[h];exact⟨rfl,rfl,rfl⟩
 ·rw[d]at h;rw[b,h];exact⟨rfl,rfl,rfl⟩
 rw[d]at c;rw[b,c,f];simp only[e,if_true];exact⟨trivial,trivial,trivial⟩
def GB{t a ls c b g}(d:t.n<=4000)(m:uI t=a.flatMap Rl.tk)(l:vQ t.n ((uI t).length+1) (uI t)=.inr a)(h:Dg t.n a ls)(i:(M.Valid (ux ls a)/\c=0/\b=0/\g=ux ls a)\/(¬M.Valid (ux ls a)/\c=7/\b=0/\g=yh)):Dd t c b g:=by
 refine .inr ⟨d,.inr ⟨a,l,?_⟩⟩;unfold yA;have e:=Xm (ug a) a h.ok;rw[h.j]at e;rw[h.h,<-e];simp only[h.ne,if_false];exact⟨ls,h.k,λz=>(h.f z).trans (XY h.ok z).symm,i⟩
section
open M (OpD uh Gr)
section
variable {P:Ew} {W X:Wl} {c p:Int} {t:Tx}
def Vs{w b i a v}(h:wJ w b a)(c:a[i]?=some v):∀x:Nat,(w.setCell (Ad b i) v).heap[x]?=w.heap[x]?:=λx=>by
 by_cases e:x=b
 ·subst e;obtain⟨t,h⟩:=h;have d:a.setIfInBounds i v=a:=by
   refine Array.ext_getElem? λk=>?_
   by_cases e:i=k
   ·subst e;rw[Sw (Cq.1 c).1,c]
   rw[Iz e]
  simp[World.setCell,Om,h,d]
 exact zJ _ e
def jM{tmps:Av}{u0 u1 u2 u3:Vl}(a:Kf W X)(j:wJ X W.heap.size #[u0,u1])(l:wJ X (W.heap.size+1) #[u2])(k:wJ X (W.heap.size+2) #[u3])
  (v:∀V:Wl,V.cell? (Ad W.heap.size 0)=some nS->V.cell? (Ad W.heap.size 1)=some nS->V.cell? (Ad (W.heap.size+1) 0)=some (Iv c)->V.cell? (Ad (W.heap.size+2) 0)=some (Iv p)->(results f70 tmps).run prog V=.ok (.tuple #[.agg #[nS,nS],Iv c,Iv p]) V)
  (n:∀V,Kf W V->P (Rt (.tuple #[.agg #[nS,nS],Iv c,Iv p])) V) :
  Leaves prog f70 tmps P [{ target:=.fn (.func 97) #[.pointer (Sm W.heap.size 0),.pointer (Sm (W.heap.size+1) 0),.pointer (Sm (W.heap.size+2) 0)],args:=#[] }] (.panicking (Fq c p)) X:=by
 refine leaves_cons (f:=97) (args:=#[.pointer (Sm W.heap.size 0),.pointer (Sm (W.heap.size+1) 0),.pointer (Sm (W.heap.size+2) 0)]) sM (by simp[go_sem]) ?_;refine(y8 W.heap.size (W.heap.size+1) (W.heap.size+2) c p X oM oM oM (j.x.1 0) (j.x.1 1) (l.x.1 0) (k.x.1 0) (j.x.2.1 0) (j.x.2.1 1) (l.x.2.1 0) (k.x.2.1 0)).mono ?_;rintro e w V ⟨rfl,rfl,i,o,r,s,t⟩;exact⟨_,v V o r s t,n V ⟨i.os.trans a.os,i.g.trans a.g,i.f.trans a.f,wN a.h i.h,λb m u=>(i.d b (wX m a.h) (λq=>oM)).trans (a.d b m u)⟩⟩
structure Ms(W X:Wl)(u0 u1:Vl):Prop where
 k:Kf W X
 g:wJ X W.heap.size #[u0,u1]
 c:wJ X (W.heap.size+1) #[Iv 0]
 a:wJ X (W.heap.size+2) #[Iv 0]
def Ms.on{u0 u1:Vl}{V:Wl}{r:Nat}(h:Ms W X u0 u1)(k:wA (λb=>b=r) X V)(j:W.heap.size+3<=r):Ms W V u0 u1 :=
 ⟨⟨k.os.trans h.k.os,k.g.trans h.k.g,k.f.trans h.k.f,wN h.k.h k.h,λb e i=>(k.d b (wX e h.k.h) oM).trans (h.k.d b e i)⟩,h.g.a (k.d _ h.g.x.2.2 oM),h.c.a (k.d _ h.c.x.2.2 oM),h.a.a (k.d _ h.a.x.2.2 oM)⟩
def Ms.kp{u0 u1:Vl}{V:Wl}(h:Ms W X u0 u1)(k:Kf X V):Ms W V u0 u1:=h.on (k.l (λ_ q=>q.elim)) wF
def Gd(w W:Wl)(b:Nat):Prop:=b<W.heap.size/\(w.heap.size<=b\/Li w b)
def y0{a:Oa}{G:Nat}(hT:wB (Lo W) .u8 W a t.n t.T)(hc:t.n<=G)
  (aw:∀ak aj g ra rc la lc W',Dd t ak aj g->zC (Gd W W') W' ra la g->Kf W W'->P (Rt (.tuple #[.agg #[Sl ra g.nr rc,Sl la g.nb lc],Iv ak,Iv aj])) W'):Cs 70 #[Sl a t.n G] W P:=by
 have hn:=t.le;have NX:=ua aw;have ZZ:Hid (∀c p V,Dd t c p yh->Kf W V->P (Rt (.tuple #[.agg #[nS,nS],Iv c,Iv p])) V):=λc p V h k=>NX c p yh none 0 none 0 V h ⟨.inl rfl,.inl rfl⟩ k
 have a5:∀(fn:Fn) (first cap:Av) (w:Wl),(Instr.makeFunc fn first cap).run prog w=.ok (.func fn first cap) w:=λ_ _ _ _=>rfl
 generalize J:((W.alloc (Oc #[nS,nS] 37)).alloc (Oc #[Iv 0] 3)).alloc (Oc #[Iv 0] 3)=V;have sV:Hid (V.heap.size=W.heap.size+3):=by rw[<-J];show _=_;simp
 have I:Hid (Ms W V nS nS):=⟨J▸(wU.c wU).c wU,J▸((um W _ 37).al _).al _,J▸(uV _ _ 3 _ sM).al _,J▸uV _ _ 3 _ sM⟩;clear aw;by_cases az:4000<t.n
 ·have y:Hid (Dd t 7 0 yh):=.inl ⟨az,rfl,rfl,rfl⟩;have hbig':(4000:Int)<(t.n:Int):=oM;go_enter_defers func70,ntmps70;go_wp2;exact jM I.k I.g I.c I.a (λV C E B A=>by simp[results,f70,go_sem,C,E,B,A]) (λV k=>ZZ _ _ V y k)
 have j:t.n<=4000:=oM;have hbig':¬((4000:Int)<(t.n:Int)):=oM;generalize hX:V.alloc (Oc #[Sl a t.n G,Iv 0,Bv 0,Iv 0,.string ⟨#[]⟩,nS,nS,nS,nS] 181)=X;have kX:Kf V X:=hX▸wU;have Z:=ua (I.kp kX);have bX:wJ X V.heap.size (Pq t (BO a G) a ((0:Nat):Int)):=hX▸um V _ 181;have S0:Hid (Sc V.heap.size t (BO a G) 0 X):=⟨bX,(hT.on (λb q=>Z.o.k.d b q (λe=>e))).g (λb q=>⟨wX q Z.o.k.h,by have q:b<W.heap.size:=q;have:=sV.o;omega⟩),wP⟩;have HX:=ua hX;clear hT kX bX I hX;go_enter_defers func70,ntmps70;go_wp2_with fail;rw[HX.o];clear HX J;refine zs S0 hc j ⟨λl v6 D z W1 v L s1 m1=>?_,λp W1 L k1=>?_⟩
 rotate_left
 ·have y:Hid (Dd t 5 (p:Nat) yh):=.inr ⟨j,.inl ⟨p,L,rfl,rfl,rfl⟩⟩;have F:=ua (Z.on k1 (Nat.le_of_eq sV.symm));clear L;go_wp2;exact jM F.k F.g F.c F.a (λV C E B A=>by simp[results,f70,go_sem,C,E,B,A]) (λV k=>ZZ _ _ V y k)
 obtain⟨ap,au,_⟩:=(Ze t.n _ _ (Jb _)).2 l L;have ah:=ua ap;have m:=ua au;have ab:=ua L;have F:=ua (Z.on m1.kp (Nat.le_of_eq sV.symm));have S1:=ua s1;clear L ap au;go_wp2_with fail;refine x9 (K:=RK.mk V.heap.size t a G v6 D) S1 (Xn m j) (YA m j) (GA m j) (oH (FZ m j)) ⟨λb1 b2 ls W2 an aq ao M1 M2 ai av U=>?_,λp W2 hb U=>?_⟩
 rotate_left
 ·have y:=ua (YB j m ah ab hb);have r:=ua (F.kp U);clear hb;go_wp2;exact jM r.k r.g r.c r.a (λV C E B A=>by simp[results,f70,go_sem,C,E,B,A]) (λV k=>ZZ _ _ V y k)
 have H:Hid (Dg t.n l ls):=⟨ah,Ti m,an,aq,ao,ai,av⟩;have r:=ua (F.kp U);have ax:=ua M2.c;have s2:=S1.kp U;clear an aq ao ai av;go_wp2_with fail;refine w2 (K:=RK.mk V.heap.size t a G v6 D) s2 M1 M2 (H.s m j) λra rc la lc O GX k3=>?_
 have R3:=r.kp k3;have nG:¬(W2.heap.size<=W.heap.size\/Li W2 W.heap.size):=(by
  rintro (q|⟨_,o,v,q⟩)
  ·have:=r.g.x.2.2;omega
  rw[r.o.g.x.1 o]at q;match o,q with
  |0,q=>cases q
  |1,q=>cases q
  |o+2,q=>simp at q)
 obtain⟨q0,p0,l0⟩:=R3.g.x;generalize R:(O.setCell (Ad W.heap.size 0) (Sl ra (ux ls l).nr rc)).setCell (Ad W.heap.size 1) (Sl la (ux ls l).nb lc)=W4;have st:wQ (λb=>b<O.heap.size/\(W2.heap.size<=b\/Li W2 b)) O W4:=λb q=>(by
  have e:b≠W.heap.size:=λe=>nG (e▸q.2)
  rw[<-R];exact(zJ _ e).trans (zJ _ e))
 have s4:W4.heap.size=O.heap.size:=by rw[<-R];simp only[uj]
 have G4:Hid (zC (Gd W W4) W4 ra la (ux ls l)):=(by
  have Y:∀b,(b<O.heap.size/\(W2.heap.size<=b\/Li W2 b))->Gd W W4 b:=λb q=>⟨by rw[s4];exact q.1,by
   by_cases h:W.heap.size<=b
   ·exact .inl h
   rcases q.2 with e|⟨_,o,v,e⟩
   ·have:=r.k.h;omega
   exact .inr ⟨oM,o,v,(zI (a:=(Ad b o)) (r.k.d b oM id)).symm.trans e⟩⟩
  exact⟨(GX.a.on st).g Y,(GX.c.on st).g Y⟩)
 have R4:Hid (Ms W W4 (Sl ra (ux ls l).nr rc) (Sl la (ux ls l).nb lc)):=R▸⟨xB (xB R3.k wF) wF,(R3.g.set 0 _).set 1 _,(R3.c.h _ _ _ oM).h _ _ _ oM,(R3.a.h _ _ _ oM).h _ _ _ oM⟩;obtain⟨q4,p4,l4⟩:=R4.g.x;have HO:=ua (qH _ ra la rc lc (ux ls l) W4 G4.d (H.c m j ax));obtain⟨n1,ad⟩:=nm (ux ls l).nr;obtain⟨n2,ae⟩:=nm (ux ls l).nb;have af:=ua ad;have ag:=ua ae;rw[ad,ae]at HO q4 R ⊢;clear GX k3 R3 nG st s4 M1 M2 s2 U ad ae;go_wp2_with fail;clear R q0 p0 l0 q4 p4 l4;refine HO.mono ?_;rintro e W5 ⟨⟨ov,rfl,aa⟩,ac⟩;have K5:=Below.cV ac;have ay:=K5.h;have R5:=ua (R4.kp K5);have G5:=ua (G4.q ac);rw[af.o,ag.o]at R5;obtain⟨q0,p0,l0⟩:=R5.g.x;obtain⟨q1,p1,l1⟩:=R5.c.x;obtain⟨q2,p2,l2⟩:=R5.a.x;clear ac K5;cases ov with
 |true =>
  have y:Hid (Dd t 7 0 yh):=GB j m ab H (.inr ⟨λq=>(H.b.1 q) (aa.1 rfl),rfl,rfl,rfl⟩);clear aa;go_wp2;exact jM R5.o.k R5.o.g R5.o.c R5.o.a (λV C E B A=>by simp[results,f70,go_sem,C,E,B,A]) (λV k=>ZZ.o _ _ V y.o k)
 |false =>
  have y:=ua (GB j m ab H (.inl ⟨H.b.2 (λq=>aB (aa.2 q) sM),rfl,rfl,rfl⟩));clear aa;go_wp2;have Q:=Vs R5.g (i:=0) (v:=Sl ra n1 rc) rfl;have a2:=Vs (R5.o.g.a (Q _)) (i:=1) (v:=Sl la n2 lc) rfl;have a3:=Vs (R5.o.c.a ((a2 _).trans (Q _))) (i:=0) (v:=Iv 0) rfl;have a4:=Vs (R5.o.a.a ((a3 _).trans ((a2 _).trans (Q _)))) (i:=0) (v:=Iv 0) rfl;generalize S:(((W5.setCell (Ad W.heap.size 0) (Sl ra n1 rc)).setCell (Ad W.heap.size 1) (Sl la n2 lc)).setCell (Ad (W.heap.size+1) 0) (Iv 0)).setCell (Ad (W.heap.size+2) 0) (Iv 0)=W6 at a4;have K6:Kf W5 W6:=⟨by rw[<-S];rfl,by rw[<-S];rfl,by rw[<-S];rfl,by rw[<-S];simp only[uj];exact wF,λb _ _=>(a4 b).trans ((a3 b).trans ((a2 b).trans (Q b)))⟩;simp only[Eo,Nat.reduceAdd];clear Q a2 a3 a4 S q0 p0 l0 q1 p1 l1 q2 p2 l2;refine leaves_cons (f:=97) (args:=#[.pointer (Sm W.heap.size 0),.pointer (Sm (W.heap.size+1) 0),.pointer (Sm (W.heap.size+2) 0)]) sM (by simp[go_sem]) ?_;refine(y7 W.heap.size (W.heap.size+1) (W.heap.size+2) _).mono ?_;rintro e u' W7 ⟨rfl,rfl,k7⟩;have N:=R5.kp (K6.c k7);have b7:=(K6.c k7).u;have C:=N.g.x.1 0;have E:=N.g.x.1 1;have B:=N.c.x.1 0;have A:=N.a.x.1 0;have a6:=(K6.c k7).h;have Y:∀b,Gd W W4 b->Gd W W7 b:=λb q=>⟨by have:=q.1;have:=ay;omega,q.2⟩
  have am:=NX 0 0 (ux ls l) ra rc la lc W7 y ⟨((G5.q b7).a).g Y,((G5.q b7).c).g Y⟩ N.k;rw[af.o,ag.o]at am;exact⟨_,by simp[results,f70,go_sem,C,E,B,A],am⟩
end
end
end Go.Proofs.YtoihadcablknpaaGreatDoor
