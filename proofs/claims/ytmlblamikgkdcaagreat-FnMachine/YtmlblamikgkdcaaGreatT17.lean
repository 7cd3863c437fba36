import Derived.Test.YtmlblamikgkdcaaGreatT16
set_option linter.unusedVariables false
set_option linter.unusedSimpArgs false
set_option linter.defProp false
set_option maxHeartbeats 40000000
set_option maxRecDepth 100000
namespace Go.Proofs.YtmlblamikgkdcaaGreat
open Go.RowKit
open Go.Proofs.Tryz
open M (OpD ug Gr)
def yI{a b}(c:0<=a)(d:a<=b)(e:b<=255):M.bH [a,b].length (lf [a,b]):=by
 refine⟨sM,λi f=>?_⟩;match i,f with
 |0,_=>exact⟨c,by show a<=255;omega,λq=>absurd q oM,λq=>absurd q.1 oM⟩
 |1,_=>exact⟨by show 0<=b;omega,e,λ_=>d,λq=>absurd q.2 oM⟩
def jP:List OpD->Int->Option Int
 |[],d=>some d
 |o::r,d=>if M.ar o.e<=d then jP r (d+(1-M.ar o.e)) else none
def Yl:∀(x y:List OpD) (d:Int),jP (x++y) d=(jP x d).bind (jP y)
 |[],y,d=>rfl
 |o::r,y,d=>by
  rw[Fc,jP,jP];split
  .exact Yl r y _
  rfl
def DJ{nr a k}(b:0<=k)(f:k<=7)(c:k≠1)(d:k≠2)(e:k≠3):M.bB nr a (Cq k 0) :=
 ⟨b,f,λq=>aB q c,λ_=>rfl,Ft _,by show(0:Int)<M.bF nr a k;unfold M.bF;rw[Zn e,Zn d];omega⟩
def K6:∀(e:PE),∀t∈e.b,t∈e.tk:=by
 intro e;induction e with
 |ref t=>intro x d;simpa[PE.b,PE.tk] using d
 |thr c t|str t|cls t|dot t|emp=>intro x d;cases d
 |grp o e c ih|star e t ih|opt e t ih|not t e ih|amp t e ih=>intro x d;have:=ih x d;simp[PE.tk,this]
 |seq a b iha ihb|alt a t b iha ihb=>intro x d;rcases By.1 d with q|q;have:=iha x q;simp[PE.tk,this];have:=ihb x q;simp[PE.tk,this]
def K8:∀(e:PE),∀t∈e.a,t∈e.tk:=by
 intro e;induction e with
 |thr c t =>
   intro x d;have:x=t:=by simpa[PE.a] using d
   simp[PE.tk,this]
 |ref t|str t|cls t|dot t|emp=>intro x d;cases d
 |grp o e c ih|star e t ih|opt e t ih|not t e ih|amp t e ih=>intro x d;have:=ih x d;simp[PE.tk,this]
 |seq a b iha ihb|alt a t b iha ihb=>intro x d;rcases By.1 d with q|q;have:=iha x q;simp[PE.tk,this];have:=ihb x q;simp[PE.tk,this]
def Pn(a b:Option Nat):Option Nat:=match a with|some p=>some p|none=>b
def Yi a:∀(x y:List zI),jJ a (x++y)=Pn (jJ a x) (jJ a y)
 |[],y=>rfl
 |t::r,y=>by
  rw[Fc,jJ,jJ,Yi a r y];split<;>rfl
def MG(a b c:Option Nat):Pn (Pn a b) c=Pn a (Pn b c):=by cases a<;>rfl
def yz{a t pc r}(b:t.e≠110)(c:t.e≠94):xq a pc (t::r)=xq a false r:=by
 rw[xq,Zn (λq=>b q.1)];have:(t.e==94)=false:=by simp[c]
 rw[this]
def K9 d:∀(e:PE) (l:Nat) (r:List zI),e.ok l->xq d false (e.tk++r)=Pn (jJ d e.b) (xq d false r):=by
 intro e;induction e with
 |ref t =>
  intro l r h;have h:=h;show xq d false (t::r)=_;rw[xq];have g:(t.e==94)=false:=by rw[h];rfl
  rw[g];simp only[PE.b,jJ];by_cases q:t.nm∈d
  .rw[Zn (λz=>z.2.2 q),Zp q];rfl
  rw[Zp ⟨h,trivial,q⟩,Zn q];rfl
 |thr c t =>
  intro l r h;obtain⟨m,n⟩:c.e=94/\t.e=110:=h;show xq d false (c::t::r)=xq d false r;rw[xq,Zn (λq=>oM)];have g:(c.e==94)=true:=by rw[m];rfl
  rw[g,xq,Zn (λq=>by cases q.2.1)];have k:(t.e==94)=false:=by rw[n];rfl
  rw[k]
 |str t=>intro l r h;have h:t.e=34:=h;exact yz oM oM
 |cls t=>intro l r h;have h:t.e=91:=h;exact yz oM oM
 |dot t=>intro l r h;have h:t.e=46:=h;exact yz oM oM
 |grp o e c f =>
  intro l r h;show xq d false ((o::(e.tk++[c]))++r)=_;rw[Fc,Ce,yz (by rw[h.1];omega) (by rw[h.1];omega),f 5 _ h.2.2,Mb,yz (by rw[h.2.1];omega) (by rw[h.2.1];omega)];rfl
 |star e t f =>
  intro l r h;show xq d false ((e.tk++[t])++r)=_;rw[Ce,f 0 _ h.2.2,Mb,yz (by rw[h.2.1];omega) (by rw[h.2.1];omega)];rfl
 |opt e t f =>
  intro l r h;show xq d false ((e.tk++[t])++r)=_;rw[Ce,f 0 _ h.2.2,Mb,yz (by rw[h.2.1];omega) (by rw[h.2.1];omega)];rfl
 |not t e f =>
  intro l r h;show xq d false (t::(e.tk++r))=_;rw[yz (by rw[h.2.1];omega) (by rw[h.2.1];omega),f 2 _ h.2.2];rfl
 |amp t e f =>
  intro l r h;show xq d false (t::(e.tk++r))=_;rw[yz (by rw[h.2.1];omega) (by rw[h.2.1];omega),f 2 _ h.2.2];rfl
 |emp=>intro l r h;rfl
 |seq a b i j =>
  intro l r h;show xq d false ((a.tk++b.tk)++r)=Pn (jJ d (a.b++b.b)) _;rw[Ce,i 3 _ h.2.1,j 2 _ h.2.2,Yi,MG]
 |alt a t b i j =>
  intro l r h;show xq d false ((a.tk++t::b.tk)++r)=Pn (jJ d (a.b++b.b)) _;rw[Ce,i 5 _ h.2.2.1,Fc,yz (by rw[h.2.1];omega) (by rw[h.2.1];omega),j 4 _ h.2.2.2,Yi,MG]
def MH a:∀(c:List Rl),(∀q∈c,q.ok)->jJ a (xS c)=xN a c
 |[],_=>rfl
 |q::r,h=>by
  have f:xS (q::r)=q.e.b++xS r:=rfl;have d:=K9 a q.e 5 [] (h q sM).2.2.2.1;rw[Dl]at d;rw[f,Yi,MH a r (λx g=>h x (by simp[g])),xN,d];cases jJ a q.e.b<;>rfl
def MI{a}:∀{l:List zI},jJ a l=none->∀t∈l,t.nm∈a
 |[],_,t,h=>by cases h
 |x::r,h,t,ht=>by
  rw[jJ]at h;split at h
  .rename_i q;rcases Dm.1 ht with e|e
   .rw[e];exact q
   exact MI h t e
  cases h
def vx{x r}(h:x.e≠94):uK (x::r)=uK r:=by
 cases r with
 |nil=>rfl
 |cons y r=>rw[uK,Zn h];rfl
def L0:∀(e:PE) (l:Nat) (r:List zI),e.ok l->uK (e.tk++r)=e.a.map (·.nm)++uK r:=by
 intro e;induction e with
 |ref t=>intro l r h;have h:t.e=110:=h;exact vx oM
 |thr c t =>
  intro l r h;obtain⟨i,j⟩:c.e=94/\t.e=110:=h;show uK (c::t::r) = [t.nm]++uK r;rw[uK,Zp i,vx oM]
 |str t=>intro l r h;have h:t.e=34:=h;exact vx oM
 |cls t=>intro l r h;have h:t.e=91:=h;exact vx oM
 |dot t=>intro l r h;have h:t.e=46:=h;exact vx oM
 |grp o e c d =>
  intro l r h;show uK ((o::(e.tk++[c]))++r)=e.a.map (·.nm)++uK r;rw[Fc,Ce,vx (by rw[h.1];omega),d 5 _ h.2.2,Mb,vx (by rw[h.2.1];omega)]
 |star e t d =>
  intro l r h;show uK ((e.tk++[t])++r)=e.a.map (·.nm)++uK r;rw[Ce,d 0 _ h.2.2,Mb,vx (by rw[h.2.1];omega)]
 |opt e t d =>
  intro l r h;show uK ((e.tk++[t])++r)=e.a.map (·.nm)++uK r;rw[Ce,d 0 _ h.2.2,Mb,vx (by rw[h.2.1];omega)]
 |not t e d =>
  intro l r h;show uK (t::(e.tk++r))=e.a.map (·.nm)++uK r;rw[vx (by rw[h.2.1];omega),d 2 _ h.2.2]
 |amp t e d =>
  intro l r h;show uK (t::(e.tk++r))=e.a.map (·.nm)++uK r;rw[vx (by rw[h.2.1];omega),d 2 _ h.2.2]
 |emp=>intro l r h;rfl
 |seq a b f g =>
  intro l r h;show uK ((a.tk++b.tk)++r)=(a.a++b.a).map (·.nm)++uK r;rw[Ce,f 3 _ h.2.1,g 2 _ h.2.2,Dt,Ce]
 |alt a t b f g =>
  intro l r h;show uK ((a.tk++t::b.tk)++r)=(a.a++b.a).map (·.nm)++uK r;rw[Ce,f 5 _ h.2.2.1,Fc,vx (by rw[h.2.1];omega),g 4 _ h.2.2.2,Dt,Ce]
def L1{d}(h:∀q∈d,q.ok)z:z∈uH d↔z∈yG d\/∃t∈jA d,t.nm=z:=by
 have e:∀q∈d,uK q.e.tk=q.e.a.map (·.nm):=λq b=>by
  have:=L0 q.e 5 [] (h q b).2.2.2.1;rw[Dl]at this;rw[this];simp[uK]
 unfold uH yG jA yW;simp only[Kj,By,Gj,Th];constructor
 .rintro⟨q,b,c|c⟩
  .split at c
   .rename_i f;exact .inl ⟨q,⟨b,f⟩,(Bu.1 c).symm⟩
   cases c
  rw[e q b]at c;obtain⟨t,g,rfl⟩:=Gj.1 c;exact .inr ⟨t,⟨q,b,g⟩,rfl⟩
 rintro (⟨q,⟨b,f⟩,rfl⟩|⟨t,⟨q,b,g⟩,rfl⟩)
 .exact⟨q,b,.inl (by rw[Zp f];simp)⟩
 exact⟨q,b,.inr (by rw[e q b];exact Gj.2 ⟨t,g,rfl⟩)⟩
structure Nw(n:Nat)(qs:List Rl)(ls:List LI):Prop where
 ok:∀q∈qs,q.ok
 w:∀q∈qs,Dg n q.f/\∀x∈q.e.tk,Dg n x
 g:jk [] qs=none
 j:jJ (uq qs) (xS qs)=none
 ne:uq qs≠[]
 r:Fg ls
 f:∀z,z∈ls↔z∈yG qs\/∃t∈jA qs,t.nm=z
def Nw.a{n c ls}(h:Nw n c ls):∀q∈c,∀t∈q.e.b,t.nm∈uq c:=λq d t f=>MI h.j t (Kj.2 ⟨q,d,f⟩)
def Nw.b{n c ls}(h:Nw n c ls):∀q∈c,∀t∈q.e.a,t.nm∈ls:=λq d t g=>(h.f _).2 (.inr ⟨t,Kj.2 ⟨q,d,g⟩,rfl⟩)
def Nw.d{n b ls}(h:Nw n b ls):∀q∈b,q.a.isSome=true->q.f.nm∈ls:=λq e c=>(h.f _).2 (.inl (Gj.2 ⟨q,Th.2 ⟨e,c⟩,rfl⟩))
def O1{b}k m c(h:0<b.length):0<(Mf k m c b).length:=by
 unfold Mf;split
 .simp[uM];omega
 exact h
def MZ t n m a:∀(k:Nat) (x:NL),x∈(vD t n m a k).1->0<x.bd.length
 |0,x,h=>by cases h
 |k+1,x,h=>by
  rw[vD]at h;rcases By.1 h with q|q
  .exact MZ t n m a k x q
  obtain rfl:=Bu.1 q;exact O1 _ _ _ (P5 _ _ (P4 _ _ _ (DQ _ _ _ _ _ _ _)))
def O2 t i:0<(vG t i).1.1.length/\(vG t i).1.1.length<=4/\(vG t i).1.2.length<=3/\∀x∈(vG t i).1.1,0<x.bd.length/\Ep 300 x.bd:=by
 unfold vG;dsimp only;refine⟨by rw[qy];omega,by rw[qy];omega,by rw[jW,qz];omega,λx a=>⟨MZ _ _ _ _ _ x a,DX _ _ _ _ _ x a⟩⟩
def NA{t R i w W2 a G e c rs ls}{p:(List NL×List NL)×Nat}(j:zE t R i w W2)(o:w.heap.size<W2.heap.size)(g:R<w.heap.size)(h:Cp W2 G a e c rs ls)(s:Ch t R a p.2)(k:zA (λb=>b=R\/W2.heap.size<=b) W2 a)(m:rs.map (·.d)=p.1.1)(n:ls.map (·.d)=p.1.2) :
  DU t R p w (Rt (.agg #[e,c])) ((a.setCell (Ad w.heap.size 0) e).setCell (Ad w.heap.size 1) c):=by
 have f:=h.r o;have u:=j.2.l;refine⟨e,c,G,rs,ls,rfl,((h.set f).set f).p oM,m,n,zE.set (zE.set ⟨s,Yq j.2 k (λb q=>?_)⟩ zD g) zD g⟩;rcases q with q|q
 .exact .inl q
 exact .inr oM
def g4(t:Tp)(i:Nat):(List NL×List NL)×Nat :=
 if t.v i%16=0 then Tr t (vG t (t.n i)).2 (vG t (t.n i)).1.1 (vG t (t.n i)).1.2 else vG t (t.n i)
def O3 t R i w(h:Ch t R w i)(p:(List NL×List NL)×Nat)(m:g4 t i=p):Cs 21 #[.pointer (Sm R 0)] w (DU t R p w):=by
 have hv:=t.a i;have ae:=h.lt;unfold g4 at m;go_enter func21,ntmps21;go_wp2_with fail;refine(uE t R i _ (h.y (Gh (λ_=>False) _) (λ_ q=>q.elim))).mono ?_;rintro e W2 ⟨rfl,k⟩;have B:Hid (zE t R (t.n i) w W2):=⟨k.1,zY.c k.2⟩;have U:=ua ((Za w).y k.2 (λe=>oM));have ah:=ud U.1;generalize t.v i=ki at *;generalize t.n i=i1 at *;let⟨f1,f2,f3,V⟩:=O2 t i1;let⟨g,X⟩:=nm (vG t i1);rw[X]at m f1 f2 f3 V;have al:=ua V;clear V;go_wp2_with fail;refine(jq t R i1 W2 B.1 g X).mono ?_;rintro e f ⟨rv,lv,G,rs,ls,rfl,D,F,Z,k⟩;obtain⟨ra,rc,rfl⟩:=uj D.c;obtain⟨la,lc,rfl⟩:=uj D.e;have am:=B.1.lt;have aa:=k.2.l;have HG:=ua (D.h (zA.a (λ_=>False) f (Oc #[Sl ra rs.length rc,Sl la ls.length lc] 34)) (λ_ e=>e.elim) 3 aa);have ab:=ua (k.1.y (zA.a (λ_=>False) f (Oc #[Sl ra rs.length rc,Sl la ls.length lc] 34)) (λ_ e=>e.elim));have z:=ua (k.2.c (zA.a _ f (Oc #[Sl ra rs.length rc,Sl la ls.length lc] 34)));have r:=ua (um f #[Sl ra rs.length rc,Sl la ls.length lc] 34);have ad:Hid (vV G f 3 f.heap.size=3):=jS zD;have A:Hid (rs.map (·.d)=g.1.1/\ls.map (·.d)=g.1.2):=⟨F,Z⟩;have ao:rs.length=g.1.1.length:=by rw[<-F,Bl]
 have an:ls.length=g.1.2.length:=by rw[<-Z,Bl]
 have ac:Hid (∀x∈rs,0<x.d.bd.length/\Ep 300 x.d.bd):=λx H=>al x.d (by rw[<-F];exact Gj.2 ⟨x,H,rfl⟩);have T:Hid (0<rs.length/\rs.length<=4/\ls.length<=3):=⟨oM,oM,oM⟩;let⟨q,hq⟩:=nm (ki%16);have hq':(ki:Int)%16=(q:Int):=oM;rw[hq]at m;have ak:=aa;clear D F Z k ao an X f1 f2 f3 hq aa;go_upto_if 11 with fail;try simp only[hq']
 clear hq';generalize vV G f 3=G4 at *;generalize f.heap.size=j at *;generalize f.alloc _=W4 at *;by_cases s:q=0
 .rw[Zp s]at m;have b0:((q:Int)==0)=true:=by simp[s]
  have HC:=ua (R8 t R g.2 W2 W4 _ ra la rc lc rs ls HG z.l ab am T.1 (oH T.2.1) (oH T.2.2) (λx H=>⟨(ac x H).1,(ac x H).2.c oM⟩) p (by rw[A.o.1,A.o.2];exact m));let⟨z4,p4,l4⟩:=r.x;clear s m;go_wp2_with fail;refine HC.mono ?_;rintro e W5 ⟨ax,av,G5,P,L,rfl,E,aj,af,ai,Y,ag⟩;obtain⟨N,O,rfl⟩:=uj E.c;obtain⟨I,J,rfl⟩:=uj E.e;have W:=ag j r.x.2.2 ad;have B5:=ua (r.a (Y.d j r.x.2.2 (λq=>q.elim (λe=>oM) (λe=>e.2 ⟨r.x.2.2,ad⟩))));have S:=(z.h (λb e=>.inl e)).c (Y.h (λb e=>e.imp id And.left));let⟨s0,s1,ap,aq⟩:=U.y S (λe=>oM);let⟨z5,p5,l5⟩:=B5.x;have Q:=ua (NA B ah ae ((E.set (o:=0) (u:=Sl N P.length O) W).set (o:=1) (u:=Sl I L.length J) W) ((ai.y (zA.b (C:=λb=>b=j) W5 (Ad j 0) (Sl N P.length O) rfl) (λb e=>oM)).y (zA.b (C:=λb=>b=j) _ (Ad j 1) (Sl I L.length J) rfl) (λb e=>oM)) ((S.c (zA.b W5 (Ad j 0) (Sl N P.length O) (.inr ak))).c (zA.b _ (Ad j 1) (Sl I L.length J) (.inr ak))) aj af);have aw:=ud s0;have au:w.heap.size≠j:=oM;clear E aj af ai Y S ag W;go_wp2;refine zL (v:=.agg #[Sl N P.length O,Sl I L.length J]) ?_ rfl ?_
  .simp[results,f21,go_sem, *]
  exact Q
 rw[Zn s]at m;subst m;have b0:((q:Int)==0)=false:=sO;let⟨s0,s1,ap,aq⟩:=U.y z (λe=>oM);let⟨z4,p4,l4⟩:=r.x;have Q:=ua (NA B ah ae HG ab (z.h (λb e=>.inl e)) A.1 A.2);clear s;go_wp2;refine zL (v:=.agg #[Sl ra rs.length rc,Sl la ls.length lc]) ?_ rfl ?_
 .simp[results,f21,go_sem, *]
 exact Q
def Tp.b(t:Tp)(i:Nat):Tp:=⟨t.m-i,λk=>t.T (i+k),by have:=t.le;omega,λk=>t.e _⟩
def U4(t:Tp)(R i:Nat)(w:Wl)(e:Ending)(w':Wl):Prop :=
 ∃a c,e=Rt (Sl a (t.m-i) c)/\Ints (λb=>b<R) .u8 w' a (t.m-i) (λk=>((t.b i).T k:Int))/\t.m-i<=c/\zE t R i w w'
def U5 t R i w(h:Ch t R w i):Cs 20 #[.pointer (Sm R 0)] w (U4 t R i w):=by
 have g:=ua h;obtain⟨a,cap,h⟩:=h;have p:=h.c0;have r:=h.c1;have z:=h.le;have A:=t.le;have f:=ua h.s;have u:=h.cp;have hle':(i:Int)<=(t.m:Int):=oM;have c:Hid (∀q,zE t R i w (w.drewN q)):=λq=>⟨g.y (Ps w q) (λ_ e=>e.elim),(Ps w q).h (λ_ e=>e.elim)⟩;cases a with
 |none =>
  have d:t.m=0:=by
   rcases f.o with e|⟨b,o,e,_⟩
   .exact e
   cases e
  go_enter func20,ntmps20;go_wp2;go_quiet (fail);go_wp2;all_goals go_ret
  all_goals exact⟨none,cap-i,by rw[show t.m-i=0 by omega];rfl,.inl oM,oM,c _⟩
 |some x =>
  have j:Hid (∀q,Ints (λb=>b<R) .u8 (w.drewN q) (some (x.add i)) (t.m-i) (λk=>((t.b i).T k:Int))):=λq=>by
   rcases f.o with e|⟨b,o,e,l,n⟩
   .exact .inl oM
   injection e with e;subst e;refine .inr ⟨b,o+i,?_,l,λk v=>?_⟩
   .by_cases d:i=0
    .subst d;simp[Addr.add]
    simp[Addr.add,d]
   rw[Gy];exact n (i+k) oM
  go_enter func20,ntmps20;go_wp2;go_quiet (fail);go_wp2;all_goals go_ret
  .exact⟨_,_,rfl,.inl oM,oM,c _⟩
  exact⟨_,_,rfl,j _,oM,c _⟩
def U6(t:Tp)(i R:Nat)(a:Oa)(c:Nat)(w:Wl)(h:Ints (λb=>b<R) .u8 w a (t.m-i) (λk=>((t.b i).T k:Int)))(r:t.m-i<=c) :
  Cs 14 #[Sl a (t.m-i) c] w λe w'=>e=Rt (.pointer (Sm w.heap.size 0))/\Ch (t.b i) w.heap.size w' 0/\Kf w w':=by
 have y:=t.le;let⟨n,f⟩:=nm (t.m-i);rw[f]at h r ⊢;have l:Hid (Ch (t.b i) w.heap.size (w.alloc (Oc #[Sl a n c,Iv 0] 120)) 0):=by
  let⟨g,q,u⟩:=(um w #[Sl a n c,Iv 0] 120).x;refine⟨a,c,by rw[g];show some (Sl a n c)=some (Sl a (t.m-i) c);rw[f],by rw[g];rfl,q 1,zK,by show t.m-i<=c;omega,?_⟩;show Ints _ .u8 _ a (t.m-i) _;rw[f];rcases h with e|⟨b,o,e,v,j⟩
  .exact .inl e
  by_cases p:n=0
  .exact .inl p
  exact .inr ⟨b,o,e,ud (j 0 oM),λk s=>ue (j k s) (zO w)⟩
 have d:decide ((500:Int)<n)=false:=sO;go_enter func14,ntmps14;go_wp2;go_ret;exact⟨rfl,l,zY⟩
def N3{Q R w w' v f n cs}(h:zB Q w v f n cs)(t:0<f)(k:zA (λx=>x=R) w w')(q:∀b,Q b->b≠R):zB Q w' v f n cs:=by
 rcases h with e|⟨b,cap,e,o,i,l,p,m⟩
 .exact .inl e
 have g:∀j,j<cap*f->w'.heap[b]?=w.heap[b]?:=λj c=>by
  let⟨u,s⟩:=Kc.1 (m j c).1;exact k.d b (ud s) (q b o)
 have r:∀j,j<cs.length->j<cap*f:=λj c=>Ba c (by rw[i];exact Kz _ l);refine .inr ⟨b,cap,e,o,i,l,λj c=>(Bd (a:=(Ad b j)) (g j (r j c))).trans (p j c),λj c=>?_⟩;rw[Bd (a:=(Ad b j)) (g j c),Dp (a:=(Ad b j)) (g j c)];exact m j c
structure Aw(u:Tp)(R j:Nat)(w0:Wl)(z:LI)(v:Vl)(wr:Wl):Prop where
 k:zB (λb=>w0.heap.size<=b) wr v 1 z.length (z.map (Value.int .u8))
 on:zE u R j w0 wr
 lt:R<w0.heap.size
def Aw.nil{u R j w0 wr}(h:zE u R j w0 wr)(a:R<w0.heap.size):Aw u R j w0 [] nS wr:=⟨.inl ⟨rfl,rfl,rfl⟩,h,a⟩
def Aw.p{u R j a w0 wr w' z v}(h:Aw u R j w0 z v wr)(k:zE u R a wr w'):Aw u R a w0 z v w' :=
 ⟨N3 h.k oM k.2 (λb q=>oH h.lt),h.on.c k,h.lt⟩
def Aw.d{u R j w0 wr w' z v}(h:Aw u R j w0 z v wr)(k:Kf wr w'):Aw u R j w0 z v w' :=
 h.p ⟨h.on.1.y k (λ_ e=>e.elim),k.h (λ_ e=>e.elim)⟩
def Aw.a{u R j w0 wr z v}(h:Aw u R j w0 z v wr):∃a c,v=Sl a z.length c:=uj h.k
def Yn{Q w z a n c}(h:zB Q w (Sl a n c) 1 z.length (z.map (Value.int .u8))):n=z.length/\Ints Q .u8 w a z.length (lf z)/\z.length<=c:=by
 let⟨b,c',e⟩:=uj h;injection e with e1 e2 e3;subst e1 e2 e3;exact⟨rfl,yJ (by rw[Ys];exact h),kC h⟩
def Aw.h{u R j w0 wr z a n c}(h:Aw u R j w0 z (Sl a n c) wr):Tn z u R j w0 (Rt (Sl a n c)) wr:=by
 obtain⟨rfl,b,d⟩:=Yn h.k;exact⟨a,c,rfl,qD b,d,h.on⟩
def Aw.f{u R j w0 W e z y v v5}(a:Aw u R j w0 z v W)(i:zB (λb=>w0.heap.size<=b\/W.heap.size<=b) e v5 1 (z.length+y.length) (z.map (Value.int .u8)++y.map (Value.int .u8)))(c:zT (λb=>w0.heap.size<=b) W e):Aw u R j w0 (z++y) v5 e:=by
 have h:zA (λb=>w0.heap.size<=b) W e:=⟨c.os,c.g,c.f,c.l,c.d⟩;refine⟨?_,⟨a.on.1.y h (λb q=>oH a.lt),Yq a.on.2 h (λb q=>.inr q)⟩,a.lt⟩;rw[zJ,Dt];exact uA i (λb q=>q.elim id (λq=>zP a.on.2.l q))
def N4{ops:Array Oper}{rest:List Oper}{o:Oper}{a:Act}{e:Exit->Act->World->Prop}{u:Tp}{R j:Nat}{w0 W:Wl}(l:o.guard=none)(s x:Operand)(m:o.op=.call { callee:=.builtin .append,args:=#[s,x],argTypes:=#[22,22] }){z y:LI}{v yv:Vl}
  (p:a.eval s=v) (q:a.eval x=yv) (g:Aw u R j w0 z v W) (r:Src prog 1 22 yv y.length (y.map (Value.int .u8)) W) (t:z.length+y.length<=16000000) (h:∀c c' b,Hid (Aw u R j w0 (z++y) (Sl c (z.length+y.length) c') b)->wpList prog ops e rest (a.put o.dst (Sl c (z.length+y.length) c')) b) :
  wpList prog ops e (o::rest) a W:=by
 refine jM l s x 22 22 m p q jF g.k r oM ?_;intro v5 b n i w;have d:=g.f n i;obtain⟨c,c',rfl⟩:=d.a;rw[zJ]at d ⊢;exact h c c' b d
def DO{ops:Array Oper}{rest:List Oper}{o:Oper}{a:Act}{b:Exit->Act->World->Prop}{u:Tp}{R j:Nat}{w0 W:Wl}(g:o.guard=none)(s x:Operand)(i:o.op=.call { callee:=.builtin .append,args:=#[s,x],argTypes:=#[22,22] }){z:LI}{v:Vl}{y:Int}
  (k:a.eval s=v) (l:a.eval x=Sl (Sm W.heap.size 0) 1 1) (f:Aw u R j w0 z v W) (m:z.length<=15000000) (h:∀e c' c,Hid (Aw u R j w0 (z++[y]) (Sl e (z.length+1) c') c)->wpList prog ops b rest (a.put o.dst (Sl e (z.length+1) c')) c) :
  wpList prog ops b (o::rest) a (W.alloc (Oc #[Bv y] 5)) :=
 N4 g s x i k l (f.d zY) (y:=[y]) (qK W y) sO h
def V3{a b c d}(e:0<=a)(f:a<=b)(g:b+2<=c)(h:c<=d)(j:d<=255):M.bH [a,b,c,d].length (lf [a,b,c,d]):=by
 refine⟨sM,λi k=>?_⟩;match i,k with
 |0,_=>exact⟨e,by show a<=255;omega,λq=>absurd q oM,λq=>absurd q.1 oM⟩
 |1,_=>exact⟨by show 0<=b;omega,by show b<=255;omega,λ_=>f,λq=>absurd q.2 oM⟩
 |2,_=>exact⟨by show 0<=c;omega,by show c<=255;omega,λq=>absurd q oM,λ_=>g⟩
 |3,_=>exact⟨by show 0<=d;omega,j,λ_=>h,λq=>absurd q.2 oM⟩
def EZ{t}{i}:M.bH (yg t i).1.length (lf (yg t i).1):=by
 have d:=t.a i;have c:∀m,m<16->0<=lf ym m/\lf ym m<=255:=dC;unfold yg vB;repeat' split
 all_goals first
  |exact yI oM oM oM
  |exact V3 oM oM oM oM oM
  |exact⟨rfl,λi b=>absurd b (Ge _)⟩
  |(have:=c (t.v (t.n i)%16) oM;exact yI this.1 (Ft _) this.2)
structure GB(nr nb:Nat)(D:List OpD):Prop where
 a:∀d,0<=d->jP D d=some (d+1)
 el:∀x,x∈D->M.bB nr nb x
def Yy{nr a o}(h:M.ar o.e=0)(c:M.bB nr a o):GB nr a [o] :=
 ⟨λd b=>by rw[jP,h,Zp b,jP];simp,λx f=>by rw[Bu.1 f];exact c⟩
def Wn{nr a}:GB nr a (uv 0 0):=Yy rfl (DJ oM oM oM oM oM)
def Rn{nr a k}(h:k<nr):GB nr a (uv 2 (k:Int)):=Yy rfl ⟨by show(0:Int)<=2;omega,by show(2:Int)<=7;omega,λq=>aB q (by show ¬(2:Int)=1;omega),λ_=>rfl,by show(0:Int)<=(k:Int);omega,by show(k:Int)<M.bF nr a 2;unfold M.bF;simp;omega⟩
def FA{nr a k}(h:k<a):GB nr a (uv 3 (k:Int)):=Yy rfl ⟨by show(0:Int)<=3;omega,by show(3:Int)<=7;omega,λq=>aB q (by show ¬(3:Int)=1;omega),λ_=>rfl,by show(0:Int)<=(k:Int);omega,by show(k:Int)<M.bF nr a 3;unfold M.bF;simp;omega⟩
def qE{nr a z}(h:M.bH z.length (lf z)):GB nr a (uL z):=Yy rfl ⟨by show(0:Int)<=1;omega,by show(1:Int)<=7;omega,λ_=>h,λq=>aB rfl q,Ft _,by show(0:Int)<M.bF nr a 1;unfold M.bF;simp⟩
def jV{nr b k D}(h:GB nr b D)(g:k=6\/k=7):GB nr b (Bq k D):=by
 have c:M.ar k=1:=by unfold M.ar;rw[Zn oM,Zp g]
 refine⟨λd f=>?_,λx i=>?_⟩
 .rw[Bq,Yl,h.a d f];show jP [Cq k 0] (d+1)=_;rw[jP,show M.ar (Cq k 0).e=1 from c,Zp oM,jP];simp
 rcases By.1 i with q|q
 .exact h.el x q
 rw[Bu.1 q];exact DJ oM oM oM oM oM
def vW{nr c k D b}(h:GB nr c D)(f:GB nr c b)(j:k=4\/k=5):GB nr c (uM k D b):=by
 have g:M.ar k=2:=by unfold M.ar;rw[Zp j]
 refine⟨λd i=>?_,λx l=>?_⟩
 .rw[uM,Yl,Yl,h.a d i];show((jP b (d+1)).bind (jP [Cq k 0]))=_;rw[f.a (d+1) oM];show jP [Cq k 0] (d+1+1)=_;rw[jP,show M.ar (Cq k 0).e=2 from g,Zp oM,jP];congr 1;omega
 rcases By.1 l with q|q
 .exact(By.1 q).elim (h.el x) (f.el x)
 rw[Bu.1 q];exact DJ oM oM oM oM oM
def GB.e{nr g D}(h:GB nr g D):M.bC nr g D.length (df D):=by
 have m:∀i,i<=D.length->(∀j,j<i->M.ar (df D j).e<=M.dep (df D) j)/\jP (D.drop i) (M.dep (df D) i)=some 1:=by
  intro i;induction i with
  |zero=>exact λ_=>⟨λj f=>absurd f oM,by rw[Mc];exact h.a 0 (Ft _)⟩
  |succ i l =>
   intro d;let⟨c,b⟩:=l oM;rw[Tb oM,jP]at b;have e:df D i=D[i]:=Px (Bb oM);split at b
   .rename_i k;refine⟨λj f=>?_,?_⟩
    .by_cases q:j=i
     .subst q;rw[e];exact k
     exact c j oM
    rw[M.dep,e];exact b
   cases b
 let⟨c,b⟩:=m D.length zD;rw[Ki zD,jP]at b;injection b with b;exact⟨λi d=>by rw[Px (Bb d)];exact h.el _ (Gi d),c,b⟩
def FB t g nr c:∀(d:Nat) (f:Bool) (i:Nat),GB nr c (yo t g nr c d f i).1
 |0,_,i=>qE (EZ)
 |d+1,f,i=>by
  have b:=FB t g nr c d;have a:∀i,GB nr c (uL (yg t i).1):=λi=>qE (EZ);rw[yo];dsimp only;repeat' split
  all_goals first
   |exact a _
   |exact Wn
   |(refine Rn ?_;rename_i e;have:=If (t.v (t.n i)) (show 0<nr-_ from Nat.sub_pos_of_lt (Nat.not_le.1 e));omega)
   |(refine vW (a _) (FA ?_) (.inr rfl);rename_i e;exact If _ e.2)
   |exact vW (a _) (b _ _) (.inl rfl)
   |exact vW (b _ _) (b _ _) oM
   |exact jV (a _) (.inl rfl)
   |exact jV (vW (a _) (b _ _) (.inl rfl)) (.inl rfl)
   |exact jV (vW (jV (b _ _) (.inr rfl)) (a _) (.inl rfl)) (.inl rfl)
   |exact jV (b _ _) (.inr rfl)
   |exact jV (vW (a _) (vW (a _) (b _ _) (.inl rfl)) (.inr rfl)) (.inl rfl)
   |exact jV (b _ _) (.inl rfl)
def Py(z:LI):Prop:=M.bU z.length (lf z)
def PS{x}(h:97<=x/\x<=122):Py [x]:=by
 refine⟨sM,λi a=>?_,sM,.inl h⟩;obtain rfl:i=0:=by simp at a;omega
 exact .inl (.inl h)
def V4 k:Py (Ny k):=by
 unfold Ny;split
 .refine⟨dC,λi a=>?_,dC,.inl dC⟩;match i,a with
  |0,_=>exact .inl (.inl dC)
  |1,_=>exact .inr (by show 48<=(49:Int)/\(49:Int)<=57;decide)
 split
 .refine⟨dC,λi a=>?_,dC,.inl dC⟩;match i,a with
  |0,_=>exact .inl (.inl dC)
  |1,_=>exact .inl (.inl dC)
  |2,_=>exact .inl (.inl dC)
 refine⟨dC,λi a=>?_,dC,.inl dC⟩;match i,a with
 |0,_=>exact .inl (.inl dC)
 |1,_=>exact .inl (.inl dC)
 |2,_=>exact .inl (.inl dC)
 |3,_=>exact .inl (.inr (.inr rfl))
 |4,_=>exact .inr (by show 48<=(50:Int)/\(50:Int)<=57;decide)
structure GS(b:Nat)(rs ls:List NL):Prop where
 n0:0<rs.length
 n4:rs.length<=4
 m3:ls.length<=3
 r:∀x,x∈rs->Py x.nm/\GB rs.length ls.length x.bd/\x.bd.length<=b
 l:∀x,x∈ls->Py x.nm/\(x.j=true->GB rs.length ls.length x.bd)/\(x.j=false->x.bd = [])/\x.bd.length<=60
def FC f b:∀n,(∀i,i<n->f i<=b)->M.sum f n<=n*b
 |0,_=>zK
 |n+1,h=>by
  have:=FC f b n (λi a=>h i oM);have:=h n oM;rw[M.sum,Nat.succ_mul];omega
def xE{l:List NL}{i:Nat}(h:i<l.length):l.getD i default∈l:=by
 rw[El,Bb h];exact Gi h
def GS.a{b rs ls}(h:GS b rs ls)(f:b<=210):M.Sound (gram rs ls):=by
 have j:=h.n4;have g:=h.m3;refine⟨h.n0,by show rs.length<=100;omega,by show ls.length<=100;omega,λi c=>(h.r _ (xE c)).1,λi c=>(h.l _ (xE c)).1,λi c=>(h.r _ (xE c)).2.1.e,λi c d=>((h.l _ (xE c)).2.1 d).e,λi c d=>?_,?_⟩
 .show(ls.getD i default).bd.length=0;rw[(h.l _ (xE c)).2.2.1 d];rfl
 have k:=FC (λi=>(rs.getD i default).bd.length) 210 rs.length (λi c=>zP (h.r _ (xE c)).2.2 f);have m:=FC (λi=>(ls.getD i default).bd.length) 60 ls.length (λi c=>(h.l _ (xE c)).2.2.2);show M.sum (λi=>(rs.getD i default).bd.length) rs.length+M.sum (λi=>(ls.getD i default).bd.length) ls.length<=2000;omega
def V5{nr a o}(h:M.bB nr a o):o.sl<=256:=by
 by_cases e:o.e=1
 .exact M.cA (h.2.2.1 e)
 rw[h.2.2.2.1 e];omega
def Py.h{z}(h:Py z):Cz z.length (lf z):=λi a=>by
 rcases h.2.1 i a with (q|q|q)|q
 .omega
 .omega
 .omega
 obtain⟨b,c⟩:=q;omega
def GS.c{b rs ls}(h:GS b rs ls)(t:b<=210):vS (gram rs ls):=by
 have s:=h.n4;have q:=h.m3;have m:∀{nr o:Nat} {D:List OpD},GB nr o D->∀i,i<D.length->(df D i).sl<=1048576:=λh i d=>zP (V5 (h.e.1 i d)) oM;refine⟨by show rs.length<=_;omega,by show ls.length<=_;omega,λi d=>?_,λi d=>?_⟩
 .let⟨a,f,g⟩:=h.r _ (xE d);exact⟨zP a.1 oM,a.h,by show(rs.getD i default).bd.length<=_;omega,m f⟩
 let⟨a,f,g,p⟩:=h.l _ (xE d);refine⟨zP a.1 oM,a.h,by show(ls.getD i default).bd.length<=_;omega,?_⟩;cases k:(ls.getD i default).j with
 |true=>exact m (f k)
 |false =>
  show ∀j,j<(ls.getD i default).bd.length->_;rw[g k];exact λj n=>aB n (Ge _)
def Yz t i:GS 196 (vG t i).1.1 (vG t i).1.2:=by
 have J:∀n m e k,k<=n->∀x,x∈(vD t n m e k).1->Py x.nm/\GB n m x.bd/\x.bd.length<=196:=by
  intro n m e k;induction k with
  |zero=>intro _ x c;cases c
  |succ k w =>
   intro N x c;rw[vD]at c;rcases By.1 c with q|q
   .exact w oM x q
   obtain rfl:=Bu.1 q;refine⟨PS oM,?_,((NW k m _ (NV k _ (NU k n _ (kH t k n m 5 false _)))).1)⟩;have s:=FB t k n m 5 false (vD t n m e k).2;dsimp only;generalize yo t k n m 5 false (vD t n m e k).2=b at s;have A:GB n m (Kl k n (t.v b.2) b.1):=by
    unfold Kl;split
    .rename_i u;exact vW s (Rn (k:=1) u.2.2) (.inl rfl)
    exact s
   have B:GB n m (Ld k (t.v b.2) (Kl k n (t.v b.2) b.1)):=by
    unfold Ld;split
    .exact vW A (jV (qE (yI oM oM oM)) (.inr rfl)) (.inl rfl)
    exact A
   unfold Mf;split
   .rename_i u;exact vW (vW (qE (yI oM oM oM)) (FA (k:=0) u.2.2) (.inr rfl)) B (.inl rfl)
   exact B
 have G:∀n m l k,∀x,x∈(vy t n l k).1->Py x.nm/\(x.j=true->GB n m x.bd)/\(x.j=false->x.bd = [])/\x.bd.length<=43:=by
  intro n m l k;induction k with
  |zero=>intro x c;cases c
  |succ k w =>
   intro x c;rw[vy]at c;rcases By.1 c with q|q
   .exact w x q
   obtain rfl:=Bu.1 q;refine⟨V4 k,?_⟩;have L:∀{D:List OpD},GB n 0 D->GB n m D:=λh=>⟨h.a,λx c=>by
    let⟨d,f,g,z,C,p⟩:=h.el x c;refine⟨d,f,g,z,C,?_⟩;unfold M.bF at p ⊢;split at p
    .omega
    rename_i E;rw[Zn E];exact p⟩
   dsimp only;unfold Rh;repeat' split
   .exact⟨λ_=>jV (vW (jV (qE (EZ)) (.inr rfl)) (qE (yI oM oM oM)) (.inl rfl)) (.inl rfl),(λq=>by cases q),by simp[Bq,uM,uL]⟩
   .exact⟨λ_=>Wn,(λq=>by cases q),by simp[uv]⟩
   .exact⟨λ_=>qE (yI oM oM oM),(λq=>by cases q),by simp[uL]⟩
   .exact⟨λ_=>L (FB t n n 0 3 false _),(λq=>by cases q),(kH t n n 0 3 false _).1⟩
   exact⟨(λq=>by cases q),λ_=>rfl,zK⟩
 unfold vG;dsimp only;have o:∀n m e,(vD t n m e n).1.length=n:=λn m e=>qy t n m e n;have r:∀n l m (rs:List NL),(vM rs (vy t n l m).1 m).length=m:=λn l m rs=>by rw[jW,qz]
 have H:t.v (t.n i)%4<=3:=oM;have I:1+t.v i%4<=4:=oM;refine⟨by rw[o];omega,by rw[o];exact I,by rw[r];exact H,λx c=>?_,λx c=>?_⟩
 .rw[o,r];let⟨d,f,g⟩:=J _ _ _ _ zD x c;exact⟨d,f,g⟩
 rw[o,r];unfold vM at c;obtain⟨j,F,rfl⟩:=List.mem_mapIdx.1 c;let⟨d,f,g,z⟩:=G (1+t.v i%4) (t.v (t.n i)%4) _ _ _ (Gi F);generalize (vy t (1+t.v i%4) (vD t (1+t.v i%4) (t.v (t.n i)%4) (t.n (t.n i)) (1+t.v i%4)).2 (t.v (t.n i)%4)).1[j]=y at *;split
 .unfold Tm;split
  .exact⟨d,f,g,oM⟩
  split
  .exact⟨d,(λq=>by cases q),λ_=>rfl,zK⟩
  exact⟨d,λ_=>Wn,(λq=>by cases q),by simp[uv]⟩
 exact⟨d,f,g,oM⟩
def FD{l i}(h:i<l.length):Pu l i∈l:=xE h
def Wo{rs ls}(h:GS 196 rs ls){a}(g:a<rs.length){D}(f:GB rs.length ls.length D)(i:D.length<=210):GS 210 (qV rs a D) ls:=by
 have e:(qV rs a D).length=rs.length:=by unfold qV;rw[Hb]
 refine⟨by rw[e];exact h.n0,by rw[e];exact h.n4,h.m3,λx b=>?_,λx b=>by rw[e];exact h.l x b⟩;rw[e];rcases Vg b with q|rfl
 .let⟨c,d,j⟩:=h.r x q;exact⟨c,d,oM⟩
 exact⟨(h.r _ (FD g)).1,f,i⟩
def V6 t i{rs ls}(h:GS 196 rs ls):GS 210 (Tr t i rs ls).1.1 (Tr t i rs ls).1.2:=by
 have d:t.v (t.n i)%rs.length<rs.length:=If _ h.n0;have f:t.v (t.n (t.n i))%rs.length<rs.length:=If _ h.n0;unfold Tr;dsimp only;generalize t.v (t.n i)%rs.length=a at *;generalize t.v (t.n (t.n i))%rs.length=b at *;let⟨_,c,s⟩:=h.r _ (FD d);repeat' split
 .exact Wo h d (vW c (Rn f) (.inr rfl)) (by simp[uM,uv];omega)
 .exact Wo h d (vW (jV (Rn f) (.inr rfl)) c (.inl rfl)) (by simp[uM,Bq,uv];omega)
 .exact Wo h d (jV c (.inl rfl)) (by simp[Bq];omega)
 .rename_i p;have j:b%ls.length<ls.length:=If _ p.2;let⟨k,m,o,g4,g⟩:=Wo h d (vW c (FA j) (.inr rfl)) (by simp[uM,uv];omega);have e:(qV rs a (uM 5 (Pu rs a).bd (uv 3 ((b%ls.length:Nat):Int)))).length=rs.length:=by unfold qV;rw[Hb]
  rw[e]at g4 g;refine⟨k,m,by rw[Hb];exact o,λx c=>?_,λx c=>?_⟩
  .rw[Hb,e];exact g4 x c
  rw[Hb,e];rcases Vg c with q|rfl
  .exact g x q
  exact⟨(h.l _ (FD j)).1,λ_=>vW Wn (Rn d) (.inl rfl),(λq=>by cases q),by simp[uM,uv]⟩
 exact Wo h d (vW (jV (qE (yI oM oM oM)) (.inl rfl)) (Rn f) (.inl rfl)) (by simp[uM,Bq,uL,uv])
def FE t i:GS 210 (g4 t i).1.1 (g4 t i).1.2:=by
 unfold g4;split
 .exact V6 t _ (Yz t _)
 let⟨c,d,e,a,f⟩:=Yz t (t.n i);exact⟨c,d,e,λx b=>⟨(a x b).1,(a x b).2.1,by have:=(a x b).2.2;omega⟩,f⟩
open M (TX b1 b1_size)
open Classical in
noncomputable def lsX (t:Tp) (g:Gr) (n:Nat) (B:Nat->OpD) (i:Nat):ByteArray×Nat:=if h:∃p:ByteArray×Nat,Lf t g n B 0 n i p.1 p.2 then h.choose else (ByteArray.empty,i)
def Wf t{g}(b:M.Sound g){n B}(a:M.bC g.nr g.nb n B)(c:n<=2000)i:Lf t g n B 0 n i (lsX t g n B i).1 (lsX t g n B i).2:=by
 have h:∃p:ByteArray×Nat,Lf t g n B 0 n i p.1 p.2:=by
  let⟨s,j,h⟩:=S8 (t:=t) b a.1 c n 0 i _ zD a.2.1 (BW (λ_ _ _=>()) B n a.2);exact⟨(s,j),h⟩
 unfold lsX;rw[dif_pos h];exact h.choose_spec
noncomputable def labT (t:Tp) (g:Gr) (i:Nat):Nat->ByteArray×Nat
 |0=>(⟨#[]⟩,i)
 |k+1=>if (g.d k).j then (⟨#[94]⟩++qZ g k++⟨#[61]⟩++(lsX t g (g.d k).bl (g.d k).e (labT t g i k).2).1++⟨#[59]⟩++(labT t g i k).1,(lsX t g (g.d k).bl (g.d k).e (labT t g i k).2).2) else labT t g i k
noncomputable def rulT (t:Tp) (g:Gr) (i:Nat):Nat->ByteArray×Nat
 |0=>(⟨#[]⟩,i)
 |k+1=>((rulT t g i k).1++(Gm (t.v (lsX t g (g.a k).bl (g.a k).e (rulT t g i k).2).2)++qY g k++⟨#[32,61]⟩++(lsX t g (g.a k).bl (g.a k).e (rulT t g i k).2).1++⟨#[59]⟩),t.n (lsX t g (g.a k).bl (g.a k).e (rulT t g i k).2).2)
noncomputable def lsT (t:Tp) (g:Gr) (i:Nat):ByteArray×Nat :=
 (if t.v i%4=0 then (labT t g (t.n i) g.nb).1++(rulT t g (labT t g (t.n i) g.nb).2 g.nr).1 else (rulT t g (labT t g (t.n i) g.nb).2 g.nr).1++(labT t g (t.n i) g.nb).1,(rulT t g (labT t g (t.n i) g.nb).2 g.nr).2)
def OO a:(⟨#[a]⟩:ByteArray).size=1:=rfl
def S9 a b:(⟨#[a,b]⟩:ByteArray).size=2:=rfl
def OP t{g}(a:M.Sound g)i:∀k,k<=g.nb->(labT t g i k).1.size<=1300*M.sum (λi=>(g.d i).bl) k+60*k
 |0,_=>zK
 |k+1,hk=>by
  have e:=OP t a i k oM;rw[labT,M.sum];split
  .rename_i h;have b:=(jc a (show k<g.nb by omega)).2;have c:=(Wf t a (a.lb k oM h) (Qg a (show k<g.nb by omega)) (labT t g i k).2).1;simp only[Dq,OO];omega
  omega
def OQ t{g}(b:M.Sound g)i:∀k,k<=g.nr->(rulT t g i k).1.size<=1300*M.sum (λi=>(g.a i).bl) k+60*k
 |0,_=>zK
 |k+1,hk=>by
  have h:=OQ t b i k oM;have c:=(jb b (show k<g.nr by omega)).2;have d:=(Wf t b (b.rb k oM) (qN b (show k<g.nr by omega)) (rulT t g i k).2).1;have f:=jU (t.v (lsX t g (g.a k).bl (g.a k).e (rulT t g i k).2).2);rw[rulT,M.sum];simp only[Dq,OO,S9];omega
def ER t{g}(b:M.Sound g)i j k m(c:k<=g.nb)(e:m<=g.nr):(labT t g i k).1.size+(rulT t g j m).1.size<=2700000:=by
 have h:=OP t b i k c;have l:=M.cF (λi=>(g.d i).bl) c;have n:=OQ t b j m e;have o:=M.cF (λi=>(g.a i).bl) e;have f:=b.ol;have p:=b.r2;have q:=b.l2;unfold M.ops at f;omega
def OR t{g}(a:M.Sound g)i k(b:k<=g.nb):(labT t g i k).1.size<=2700000:=oH (ER t a i i k 0 b zK)
def T0 t{g}(a:M.Sound g)i k(b:k<=g.nr):(rulT t g i k).1.size<=2700000:=oH (ER t a i i 0 k zK b)
def Yv t{g}(a:M.Sound g)i:(lsT t g i).1.size<=2700000:=by
 have:=ER t a (t.n i) (labT t g (t.n i) g.nb).2 g.nb g.nr zD zD;unfold lsT;dsimp only;split<;>simp only[Dq]<;>omega
def zV.on{Q w w' ra la g}(h:zV Q w ra la g)(st:zS Q w w'):zV Q w' ra la g:=⟨h.c.on st,h.e.on st⟩
structure GR(Q:Np)(R H:Nat)(ra la:Oa)(g:Gr)(w:Wl):Prop where
 q:∀b,Q b->b≠R/\b<H
 h:H<=w.heap.size
 g:zV Q w ra la g
def GR.y{Q R H ra la g w w'}(h:GR Q R H ra la g w)(k:zA (λx=>x=R) w w'):GR Q R H ra la g w' :=
 ⟨h.q,zP h.h k.l,h.g.on (k.r (λb q=>⟨by have:=h.q b q;have:=h.h;omega,(h.q b q).1⟩))⟩
def GR.a{Q R H ra la g w}(h:GR Q R H ra la g w)(j:M.Sound g)t{n B}(e:M.bC g.nr g.nb n B)(l:n<=2000){a c}rc lc(k:n<=c)(d:zM Q w a n B)i(f:Ch t R w i) :
  Cs 67 #[.agg #[Sl ra g.nr rc,Sl la g.nb lc],Sl a n c,.pointer (Sm R 0)] w (Pr (lsX t g n B i).1 t R (lsX t g n B i).2 w):=by
 rcases d with q|⟨b,off,rfl,m,d⟩
 .have:=e.2.2;rw[q,M.dep]at this;omega
 exact(Wf t j e l i).2 R Q ra la rc lc b off H m h.q n off c w rfl oM k ⟨d,h.g.a,h.h⟩ f
def qW t{g}(Z:M.Sound g){Q R H ra la}rc lc i w(hG:GR Q R H ra la g w)(hR:Ch t R w i) :
  Cs 25 #[.agg #[Sl ra g.nr rc,Sl la g.nb lc],.pointer (Sm R 0)] w (Pr (lsT t g i).1 t R (lsT t g i).2 w):=by
 have hv:=t.a i;have ap:=hR.lt;have h1:=Z.r2;have h2:=Z.l2;have J:w.heap.size≠R:=oM;let⟨s0,af⟩:=nm (lsT t g i);have u:=ua af;unfold lsT at u;rw[af];have K0:=ua (zA.a (λ_=>False) w (Oc #[Sl ra g.nr rc,Sl la g.nb lc] 34));have B:=ua (um w #[Sl ra g.nr rc,Sl la g.nb lc] 34);have T:=ua hG;have o:=ua Z;go_enter func25,ntmps25;go_upto_region 1 with fail;generalize w.alloc _=W0 at *;go_wp2_with fail;refine(uE t R i W0 (hR.y K0 (λ_ e=>e.elim))).mono ?_;rintro e W1 ⟨rfl,l⟩;have I:Hid (zE t R (t.n i) w W1):=⟨l.1,(K0.h (λ_ e=>e.elim)).c l.2⟩;replace B:=ua (B.b l.2 J);replace T:=ua (T.y I.2);generalize t.v i=k0 at *;generalize t.n i=E at *;let⟨d,hd⟩:=nm (k0%4);have hd':(k0:Int)%4=(d:Int):=oM;rw[hd]at u;let⟨z0,p0,l0⟩:=B.x;go_upto_region 4 with fail;simp only[hd'];go_loopw [6,7] (λov G wr=>∃k:Nat,k<=g.nb/\G=Iv k/\ov=.string (labT t g E k).1/\zE t R (labT t g E k).2 W1 wr) (λ_ G _=>g.nb-(intOf G).toNat)
 .exact⟨0,zK,rfl,rfl,zE.e I.1⟩
 obtain⟨k,hk,rfl,rfl,l⟩:=hrel;have A:=ua l;have am:=OR t o E k hk;have C:=ua (labT.eq_2 t g E k);have V:Hid (∀i,k=i->labT t g E k=labT t g E i):=λi e=>by rw[e]
 let⟨z,p,lz⟩:=(B.b l.2 J).x;have r:=ua (T.y l.2);generalize labT t g E k=L at *;by_cases s:k<g.nb
 .have hlt':(k:Int)<(g.nb:Int):=oM;rcases r.g.e with q|⟨b,off,rfl,hq,Y⟩
  .omega
  let⟨na,nc,ba,bc,N,hn,ch,c1,hb,ab⟩:=(Y k s).e;have lb:=ud N;cases P:(g.d k).j with
  |false =>
   rw[P]at C ch;go_wp2;go_roundw
   .exact⟨k+1,oM,by go_num,by rw[C.o];rfl,by rw[C.o];exact A⟩
   simp[intOf];omega
  |true =>
   rw[P]at C ch;have ak:=(jc o s).2;have O:=Qg o s;have al:=(Wf t o (o.lb k s P) O L.2).1;have S:=ua ((r.y (Ik wr)).a o t (o.lb k s P) O rc lc ab (hb.m (zA.i (λ_=>False) wr) (λ_ _ e=>e)) L.2 (A.1.y (zA.i (λ_=>False) _) (λ_ e=>e.elim)));have W:=ua hn;have aa:=(r.q b hq).1;go_wp2_with fail;go_region_law (refine uF EO rfl _ _ rfl (ys:=#[.agg #[Sl ra g.nr rc,Sl (Sm b off) g.nb lc],Sl ba (g.d k).bl bc,.pointer (Sm R 0)]) (by simp[Act.eval]) (S.mono ?_);rintro e W2 ⟨rfl,l⟩;replace A:=ua ((A.d Cj).c l);have F:=(zA.i (λx=>x=R) wr).c l.2;refine⟨_,rfl,?_⟩);all_goals
    have c0':=F.m aa N;have ac:=vg Q na (g.d k).nl nc (g.d k).f _ (W.b F (λb q=>(r.q b q).1));have ad:str (g.d k).nl (g.d k).f=qZ g k:=rfl;rw[ad]at ac;let⟨z',p',an⟩:=(B.b A.2 J).x;have lb':=ud c0';generalize lsX t g (g.d k).bl (g.d k).e L.2=X at *;generalize qZ g k=ao at *;go_wp2;go_roundw
    .exact⟨k+1,oM,by go_num,by rw[C.o];rfl,by rw[C.o];exact A⟩
    simp[intOf];omega
 obtain rfl:k=g.nb:=oM;have hlt':¬(g.nb:Int)<(g.nb:Int):=oM;have ae:=ua (V _ rfl);rw[<-ae.o]at u;let⟨W2,ai⟩:=nm wr;rw[ai]at A r z p lz;have ah:=ua (I.c A);replace B:=ua (B.b A.2 J);go_upto_region 11 with fail;go_loopw [9,10] (λov G wr=>∃k:Nat,k<=g.nr/\G=Iv k/\ov=.string (rulT t g L.2 k).1/\zE t R (rulT t g L.2 k).2 W2 wr) (λ_ G _=>g.nr-(intOf G).toNat)
 .exact⟨0,zK,rfl,rfl,zE.e A.1⟩
 obtain⟨k,hk,rfl,rfl,l⟩:=hrel;have D:=ua l;have am:=T0 t o L.2 k hk;have C:=ua (rulT.eq_2 t g L.2 k);have V:Hid (∀i,k=i->rulT t g L.2 k=rulT t g L.2 i):=λi e=>by rw[e]
 let⟨z,p,lz⟩:=(B.b l.2 J).x;replace r:=ua (r.y l.2);generalize rulT t g L.2 k=U at *;by_cases s:k<g.nr
 .have hlt':(k:Int)<(g.nr:Int):=oM;rcases r.g.c with q|⟨b,off,rfl,hq,Y⟩
  .omega
  let⟨na,nc,ba,bc,N,hn,c1,hb,ab⟩:=(Y k s).e;have lb:=ud N;have ak:=(jb o s).2;have O:=qN o s;have al:=(Wf t o (o.rb k s) O U.2).1;have S:=ua ((r.y (Ik wr)).a o t (o.rb k s) O rc lc ab (hb.m (zA.i (λ_=>False) wr) (λ_ _ e=>e)) U.2 (D.1.y (zA.i (λ_=>False) _) (λ_ e=>e.elim)));have W:=ua hn;have aa:=(r.q b hq).1;go_wp2_with fail;go_region_law (refine uF EO rfl _ _ rfl (ys:=#[.agg #[Sl (Sm b off) g.nr rc,Sl la g.nb lc],Sl ba (g.a k).bl bc,.pointer (Sm R 0)]) (by simp[Act.eval]) (S.mono ?_);rintro e W3 ⟨rfl,l⟩;replace D:=ua ((D.d Cj).c l);have F:=(zA.i (λx=>x=R) wr).c l.2;refine⟨_,rfl,?_⟩);all_goals
   have ag:=ua l.1;generalize lsX t g (g.a k).bl (g.a k).e U.2=X at *;have gs:=jU (t.v X.2);go_wp2_with fail;refine(EK t R _ _ ag).mono ?_;rintro e W4 ⟨rfl,l⟩;replace D:=ua (D.c l);replace F:=F.c l.2;have c0':=F.m aa N;have ac:=vg Q na (g.a k).nl nc (g.a k).f _ (W.b F (λb q=>(r.q b q).1));have ad:str (g.a k).nl (g.a k).f=qY g k:=rfl;rw[ad]at ac;let⟨z',p',an⟩:=(B.b D.2 J).x;have lb':=ud c0';generalize Gm (t.v X.2)=gp at *;generalize qY g k=ao at *;go_wp2;go_roundw
   .exact⟨k+1,oM,by go_num,by rw[C.o],by rw[C.o];exact D⟩
   simp[intOf];omega
 obtain rfl:k=g.nr:=oM;have hlt':¬(g.nr:Int)<(g.nr:Int):=oM;rw[<-V.o _ rfl]at u;replace I:=ua (ah.c D);have aj:=OR t o E g.nb zD;rw[<-ae.o]at aj;by_cases e:d=0
 .have b0:((d:Int)==0)=true:=by simp[e]
  rw[Zp e]at u;go_wp2;go_ret;exact⟨by rw[<-u.o];rfl,by rw[<-u.o];exact I⟩
 have b0:((d:Int)==0)=false:=sO;rw[Zn e]at u;go_wp2;go_ret;exact⟨by rw[<-u.o];rfl,by rw[<-u.o];exact I⟩
def Wh(p:Nat×(Nat->Int))(w:Wl)(e:Ending)(w':Wl):Prop:=∃a c,e=Rt (Sl a p.1 c)/\Ints (zF w w') .u8 w' a p.1 p.2/\Kf w w'/\p.1<=c
def Gn(z:LI):Nat×(Nat->Int):=(z.length,lf z)
def Kn(s:ByteArray):Nat×(Nat->Int):=(s.size,bT s)
def uV{R w a W}(h:Kf w a)(j:w.heap.size<=R)(k:zA (λx=>x=R) a W):Kf w W :=
 ⟨k.os.trans h.os,k.g.trans h.g,k.f.trans h.f,zP h.l k.l,λb c i=>(k.d b (Ba c h.l) (λe=>oM)).trans (h.d b c i)⟩
def Ints.a{w c W a n S}(h:Ints (zF c W) .u8 W a n S)(d:w.heap.size<=c.heap.size):Ints (zF w W) .u8 W a n S:=h.g (λb q=>⟨zP d q.1,q.2⟩)
def Ha:ByteArray:=⟨#[115,61,59,47,33,38,42,63,40,41,46,94,97,98,34,120,34,91,97,45,99,93,10,35]⟩
def Mi(u:Tp):Nat->List Int->Nat->List Int
 |0,L,_=>L
 |f+1,L,p=>if p<u.m then Mi u f (L++[Oe Ha (u.v p%24)]) (u.n p) else L
def OW u:∀f L p,(Mi u f L p).length<=L.length+f
 |0,L,_=>zD
 |f+1,L,p=>by
  rw[Mi];split
  .have:=OW u f (L++[Oe Ha (u.v p%24)]) (u.n p);rw[zJ,Dd]at this;omega
  omega
def Og:ByteArray:=⟨#[115,32,61,32,97,32,59,32,97,32,61,32,98,32,47,32,94,101,32,59,32,94,101,32,61,32,46,32,59,32]⟩
def EU(c:Nat):Nat×(Nat->Int) :=
 if c=0 then Kn Og else if c=1 then Kn (Og++⟨#[98,32,61,32,59,32,115,32,61,32,59]⟩) else if c=2 then Kn (Og++⟨#[98,32,61,32,113,32,59,32,94,101,32,61,32,59]⟩)
 else if c=3 then Gn [94,101,32,61,32,46,32,59,32,35,32,110,111,32,114,117,108,101] else if c=4 then Kn (Og++⟨#[98,32,61,32,101,32,59]⟩) else Gn [35]
def dG(p:(List NL×List NL)×Nat):Gr:=gram p.1.1 p.1.2
noncomputable def pgT (u:Tp):Nat×(Nat->Int) :=
 if u.v 0%14=0 then Gn (Ro (u.v (u.n 0)%4) (u.v (u.n (u.n 0))%3))
 else if u.v 0%14=1 then Gn (Mi u 20 [] (u.n 0))
 else if u.v 0%14=2 then EU (u.v (u.n 0)%6)
 else if u.v 0%14<7 then Gn (Vz u (lsT u (dG (vG u (u.n 0))) (vG u (u.n 0)).2).2 (lsT u (dG (vG u (u.n 0))) (vG u (u.n 0)).2).1.size (bT (lsT u (dG (vG u (u.n 0))) (vG u (u.n 0)).2).1))
 else Kn (lsT u (dG (vG u (u.n 0))) (vG u (u.n 0)).2).1
def Yw{z u R j w b W e}(d:Kf w b)(m:w.heap.size<=R)(h:Tn z u R j b e W):Wh (Gn z) w e W:=by
 obtain⟨a,c,f,g,i,k⟩:=h;exact⟨a,c,f,g.a d.l,uV d m k.2,i⟩
def OX{s w d W a c}(g:Kf w d)(j:Ints (λb=>b=d.heap.size) .u8 W a s.size (bT s))(i:Bw d W)(f:s.size<=c):Wh (Kn s) w (Rt (Sl a s.size c)) W:=by
 refine⟨a,c,rfl,?_,g.c (yS i),f⟩;rcases j with e|⟨b,o,e,rfl,f⟩
 .exact .inl e
 by_cases h:s.size=0
 .exact .inl h
 exact .inr ⟨_,o,e,⟨g.l,ud (f 0 oM)⟩,f⟩
def OY{z w b W a n c}(d:Kf w b)(h:Bk .u8 b z (Sl a n c) W):Wh (Gn z) w (Rt (Sl a n c)) W:=by
 let⟨e,c',q⟩:=h.a;injection q with q1 q2 q3;subst q1 q2 q3;exact⟨_,_,rfl,h.c.a d.l,d.c h.2,kC h.1⟩
def T5(t:Tp)(i R:Nat)(a:Oa)(c:Nat)(w:Wl)(S:Ints (λb=>b<R) .u8 w a (t.m-i) (λk=>((t.b i).T k:Int)))(hc:t.m-i<=c)(hV:∀(u:Tp) (j:Nat),M.Sound (dG (vG u j))) :
  Cs 19 #[Sl a (t.m-i) c] w (Wh (pgT (t.b i)) w):=by
 have HV:=ua (hV (t.b i));let⟨z,hz⟩:=nm (pgT (t.b i));have d:=ua hz;unfold pgT at d;rw[hz];have HC:=ua (U6 t i R a c w S hc);clear S hc hV hz;generalize t.b i=u at *;generalize t.m-i=n at *;have hv:=u.a 0;go_enter func19,ntmps19;go_wp2_with fail;refine HC.mono ?_;rintro e W0 ⟨rfl,hr,F⟩;generalize ai:w.heap.size=R0 at *;go_wp2_with fail;refine(uE u R0 0 W0 hr).mono ?_;rintro e W1 ⟨rfl,f⟩;have o:=ua (uV F oM f.2);have E:=ua f.1;clear hr F f;have av:=u.a (u.n 0);generalize u.v 0=k0 at *;generalize u.n 0=C at *;let⟨k,F⟩:=nm (k0%14);have hk':(k0:Int)%14=(k:Int):=oM;rw[F]at d;have A:Hid (w.heap.size<=R0):=by show _<=_;omega
 clear ai;go_upto_if 19 with fail;simp only[hk'];clear F hk';by_cases I:k=0
 .have b0:((k:Int)==0)=true:=by simp[I]
  rw[Zp I]at d;clear I;go_wp2_with fail;refine(W7 u R0 C W1 E).mono ?_;rintro e W2 x;have r:=ua (Yw o A x);obtain⟨P,Q,rfl,_⟩:=x;go_wp2;go_ret;rw[<-d.o];exact r
 have b0:((k:Int)==0)=false:=sO;rw[Zn I]at d;by_cases Z:k=1
 .have b1:((k:Int)==1)=true:=by simp[Z]
  rw[Zp Z]at d;clear I Z;have am:Ha.size=24:=rfl;go_upto_region 9 with fail;simp only[b0];rw[show(({ data:=#[115,61,59,47,33,38,42,63,40,41,46,94,97,98,34,120,34,91,97,45,99,93,10,35] }:ByteArray))=Ha from rfl];go_loopw [6,7] (λov iv wr=>∃(j:Nat) (L:LI) (p:Nat),j<=20/\iv=Iv j/\L.length=j/\Aw u R0 p W1 L ov wr/\Gn (Mi u (20-j) L p)=z) (λ_ iv _=>20-(intOf iv).toNat)
  .exact⟨0,[],C,oM,rfl,rfl,.nil (zE.e E) E.lt,d⟩
  obtain⟨j,L,p,hj,rfl,U,x,he⟩:=hrel;obtain⟨la,lc,rfl⟩:=x.a;rw[U];have ac:=x;rw[U]at ac;have l:=ua ac;have J:=ua U;have HE:=ua he;clear x ac he U;by_cases ao:j<20
  .have hlt':(j:Int)<20:=oM;go_wp2_with fail;refine(PJ u R0 p wr l.on.1).mono ?_;rintro e W2 ⟨rfl,f⟩;replace l:=ua (l.p f);clear f;have aq:=l.on.1.le;have au:=u.le;by_cases hp:p<u.m
   .have hp':(u.m:Int)-(p:Int) > 0:=oM;have D:Hid (Gn (Mi u (20-(j+1)) (L++[Oe Ha (u.v p%24)]) (u.n p))=z):=by
     show _=_;rw[<-HE.o,show 20-j=(20-(j+1))+1 by omega,Mi,Zp hp]
    have aw:=u.a p;go_wp2_with fail;refine(uE u R0 p W2 l.on.1).mono ?_;rintro e W3 ⟨rfl,f⟩;replace l:=ua (l.o.p f);clear f;generalize u.v p=H at *;generalize u.n p=p2 at *;let⟨m3,V⟩:=nm (H%24);have hm':(H:Int)%24=(m3:Int):=oM;have ag:m3<Ha.size:=(by show m3<24;omega);rw[V,EF ag]at D;clear V;go_wp2_with (at_builtin;refine DO rfl _ _ rfl rfl rfl l.o (by rw[J.o];omega) ?_;intro Xa Xc W5 X;rw[J.o]at X;rw[J.o]);go_roundw
    .exact⟨j+1,_,p2,oM,by go_num,by rw[zJ,J.o];rfl,X.o,D.o⟩
    simp[intOf];omega
   have hp':¬(u.m:Int)-(p:Int) > 0:=oM;have D:Hid (Gn L=z):=(by show _=_;rw[<-HE.o,show 20-j=(20-(j+1))+1 by omega,Mi,Zn hp]);go_wp2;go_ret;rw[<-D.o];exact Yw o A l.h
  have hlt':¬(j:Int)<20:=oM;have D:Hid (Gn L=z):=by show _=_;rw[<-HE.o,show 20-j=0 by omega];rfl
  go_wp2;go_ret;rw[<-D.o];exact Yw o A l.h
 have b1:((k:Int)==1)=false:=sO;rw[Zn Z]at d;by_cases q2:k=2
 .have b2:((k:Int)==2)=true:=by simp[q2]
  rw[Zp q2]at d;go_wp2_with fail;refine(uE u R0 C W1 E).mono ?_;rintro e W2 ⟨rfl,f⟩;replace o:=ua (uV o A f.2);generalize u.v C=H at *;let⟨m,V⟩:=nm (H%6);have hm':(H:Int)%6=(m:Int):=oM;have ap:m<6:=oM;rw[V]at d;unfold EU at d;have O:Hid (∀s:ByteArray,∃a c W,(convert 9 22 (.string s)).run prog W2=.ok (Sl a s.size c) W/\Wh (Kn s) w (Rt (Sl a s.size c)) W):=λs=>by
   let⟨a,c,W,h1,h2,h3,h4⟩:=Yf W2 s;exact⟨a,c,W,h1,OX o h2 h3 h4⟩
  rw[show(({ data:=#[115,32,61,32,97,32,59,32,97,32,61,32,98,32,47,32,94,101,32,59,32,94,101,32,61,32,46,32,59,32] }:ByteArray))=Og from rfl];rcases(by omega:m=0\/m=1\/m=2\/m=3\/m=4\/m=5) with rfl|rfl|rfl|rfl|rfl|rfl
  .let⟨P,Q,W,Y,B⟩:=O Og;have r:=ua B;go_wp2;go_ret;rw[<-d.o];exact r
  .let⟨P,Q,W,Y,B⟩:=O (Og++⟨#[98,32,61,32,59,32,115,32,61,32,59]⟩);have r:=ua B;go_wp2;go_ret;rw[<-d.o];exact r
  .let⟨P,Q,W,Y,B⟩:=O (Og++⟨#[98,32,61,32,113,32,59,32,94,101,32,61,32,59]⟩);have r:=ua B;go_wp2;go_ret;rw[<-d.o];exact r
  .go_wp2_with (refine Oi [94,101,32,61,32,46,32,59,32,35,32,110,111,32,114,117,108,101] rfl _ rfl rfl rfl rfl oM ?_;intro W0 aa);go_ret;rw[<-d.o];exact OY o aa
  .let⟨P,Q,W,Y,B⟩:=O (Og++⟨#[98,32,61,32,101,32,59]⟩);have r:=ua B;go_wp2;go_ret;rw[<-d.o];exact r
  go_wp2_with (refine Oi [35] rfl _ rfl rfl rfl rfl oM ?_;intro W0 aa);go_ret;rw[<-d.o];exact OY o aa
 have b2:((k:Int)==2)=false:=sO;rw[Zn q2]at d;have ab:=ua (HV C);have an:3<=k:=oM;let⟨g,hg⟩:=nm (vG u C);rw[hg]at d ab;go_wp2_with fail;refine(jq u R0 C W1 E g hg).mono ?_;rintro e W2 ⟨rv,lv,G,rs,ls,rfl,aj,af,ae,f⟩;obtain⟨ra,rc,la,lc,rfl,rfl,hX⟩:=aj.j;rw[af,ae]at hX;have hG:=ua (show GR (zF W1 W2) R0 W2.heap.size ra la (dG g) W2 from ⟨λb q=>⟨by have:=q.1;have:=E.lt;omega,q.2⟩,zD,hX⟩);replace o:=ua (uV o A f.2);have N:=ua f.1;have al:rs.length=(dG g).nr:=by rw[show(dG g).nr=g.1.1.length from rfl,<-af,Bl]
 have ak:ls.length=(dG g).nb:=by rw[show(dG g).nb=g.1.2.length from rfl,<-ae,Bl]
 rw[al,ak];have KA:=ua (zA.a (λ_=>False) W2 (Oc #[Sl ra (dG g).nr rc,Sl la (dG g).nb lc] 34));have ag:=Yv u ab g.2;generalize dG g=gg at *;go_wp2_with fail;generalize W2.alloc _=W3 at *;refine(qW u ab rc lc g.2 W3 (hG.y (KA.h (λ_ e=>e.elim))) (N.y KA (λ_ e=>e.elim))).mono ?_;rintro e W4 ⟨rfl,f⟩;replace o:=ua (uV (o.c KA) A f.2);replace N:=ua f.1;generalize lsT u gg g.2=s at *;let⟨a5,c5,W5,Y,S,x,ad⟩:=Yf W4 s.1;have ah:=ua ad;clear ad;have HI:=ua S;have l:=ua x;by_cases q7:k<7
 .have b7:(k:Int)<7:=oM;rw[Zp q7]at d;go_wp2_with fail;refine(Q1 u R0 s.2 _ a5 s.1.size c5 (bT s.1) oM (λb q=>oH N.lt) W5 HI (N.y (yS l) (λ_ e=>e.elim))).mono ?_;rintro e W6 hM;have r:=ua (Yw (o.c (yS l)) A hM);obtain⟨a6,c6,rfl,_⟩:=hM;go_wp2;go_ret;rw[<-d.o];exact r
 have b7:¬(k:Int)<7:=oM;rw[Zn q7]at d;go_wp2;go_ret;rw[<-d.o];exact OX o HI l ah.o
def N8:List OpD:=uM 5 (uM 4 (uL (vB 97)) (uv 2 0)) (uv 0 0)
def MX:List NL:=[⟨[115],true,N8⟩]
def Pp:Gr:=gram MX []
def Vx:GS 210 MX []:=by
 refine⟨dC,dC,dC,λx a=>?_,λx a=>by cases a⟩;obtain rfl:=Bu.1 a;exact⟨PS dC,vW (vW (qE (yI dC dC dC)) (Rn (k:=0) dC) (.inl rfl)) Wn (.inr rfl),dC⟩
def N9(g:Gr)(w:Wl)(e:Ending)(w':Wl):Prop:=∃ra rc la lc,e=Rt (.agg #[Sl ra g.nr rc,Sl la g.nb lc])/\zV (zF w w') w' ra la g/\Kf w w'
def Yo{Q w w' a n B}(h:zM Q w a n B)(k:Kf w w'):zM Q w' a n B:=h.m k (λ_ _ e=>e)
def O0 w:Cs 17 #[] w (N9 Pp w):=by
 have R:=ua (zA.a (λ_=>False) w (Oc #[nS,nS] 34));have r:=ua (um w #[nS,nS] 34);have ak:w.heap.size<(w.alloc (Oc #[nS,nS] 34)).heap.size:=sM;go_enter func17,ntmps17;go_upto_region 1 with fail;generalize w.alloc _=j at *;go_wp2_with fail;refine(uP 97 j).mono ?_;rintro e W1 ⟨rfl,D⟩;have Q:Hid (Ints (λb=>b=j.heap.size) .i64 W1 (Sm j.heap.size 0) 2 (lf (vB 97))):=by
  let⟨z,_,_⟩:=(um j #[Iv 97,Iv 97] 3).x;rw[<-D]at z;refine .inr ⟨_,0,rfl,rfl,λi B=>?_⟩;rw[z];match i,B with
  |0,_=>rfl
  |1,_=>rfl
 have S:Hid (Kf j W1):=by rw[D];exact zY
 clear D;go_wp2_with fail;refine(jQ _ _ 2 (vB 97) W1 Q.o dC).mono ?_;rintro e W2 ⟨a2,c2,rfl,ae,ai⟩;have u:=ua ae.e;have T:=ua (S.c ai);go_wp2_with fail;refine(vU 2 0 W2).mono ?_;rintro e W3 ⟨a3,c3,rfl,af,O⟩;have Y:=ua af.e;replace u:=ua (Yo u O);have U:=ua (T.c O);go_wp2_with fail;refine(jR 4 a2 a3 c2 c3 (uL (vB 97)) (uv 2 0) W3 u (Ep.c (qC dC) dC) Y (Ep.c (xK _ _) dC) dC).mono ?_;rintro e W4 ⟨a4,c4,rfl,ag,aj⟩;have k:=ua ag.e;have F:=ua (U.c aj);go_wp2_with (refine Oi [115] rfl _ rfl rfl rfl rfl oM ?_;intro J E);refine(vU 0 0 J).mono ?_;rintro e L ⟨a6,c6,rfl,ah,n⟩;have I:=ua ah.e;have P:=E.2;replace k:=ua (Yo (Yo k P) n);have s:=ua ((F.c P).c n);have H:=ua (E.c.m n (λ_ _ e=>e));have z4:Hid (j.heap.size<=W4.heap.size/\J.heap.size<=L.heap.size):=⟨F.l,n.l⟩;go_wp2_with fail;refine(jR 5 a4 a6 c4 c6 (uM 4 (uL (vB 97)) (uv 2 0)) (uv 0 0) L k (Ep.c (yt _ (qC dC) (xK _ _)) dC) I (Ep.c (xK _ _) dC) dC).mono ?_;rintro e f ⟨N,y,rfl,A,o⟩;have Z:=ua A.e;have aa:=ua (let⟨a,c,e,h⟩:=A.a;(show(uM 5 (uM 4 (uL (vB 97)) (uv 2 0)) (uv 0 0)).length<=y by injection e with _ _ e3;rw[e3];exact h));have G:=ua (s.c o);have W:=ua (H.m o (λ_ _ e=>e));have z6:=ua o.l;have al:=ua s.l;replace r:=ua (r.o.a ((G.d w.heap.size ak (λe=>e))));clear A o s H k I;let⟨z,p,l⟩:=r.o.x;go_wp2;refine zL (v:=.agg #[Sl (Sm f.heap.size 0) 1 1,nS]) ?_ rfl ?_
 .simp[results,f17,go_sem, *]
 have hz:=z4.o;have h6:=z6.o;have am:=al.o;have KS:zA (λb=>b=w.heap.size) f ((f.setCell (Ad w.heap.size 0) (Sl (Sm f.heap.size 0) 1 1)).setCell (Ad w.heap.size 1) nS):=(zA.b (C:=λb=>b=w.heap.size) _ (Ad w.heap.size 0) _ rfl).c (zA.b (C:=λb=>b=w.heap.size) _ (Ad w.heap.size 1) _ rfl);have e7:((f.setCell (Ad w.heap.size 0) (Sl (Sm f.heap.size 0) 1 1)).setCell (Ad w.heap.size 1) nS).heap.size=f.heap.size:=by rw[uh,uh]
 have hN:=W.o.m KS (λb q e=>oH q.1);have hO:=Z.o.m KS (λb q e=>oH q.1);have ab:=uV R.o zD ((G.o.h (λ_ e=>e.elim)).c KS);generalize (f.setCell (Ad w.heap.size 0) (Sl (Sm f.heap.size 0) 1 1)).setCell (Ad w.heap.size 1) nS=V at *;let⟨v,_,lv⟩:=(uW V #[Sl (Sm W4.heap.size 0) 1 1,Sl N (uM 5 (uM 4 (uL (vB 97)) (uv 2 0)) (uv 0 0)).length y] 104 f.heap.size e7.symm).x;have t:=zA.a (λ_=>False) V (Oc #[Sl (Sm W4.heap.size 0) 1 1,Sl N (uM 5 (uM 4 (uL (vB 97)) (uv 2 0)) (uv 0 0)).length y] 104);have ac:=qD (hN.m t (λ_ _ e=>e));have ad:=Yo hO t;generalize V.alloc _=X at *;refine⟨_,1,none,0,rfl,⟨.inr ⟨f.heap.size,0,rfl,⟨oM,lv⟩,λi B=>?_⟩,.inl rfl⟩,ab.c t⟩;obtain rfl:i=0:=by have:i<1:=B;omega
 exact⟨⟨⟨_,_,v 0,ac.g (λb q=>⟨by have:=q.1.1;omega,q.2⟩)⟩,⟨_,_,v 1,ad.g (λb q=>⟨by have:=q.1;omega,by have:=q.2;omega⟩)⟩⟩,⟨_,_,v 1,aa.o⟩⟩
section
open M (OpD ug Gr)
def jr args w:(callFunc 62 args).run prog w=.ok (.enter 62 args) w:=by
 simp[callFunc,func62,f62,go_sem]
def PN{ops:Array Oper}{o:Oper}{a:Act}{W:Wl}{K:Act->World->Prop}{g:Exit->Act->World->Prop}{E:Prop}{u:Tp}{R j:Nat}{w0:Wl}(l:o.guard=none)(s x:Operand)(m:o.op=.call { callee:=.builtin .append,args:=#[s,x],argTypes:=#[22,22] }){z y:LI}{v yv:Vl}
  (p:a.eval s=v) (q:a.eval x=yv) (e:Aw u R j w0 z v W) (r:Src prog 1 22 yv y.length (y.map (Value.int .u8)) W) (t:z.length+y.length<=16000000) (h:∀c c' b,Hid (Aw u R j w0 (z++y) (Sl c (z.length+y.length) c') b)->K (a.put o.dst (Sl c (z.length+y.length) c')) b) :
  if Region.wanted o (yielded ops a.tmps)=true then Oper.wp prog o a W K g else E:=by
 refine jN l s x 22 22 m p q jF e.k r oM ?_;intro v5 b n i w;have d:=e.f n i;obtain⟨c,c',rfl⟩:=d.a;rw[zJ]at d ⊢;exact h c c' b d
def Aw.e{u R j w0 wr z a n c}(h:Aw u R j w0 z (Sl a n c) wr):Src prog 1 22 (Sl a n c) z.length (z.map (Value.int .u8)) wr:=by
 let⟨d,c',e⟩:=uj h.k;injection e with e1 e2 e3;subst e1 e2 e3;exact Wm underlying22 h.k (λu b=>by obtain⟨x,_,rfl⟩:=Gj.1 b;rfl)
def Ec(z:LI):Prop:=∀x,x∈z->0<=x/\x<=255
def Ec.app{a b}(h:Ec a)(k:Ec b):Ec (a++b):=λx c=>(By.1 c).elim (h x) (k x)
def TR.op:TR->OpD
 |.lf o=>o
 |.un o _=>o
 |.bn o _ _=>o
section
variable {Q C:Np} {w0 w W W':Wl} {b:Nat}
def xD:∀{T:TR} {off:Nat},TA Q w b T off->Q b->zA C w W->(∀b,Q b->¬C b)->TA Q W b T off
 |.lf o,_,h,hq,k,hC=>Em.m h hq k hC
 |.un o x,_,h,hq,k,hC=>⟨xD h.1 hq k hC,h.2.m hq k hC⟩
 |.bn o x y,_,h,hq,k,hC=>⟨xD h.1 hq k hC,xD h.2.1 hq k hC,h.2.2.m hq k hC⟩
def U8:∀{T:TR} {off:Nat},TA Q w b T off->Em Q w b (off+(T.n-1)*3) T.op
 |.lf o,_,h=>h
 |.un o x,_,h=>h.2
 |.bn o x y,_,h=>h.2.2
structure SW(t:Tp)(Q:Np)(R H:Nat)(ra la:Oa)(g:Gr)(b:Nat)(T:TR)(off:Nat)(w0:Wl)(i:Nat)(W:Wl):Prop where
 g:GR Q R H ra la g W
 a:TA Q W b T off
 r:zE t R i w0 W
variable {t:Tp} {R H i j off:Nat} {ra la:Oa} {g:Gr} {T:TR}
def SW.p(h:SW t Q R H ra la g b T off w0 i W)(d:Q b)(k:zE t R j W W'):SW t Q R H ra la g b T off w0 j W':=⟨h.g.y k.2,xD h.a d k.2 (λb q=>(h.g.q b q).1),h.r.c k⟩
def SW.d(h:SW t Q R H ra la g b T off w0 i W)(a:Q b)(k:Kf W W'):SW t Q R H ra la g b T off w0 i W':=h.p a (zE.d (zE.e h.r.1) k)
end
def Rm(t:Tp)(g:Gr)(d n:Nat)(B:Nat->OpD)(i:Nat)(z:LI)(j:Nat):Prop :=
 (z.length<=3 ^ d/\Ec z)/\∀(R:Nat) (Q:Np) (H:Nat) (ra la:Oa) (rc lc:Nat) (a:Oa) (c:Nat) (w0 w:Wl) (P:Ew),GR Q R H ra la g w->zM Q w a n B->n<=c->zE t R i w0 w->R<w0.heap.size->(∀a c W,Hid (Aw t R j w0 z (Sl a z.length c) W)->P (Rt (Sl a z.length c)) W) ->
  Cs 62 #[.agg #[Sl ra g.nr rc,Sl la g.nb lc],Sl a n c,.pointer (Sm R 0),Iv (d:Int)] w P
def Mm(t:Tp)(g:Gr)(d:Nat)(T:TR)(i:Nat)(z:LI)(j:Nat):Prop :=
 (z.length<=3 ^ d/\Ec z)/\∀(R:Nat) (Q:Np) (H:Nat) (ra la:Oa) (rc lc b off c l:Nat) (w0 w:Wl) (P:Ew),Q b->SW t Q R H ra la g b T off w0 i w->R<w0.heap.size->l=T.n->T.n<=c->(∀a c W,Hid (Aw t R j w0 z (Sl a z.length c) W)->P (Rt (Sl a z.length c)) W) ->
  Cs 62 #[.agg #[Sl ra g.nr rc,Sl la g.nb lc],Sl (Sm b off) l c,.pointer (Sm R 0),Iv (d:Int)] w P
def Mn(n:Nat)(S:Nat->Int)(c:Nat):Int×Int :=
 if (if c%3=1 then S (n-2) else S 0)<97/\99<(if c%3=1 then S (n-1) else S 1) then (97,100) else (if c%3=1 then S (n-2) else S 0,if c%3=1 then S (n-1) else S 1)
def Oh(p:Int×Int)(c:Nat):Int:=p.1+(c:Int)%(p.2-p.1+1)
def U9{n S}(a:M.bH n S)(o:0<n)c:0<=Oh (Mn n S c) c/\Oh (Mn n S c) c<=255:=by
 have q:=a.1;have g:=a.2 0 oM;have b:=a.2 1 oM;have i:=a.2 (n-2) oM;have d:=a.2 (n-1) oM;have g4:S 0<=S 1:=b.2.2.1 oM;have j:=d.2.2.1 oM;rw[show n-1-1=n-2 by omega]at j;have m:0<=(Mn n S c).1/\(Mn n S c).1<=(Mn n S c).2/\(Mn n S c).2<=255:=by
  have:=g.1;have:=b.2.1;have:=i.1;have:=d.2.1;let⟨l,f⟩:=nm (if c%3=1 then S (n-2) else S 0);let⟨h,e⟩:=nm (if c%3=1 then S (n-1) else S 1);have k:0<=l/\l<=h/\h<=255:=by rw[<-f,<-e];split<;>omega
  unfold Mn;rw[f,e];split
  .decide
  exact k
 generalize Mn n S c=p at m;have:=Int.emod_nonneg (c:Int) (show p.2-p.1+1≠0 by omega);have:=Int.emod_lt_of_pos (c:Int) (show 0<p.2-p.1+1 by omega);unfold Oh;omega
inductive KS(t:Tp)(g:Gr)(d i:Nat)(z:List Int)(j:Nat):TR->Prop
 |nil (T:TR):(T.op.e=0\/T.op.e=7\/(T.op.e=1/\T.op.sl=0))->z = []->j=i->KS t g d i z j T
 |set (o:OpD):o.e=1->0<o.sl->z = [Oh (Mn o.sl o.set (t.v i)) (t.v i)]->j=t.n i->KS t g d i z j (.lf o)
 |ref (o:OpD) (k:Nat):o.e=2->o.f=(k:Int)->k<g.nr->Rm t g d (g.a k).bl (g.a k).e i z j->KS t g d i z j (.lf o)
 |thr (o:OpD) (k:Nat):o.e=3->o.f=(k:Int)->k<g.nb->Rm t g d (g.d k).bl (g.d k).e i z j->KS t g d i z j (.lf o)
 |star (o:OpD) (x:TR) (f:Nat->List Int×Nat):o.e=6->f 0=([],t.n i)->(∀k,∃y,Mm t g ((d+1) / 2) x (f k).2 y (f (k+1)).2/\(f (k+1)).1=(f k).1++y)->(z,j)=f (t.v i%4)->KS t g d i z j (.un o x)
 |seq (o:OpD) (x y:TR) (jx:Nat) (u v:LI):o.e=4->Mm t g d x i u jx->Mm t g d y jx v j->z=u++v->KS t g d i z j (.bn o x y)
 |alt (o:OpD) (x y:TR):o.e=5->(t.v i%2=0/\Mm t g d x (t.n i) z j\/t.v i%2≠0/\Mm t g d y (t.n i) z j)->KS t g d i z j (.bn o x y)
def V0 t{g}(h:M.Sound g)d i T(b:T.Ok (M.bB g.nr g.nb))(J:T.n<=2000)(A:∀n B i,(n=0\/M.bC g.nr g.nb n B)->n<=2000->∃p:List Int×Nat,Rm t g d n B i p.1 p.2)(c:∀C,C<d+1->∀(T:TR) i,T.Ok (M.bB g.nr g.nb)->T.n<=2000->∃p:List Int×Nat,Mm t g C T i p.1 p.2):∃z j,(z.length<=3 ^ (d+1)/\Ec z)/\KS t g d i z j T:=by
 have l:Ec []:=λx u=>by cases u
 have p1:1<=3 ^ d:=Nat.one_le_pow _ _ oM;have p2:3 ^ (d+1)=3*3 ^ d:=by rw[Nat.pow_succ,Nat.mul_comm]
 cases T with
 |lf o =>
  let⟨Q,R,N,_,P,w⟩:=b.2;have m:=b.1;unfold M.bF at w;rcases(by unfold M.ar at m;split at m<;>(try split at m)<;>omega:o.e=0\/o.e=1\/o.e=2\/o.e=3) with e|e|e|e
  .exact⟨[],i,⟨zK,l⟩,.nil _ (.inl e) rfl rfl⟩
  .by_cases L:o.sl=0
   .exact⟨[],i,⟨zK,l⟩,.nil _ (.inr (.inr ⟨e,L⟩)) rfl rfl⟩
   exact⟨_,_,⟨sO,λx u=>by obtain rfl:=Bu.1 u;exact U9 (N e) oM _⟩,.set o e oM rfl rfl⟩
  all_goals obtain⟨k,b⟩:∃k:Nat,o.f=(k:Int):=⟨o.f.toNat,oM⟩
  .rw[Zn oM,Zp e]at w;let⟨p,a⟩:=A _ _ i (.inr (h.rb k oM)) (qN h (show k<g.nr by omega));exact⟨p.1,p.2,⟨by have:=a.1.1;omega,a.1.2⟩,.ref o k e b oM a⟩
  rw[Zp e]at w;have hb':(g.d k).bl=0\/M.bC g.nr g.nb (g.d k).bl (g.d k).e:=by
   cases H:(g.d k).j with
   |true=>exact .inr (h.lb k oM H)
   |false=>exact .inl (h.lz k oM H)
  let⟨p,a⟩:=A _ _ i hb' (Qg h (show k<g.nb by omega));exact⟨p.1,p.2,⟨by have:=a.1.1;omega,a.1.2⟩,.thr o k e b oM a⟩
 |un o x =>
  simp only[TR.n]at J;rcases(by have:=b.1;unfold M.ar at this;split at this<;>(try split at this)<;>omega:o.e=6\/o.e=7) with e|e
  .let⟨F,E⟩:=Classical.axiomOfChoice (λi=>c ((d+1) / 2) oM x i b.2.2 oM);obtain⟨f,G,q⟩:∃f:Nat->List Int×Nat,f 0=([],t.n i)/\∀k,f (k+1)=((f k).1++(F (f k).2).1,(F (f k).2).2):=⟨λk=>Nat.rec ([],t.n i) (λ_ p=>(p.1++(F p.2).1,(F p.2).2)) k,rfl,λk=>rfl⟩;have I:∀k,(f k).1.length<=k*3 ^ ((d+1) / 2)/\Ec (f k).1:=λk=>by
    induction k with
    |zero=>rw[G];exact⟨zK,l⟩
    |succ k O =>
     have:=E (f k).2;rw[q,zJ,Nat.succ_mul];exact⟨by have:=this.1.1;omega,O.2.app this.1.2⟩
   refine⟨_,_,⟨zP (I (t.v i%4)).1 ?_,(I _).2⟩,.star o x f e G (λk=>⟨_,by rw[q];exact E _,by rw[q]⟩) rfl⟩;rw[p2];exact Nat.mul_le_mul oM (Nat.pow_le_pow_right oM oM)
  exact⟨[],i,⟨zK,l⟩,.nil _ (.inr (.inl e)) rfl rfl⟩
 |bn o x y =>
  simp only[TR.n]at J;rcases(by have:=b.1;unfold M.ar at this;split at this<;>(try split at this)<;>omega:o.e=4\/o.e=5) with e|e
  .let⟨p,a⟩:=c d oM x i b.2.2.1 oM;let⟨r,s⟩:=c d oM y p.2 b.2.2.2 oM;exact⟨_,r.2,⟨by have:=a.1.1;have:=s.1.1;rw[zJ];omega,a.1.2.app s.1.2⟩,.seq o x y p.2 p.1 r.1 e a s rfl⟩
  by_cases D:t.v i%2=0
  .let⟨p,a⟩:=c d oM x (t.n i) b.2.2.1 oM;exact⟨p.1,p.2,⟨by have:=a.1.1;omega,a.1.2⟩,.alt o x y e (.inl ⟨D,a⟩)⟩
  let⟨p,a⟩:=c d oM y (t.n i) b.2.2.2 oM;exact⟨p.1,p.2,⟨by have:=a.1.1;omega,a.1.2⟩,.alt o x y e (.inr ⟨D,a⟩)⟩
def PO{t R j w W}(h:zE t R j w W)(c:R<w.heap.size)x:Aw t R j w [x] (Sl (Sm W.heap.size 0) 1 1) (W.alloc (Oc #[Bv x] 5)):=by
 refine⟨.inr ⟨W.heap.size,1,rfl,h.2.l,rfl,zD,λj b=>?_,λj b=>?_⟩,h.d zY,c⟩
 .obtain rfl:j=0:=by simp at b;omega
  let⟨z,_,_⟩:=(um W #[Bv x] 5).x;exact z 0
 obtain rfl:j=0:=oM;let⟨z,p,_⟩:=(um W #[Bv x] 5).x;exact⟨by rw[z 0];rfl,p 0⟩
def PP{t R i j w w0 W z v}(a:zE t R i w w0)(d:R<w.heap.size)(h:Aw t R j w0 z v W):Aw t R j w z v W :=
 ⟨uA h.k (λb q=>zP a.2.l q),⟨h.on.1,a.2.c h.on.2⟩,d⟩
def V1 t{g d i j z T}(hk:T.Ok (M.bB g.nr g.nb))(hn:T.n<=2000)(hd:d+1<=14)(hV:M.Sound g)(hK:KS t g d i z j T)(hz:z.length<=3 ^ (d+1)/\Ec z):Mm t g (d+1) T i z j:=by
 refine⟨hz,λR Q H ra la rc lc b off c l w0 w P J h hR hl hc bh=>?_⟩;have L:=ua bh;have HK:=ua hk;have a6:=ua hK;have r1:=hV.r2;have r2:=hV.l2;have bz:=h.r.1.lt;obtain⟨q,ao⟩:∃q,T.n=q+1:=⟨T.n-1,by have:=T.n0;omega⟩;have HQ:=ua ao;let⟨c0,⟨sa,sc,c1,bf⟩,c2⟩:=U8 h.a;rw[ao,Nj]at c0 c1 c2;rw[ao]at hl hc hn;subst hl;have b4:=ud c0;have x3:(q:Int)<((q+1:Nat):Int):=oM;let⟨d1,ay⟩:=nm (d+1);have aq:=ua ay;have zd:=uB d oM;have hd1':(d1:Int)-1=(d:Int):=oM;have hd0':¬(d1:Int)<=0:=oM;have bn:(d1:Int) / 2=((d1 / 2:Nat):Int):=oM;rw[ay];have ap:w.heap.size≠R:=oM;have bx:w.heap.size+1≠R:=oM;have z6:=uB q oM;have b5:q<=c:=oM;have b7:¬c=0:=oM;have a7:=ua h;have a8:=ua bf;clear bh hk hK h bf ay ao;go_enter func62,ntmps62;go_upto_region 5 with fail;generalize hW:(w.alloc _).alloc _=Y;have K0:Kf w Y:=hW▸zY.c zY;have BG:Hid (zG Y w.heap.size #[Sl ra g.nr rc,Sl la g.nb lc]):=hW▸(Eb w).al _;have BO:Hid (zG Y (w.heap.size+1) #[Iv T.op.e,Sl sa T.op.sl sc,Iv T.op.f]):=hW▸uW _ _ _ _ sM;have B:=ua (a7.d J K0);have ah:=ua (a8.m K0 (λ_ _ e=>e));clear hW c0 c1 c2 K0 a7 a8;let⟨z0,p0,E⟩:=BG.x;let⟨D,p1,l1⟩:=BO.x;have bk:=a6;clear a6;cases bk with
 |nil _ e Z ej =>
  subst Z ej;have hF:=ua (Aw.nil B.r hR);rcases e with e|e|⟨e,es⟩
  .rw[e]at D;go_wp2;exact L.o _ _ _ hF
  .rw[e]at D;go_wp2;exact L.o _ _ _ hF
  rw[e,es]at D;go_wp2;exact L.o _ _ _ hF
 |set o e es Z ej =>
  simp only[TR.op]at *;have hC:=HK.o.2.2.2.1 e;have hv:=t.a i;obtain⟨sb,so,rfl,bu,ae⟩:=ah.o.resolve_left oM;have bq:2<=o.sl:=oH hC.1;have u0:World.cell? _ (Ad sb so)=_:=ae 0 oM;have u1:=ae 1 oM;have u2:=ae (o.sl-2) oM;have u3:=ae (o.sl-1) oM;have g0:=hC.2 0 oM;have g1:=hC.2 1 oM;have g2:=hC.2 (o.sl-2) oM;have g3:=hC.2 (o.sl-1) oM;have aj:=(B.o.g.q sb bu).1;have g4:=g1.2.2.1 oM;have g5:=g3.2.2.1 (oH hC.1);rw[show o.sl-1-1=o.sl-2 by omega]at g5;replace g0:=g0.1;replace g1:=g1.2.1;replace g2:=g2.1;replace g3:=g3.2.1;have S:=ua Z;unfold Mn at S;let⟨m,hm⟩:=nm (t.v i%3);rw[hm]at S;have hm':(t.v i:Int)%3=(m:Int):=oM;have y2:(o.sl:Int)-2=((o.sl-2:Nat):Int):=oM;have y3:(o.sl:Int)-1=((o.sl-1:Nat):Int):=oM;have b9:(1:Int)<(o.sl:Int):=oM;have b8:(0:Int)<(o.sl:Int):=oM;have cc:0<o.sl:=es;have cd:1<o.sl:=oM;have ce:=M.cA hC;rw[e]at D BO;subst ej;generalize o.set 0=A at *;generalize o.set 1=A1 at *;generalize o.set (o.sl-2)=C at *;generalize o.set (o.sl-1)=C1 at *;generalize o.sl=n at *;let⟨n2,bd⟩:=nm (n-2);let⟨n1,bb⟩:=nm (n-1);rw[bd]at u2 y2;rw[bb]at u3 y3;have b3:(n2:Int)<(n:Int):=oM;have b2:(n1:Int)<(n:Int):=oM;clear hC ae Z hm bd bb bq;go_wp2_with fail;refine(uE t R i Y B.o.r.1).mono ?_;rintro e W1 ⟨rfl,I⟩;have HR:=ua (B.o.r.c I);replace BO:=ua (BO.o.b I.2 bx);replace u0:=I.2.m aj u0;replace u1:=I.2.m aj u1;replace u2:=I.2.m aj u2;replace u3:=I.2.m aj u3;have cg:=ud u0;clear D p1 l1 z0 p0 I;let⟨D,p1,l1⟩:=BO.o.x;generalize t.v i=k at *;let⟨E,an⟩:=nm (if m=1 then C else A);let⟨U,ak⟩:=nm (if m=1 then C1 else A1);rw[an,ak]at S;have a1:0<=E/\E<=U/\U<=255:=by
   rw[<-an,<-ak];split<;>omega
  have HH:Hid ((if m=1 then C else A)=E/\(if m=1 then C1 else A1)=U):=⟨an,ak⟩;clear an ak;go_upto_if 53 with fail;simp only[hm'];go_cut [12,13] (λx y wc=>x=Iv E/\y=Iv U/\wc=W1)
  .by_cases X:m=1
   .have b1:((m:Int)==1)=true:=(by simp[X]);rw[Zp X,Zp X]at HH;clear X;go_wp2;go_meet;exact⟨by rw[HH.o.1],by rw[HH.o.2],rfl⟩
   have b1:((m:Int)==1)=false:=sO;rw[Zn X,Zn X]at HH;clear X;go_wp2;go_meet;exact⟨by rw[HH.o.1],by rw[HH.o.2],rfl⟩
  obtain⟨rfl,rfl,hw⟩:=hcut;subst hw;clear hm' D p1 u0 u1 u2 u3;have ai:∀p:Int×Int,0<=p.1->p.1<=p.2->p.2<=255->0<=Oh p k/\Oh p k<=255:=λp h1 h2 h3=>by
   have:=Int.emod_nonneg (k:Int) (show p.2-p.1+1≠0 by omega);have:=Int.emod_lt_of_pos (k:Int) (show 0<p.2-p.1+1 by omega);unfold Oh;omega
  by_cases X:E<97/\99<U
  .obtain⟨X,q2⟩:=X;rw[Zp ⟨X,q2⟩]at S;have hx:=ai (97,100) dC dC dC;unfold Oh at S hx;clear ai;go_wp2;have hF:=PO HR hR (97+(k:Int)%4);rw[S.o]at L;exact L _ _ _ hF
  rw[Zn X]at S;have hx:=ai (E,U) a1.1 a1.2.1 a1.2.2;unfold Oh at S hx;have cf:¬U-E+1=0:=oM;clear ai;rcases(by omega:¬E<97\/(E<97/\¬99<U)) with q2|⟨q2,q3⟩;all_goals
   go_wp2;rw[S.o]at L;generalize E+(k:Int)%(U-E+1)=x at *;rw[show wrap64 x%256=x by unfold wrap64;omega];exact L _ _ _ (PO HR hR _)
 |ref o k e ea hk F =>
  simp only[TR.op]at D;rw[e,ea]at D;rcases B.g.g.c with q0|⟨rb,ro,rfl,bt,hL⟩
  .omega
  let⟨na,nc,ba,bc,v0,hn,v1,ac,ad⟩:=(hL k hk).e;have lb:=ud v1;have hk':(k:Int)<(g.nr:Int):=oM;have O:=ua (F.2 R Q H _ la rc lc ba bc w0 Y.drew · (B.g.y Cj) (ac.m (zA.i (λ_=>False) _) (λ_ _ e=>e)) ad (zE.d B.r Cj) hR);clear F hL hn v0 ac ad;go_wp2_with fail;go_region_law (refine uF jr rfl _ _ rfl (ys:=#[.agg #[Sl (Sm rb ro) g.nr rc,Sl la g.nb lc],Sl ba (g.a k).bl bc,.pointer (Sm R 0),Iv d]) (by simp[Act.eval]) (O _ λa2 c2 W2 G=>⟨_,rfl,?_⟩));all_goals
   go_wp2;go_ret;exact L _ _ _ G
 |thr o k e ea hk F =>
  simp only[TR.op]at D;rw[e,ea]at D;rcases B.g.g.e with q0|⟨rb,ro,rfl,bt,hL⟩
  .omega
  let⟨na,nc,ba,bc,v0,hn,vh,v1,ac,ad⟩:=(hL k hk).e;have lb:=ud v1;have hk':(k:Int)<(g.nb:Int):=oM;have O:=ua (F.2 R Q H ra _ rc lc ba bc w0 Y.drew · (B.g.y Cj) (ac.m (zA.i (λ_=>False) _) (λ_ _ e=>e)) ad (zE.d B.r Cj) hR);clear F hL hn v0 vh ac ad;go_wp2_with fail;go_region_law (refine uF jr rfl _ _ rfl (ys:=#[.agg #[Sl ra g.nr rc,Sl (Sm rb ro) g.nb lc],Sl ba (g.d k).bl bc,.pointer (Sm R 0),Iv d]) (by simp[Act.eval]) (O _ λa2 c2 W2 G=>⟨_,rfl,?_⟩));all_goals
   go_wp2;go_ret;exact L _ _ _ G
 |star o x f e U hf Z =>
  have G:=ua hf;have S:=ua Z;have H0:=ua U;have hv:=t.a i;simp only[TR.op]at D;rw[e]at D;have bg:x.n=q:=by have:=HQ.o;simp only[TR.n]at this;omega
  have b6:¬c=q:=oM;have hp:3 ^ (d1 / 2)<=3 ^ 13:=Nat.pow_le_pow_right oM (oH aq.o);rw[show 3 ^ 13=1594323 from rfl]at hp;have bo:=uB (d1 / 2) (oH aq);let⟨dh,az⟩:=nm (d1 / 2);rw[az]at bn bo hp;have bj:Hid (∀k,∃y:List Int,y.length<=1594323/\Mm t g dh x (f k).2 y (f (k+1)).2/\(f (k+1)).1=(f k).1++y):=λk=>by
   let⟨y,h1,h2⟩:=G k;rw[aq.o,az]at h1;exact⟨y,zP h1.1.1 hp,h1,h2⟩
  have HX:=ua bg;clear hf Z U az G hp bg;go_wp2_with fail;refine(uE t R i Y B.r.1).mono ?_;rintro e W1 ⟨rfl,I⟩;replace B:=ua (B.p J I);replace BG:=ua (BG.b I.2 ap);clear z0 p0 E D p1 l1 I;generalize t.v i=k at *;let⟨m,hm⟩:=nm (k%4);have hm':(k:Int)%4=(m:Int):=oM;have cb:m<=3:=oM;rw[hm]at S;clear hm;go_upto_region 26 with fail;simp only[hm'];clear hm';go_loopw [15,16] (λov iv wr=>∃k:Nat,k<=m/\iv=Iv k/\(f k).1.length<=k*1594323/\Aw t R (f k).2 W1 (f k).1 ov wr) (λ_ iv _=>m-(intOf iv).toNat)
  .exact⟨0,zK,rfl,by rw[H0.o];exact zK,by rw[H0.o];exact .nil (zE.e B.r.1) B.r.1.lt⟩
  obtain⟨k,hk,rfl,bp,V⟩:=hrel;obtain⟨va,vc,rfl⟩:=V.a;have ab:=ua V;have am:=V.on.2;clear V;by_cases ca:k<m
  .have hlt':(k:Int)<(m:Int):=oM;let⟨y,bw,F,a9⟩:=bj k;have au:=ua a9;have HL:Hid ((f k).1.length+y.length<=(k+1)*1594323/\(f k).1.length+y.length<=16000000):=⟨oM,oM⟩;have O:=ua (F.2 R Q H ra la rc lc b off c q wr wr.drew · J ⟨(B.o.g.y am).y Cj,xD (xD B.o.a.1 J am (λb q=>(B.o.g.q b q).1)) J (zA.i (λ_=>False) _) (λ_ _ e=>e),zE.d (zE.e ab.o.on.1) Cj⟩ ab.o.on.1.lt HX.o.symm (oH HX.o));let⟨z0,p0,E⟩:=(BG.b am ap).x;clear a9 F bw am bp;let⟨f1,a0⟩:=nm (f (k+1));have a4:=ua a0;rw[a0]at au O;clear a0;generalize f k=f0 at *;go_wp2_with fail;go_region_law (first|(refine uF jr rfl _ _ rfl (ys:=#[.agg #[Sl ra g.nr rc,Sl la g.nb lc],Sl (Sm b off) q c,.pointer (Sm R 0),Iv dh]) (by simp[Act.eval]) (O _ λya yc W3 V=>⟨_,rfl,?_⟩);replace ab:=ua (ab.p V.on);have aw:=ua (Aw.e V);clear V)|(refine PN rfl _ _ rfl (v:=Sl va f0.1.length vc) (yv:=Sl ya y.length yc) (by simp[Act.eval]) (by simp[Act.eval]) ab aw HL.2 ?_;intro a5 c5 W5 av));all_goals
    go_wp2;go_roundw
    .exact⟨k+1,oM,by go_num,by rw[a4.o,au.o,zJ];exact HL.1,by rw[a4.o,au.o];exact av⟩
    simp[intOf];omega
  obtain rfl:k=m:=oM;have hlt':¬(k:Int)<(k:Int):=oM;obtain⟨rfl,rfl⟩:z=(f k).1/\j=(f k).2:=by rw[<-S.o];exact⟨rfl,rfl⟩
  go_wp2;exact L _ _ _ (PP B.r hR ab)
 |seq o x y jx u v e hX hY Z =>
  have hp:3 ^ d<=3 ^ 13:=Nat.pow_le_pow_right oM oM;have HL:Hid (u.length+v.length<=16000000):=by show _<=_;have:=hX.1.1;have:=hY.1.1;have:3 ^ 13=1594323:=rfl;omega
  subst Z;simp only[TR.op]at D;have af:x.n+y.n=q:=by have:=HQ.o;simp only[TR.n]at this;omega
  have a3:=y.n0;let⟨s,hs⟩:=nm x.n;have N:=ua hs;have aa:=ua af;have hpn':(s:Int)<(q:Int):=oM;have br:(s:Int)<=(q:Int):=oM;have bs:s<=q:=oM;have z5:=uB s oM;have ax:s<=c:=oM;have bm:¬c=s:=oM;rw[e]at D;have HX:=ua hX.2;have HY:=ua hY.2;clear hX hY hp hs af a3;go_wp2_with fail;refine(yM B.a HK aa oM).mono ?_;rintro e W ⟨rfl,hw⟩;subst W;rw[N.o];have O:=ua (HX R Q H ra la rc lc b off c s Y Y.drew · J ⟨B.g.y Cj,xD B.a.1 J (zA.i (λ_=>False) _) (λ_ _ e=>e),zE.d (zE.e B.r.1) Cj⟩ B.r.1.lt N.symm (by rw[N.o];exact ax));go_wp2_with fail;go_region_law (refine uF jr rfl _ _ rfl (ys:=#[.agg #[Sl ra g.nr rc,Sl la g.nb lc],Sl (Sm b off) s c,.pointer (Sm R 0),Iv d]) (by simp[Act.eval]) (O _ λva vc W2 G=>⟨_,rfl,?_⟩));have ag:=ua (B.p J G.on);clear z0 p0 E D p1 l1;let⟨z0,p0,E⟩:=(BG.b G.on.2 ap).x;have bi:=ua (HY.o R Q H ra la rc lc b (off+s*3) (c-s) (q-s) W2 W2.drew · J ⟨ag.o.g.y Cj,N.o▸xD ag.o.a.2.1 J (zA.i (λ_=>False) _) (λ_ _ e=>e),zE.d (zE.e ag.o.r.1) Cj⟩ ag.o.r.1.lt (oG aa.o N.o) (oG aa.o N.o));go_wp2_with fail;go_region_law (first|(refine uF jr rfl _ _ rfl (ys:=#[.agg #[Sl ra g.nr rc,Sl la g.nb lc],Sl (Sm b (off+s*3)) (q-s) (c-s),.pointer (Sm R 0),Iv d]) (by simp[Act.eval]) (bi _ λya yc W3 V=>⟨_,rfl,?_⟩);replace G:=ua (G.p V.on);have aw:=ua (Aw.e V);clear V)|(refine PN rfl _ _ rfl (v:=Sl va u.length vc) (yv:=Sl ya v.length yc) (by simp[Act.eval]) (by simp[Act.eval]) G aw HL ?_;intro a5 c5 W5 av));all_goals
   rw[zJ]at L;go_wp2;go_ret;exact L _ _ _ (PP B.r hR av)
 |alt o x y e F =>
  have ah:=ua F;have hv:=t.a i;simp only[TR.op]at D;have af:x.n+y.n=q:=by have:=HQ.o;simp only[TR.n]at this;omega
  have a3:=y.n0;let⟨s,hs⟩:=nm x.n;have N:=ua hs;have aa:=ua af;have hpn':(s:Int)<(q:Int):=oM;have br:(s:Int)<=(q:Int):=oM;have bs:s<=q:=oM;have z5:=uB s oM;have ax:s<=c:=oM;have bm:¬c=s:=oM;rw[e]at D;clear F hs af a3;go_wp2_with fail;refine(yM B.a HK aa oM).mono ?_;rintro e W ⟨rfl,hw⟩;subst W;rw[N.o];go_wp2_with fail;refine(uE t R i Y B.r.1).mono ?_;rintro e W1 ⟨rfl,I⟩;replace B:=ua (B.p J I);replace BG:=ua (BG.b I.2 ap);clear z0 p0 E D p1 l1 I;let⟨z0,p0,E⟩:=BG.x;have be:=ah;clear ah;generalize t.v i=k at *;let⟨m,hm⟩:=nm (k%2);have hm':(k:Int)%2=(m:Int):=oM;rw[hm]at be;clear hm;rcases be with⟨h2,F⟩|⟨h2,F⟩
  .have b0:((m:Int)==0)=true:=(by simp[h2]);have O:=ua (F.2 R Q H ra la rc lc b off c s w0 W1.drew · J ⟨B.g.y Cj,xD B.a.1 J (zA.i (λ_=>False) _) (λ_ _ e=>e),zE.d B.r Cj⟩ hR N.symm (by rw[N.o];exact ax));clear h2 F;go_wp2_with fail;go_region_law (refine uF jr rfl _ _ rfl (ys:=#[.agg #[Sl ra g.nr rc,Sl la g.nb lc],Sl (Sm b off) s c,.pointer (Sm R 0),Iv d]) (by simp[Act.eval]) (O _ λa2 c2 W2 G=>⟨_,rfl,?_⟩));all_goals
    go_wp2;go_ret;exact L _ _ _ G
  have b0:((m:Int)==0)=false:=sO;have O:=ua (F.2 R Q H ra la rc lc b (off+s*3) (c-s) (q-s) w0 W1.drew · J ⟨B.o.g.y Cj,N.o▸xD B.o.a.2.1 J (zA.i (λ_=>False) _) (λ_ _ e=>e),zE.d B.o.r Cj⟩ hR (oG aa.o N.o) (oG aa.o N.o));clear h2 F;go_wp2_with fail;go_region_law (refine uF jr rfl _ _ rfl (ys:=#[.agg #[Sl ra g.nr rc,Sl la g.nb lc],Sl (Sm b (off+s*3)) (q-s) (c-s),.pointer (Sm R 0),Iv d]) (by simp[Act.eval]) (O _ λa2 c2 W2 G=>⟨_,rfl,?_⟩));all_goals
   go_wp2;go_ret;exact L _ _ _ G
def PQ t g d n B i(h:d=0\/n=0)(s:d<=14):Rm t g d n B i [] i:=by
 refine⟨⟨zK,λx q=>by cases q⟩,λR Q H ra la rc lc a c w0 w P m l p j o k=>?_⟩;have f:=ua k;have e:=ua (Aw.nil (zE.d j (zA.a _ w (Oc #[Sl ra g.nr rc,Sl la g.nb lc] 34))) o);clear m l j p k;by_cases b:d=0
 .subst b;go_enter func62,ntmps62;go_wp2;exact f _ _ _ e
 obtain rfl:=h.resolve_left b;have r:¬(d:Int)<=0:=oM;clear b h;go_enter func62,ntmps62;go_wp2;exact f _ _ _ e
def V2 t{g}(D:M.Sound g)d:d<=14->(∀n B i,(n=0\/M.bC g.nr g.nb n B)->n<=2000->∃p:List Int×Nat,Rm t g d n B i p.1 p.2)/\∀(T:TR) i,T.Ok (M.bB g.nr g.nb)->T.n<=2000->∃p:List Int×Nat,Mm t g d T i p.1 p.2:=by
 induction d using Nat.strongRecOn with
 |_ d F =>
  intro x;have C:∀(T:TR) i,T.Ok (M.bB g.nr g.nb)->T.n<=2000->∃p:List Int×Nat,Mm t g d T i p.1 p.2:=λT i k m=>by
   by_cases f:d=0
   .have h:=PQ t g d T.n T.c i (.inl f) x;exact⟨([],i),h.1,λR Q H ra la rc lc b off c l w0 w P y u s V v A=>V▸h.2 R Q H ra la rc lc _ c w0 w P u.g (.inr ⟨b,off,rfl,y,jL u.a⟩) v u.r s A⟩
   obtain⟨d,rfl⟩:∃e,d=e+1:=⟨d-1,oM⟩;let⟨z,j,W,L⟩:=V0 t D d i T k m (F d oM oM).1 (λG S=>(F G S oM).2);exact⟨(z,j),V1 t k m x D L W⟩
  refine⟨λn B i O m=>?_,C⟩;by_cases f:n=0
  .exact⟨([],i),PQ t g d n B i (.inr f) x⟩
  obtain⟨T,rfl,k,I,_⟩:=qT (O.resolve_left f);let⟨p,E⟩:=C T i k m;refine⟨p,E.1,λR Q H ra la rc lc a c w0 w P J q v s N A=>?_⟩;obtain⟨b,o,rfl,y,q⟩:=q.resolve_left f;have:=Ly (off:=o) (i:=0) I (λj U=>by rw[Bp];exact q j U);rw[Gf,Dy]at this;exact E.2 R Q H ra la rc lc b o c _ w0 w P y ⟨J,this,s⟩ N rfl v A
open Classical in
noncomputable def smX (t:Tp) (g:Gr) (i:Nat):List Int×Nat:=if h:∃p:List Int×Nat,Rm t g 14 (g.a 0).bl (g.a 0).e i p.1 p.2 then h.choose else ([],i)
def PR t{g}(b:M.Sound g)i:Rm t g 14 (g.a 0).bl (g.a 0).e i (smX t g i).1 (smX t g i).2:=by
 have h:=(V2 t b 14 zD).1 (g.a 0).bl (g.a 0).e i (.inr (b.rb 0 b.r1)) (qN b b.r1);unfold smX;rw[dif_pos h];exact h.choose_spec
end
namespace Y
open M (OpD ug Gr uw)
def utB args w:(callFunc 125 args).run prog w=.ok (.enter 125 args) w:=by
 simp[callFunc,func125,f125,go_sem]
def RunIs(w:Wl)(e:Ending)(w':Wl):Prop:=∃c p l f a d b s t g i h,e=Rt (.agg #[Iv c,Iv p,Iv l,Iv f,Sl a d b,Iv s,Iv t,Sl g i h])/\Bw w w'
abbrev LJ:Array Value:=#[Iv 0,Iv 0,Iv 0,Iv 0,nS,Iv 0,Iv 0,nS]
def Od(w:Wl)(b:Nat):Prop:=b<w.heap.size
def ruI(w:Wl)(il:Nat)(wr:Wl):Prop :=
 ∃(a:Int) (p n k:Nat) (f t:Int) (d:Bool) (c l:Int) (st:List Cf) (b:Oa) (e:Nat) (la:Oa) (ln lc:Nat) (g:Oa) (h xc:Nat),zG wr (w.heap.size+1) (yv a p b n e la ln lc f g h xc k t d c l)/\zG wr w.heap.size LJ/\p<=il/\k<=20000/\R (Od w) w 2 il k n st b e la ln lc g h wr
def cK(wr:World)(b:Nat):Nat:=match wr.cell? (Ad b 6) with|some (.int _ z)=>z.toNat|_=>0
def cJ(wr:World)(b:Nat):Nat:=match wr.cell? (Ad b 8) with|some (.bool true)=>0|_=>1
section
variable {il m n j k:Nat} {st:List Cf} {ka:Oa} {kc:Nat} {la:Oa} {ln lc:Nat} {xa:Oa} {xn xc:Nat} {w W W' Z:Wl} {a f t c l:Int} {p:Nat} {d:Bool} {A:Np}
def E1{b:Nat}(h:zG W b (yv a p ka n kc la ln lc f xa xn xc k t d c l)):2*(20000-cK W b)+cJ W b=2*(20000-k)+if d then 0 else 1:=by
 unfold cK cJ;rw[h.x.1 6,h.x.1 8];cases d<;>simp
def cV(w:Wl)(b:Nat)(a c v2 v3 v4 v5 v6 v7 v8 e d:Vl):Wl:=(((((((((((w.setCell (Ad b 0) a).setCell (Ad b 1) c).setCell (Ad b 2) v2).setCell (Ad b 3) v3).setCell (Ad b 4) v4).setCell (Ad b 5) v5).setCell (Ad b 6) v6).setCell (Ad b 7) v7).setCell (Ad b 8) v8).setCell (Ad b 9) e).setCell (Ad b 10) d)
def dQ{h j o c3 q r s u v x m:Vl}{M:Nat}(E:R (Od w) w 2 il k n st ka kc la ln lc xa xn W)(A:zG W (w.heap.size+1) #[h,j,o,c3,q,r,s,u,v,x,m])(y:zG W w.heap.size LJ)(D:p<=il)(B:k<=20000)(z:2*(20000-k)+(if d then 0 else 1)<M)(b:Int)(C:b=k) :
  ruI w il (cV W (w.heap.size+1) (Iv a) (Iv (p:Int)) (Sl ka n kc) (Sl la ln lc) (Iv f) (Sl xa xn xc) (Iv b) (Iv t) (.bool d) (Iv c) (Iv l)) /\
   2*(20000-cK (cV W (w.heap.size+1) (Iv a) (Iv (p:Int)) (Sl ka n kc) (Sl la ln lc) (Iv f) (Sl xa xn xc) (Iv b) (Iv t) (.bool d) (Iv c) (Iv l)) (w.heap.size+1))+cJ (cV W (w.heap.size+1) (Iv a) (Iv (p:Int)) (Sl ka n kc) (Sl la ln lc) (Iv f) (Sl xa xn xc) (Iv b) (Iv t) (.bool d) (Iv c) (Iv l)) (w.heap.size+1)<M:=by
 subst C;have g:zG (cV W (w.heap.size+1) (Iv a) (Iv p) (Sl ka n kc) (Sl la ln lc) (Iv f) (Sl xa xn xc) (Iv k) (Iv t) (.bool d) (Iv c) (Iv l)) (w.heap.size+1) (yv a p ka n kc la ln lc f xa xn xc k t d c l):=by
  have e:=((((((((((A.set 0 (Iv a)).set 1 (Iv p)).set 2 (Sl ka n kc)).set 3 (Sl la ln lc)).set 4 (Iv f)).set 5 (Sl xa xn xc)).set 6 (Iv k)).set 7 (Iv t)).set 8 (.bool d)).set 9 (Iv c)).set 10 (Iv l);simp only[List.setIfInBounds_toArray,List.set_cons_zero,List.set_cons_succ]at e;exact e
 refine⟨⟨a,p,n,k,f,t,d,c,l,st,ka,kc,la,ln,lc,xa,xn,xc,g,?_,D,B,?_⟩,by rw[E1 g];exact z⟩
 .unfold cV;repeat with_reducible first|exact y|refine zG.i ?_ _ _ _ oM
 unfold cV;repeat with_reducible first|exact E|refine Lz ?_ oM oM
def R.e(h:R (Od w) w j il m n st ka kc la ln lc xa xn W):Bw w W:=⟨h.k.os,h.k.g,h.k.f,h.k.l,λb a=>h.k.d b a (λq=>q a)⟩
def SY.e(h:SY A il m n st ka kc la ln lc xa xn W):∃cs,Src prog 3 42 (Sl la ln lc) ln cs W:=let⟨_,g⟩:=h.g;let⟨cs,l1,l2⟩:=g.l;⟨cs,Wm underlying42 l1 l2⟩
end
def srun_y Q Q' a n c D ia il ic I w(B:Dz Q w a n D)(aa:∀i,i<n->(D i).sl<=512)(hn:n<=2000000)(hI:Ints Q' .u8 w ia il I)(hB:Cz il I)(az:il<=1048576) :
  Cs 63 #[Sl a n c,Sl ia il ic,Iv 20000,Iv 200] w (RunIs w):=by
 have af:=ua aa;have HA:=ua B;have HI:=ua hI;have ap:=ua hB;clear B hI hB aa;go_enter func63,ntmps63;go_upto_region 4 with fail;generalize U:w.alloc _=X;have E:Hid (zG X w.heap.size LJ):=U▸um w _ 44;have ag:Hid (Bw w X):=U▸zO w;have ah:Hid (X.heap.size=w.heap.size+1):=by show _=_;rw[<-U];simp
 clear U;go_loopw [9] (λiv wr=>(∃k:Nat,k<=n/\iv=Iv k)/\wr=X) (λiv _=>n-(intOf iv).toNat)
 .exact⟨⟨0,zK,rfl⟩,rfl⟩
 obtain⟨⟨k,g,rfl⟩,hw⟩:=hrel;subst hw;by_cases an:k<n
 .rcases HA.h ag with h0|⟨b,off,rfl,hq,B⟩
  .omega
  let⟨N,c1,c2,sa,sc,c3,Z⟩:=B k an;have lb:=ud N;have hlt':(k:Int)<(n:Int):=oM;have a8:=af k an;generalize (D k).sl=sl at *;have hbig':¬(512:Int)<(sl:Int):=oM;clear B Z;go_wp2;go_roundw
  .exact⟨⟨k+1,oM,by go_num⟩,trivial⟩
  simp[intOf];omega
 obtain rfl:k=n:=oM;go_wp2;rw[ah.o];go_loopw [41] (λpv wr=>ruI w il wr) (λpv wr=>2*(20000-cK wr (w.heap.size+1))+cJ wr (w.heap.size+1))
 .have hz:=ah;have h0:SY (Od w) il 0 0 [] none 0 none 0 0 none 0 w:=⟨⟨λ_=>0,.inl ⟨rfl,rfl,rfl⟩,⟨[],.inl ⟨rfl,rfl,rfl⟩,λu hu=>(by cases hu)⟩,⟨λ_=>0,.inl rfl⟩,λb hb=>aB rfl hb⟩,λb hb=>hb,rfl,oM,oM,oM,⟨λf hf=>(by cases hf),.nil⟩⟩;exact⟨0,0,0,0,0,0,false,0,0,[],none,0,none,0,0,none,0,0,uW _ Fl 218 _ hz.symm,E.al _,zK,oM,R.c h0 (uf ag Bi) (by rw[Ck,hz];exact zD)⟩
 obtain⟨ad,p,m,s,f,t,d,j,lb,st,ka,kc,la,ln,lc,J,L,xc,S,br,G,Z,hr⟩:=hrel;have A:=ua hr;have H:=ua S;replace E:=ua br;have ac:=ua (E1 S);let⟨z,q1,lz⟩:=S.x;unfold yv at z;clear S br hr;have a6:(s:Int)<=20000:=oM;cases d with
 |false =>
  go_upto_region 10 with fail;go_cut [53] (λv wc=>(∃q:Bool,v=.bool q/\Hid (q=false->∃i:Nat,i<k/\ad=i))/\wc=wr)
  .by_cases ha:ad<0
   .go_wp2;go_meet;exact⟨⟨_,rfl,λe=>by simp at e⟩,rfl⟩
   go_wp2;go_meet;exact⟨⟨_,rfl,λe=>⟨ad.toNat,by simp at e;omega,oM⟩⟩,rfl⟩
  obtain⟨⟨ax,rfl,ai⟩,hw⟩:=hcut;subst hw;cases ax with
  |true =>
   go_wp2_with fail;refine dE 4 A.y G λW C g=>?_;have r:=ua λ(a f t:Int) (xc:Nat) (c l:Int)=>dQ (a:=a) (p:=p) (f:=f) (t:=t) (xc:=xc) (c:=c) (l:=l) (d:=true) (M:=2*(20000-cK wc (w.heap.size+1))+cJ wc (w.heap.size+1)) (A.nx C g) (zG.own H g oM oM) (zG.own E g oM oM) G Z (by rw[ac.o];simp) s rfl;let⟨z,q1,lz⟩:=(zG.own H g oM oM).x;clear C g;unfold yv at *;go_wp2;go_roundw
   .exact(r _ _ _ _ _ _).1
   exact(r _ _ _ _ _ _).2
  |false =>
   obtain⟨i,hi,rfl⟩:=ai rfl;clear ai;cases ak:((s:Int)==20000) with
   |true =>
    go_wp2_with fail;refine dE 3 A.y G λW C g=>?_;have r:=ua λ(a f t:Int) (xc:Nat) (c l:Int)=>dQ (a:=a) (p:=p) (f:=f) (t:=t) (xc:=xc) (c:=c) (l:=l) (d:=true) (M:=2*(20000-cK wc (w.heap.size+1))+cJ wc (w.heap.size+1)) (A.nx C g) (zG.own H g oM oM) (zG.own E g oM oM) G Z (by rw[ac.o];simp) s rfl;let⟨z,q1,lz⟩:=(zG.own H g oM oM).x;clear C g;unfold yv at *;go_wp2;go_roundw
    .exact(r _ _ _ _ _ _).1
    exact(r _ _ _ _ _ _).2
   |false =>
    have a1:s+1<=20000:=(by simp at ak;omega);rcases HA.o with h0|⟨b,off,rfl,a0,B⟩
    .omega
    let⟨N,c1,c2,sa,sc,c3,hS⟩:=B i hi;have a9:=ud N;have T:=A.set (w.heap.size+1) 6 (Iv ((s:Int)+1)) oM oM;have F:=T.e;replace N:=ue N F;replace c1:=ue c1 F;replace c2:=ue c2 F;replace c3:=ue c3 F;have aa:=af i hi;generalize D i=x at *;have BY:Hid (zG (wc.setCell (Ad (w.heap.size+1) 6) (Iv ((s:Int)+1))) (w.heap.size+1) #[Iv i,Iv p,Sl ka m kc,Sl la ln lc,Iv f,Sl J L xc,Iv ((s:Int)+1),Iv t,Bf,Iv j,Iv lb]):=H.o.set 6 _;have BZ:=ua (E.i (w.heap.size+1) 6 (Iv ((s:Int)+1)) oM);have V:=λ(P:Ew) next=>uyq (P:=P) (k:=s+1) (a:=(i:Int)) (f:=f) (t:=t) (d:=false) (c:=j) (l:=lb) (xc:=xc) (ic:=ic) (sc:=sc) x.e x.f x.to 200 (T.y.q (zH _).drew) G oM (hS.h F.drew) (HI.h F.drew) ap aa az ⟨oM,oM⟩ oM next;unfold yv at V;simp only[Te,Int.natCast_one]at V;have au:=ua V;have aw:=ua (T.q (zH _).drew);have a5:(i:Int)<(k:Int):=oM;have a7:(s:Int)+1<=20000:=oM;clear B hS T F V a0 ak;go_wp2;generalize wc.setCell (Ad (w.heap.size+1) 6) (Iv ((s:Int)+1))=Y at *;let⟨zy,py,bc⟩:=BY.x;go_region_law (refine uF utB rfl #[.tmp 66,.tmp 71,.tmp 72,.tmp 73] #[218,102,22,3] rfl (ys:=#[.agg #[Iv i,Iv p,Sl ka m kc,Sl la ln lc,Iv f,Sl J L xc,Iv ((s:Int)+1),Iv t,Bf,Iv j,Iv lb],.agg #[Iv x.e,Iv x.f,Iv x.to,Sl sa x.sl sc],Sl ia il ic,Iv 200]) (by simp[Act.eval]) (au _ λa p m f t d c l st ka kc la ln lc J L xc W G C g=>⟨_,rfl,?_⟩);have r:=ua (dQ (a:=a) (f:=f) (t:=t) (xc:=xc) (c:=c) (l:=l) (d:=d) (M:=2*(20000-cK wc (w.heap.size+1))+cJ wc (w.heap.size+1)) (aw.nx C g) (zG.own (W:=Y.drew) BY g oM oM) (zG.own (W:=Y.drew) BZ g oM oM) G a1 (by rw[ac.o];cases d<;>simp<;>omega) _ rfl);let⟨zw,pw,bb⟩:=(zG.own (W:=Y.drew) BY g oM oM).x;clear C g);all_goals go_wp2
    all_goals go_roundw
    all_goals first
     |exact r.2
     |exact r.1
     |((repeat apply Exists.intro);exact⟨r.1,rfl⟩)
 |true =>
  have ab:=ua A.e;have a3:=A.y.lm;have av:=ua λo=>(A.y.q (uk wr o)).e;let⟨x0,g0,lx⟩:=E.x;have ay:(j==4)=true\/(j==4)=false/\(j==3)=true\/(j==4)=false/\(j==3)=false:=by cases j==4<;>cases j==3<;>simp
  rcases ay with e4|⟨e4,e3⟩|⟨e4,e3⟩
  iterate 2
   focus
    go_wp2;refine zL (by simp[results,f63,go_sem, *];rfl) rfl ?_;refine⟨_,_,_,_,_,_,_,_,_,_,_,_,rfl,?_⟩;repeat with_reducible first|exact ab.o|refine uD ?_ oM
  cases b0:j==0 with
  |true =>
   have b2:(j==2)=false:=(by simp at b0;simp[b0]);have BO:=ua (um wr #[Iv j,Iv p,Iv 0,Iv f,Sl J L xc,Iv s,Iv t,nS] 44);have BA:=ua (E.al (Oc #[Iv j,Iv p,Iv 0,Iv f,Sl J L xc,Iv s,Iv t,nS] 44));let⟨cs,aj⟩:=av (Oc #[Iv j,Iv p,Iv 0,Iv f,Sl J L xc,Iv s,Iv t,nS] 44);have aq:=ua aj;clear aj;go_wp2_with (at_builtin;refine jM rfl _ _ 42 42 rfl rfl rfl BL (Q:=λ_=>False) (.inl ⟨rfl,rfl,rfl⟩) aq.o oM ?_;intro v4 W4 ae am a2;rw[Bp]at ae;obtain⟨a4,c4,rfl⟩:=uj ae;have O:=zT.q am;have ao:=ua (uf ab.o (uf (zO wr) O));let⟨zo,po,lo⟩:=(BO.o.on O).x;let⟨zr,pr,lr⟩:=(BA.o.on O).x;let⟨zx,px,ba⟩:=((H.o.al _).on O).x;unfold yv at zx;clear ae am a2 O);refine zL (by simp[results,f63,go_sem, *];rfl) rfl ?_;refine⟨_,_,_,_,_,_,_,_,_,_,_,_,rfl,?_⟩;repeat with_reducible first|exact ao.o|refine uD ?_ oM
  |false =>
   cases b2:j==2;all_goals
    go_wp2;refine zL (by simp[results,f63,go_sem, *];rfl) rfl ?_;refine⟨_,_,_,_,_,_,_,_,_,_,_,_,rfl,?_⟩;refine uf ?_ Bi;repeat with_reducible first|exact ab.o|refine uD ?_ oM
end Y
open M (uw)
def U0(t:Tp)(R j:Nat)(w:Wl)(e:Ending)(w':Wl):Prop:=∃f s:Int,e=Rt (.tuple #[Iv f,Iv s])/\zE t R j w w'
def U1 t R i Q a n c P g il ic I w(j:∀b,Q b->b≠R/\b<w.heap.size)(A:Dz Q w a n P)(H:∀i,i<n->(P i).sl<=512)(G:n<=2000000)(C:Ints Q .u8 w g il I)(B:Cz il I)(F:il<=1048576)(D:Ch t R w i) :
  Cs 23 #[Sl a n c,Sl g il ic,.pointer (Sm R 0)] w (U0 t R (t.n (t.n i)) w):=by
 have S:=t.a i;have v2:=t.a (t.n i);have y:Hid (∀W,zA (λx=>x=R) w W->Cs 63 #[Sl a n c,Sl g il ic,Iv 20000,Iv 200] W (Y.RunIs W)):=λW l=>by
  have st:=l.r (λb q=>⟨(j b q).2,(j b q).1⟩);exact Y.srun_y Q Q a n c P g il ic I W (A.on st) H G (C.on st) B F
 go_enter func23,ntmps23;go_wp2_with fail;refine(uE t R i w D).mono ?_;rintro e W1 ⟨rfl,h⟩;go_wp2_with fail;refine(uE t R _ W1 h.1).mono ?_;rintro e W2 ⟨rfl,z⟩;have f:=ua (h.c z);generalize t.v i=o at *;generalize t.v (t.n i)=p at *;let⟨k,l⟩:=nm (o%10);have hk':(o:Int)%10=(k:Int):=oM;have L:k<10:=oM;let⟨m,N⟩:=nm (p%4);have hm':(p:Int)%4=(m:Int):=oM;have O:m<4:=oM;go_upto_if 19 with fail;try simp only[hk']
 rcases(by omega:k<5\/k=5\/k=6\/k=7\/k=8\/k=9) with q|rfl|rfl|rfl|rfl|rfl
 .have q':(k:Int)<5:=oM;go_wp2;refine zL (by simp[results,f23,go_sem];rfl) rfl ?_;exact⟨_,_,rfl,f⟩
 .go_wp2;refine zL (by simp[results,f23,go_sem];rfl) rfl ?_;exact⟨_,_,rfl,f⟩
 .go_wp2;refine zL (by simp[results,f23,go_sem];rfl) rfl ?_;exact⟨_,_,rfl,f⟩
 .rcases(by omega:m=0\/m=1\/m=2\/m=3) with rfl|rfl|rfl|rfl;all_goals
   go_wp2;refine zL (by simp[results,f23,go_sem];rfl) rfl ?_;exact⟨_,_,rfl,f.d zY⟩
 .rcases(by omega:m=0\/m=1\/m=2\/m=3) with rfl|rfl|rfl|rfl;all_goals
   go_wp2;go_quiet (fail);go_wp2;refine zL (by simp[results,f23,go_sem];rfl) rfl ?_;exact⟨_,_,rfl,(f.d zY).d (Ps _ _)⟩
 have s:=ua (y W2 f.2);go_wp2_with fail;refine s.mono ?_;rintro e J ⟨_,_,_,_,_,_,_,_,_,_,_,_,rfl,E⟩;have u:=ua (f.d (yS E));go_wp2;refine zL (by simp[results,f23,go_sem];rfl) rfl ?_;exact⟨_,_,rfl,u.d zY⟩
def uwe:(prog.info? 71).map (λi=>(i.zero,i.size,i.bytes))=some (some (.agg #[Iv 0,Iv 0,Iv 0,Iv 0,Iv 0]),5,40):=rR
def C2:vJ 26 71 5 40:=⟨underlying26,⟨_,uwe,rfl⟩,oM⟩
def CH(d:Ka):Obj:=.cells #[Iv d.e,Iv d.f,Iv d.a,Iv d.to,Iv d.b] 71
def C3(w:Wl)(d:Ka):Src prog 5 26 (Sl (Sm w.heap.size 0) 1 1) 1 (Fi d) (w.alloc (CH d)):=qg underlying26 rfl rfl rfl
structure Mw(w0 wr:Wl)(v:Vl)(m:Nat)(cs:List Value):Prop where
 k:zB (λb=>w0.heap.size<=b) wr v 5 m cs
 q:Bw w0 wr
 z:m=0->v=nS
def uxH{ops:Array Oper}{rest:List Oper}{o:Oper}{a:Act}{j:Exit->Act->World->Prop}(r:o.guard=none)(s x:Operand)(t:o.op=.call { callee:=.builtin .append,args:=#[s,x],argTypes:=#[26,26] })
  {w0 w1 w:Wl} {v y:Vl} {m:Nat} {cs:List Value} {d:Ka} (u:a.eval s=v) (A:a.eval x=y) (B:y=Sl (Sm w1.heap.size 0) 1 1) (z:w=w1.alloc (CH d)) (h:Mw w0 w1 v m cs) (C:m<=4194304)
  (k:∀w' i c',Hid (Mw w0 w' (Sl i (m+1) c') (m+1) (cs++Fi d))->wpList prog ops j rest (a.put o.dst (Sl i (m+1) c')) w'):wpList prog ops j (o::rest) a w:=by
 subst z B;have b1:=uk w1 (CH d);refine jM r s x 26 26 t u A C2 (xd h.k oM b1) (C3 w1 d) oM ?_;intro G w' n c F;obtain⟨i,c',rfl⟩:=uj n;have D:=h.q.size;have E:=b1.size;refine k w' i c' ⟨uA n (λb q=>q.elim id (λq=>oM)),?_,λe=>oM⟩;exact⟨c.os.trans (b1.os.trans h.q.os),c.g.trans (b1.tape.trans h.q.tape),c.f.trans (b1.output.trans h.q.output),by have:=c.l;omega,λb p=>(c.d b oM (λq=>oM)).trans ((b1.block b oM).trans (h.q.block b p))⟩
def ujF{w0 w E}{k q:Nat}{a}{c:Nat}(h:Mw w0 w (Sl a (num E k) c) (num E k) (xW E k))(v:My E k)(s:1<=Az E k)(y:Da E k (Az E k)=(q:Int)) :
  ∃g,a=some (Ad g 0)/\w0.heap.size<=g/\g<w.heap.size/\q<num E k/\(∃u,w.cell? (Ad g (q*5+3))=some u)/\w.frozen? (Ad g (q*5+3))=false/\w.cell? (Ad g (q*5+4))=some (Iv (Da E k (Az E k-1)))/\∀x:Int,Mw w0 (w.setCell (Ad g (q*5+3)) (Iv x)) (Sl a (num E k) c) (num E k) ((xW E k).set (q*5+3) (Iv x)):=by
 have L:=Vd v;let⟨j,m,o,z,A,D⟩:=L.a (Az E k) s (Ft _);have f:q=num E j:=by rw[z]at y;omega
 have r:q<num E k:=by rw[f];exact LC E o m
 have t:=h.k;rcases h.k with⟨_,e,_⟩|⟨g,cap,e,d,B,C,p,b⟩
 .omega
 obtain rfl:a=some (Ad g 0):=by injection e
 let⟨u,i⟩:=Kc.1 (b (q*5+3) oM).1;refine⟨g,rfl,d,ud i,r,⟨u,i⟩,(b (q*5+3) oM).2,?_,λx=>⟨zB.n t (by rw[D3];omega) _,uD h.q d,λe=>oM⟩⟩;have l:=uwg E o m;rw[<-f]at l;rw[p (q*5+4) (by rw[D3];omega)];unfold xW;rw[D2 (λj=>Fi (Qs E k j)) _ q 4 j (λ_ _=>CN) l oM,<-A];rfl
def Sv(E:Nat->Cm)(k:Nat):Int:=if k=0 then 0 else (E (k-1)).c
def uwf{E k}(h:C7 E k):Sv E k<=(E k).c:=by
 unfold Sv;split
 .exact h.c
 exact h.r oM
def grI(w:Wl)(n:Nat)(E:Nat->Cm)(d c b a:Vl)(wr:Wl):Prop :=
 ∃k:Nat,k<=n/\a=Iv (k:Int)/\c=Iv (Da E k (Az E k))/\b=Iv (Sv E k)/\Mw w wr d (num E k) (xW E k)
def urb Q a n c E w(x:Ot Q w a n E)(hn:n<=1048576)(Y:Sx E n) :
  Cs 50 #[Sl a n c] w (λe w'=>∃ta tc,e=Rt (.tuple #[Sl ta (num E n) tc,.nilIface])/\Mw w w' (Sl ta (num E n) tc) (num E n) (xW E n)):=by
 have HE:=ua x;have J:=ua Y;clear x Y;go_enter func50,ntmps50;go_wp2;go_loopw [4,5,6,11] (λtv mv lv S wr=>grI w n E tv mv lv S wr) (λtv mv lv S _=>n-(intOf S).toNat)
 .exact⟨0,zK,rfl,rfl,rfl,.inl ⟨rfl,rfl,rfl⟩,zH _,λ_=>rfl⟩
 obtain⟨k,hk,rfl,rfl,rfl,L⟩:=hrel;obtain⟨T,H,rfl⟩:=uj L.k;have s:=J.1.h hk;let⟨m,G⟩:=nm (num E k);have af:=CM E k;have o2:=xY s;let⟨l,p⟩:=nm (Da E k (Az E k));have ae:=(Vd s).lt (Az E k) o2 (Ft _);have O:Az E k=0->l = -1:=λe=>by rw[<-p,e];exact(Vd s).f
 have P:1<=Az E k->0<=l:=λe=>by rw[<-p];exact(Vd s).ge _ e (Ft _)
 have W:=ua s;have D:=ua L;have i:Hid (num E k=m/\Da E k (Az E k)=l):=⟨G,p⟩;rw[G]at af ⊢;rw[G,p]at ae;rw[p];clear L G p s;by_cases Z:k<n
 .rcases HE.h D.q with h0|⟨b,off,rfl,hq,x⟩
  .omega
  let⟨c0,c1,c2⟩:=x k Z;have r:=J.1 k Z;have aj:=uwf r;have ah:=ua r;have k0:=r.lo;have k2:=r.hi;have V:Hid (Sv E (k+1)=(E k).c):=by show _=_;unfold Sv;rw[Zn oM,Nj]
  have aa:=r.a;have U:Hid (∀b,cls E k=b->(b=true↔(E k).e=2)):=λb e=>by rw[<-e];unfold cls;simp
  have lb:=ud c0;have hlt':(k:Int)<(n:Int):=oM;have C:Hid (cls E k=false->num E (k+1)=m+1/\Da E (k+1) (Az E (k+1))=(m:Int)/\xW E (k+1)=xW E k++Fi ⟨(E k).e,(E k).f,(E k).c,0,l⟩):=λj =>
   ⟨by rw[CL E j,i.o.1],by rw[ji j,qq j,Zp rfl,i.o.1],by rw[uoa W.o j,i.o.2]⟩
  have B:Hid (cls E k=true->num E (k+1)=m/\Az E k=Az E (k+1)+1/\Da E (k+1) (Az E (k+1))=Da E k (Az E k-1)/\∀q:Nat,l=(q:Int)->q<m->xW E (k+1)=(xW E k).set (q*5+3) (Iv (E k).c)):=λj =>
   ⟨by rw[LD j,i.o.1],by rw[kO j];omega,by rw[kN j,kO j],λq e hq=>ult j (by rw[i.o.2];exact e) (by rw[i.o.1];exact hq)⟩
  let⟨cl,N⟩:=nm (cls E k);have F:=U cl N;rw[N]at C B;clear x U r N;generalize (E k).f=t at *;generalize (E k).c=ps at *;generalize (E k).e=kd at *;have q1:¬ps<Sv E k:=oM;generalize Sv E k=ls at *;have ab:Hid (Mw w (wr.alloc (Oc #[Iv kd,Iv t,Iv ps] 165)) (Sl T m H) m (xW E k)):=by
   have:=D;rw[i.o.1]at this;exact⟨xd this.k oM Bi,uf this.q Bi,this.z⟩
  cases cl with
  |false =>
   have ac:kd=0\/kd=1:=by have h3:¬kd=2:=λh=>aB (F.2 h) dC;omega
   let⟨y1,y2,A⟩:=C rfl;have o:Hid (num E (k+1)=m+1/\Da E (k+1) (Az E (k+1))=(m:Int)/\xW E (k+1)=xW E k++Fi ⟨kd,t,ps,0,l⟩):=⟨y1,y2,A⟩;clear y1 y2 A C B F k0 k2 aa O P;rcases ac with rfl|rfl;all_goals
    go_wp2_with (at_builtin;refine uxH (w1:=wr.alloc (Oc #[Iv _,Iv t,Iv ps] 165)) (y:=Sl (Sm (wr.heap.size+1) 0) 1 1) (d:=⟨_,t,ps,0,l⟩) rfl _ _ rfl rfl rfl sM rfl ab oM ?_;intro W4 a4 c4 G1);go_roundw
    .exact⟨k+1,oM,by go_num,by rw[o.o.2.1],by rw[V.o],by rw[o.o.1,o.o.2.2];exact G1⟩
    simp[intOf];omega
  |true =>
   have ad:=F.1 rfl;let⟨y1,y2,A,y4⟩:=B rfl;have R:1<=Az E k:=oM;have ai:=P R;obtain⟨q,rfl⟩:∃q:Nat,l=(q:Int):=⟨l.toNat,oM⟩;obtain⟨g,rfl,g1,g2,X,⟨u,g4⟩,g5,g6,v⟩:=ujF D W R i.2;rw[i.o.1]at X v;have ak:(q:Int)<(m:Int):=oM;have I:Hid (Mw w ((wr.setCell (Ad g (q*5+3)) (Iv ps)).alloc (Oc #[Iv kd,Iv t,Iv ps] 165)) (Sl (Sm g 0) m H) m ((xW E k).set (q*5+3) (Iv ps))) :=
    ⟨xd (v ps).k oM Bi,uf (v ps).q Bi,(v ps).z⟩
   have o:Hid (num E (k+1)=m/\Da E (k+1) (Az E (k+1))=Da E k (Az E k-1)/\xW E (k+1)=(xW E k).set (q*5+3) (Iv ps)):=⟨y1,A,y4 q rfl X⟩;subst ad;generalize Da E k (Az E k-1)=pr at *;clear y1 y2 A y4 v C B F k0 k2 aa O P R;go_wp2;go_roundw
   .exact⟨k+1,oM,by go_num,by rw[o.o.2.1],by rw[V.o],by rw[o.o.1,o.o.2.2];exact I⟩
   simp[intOf];omega
 obtain rfl:k=n:=oM;have hlt':¬(k:Int)<(k:Int):=oM;obtain rfl:=O J.2;have I:Hid (Mw w wr (Sl T m H) m (xW E k)):=by have:=D;rw[i.o.1]at this;exact this
 go_wp2;refine zL (by simp[results,f50,go_sem];rfl) rfl ?_;exact⟨T,H,by rw[i.o.1],by rw[i.o.1];exact I⟩
section
section
variable {Q:Np} {a:Oa} {n c:Nat} {E:Nat->Cm} {w:Wl}
def KY E k:Az E (k+1)=if (E k).e==2 then Az E k-1 else Az E k+1:=by
 cases h:(E k).e==2
 .rw[qq h];rfl
 rw[kO h];rfl
def uhJ(d:Ot Q w a n E)(U:n<=1048576)(t:Sx E n) :
  Cs 85 #[Sl a n c] w (λe w'=>e=Rt Bt/\Bw w w'):=by
 have A:=ua d;have p:=ua t;clear d t;go_enter func85,ntmps85;go_wp2;go_loopw [3,4] (λy q wr=>∃k:Nat,k<=n/\q=Iv k/\y=Iv (Az E k)/\Bw w wr) (λy q _=>n-(intOf q).toNat)
 .exact⟨0,zK,rfl,rfl,zH _⟩
 obtain⟨k,G,rfl,rfl,i⟩:=hrel;have m:=ua i;have H:=CK E k;have I:=xY (p.o.1.h G);by_cases v:k<n
 .rcases A.o.h i with F|⟨b,off,rfl,V,d⟩
  .omega
  let⟨s,C,D⟩:=d k v;have f:=p.o.1 k v;have l:=f.a;have g:=ua (KY E k);rw[KY]at l;have J:decide ((E k).e<0)=false:=Ix (oH f.lo);have L:decide (2<(E k).e)=false:=Ix (oH f.hi);have N:decide ((E k).c<0)=false:=Ix (oH f.c);have hlt':(k:Int)<(n:Int):=oM;have lb:=ud s;have z:=ua f.r;have B:=ua d;let⟨o,x⟩:=nm (Az E k);rw[x]at g l H I ⊢;clear d C i f x;generalize (E k).e=kd at *;generalize (E k).c=ps at *;cases u:kd==2;all_goals
   rw[u]at g l;have P:decide (o+1<0)=false:=sO;have R:kd==2->decide (o-1<0)=false:=λh=>by rw[u]at h;simp at l h ⊢<;>omega
   rcases k with _|j
   .simp only[Gf,Dy]at s D;go_wp2;go_quiet (fail);go_wp2;go_roundw
    .exact⟨0+1,oM,by go_num,by rw[g.o];rfl,Be m.o _⟩
    first|(simp[intOf];done)|(simp[intOf];omega)
   let⟨_,_,p2⟩:=B.o j oM;have O:decide ((0:Int)<(j:Int)+1)=true:=Ke oM;have T:(j:Int)<(n:Int):=oM;have S:decide (ps<(E j).c)=false:=Ix (by have:=z.o oM;simp at this;omega);go_wp2;go_quiet (fail);go_wp2;go_roundw
   .exact⟨j+1+1,oM,by go_num,by rw[g.o];rfl,Be m.o _⟩
   first|(simp[intOf];done)|(simp[intOf];omega)
 obtain rfl:k=n:=oM;have F:(Az E k==0)=true:=by rw[p.o.2];rfl
 clear i;go_wp2;go_ret;exact⟨rfl,m.o⟩
def dl(E:Nat->Cm):Nat->List Int
 |0=>[]
 |k+1=>dl E k++[Ky E k]
def jh E k:(dl E k).length=k:=by
 induction k with
 |zero=>rfl
 |succ k a=>rw[dl,zJ,a];rfl
def uxI E{k n}(h:k<n):lf (dl E n) k=Ky E k:=by
 induction n with
 |zero=>omega
 |succ n a =>
  unfold lf at a ⊢;rw[dl,El];by_cases e:k=n
  .subst e;rw[Fb (by rw[jh];exact zD),jh];simp
  rw[Es (by rw[jh];omega),<-El];exact a oM
def Br.app{w W v l z}(h:Br w W v l)(m:l.length<=1000000) :
  ∃a c W',(Builtin.append_ #[25,25] 25 #[v,Sl (Sm W.heap.size 0) 1 1]).run prog (W.alloc (Oc #[Iv z] 3))=.ok (Sl a (l.length+1) c) W'/\Br w W' (Sl a (l.length+1) c) (l++[z]):=by
 obtain⟨P,n,i,e⟩:=h;let⟨a,c,W',p,j,k⟩:=Uq (A:=P) (o:=.cells #[Iv z] 3) (news:=[Iv z]) jE n (λb q=>(i b q).2) (qg underlying25 rfl rfl rfl) m oM;have r:=e.size;refine⟨a,c,W',p,λb=>(P b\/W.heap.size<=b)/\b<W'.heap.size,by simpa[vL] using j,λb q=>⟨q.1.elim (λq=>(i b q).1) (λq=>oM),q.2⟩,⟨k.os.trans e.os,k.g.trans e.tape,k.f.trans e.output,zP r k.l,λx s=>(k.d x oM (λq=>oH ((i x q).1))).trans (e.block x s)⟩⟩
def uhK(i:Ot Q w a n E)(P:n<=1000000)(F:My E n):Cs 86 #[Sl a n c] w (Sp (dl E n) w):=by
 have t:=ua i;have v:=ua F;go_enter func86,ntmps86;go_wp2;go_loopw [3,4,5] (λs r m wr=>∃k:Nat,k<=n/\m=Iv k/\r=Iv (Az E k)/\Br w wr s (dl E k)) (λs r m _=>n-(intOf m).toNat)
 .exact⟨0,zK,rfl,rfl,Br.nil (zH _)⟩
 obtain⟨k,B,rfl,rfl,l⟩:=hrel;obtain⟨I,J,rfl⟩:=l.a;rw[jh]at l ⊢;have G:=CK E k;have H:=xY (v.h B);have f:=ua (KY E k);have d:Hid (dl E (k+1)=dl E k++[if (E k).e==2 then Az E k else Az E k+1]):=rfl;let⟨o,D⟩:=nm (Az E k);rw[D]at G H f d ⊢;have g:=ua l;by_cases C:k<n
 .rcases t.h g.q with O|⟨b,off,rfl,R,i⟩
  .omega
  let⟨y,_,_⟩:=i k C;have lb:=ud y;have hlt':(k:Int)<(n:Int):=oM;cases A:(E k).e==2;all_goals
   rw[A]at f d;obtain⟨L,N,W1,p,j⟩:=g.app (z:=_) (by rw[jh];omega);rw[<-d.o]at j;rw[jh]at p j;have x:=ua p;have u:=ua j;go_wp2_with (at_builtin;refine Qi rfl _ _ rfl rfl rfl x ?_);go_roundw
   .exact⟨k+1,oM,by go_num,by rw[f.o];rfl,u⟩
   first|(simp[intOf];done)|(simp[intOf];omega)
 obtain rfl:k=n:=oM;go_wp2;go_ret;exact⟨I,J,by rw[jh];rfl,by rw[jh];exact g⟩
def C5:(prog.info? 3).map (λi=>(i.zero,i.size,i.bytes))=some (some (Iv 0),1,8):=rR
def Mx(E:Nat->Cm)(n k j:Nat):Int:=if k<=j/\cls E j=false then Kb E n (n-j) (Az E j+1) else 0
def KZ(W:Wl)(n:Nat)(E:Nat->Cm)(a:Vl)(wr:Wl):Prop :=
 ∃k:Nat,k<=n/\a=Iv ((k:Int)-1)/\wr.rowIs W.heap.size 3 (n+2) (λd=>Iv (Kb E n (n-k) (d:Int)))/\wr.rowIs (W.heap.size+1) 3 n (λj=>Iv (Mx E n k j))/\Bw W wr/\wr.heap.size=W.heap.size+2
def LA(W:Wl)(n:Nat)(E:Nat->Cm)(c a:Vl)(wr:Wl):Prop :=
 ∃k:Nat,k<=n/\a=Iv (k:Int)/\wr.rowIs W.heap.size 3 (n+2) (λd=>Iv (Da E k (d:Int)))/\zB (λb=>W.heap.size+1<=b/\b<wr.heap.size) wr c 5 (num E k) (It E n k)/\Bw W wr/\W.heap.size<wr.heap.size
def C6{W wr:Wl}{j d:Nat}(p:j+1<=n)(m:Ky E j=(d:Int))(h:wr.rowIs W.heap.size 3 (n+2) (λd=>Iv (Kb E n (n-(j+1)) (d:Int))))(k:wr.rowIs (W.heap.size+1) 3 n (λi=>Iv (Mx E n (j+1) i)))(l:Bw W wr)(o:wr.heap.size=W.heap.size+2) :
  (cls E j=true->KZ W n E (Iv ((j:Int)-1)) (wr.setCell (Ad W.heap.size d) (Iv (E j).c)))/\(cls E j=false->KZ W n E (Iv ((j:Int)-1)) (wr.setCell (Ad (W.heap.size+1) j) (Iv (Kb E n (n-(j+1)) (d:Int))))):=by
 refine⟨λb=>⟨j,oM,rfl,(h.set d _).congr λi f=>?_,(k.setOther (a:=(Ad W.heap.size d)) sM _).congr λi f=>?_,uD l zD,by rw[uh];exact o⟩,
  λb=>⟨j,oM,rfl,(h.setOther (a:=(Ad (W.heap.size+1) j)) sM _).congr λi f=>?_,(k.set j _).congr λi f=>?_,uD l oM,by rw[uh];exact o⟩⟩
 .have g:Az E j=(d:Int):=by rw[<-m,Ky,b];rfl
  rw[Sy E (show j<n by omega)];by_cases e:i=d
  .subst e;rw[Zp rfl,Zp ⟨b,g⟩]
  rw[Zn e,Zn (λq=>e (oH q.2))]
 .unfold Mx;by_cases e:i=j
  .subst e;simp[b]
  simp only[show j+1<=i↔j<=i by omega]
 .rw[Sy E (show j<n by omega),Zn (by simp[b])]
 have g:Az E j+1=(d:Int):=by rw[<-m,Ky,b];rfl
 unfold Mx;by_cases e:i=j
 .subst e;rw[Zp rfl,Zp ⟨zD,b⟩,Sy E (show i<n by omega),Zn (by simp[b]),g]
 rw[Zn e];simp only[show j+1<=i↔j<=i by omega]
def utx{W:Wl}:(W.alloc (Oc ((madeCells #[Iv 0] (n+2)).setIfInBounds 0 (Iv (-1))) 3)).rowIs W.heap.size 3 (n+2) (λd=>Iv (Da E 0 (d:Int))):=by
 have h:=World.rowIs_alloc W ((madeCells #[Iv 0] (n+2)).setIfInBounds 0 (Iv (-1))) 3 (λd=>Iv (Da E 0 (d:Int))) (λd a=>by
  have hd':d<n+2:=by simpa[madeCells] using a
  by_cases e:d=0
  .subst e;simp[Da,madeCells]
  have:¬(d:Int)=0:=oM;have e':¬0=d:=oM;simp[Da,madeCells,Array.getElem?_setIfInBounds,e',e,hd',Nat.mod_one])
 rw[show((madeCells #[Iv 0] (n+2)).setIfInBounds 0 (Iv (-1))).size=n+2 by simp[madeCells]]at h;exact h
def ulq(C:Ot Q w a n E)(hn:n<=1000000)(L:Sx E n) :
  Cs 31 #[Sl a n c] w (λe w'=>∃ta tc,e=Rt (.tuple #[Sl ta (num E n) tc,Iv 0])/\zB (zF w w') w' (Sl ta (num E n) tc) 5 (num E n) (It E n n)/\Bw w w'):=by
 have T:=ua C;have U:=ua L;have a5:=run_make_row' (P:=prog) 25 3 (Iv 0) 8 underlying25 C5 rfl .i64 .i64 n oM oM;have aq:∀w,(Instr.makeSlice 25 (Iv ((n:Int)+2)) (Iv ((n:Int)+2))).run prog w=.ok (Sl (Sm w.heap.size 0) (n+2) (n+2)) (w.alloc (Oc (madeCells #[Iv 0] (n+2)) 3)) :=
  run_make_row' (P:=prog) 25 3 (Iv 0) 8 underlying25 C5 rfl .i64 .i64 (n+2) oM oM
 go_enter func31,ntmps31;go_wp2_with fail;refine(uhJ T oM U).mono ?_;rintro e W0 ⟨rfl,hb⟩;have B0:=ua hb;go_wp2_with fail;refine(uhK (T.h B0) oM U.1).mono ?_;rintro e W1 ⟨da,dc,rfl,hO⟩;rw[jh]at hO ⊢;have HD:Hid (Ints (zF W0 W1) .i64 W1 da n (Ky E)):=by
  have:=Uw (l:=dl E n) (by rw[jh];exact hO);rw[jh]at this;rcases this with h|⟨b,off,e,q,v⟩
  .exact .inl h
  exact .inr ⟨b,off,e,q,λi hi=>by rw[v i hi,uxI E hi]⟩
 have B1:=ua (uf B0 hO.q);go_wp2;go_loopw [7] (λy wr=>KZ W1 n E y wr) (λy _=>(intOf y+1).toNat)
 .refine⟨n,zD,rfl,((Kh W1 (Iv 0) (n+2) 3).alloc _).congr λd _=>?_,?_,Bm W1,sM⟩
  .rw[Nat.sub_self];rfl
  have h:=Kh (W1.alloc (Oc (madeCells #[Iv 0] (n+2)) 3)) (Iv 0) n 3;rw[show(W1.alloc (Oc (madeCells #[Iv 0] (n+2)) 3)).heap.size=W1.heap.size+1 by simp]at h;exact h.congr λj hj=>by unfold Mx;rw[Zn oM]
 obtain⟨k,hk,rfl,O,G,p,S⟩:=hrel;rcases k with _|j
 .have HT:Hid (∀W,Bw wr W->W.rowIs (W1.heap.size+1) 3 n (λj=>Iv (Mx E n 0 j))):=λW L=>G.of_block (L.block _ oM);have aa:=ua (uf B1 p);have aj:=ua (HD.h p);have ak:=ua (T.h aa);have l1:W1.heap.size+1<wr.heap.size:=oM;have au:(madeCells #[Iv 0] (n+2))[0]?=some (Iv 0):=by simp[madeCells]
  have HX:=ua (utx (W:=wr) (n:=n) (E:=E));clear O G p S;generalize wr=W2 at *;go_wp2;go_loopw [9,10] (λov y wr=>LA W2 n E ov y wr) (λov y _=>n-(intOf y).toNat)
  .exact⟨0,zK,rfl,HX.o,.inl ⟨rfl,rfl,rfl⟩,zO W2,sM⟩
  obtain⟨k,hk,rfl,R,D,p,S⟩:=hrel;obtain⟨oa,oc,rfl⟩:=uj D;let⟨m,hm⟩:=nm (num E k);have av:=CM E k;rw[hm]at D av ⊢;have H:=ua hm;clear hm aq au;by_cases ae:k<n
  .rcases ak.o with h0|⟨b,off,rfl,hq,C⟩
   .omega
   rcases aj.o with h0|⟨J,ad,rfl,ap,Z⟩
   .omega
   let⟨B,V,X⟩:=C k ae;have I:=Z k ae;have lb:b<W2.heap.size:=ud B;have aw:J<W2.heap.size:=ud I;have ag:=(HT.o wr p).cell ae;have hlt':(k:Int)<(n:Int):=oM;have a8:b<wr.heap.size:=oM;have a9:J<wr.heap.size:=oM;have o2:=xY (U.o.1.h (show k<=n by omega));have o1:=CK E k;replace B:=ue B p;replace V:=ue V p;replace X:=ue X p;replace I:=ue I p;clear C Z;cases v:(E k).e==2
   .have r:cls E k=false:=v;obtain⟨e,he⟩:∃e:Nat,Az E k=(e:Int):=⟨(Az E k).toNat,oM⟩;have F:Ky E k=(e:Int)+1:=(by rw[Ky,r,he];rfl);rw[F]at I;have r1:=R.cell (i:=e+1) oM;have f1:=R.frozen (e+1);have az:(e:Int)+1<(n:Int)+2:=oM;have a0:(e:Int)<(n:Int)+2:=oM;have a1:(0:Int)<=(e:Int):=oM;have a6:IntKind.i64.wrap ((e:Int)+1-1)=(e:Int):=(by rw[show(e:Int)+1-1=(e:Int) by omega,IntKind.wrap_i64];omega);have a7:IntKind.i64.wrap (e:Int)=(e:Int):=(by rw[IntKind.wrap_i64];omega);generalize N:wr.setCell (Ad W2.heap.size (e+1)) (Iv m)=Y;have yb:∀x,x≠W2.heap.size->Y.heap[x]?=wr.heap[x]?:=λx s=>N▸Bn s;have rY:Y.rowIs W2.heap.size 3 (n+2) (λd=>Iv (Da E (k+1) (d:Int))):=N▸(R.set (e+1) _).congr (λd _=>by
     rw[ji r,he,H.o];by_cases q:d=e+1
     .subst q;rw[Zp rfl,Zp oM]
     rw[Zn q,Zn oM])
    have sY:Y.heap.size=wr.heap.size:=(by rw[<-N,uh]);have yc:∀{x o:Nat} {u:Vl},x≠W2.heap.size->wr.cell? (Ad x o)=some u->Y.cell? (Ad x o)=some u:=λ{x o u} s h=>(Bd (a:=(Ad x o)) (yb x s)).trans h;have am:Hid ((⟨(E k).e,(E k).f,(E k).c,Mx E n 0 k,Da E (k+1) (e:Int)⟩:Ka)=Qr E n k):=by
     show _=_;unfold Qr Mx;rw[Zp ⟨zK,r⟩,ji r,he,Zn oM]
    have af:Hid (num E (k+1)=m+1/\It E n (k+1)=It E n k++Fi (Qr E n k)):=⟨by rw[CL E r,H.o],un9 r⟩;have z:Bw W2 Y:=N▸uD p zD;let⟨a4,c4,W4,ai,ah,t⟩:=Uq (A:=λb=>W2.heap.size+1<=b/\b<wr.heap.size) (W:=Y.drew) (o:=CH ⟨(E k).e,(E k).f,(E k).c,Mx E n 0 k,Da E (k+1) (e:Int)⟩) C2 (D.on (λx q=>yb x (oH q.1))) (λx q=>by rw[World.size_drew,sY];exact q.2) (C3 _ _) oM oM;have w4:Hid (LA W2 n E (Sl a4 (m+1) c4) (Iv ((k:Int)+1)) W4):=by
     have hz:Y.heap.size<=W4.heap.size:=t.l;refine⟨k+1,oM,by go_num,rY.of_block (t.d _ (by show _<Y.heap.size;omega) (λq=>oH q.1)),?_,⟨t.os.trans z.os,t.g.trans z.tape,t.f.trans z.output,zP z.size hz,λx s=>(t.d x (by show _<Y.heap.size;omega) (λq=>oH q.1)).trans (z.block x s)⟩,oM⟩;rw[af.o.1,af.o.2,<-am.o];exact uA ah (λx q=>⟨q.1.elim (·.1) (λh=>by have h:Y.heap.size<=x:=h;omega),q.2⟩)
    have an:=ua ai;have y5:=rY.cell (i:=e) oM;generalize Mx E n 0 k=tv at *;generalize Da E (k+1) (e:Int)=pv at *;have y0:=yc oM B;have y1:=yc oM V;have y2:=yc oM X;have y4:=yc oM I;have y3:=yc oM ag;have HZ:Hid (∀W:Wl,(∀x,x<W2.heap.size+1->W.heap[x]?=Y.heap[x]?)->W.cell? (Ad b (off+k*3))=some (Iv (E k).e)/\W.cell? (Ad b (off+k*3+1))=some (Iv (E k).f)/\W.cell? (Ad b (off+k*3+2))=some (Iv (E k).c)/\W.cell? (Ad (W1.heap.size+1) k)=some (Iv tv)/\W.cell? (Ad J (ad+k))=some (Iv ((e:Int)+1))/\W.cell? (Ad W2.heap.size e)=some (Iv pv)):=λW L =>
     have q:=λ{x o:Nat} {u:Vl} (s:x<W2.heap.size+1) (h:Y.cell? (Ad x o)=some u)=>(Bd (a:=(Ad x o)) (L x s)).trans h
     ⟨q oM y0,q oM y1,q oM y2,q oM y3,q oM y4,q oM y5⟩
    have al:Hid (∀x,x<W2.heap.size+1->W4.heap[x]?=Y.heap[x]?):=λx s=>t.d x (by show _<Y.heap.size;omega) (λq=>oH q.1);clear R D p r he F ag yb rY yc z ai ah t;go_wp2;clear N;go_region_held3 (λW'=>W'.cell? (Ad b (off+k*3))=some (Iv (E k).e)/\W'.cell? (Ad b (off+k*3+1))=some (Iv (E k).f)/\W'.cell? (Ad b (off+k*3+2))=some (Iv (E k).c)/\W'.cell? (Ad (W1.heap.size+1) k)=some (Iv tv)/\W'.cell? (Ad J (ad+k))=some (Iv ((e:Int)+1))/\W'.cell? (Ad W2.heap.size e)=some (Iv pv))
     (first|exact HZ _ al|exact⟨y0,y1,y2,y3,y4,y5⟩|go_keep)
     (refine Xm rfl (.tmp 83) (.tmp 112) rfl (by simp[Act.eval]) (by simp[Act.eval]) an.o ?_)
    all_goals go_wp2
    all_goals go_roundw
    .first|exact w4|((repeat apply Exists.intro);exact⟨w4,rfl⟩)
    first|(simp[intOf];done)|(simp[intOf];omega)
   have r:cls E k=true:=v;have ao:Hid (LA W2 n E (Sl oa m oc) (Iv ((k+1:Nat):Int)) wr):=⟨k+1,oM,rfl,R.congr (λd _=>by rw[kN r]),by rw[LD r,H.o,uls r];exact D,p,S⟩;go_wp2;go_roundw
   .exact ao
   first|(simp[intOf];done)|(simp[intOf];omega)
  obtain rfl:k=n:=oM;have HN:Hid (zB (zF w wr) wr (Sl oa m oc) 5 m (It E k k)/\Bw w wr):=⟨uA D λx q=>⟨by have:=aa.size;omega,q.2⟩,uf aa p⟩;go_wp2;refine zL (by simp[results,f31,go_sem];rfl) rfl ⟨oa,oc,by rw[H.o],by rw[H.o];exact HN⟩
 rw[show((j+1:Nat):Int)-1=(j:Int) by omega];rcases(T.h B1).h p with h0|⟨b,off,rfl,hq,C⟩
 .omega
 rcases HD.h p with h0|⟨J,ad,rfl,ap,Z⟩
 .omega
 let⟨B,V,X⟩:=C j oM;have e0:=Z j oM;have o1:=CK E j;have o2:=xY (U.1.h (show j<=n by omega));have lb:=ud B;have aw:=ud e0;have a2:(0:Int)<=(j:Int):=oM;have a3:(j:Int)<(n:Int):=oM;have l1:W1.heap.size<wr.heap.size:=oM;have l2:W1.heap.size+1<wr.heap.size:=oM;obtain⟨d,F,ax⟩:∃d:Nat,Ky E j=(d:Int)/\d<=n:=⟨(Ky E j).toNat,by unfold Ky;split<;>omega,by unfold Ky;split<;>omega⟩;have ab:=ua (C6 hk F O.drew G.drew p.drew S).1;have ac:=ua (C6 hk F O G p S).2;rw[F]at e0;have r1:=O.cell (i:=d) oM;have f1:=O.frozen d;have r2:=G.cell (i:=j) oM;have f2:=G.frozen j;have ay:(d:Int)<(n:Int)+2:=oM;cases v:(E j).e==2
 .replace ac:=ua (ac v);go_wp2;go_roundw
  .exact ac
  first|(simp[intOf];done)|(simp[intOf];omega)
 replace ab:=ua (ab v);go_wp2;go_region;all_goals go_wp2
 all_goals go_roundw
 .exact ab
 first|(simp[intOf];done)|(simp[intOf];omega)
end
end
def VO(n:Nat)(w:Wl)(i:Vl)(wr:Wl):Prop:=∃k:Nat,k<=n/\i=Iv (k:Nat)/\Bw w wr
def uye(n:Nat)(w:Wl)(i:Vl)(wr:Wl):Prop:=∃k m:Nat,k<=n/\i=Iv (k:Nat)/\wr=w.drewN m
def uyf(w:Wl)(e:Ending)(w':Wl):Prop:=e=Rt Bt/\∃m,w'=w.drewN m
def ukP{Q Q' w a b n c c' S}(o:Ints Q .i64 w a n S)(p:Ints Q' .i64 w b n S)(s:n<=1000000):Cs 11 #[Sl a n c,Sl b n c'] w (uyf w):=by
 have t:((n:Int) != (n:Int))=false:=sM;go_enter func11,ntmps11;go_wp2;go_loopw [5] (λi wr=>uye n w i wr) (λi _=>n-(intOf i).toNat)
 .exact⟨0,0,zK,rfl,rfl⟩
 obtain⟨k,m,r,rfl,rfl⟩:=hrel;by_cases f:k<n
 .rcases o with h|⟨b1,v,rfl,_,d⟩
  .omega
  rcases p with h|⟨q,y,rfl,_,e⟩
  .omega
  have j:=d k f;have l:=e k f;have hlt':(k:Int)<n:=oM;let⟨x,g⟩:=nm (S k);rw[g]at j l;have u:(x != x)=false:=sM;clear d e g;go_wp2;go_quiet (fail);go_wp2;go_roundw
  .exact⟨k+1,_,oM,by go_num,rfl⟩
  simp[intOf];omega
 have hlt':¬(k:Int)<n:=oM;go_wp2;go_ret;exact⟨rfl,_,rfl⟩
def uiW{P U:Np}{w a b}{n c c':Nat}{L:List Ka}(N:zB P w (Sl a L.length c) 5 L.length (L.flatMap Fi))(O:zB U w (Sl b L.length c') 5 L.length (L.flatMap Fi))(hl:L.length=n)(hn:n<=1000000):Cs 13 #[Sl a n c,Sl b n c'] w (Ov w):=by
 have ab:((n:Int) != (n:Int))=false:=sM;go_enter func13,ntmps13;go_wp2;go_loopw [5] (λi wr=>VO n w i wr) (λi _=>n-(intOf i).toNat)
 .exact⟨0,zK,rfl,zH _⟩
 obtain⟨k,hk,rfl,y⟩:=hrel;have t:=ua y;by_cases aa:k<n
 .obtain⟨d,z⟩:∃d,L[k]?=some d:=⟨_,Bb oM⟩;obtain⟨b1,rfl,_,I⟩:=IN N z;obtain⟨W,rfl,_,J⟩:=IN O z;have f:∀{g j v},w.cell? (Ad g j)=some v->wr.cell? (Ad g j)=some v:=λh=>ue h y;have r:∀j v,j<5->(Fi d)[j]?=some v->wr.cell? (Ad b1 (k*5+j))=some v:=λj v A e=>f ((I j A).trans e);have s:∀j v,j<5->(Fi d)[j]?=some v->wr.cell? (Ad W (k*5+j))=some v:=λj v A e=>f ((J j A).trans e);have V:=r 0 _ oM rfl;have Z:=r 1 _ oM rfl;have a2:=r 2 _ oM rfl;have a3:=r 3 _ oM rfl;have a4:=r 4 _ oM rfl;have u:=s 0 _ oM rfl;have D:=s 1 _ oM rfl;have E:=s 2 _ oM rfl;have G:=s 3 _ oM rfl;have H:=s 4 _ oM rfl;rw[Dy]at V u;have hlt':(k:Int)<n:=oM;clear I J f r s N O z y;obtain⟨o,m,df,q,p⟩:=d;have x0:(o != o)=false:=sM;have x1:(m != m)=false:=sM;have x2:(df != df)=false:=sM;have x3:(q != q)=false:=sM;have x4:(p != p)=false:=sM;generalize Q:wr.alloc (Oc #[Iv o,Iv m,Iv df,Iv q,Iv p] 71)=X;have l:Bw wr X:=Q▸Bi;have C:zG X wr.heap.size #[Iv o,Iv m,Iv df,Iv q,Iv p]:=Q▸Eb _;replace u:=ue u l;replace D:=ue D l;replace E:=ue E l;replace G:=ue G l;replace H:=ue H l;generalize R:X.alloc (Oc #[Iv o,Iv m,Iv df,Iv q,Iv p] 71)=Y;have B:Bw X Y:=R▸Bi;have S:=ua (uf t.o (uf l B));let⟨z1,p1,l1⟩:=(C.on B).x;let⟨z2,p2,l2⟩:=(R▸Eb _:zG Y X.heap.size #[Iv o,Iv m,Iv df,Iv q,Iv p]).x;have T:Hid (∀F,Bw Y F->VO n w (Iv ((k:Int)+1)) F):=λF h=>⟨k+1,oM,by go_num,uf S.o h⟩;clear l B C t;go_wp2;go_roundw
  .exact T.o _ (zH _)
  simp[intOf];omega
 have hlt':¬(k:Int)<n:=oM;go_wp2;go_ret;exact⟨rfl,t.o⟩
def ukQ Q a n c E w(h:Ot Q w a n E)(j:n<=1048576)(i:Sx E n) :
  Cs 12 #[Sl a n c] w (λe w'=>∃b d,e=Rt (.tuple #[Sl b (num E n) d,Iv 0])/\Mw w w' (Sl b (num E n) d) (num E n) (xW E n)):=by
 have f:=ua (urb Q a n c E w h j i);go_enter func12,ntmps12;go_wp2_with fail;refine f.mono ?_;rintro e W ⟨b,d,rfl,k⟩;have g:=ua k;go_wp2;refine zL (by simp[results,f12,go_sem];rfl) rfl ?_;exact⟨b,d,rfl,g⟩
def uxq w:(zeroValue 73).run prog w=.ok (.agg #[Iv 0,Iv 0]) w:=rR
def uxr v w:(Instr.typeAssert (.iface 73 v) 20 73 true).run prog w=.ok (.tuple #[v,Bt]) w:=by simp[Instr.typeAssert,run_underlying underlying73]
def uxs w:(Instr.typeAssert .nilIface 20 73 true).run prog w=.ok (.tuple #[.agg #[Iv 0,Iv 0],Bf]) w:=by simp[Instr.typeAssert,run_underlying underlying73,uxq]
attribute [local go_sem] uxr uxs
def unU:f32.results=#[]:=rR
def ukZ G C A w :
  CallsD prog 32 #[.pointer (Sm G 0),.pointer (Sm C 0),.pointer (Sm A 0)] .returning w λe d w'=>e=Rt (.tuple #[])/\d=.returning/\Kf w w':=by
 refine callsD_of_wpS func32 rfl λc cs b=>?_;apply wpS_seq;apply wpS_region;simp[wpOpsS,go_sem,recoverD,b,ntmps32,Exit.thenS];apply wpS_seq;apply wpS_region;simp[wpOpsS,go_sem,recoverD,b,ntmps32,Exit.thenS];refine wpS_cond (t:=false) (by simp[Act.eval,Array.replicate]) ?_;simp only[Nh,if_false];refine wpS_of_wp (wp_skip ?_);cases c;simp_all[bodyPostS,results,unU];exact zY
end Go.Proofs.YtmlblamikgkdcaaGreat
