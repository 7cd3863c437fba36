import Derived.Test.YtmlblamikgkdcaaGreatT14
import Derived.Test.YtmlblamikgkdcaaGreatT09
set_option linter.unusedVariables false
set_option linter.unusedSimpArgs false
set_option linter.defProp false
set_option maxHeartbeats 40000000
set_option maxRecDepth 100000
namespace Go.Proofs.YtmlblamikgkdcaaGreat
open Go.RowKit
open Go.Proofs.Tryz
open M (OpD ug Gr)
def Po(n:Nat)(S:Nat->Int)(h:Cz n S):Tp:=⟨min n 500,λi=>if i<n then (S i).toNat else 0,oM,λi=>by
 split
 .rename_i a;have:=h i a;omega
 omega⟩
def N5{w a n c m S Q}(k:Ints Q .u8 w a n S)(f:Cz n S)(l:m=min n 500)(r:m<=c){t}:Ch (Po n S f) w.heap.size (w.alloc (Oc #[Sl a m c,Iv 0] t)) 0:=by
 have d:=Eo w (Oc #[Sl a m c,Iv 0] t);refine⟨a,c,?_,?_,?_,zK,by show min n 500<=c;omega,?_⟩
 .simp only[World.cell?,d];subst l;rfl
 .simp only[World.cell?,d];rfl
 .simp only[World.frozen?,d];rfl
 show Ints _ .u8 _ a (min n 500) _;by_cases h:min n 500=0
 .exact .inl h
 rcases k with q|⟨b,off,e,s,g⟩
 .omega
 refine .inr ⟨b,off,e,ud (g 0 oM),λi p=>?_⟩;have hi':i<n:=oM;have j:=ue (g i hi') (uk w (Oc #[Sl a m c,Iv 0] t));rw[j];have o:=f i hi';show some (Bv (S i))=some (Bv (((if i<n then (S i).toNat else 0:Nat)):Int));rw[Zp hi'];congr 2;omega
def N6 Q a n c S w(g:Ints Q .u8 w a n S)(f:Cz n S)(o:n<=1048576)(h:n<=c)(k:a=none->n=0/\c=0) :
  Cs 14 #[Sl a n c] w λe w'=>e=Rt (.pointer (Sm w.heap.size 0))/\Ch (Po n S f) w.heap.size w' 0/\Kf w w':=by
 have b:Hid (∀m c',m=min n 500->m<=c'->Ch (Po n S f) w.heap.size (w.alloc (Oc #[Sl a m c',Iv 0] 120)) 0):=λm c' i j=>N5 g f i j;cases a with
 |none =>
  obtain⟨rfl,rfl⟩:=k rfl;go_enter func14,ntmps14;go_wp2;go_ret;exact⟨rfl,b 0 0 rfl zD,zY⟩
 |some x =>
  by_cases l:500<n
  .have d:decide ((500:Int)<n)=true:=sO;go_enter func14,ntmps14;go_wp2;go_ret;exact⟨rfl,b 500 c oM oM,zY⟩
  have d:decide ((500:Int)<n)=false:=sO;go_enter func14,ntmps14;go_wp2;go_ret;exact⟨rfl,b n c oM h,zY⟩
namespace Y
open M (OpD ug Gr uw ins)
def umi args w:(callFunc 66 args).run prog w=.ok (.enter 66 args) w:=by simp[callFunc,func66,f66,go_sem]
def fA args w:(callFunc 126 args).run prog w=.ok (.enter 126 args) w:=by simp[callFunc,func126,f126,go_sem]
def fB args w:(callFunc 128 args).run prog w=.ok (.enter 128 args) w:=by simp[callFunc,func128,f128,go_sem]
def Sb(ra la:Oa)(rc lc:Nat)(g:Gr)(Q:Np)(b:Nat)(T:TR):Prop :=
 ∀(off c l:Nat) (d:Int) (w:Wl) (P:Ew),l=T.n->T.Ok (M.bB g.nr g.nb)->T.n<=c->T.n<=2000->TA Q w b T off->zV Q w ra la g->(∀a n c W,n<=3*T.n->IL (3*T.n) w (Sl a n c) W->P (Rt (Sl a n c)) W) ->
  Cs 66 #[.agg #[Sl ra g.nr rc,Sl la g.nb lc],Sl (Sm b off) l c,Iv d] w P
variable {Q:Np} {ra la:Oa} {rc lc:Nat} {g:Gr} {b:Nat}
def usx(t:M.Sound g)(o:OpD):Sb ra la rc lc g Q b (.lf o):=by
 intro off c l pv w P Y hk hc hn hT R G;simp only[TR.n]at hc hn Y G;subst Y;obtain⟨r,⟨sa,sc,c1,Z⟩,O⟩:=hT;have HS:=ua Z;have s:=ua G;have f3:¬c=0:=oM;have ab:b<w.heap.size:=ud r;obtain⟨v,i⟩:=hk;let⟨j,q⟩:=qp i;have d:o.e=0\/o.e=1\/o.e=2\/o.e=3:=by have:=i.1;have:=i.2.1;unfold M.ar at v;split at v<;>(try split at v)<;>omega
 have m:=i.2.2.2.2.2;have hr:=t.r2;have ac:=t.l2;have N:=ua λ(W:Wl) (k:Bw w W) p (hp:p<g.nr+g.nb)=>eZ (rc:=rc) (lc:=lc) t (R.h k) hp;clear Z R t v G;rw[q]at O;unfold M.bF at m;rcases d with d|d|d|d
 .rw[d]at r;clear d m i;go_enter func66,ntmps66;go_wp2;exact s.o _ _ _ _ zK ⟨[],zK,λx F=>(by cases F),De.nil (Bm w)⟩
 .have aa:o.sl<=512:=oH (M.cA (i.2.2.1 d));rw[d]at r;clear d m i;go_enter func66,ntmps66;go_wp2_with (at_builtin;refine G9 rfl _ _ rfl rfl rfl (HS.o.h (Bm w)) oM ?_;intro W a' c' E1 E2);exact s.o _ _ _ _ oM ⟨_,sM,λx F=>(by obtain rfl:=Bu.1 F;exact aa),ME (x:=⟨⟨0,0,0,o.sl,o.set⟩,a',c'⟩) (S:=zF w W) (uf (Bm w) E2.o) (E1.o.g (λz y=>⟨zP (Bm w).size y.1,y.2⟩)) (λz y=>y)⟩
 .rw[Zn oM,Zp d,q]at m;rw[d]at r;have D:j<g.nr+g.nb:=oM;clear d i q m;go_enter func66,ntmps66;go_wp2_with (go_at_call 126;refine(N.o _ (Bm w) j D).mono ?_;rintro e W ⟨⟨x,rfl⟩,T⟩;have HW:Hid (Bw w W):=uf (Bm w) T;clear T);exact s.o _ _ _ _ oM ((IL.one _ _ _ HW.o).le oM)
 rw[Zp d,q]at m;let⟨H,E⟩:=nm (M.tg g.nr o);have D:H<g.nr+g.nb:=by rw[<-E];unfold M.tg;rw[Zp d,q];omega
 have C:=ua λ(W:Wl) (k a:Int) (e1:o.e=k) (e2:o.f=a)=>e1▸e2▸E▸kD ra la sa g.nr rc g.nb lc sc o W (.inr d) oM oM oM;replace C:=ua λW=>C.o W 3 j d q;rw[d]at r;clear d i q m E;go_enter func66,ntmps66;go_wp2_with fail;generalize u:(w.alloc _).alloc _=X;have L:Hid (Bw w X):=u▸Bm w;have xg:zG X w.heap.size #[Sl ra g.nr rc,Sl la g.nb lc]:=u▸(Eb w).al _;have I:zG X (w.heap.size+1) #[Iv 3,Sl sa o.sl sc,Iv j]:=u▸uW _ _ _ _ sM;clear u r c1 O;have B:Hid (∀W',Bw X W'->W'.cell? (Ad w.heap.size 0)=some (Sl ra g.nr rc)/\W'.cell? (Ad w.heap.size 1)=some (Sl la g.nb lc)/\W'.cell? (Ad (w.heap.size+1) 0)=some (Iv 3)/\W'.cell? (Ad (w.heap.size+1) 1)=some (Sl sa o.sl sc)/\W'.cell? (Ad (w.heap.size+1) 2)=some (Iv j)):=λW k=>⟨(xg.on k).x.1 0,(xg.on k).x.1 1,(I.on k).x.1 0,(I.on k).x.1 1,(I.on k).x.1 2⟩;let⟨y0,y1,y2,y3,y4⟩:=B.o X (zH _);go_region_held3 (λW'=>W'.cell? (Ad w.heap.size 0)=some (Sl ra g.nr rc)/\W'.cell? (Ad w.heap.size 1)=some (Sl la g.nb lc)/\W'.cell? (Ad (w.heap.size+1) 0)=some (Iv 3)/\W'.cell? (Ad (w.heap.size+1) 1)=some (Sl sa o.sl sc)/\W'.cell? (Ad (w.heap.size+1) 2)=some (Iv j))
  (first|exact⟨z0,z1,z2,z3,z4⟩|exact⟨y0,y1,y2,y3,y4⟩|go_keep)
  (first
   |(refine uF KD rfl _ _ rfl (ys:=#[.agg #[Sl ra g.nr rc,Sl la g.nb lc],.agg #[Iv 3,Sl sa o.sl sc,Iv j]]) (by simp[Act.eval,Act.put]) ((C.o X.drew).mono ?_);rintro e W2 ⟨rfl,U⟩;have A:Hid (Bw X W2):=(zH X).drew.trans U;let⟨z0,z1,z2,z3,z4⟩:=B.o W2 A.o;clear U;refine⟨_,rfl,?_⟩)
   |(refine uF fA rfl _ _ rfl (ys:=#[.agg #[Sl ra g.nr rc,Sl la g.nb lc],Iv (H:Int)]) (by simp[Act.eval,Act.put]) ((N.o W2 (uf L.o A.o) H D).mono ?_);rintro e W3 ⟨⟨x,rfl⟩,V⟩;have J:=ua (uf A.o V);let⟨z0,z1,z2,z3,z4⟩:=B.o W3 J.o;clear V;refine⟨_,rfl,?_⟩))
 all_goals go_wp2
 all_goals exact s.o _ _ _ _ oM ((IL.one _ _ _ (uf L.o J.o)).le oM)
def usy(hq:Q b)(o:OpD)(x:TR)(L:Sb ra la rc lc g Q b x):Sb ra la rc lc g Q b (.un o x):=by
 intro off c l R w P j a G u F E O;have HT:=ua F;have HK:=ua a;have HN:=ua O;have d:o.e=6\/o.e=7:=by have:=a.1;unfold M.ar at this;split at this<;>(try split at this)<;>omega
 obtain⟨J,f,⟨sa,sc,C,aa⟩,p⟩:=F;simp only[TR.n]at G u j;have B:=ua λ(W:Wl) (k:Bw w W) (R:Int) P=>L off c x.n R W P rfl a.2.2 oM oM (J.h k) (E.h k);have LS:=ua λ(W:Wl) (k:Bw w W)=>dO (c:=c) (HT.h k) a hq u j;let⟨m,t⟩:=nm x.n;rw[t]at f C p G u j B;have A:=ua t;subst j;have x2:((m+1:Nat):Int)-1=(m:Int):=oM;have x3:(m:Int)<((m+1:Nat):Int):=oM;have z6:=uB m oM;have f1:m<c:=oM;have f2:m<=c:=oM;have f3:¬c=0:=oM;have ac:=ud f;clear J aa a E t L O;rcases d with d|d;all_goals
  rw[d]at f;clear d;go_enter func66,ntmps66;go_wp2_with fail;refine(LS _ (Bm w)).mono ?_;rintro e W ⟨⟨x,rfl⟩,hw⟩;subst W;go_wp2_with fail;generalize r:(w.alloc _).alloc _=X;have v:Hid (Bw w X):=r▸Bm w;have H:X.heap.size=w.heap.size+1+1:=by rw[<-r];simp
  rw[<-H];generalize i:(X.alloc _).alloc _=Y;have y:Hid (Bw X Y):=i▸Bm X;obtain⟨N,S,ab⟩:∃N S:Int,zG Y (X.heap.size+1) #[Iv N,Iv 0,Iv S,nS]:=⟨_,_,i▸uW _ _ _ _ sM⟩;have I:Y.heap.size=X.heap.size+1+1:=by rw[<-i];simp
  rw[<-I];generalize s:Y.alloc _=Z;have R0:Hid (IL 1 Y (Sl (Sm Y.heap.size 0) 1 1) Z):=s▸IL.one _ _ _ (zH _);have T:=ua (uf (uf v y) (s▸zO Y:Bw Y Z));clear r i s f C p H I;refine B Z T _ _ λa2 n2 p W2 ad D=>?_;have V:=ua D;clear D;go_wp2_with (first
   |(at_builtin;refine cG rfl _ _ rfl rfl rfl R0 V oM ?_;intro a3 n3 c3 W3 ae z;let⟨y0,y1,y2⟩:=(ab.on z.q).x)
   |(at_builtin;refine cG rfl _ _ rfl rfl rfl z (IL.one _ _ _ (zH W3)) oM ?_;intro a4 n4 c4 W4 af U))
  exact HN.o _ _ _ _ (by simp only[TR.n];have:=A.o;omega) ((U.o.b (uf v.o y.o)).le (by simp only[TR.n];have:=A.o;omega))
def usz(hq:Q b)(o:OpD)(x y:TR)(ix:Sb ra la rc lc g Q b x)(iy:Sb ra la rc lc g Q b y):Sb ra la rc lc g Q b (.bn o x y):=by
 intro off c l z w P D r hc S hT L aa;have HT:=ua hT;have HK:=ua r;have HN:=ua aa;have u:o.e=4\/o.e=5:=by have:=r.1;unfold M.ar at this;split at this<;>(try split at this)<;>omega
 obtain⟨U,hy,t,⟨sa,sc,J,ae⟩,s⟩:=hT;have nx:=x.n0;have ny:=y.n0;simp only[TR.n]at hc S D;have H:=ua λ(W:Wl) (k:Bw w W) (z:Int) P=>ix off c x.n z W P rfl r.2.2.1 oM oM (U.h k) (L.h k);have B:=ua λ(W:Wl) (k:Bw w W) (z:Int) P=>iy (off+x.n*3) (c-x.n) (x.n+y.n-x.n) z W P oM r.2.2.2 oM oM (hy.h k) (L.h k);have LS:=ua λ(W:Wl) (k:Bw w W)=>dO (c:=c) (HT.h k) r hq S D;have I:=ua λ(W:Wl) (k:Bw w W)=>dO (c:=c) (U.h k) r.2.2.1 hq oM rfl;have d:Hid (2+3*x.n+3*y.n<=3*(TR.bn o x y).n/\2+3*x.n+3*y.n<=6002):=by show _/\_;simp only[TR.n];omega
 let⟨m,R⟩:=nm (x.n+y.n);rw[R]at t J s hc S D B;have HM:=ua R;subst D;let⟨j,O⟩:=nm x.n;have HJ:=ua O;rw[O]at nx R H B I d;have x2:((m+1:Nat):Int)-1=(m:Int):=oM;have x3:(m:Int)<((m+1:Nat):Int):=oM;have z6:=uB m oM;have f1:m<c:=oM;have f2:m<=c:=oM;have f3:¬c=0:=oM;have af:=ud t;have z7:=uB j oM;have jm:(j:Int)<(m:Int):=oM;have ai:(j:Int)<=(m:Int):=oM;have f4:¬c=j:=oM;have f5:j<=m:=oM;have f6:j<=c:=oM;clear U hy ae r L O ix iy aa;rcases u with u|u;all_goals
  rw[u]at t;clear u;go_enter func66,ntmps66;go_wp2_with fail;refine(yM (HT.h (Bm w)) HK HM oM).mono ?_;rintro e W ⟨rfl,T⟩;subst W;rw[HJ.o];go_wp2_with fail
 .generalize i:(w.alloc _).alloc _=X;have f:Hid (Bw w X):=i▸Bm w;have A:=i▸(Eb w).al _;clear i t J s;refine H X f _ _ λa2 n2 s W2 ab p=>?_;have G:=ua p;have B2:=ua (uf f p.q);have V:=A.on p.q;have y0:=V.x.1 0;have y1:=V.x.1 1;clear V p;go_wp2_with fail;go_region_held3 (λW'=>W'.cell? (Ad w.heap.size 0)=some (Sl ra g.nr rc)/\W'.cell? (Ad w.heap.size 1)=some (Sl la g.nb lc))
   (first|exact⟨u0,u1⟩|exact⟨y0,y1⟩|go_keep)
   (first
    |(refine uF fB rfl _ _ rfl (ys:=#[Sl (Sm b off) j c]) (by simp[Act.eval]) ((I.o W2.drew B2.o.drew).mono ?_);rintro e W ⟨⟨x1,rfl⟩,T⟩;subst W;refine⟨_,rfl,?_⟩)
    |(refine uF umi rfl _ _ rfl (ys:=#[.agg #[Sl ra g.nr rc,Sl la g.nb lc],Sl (Sm b (off+j*3)) (m-j) (c-j),Iv (IntKind.i64.wrap (z+x1))]) (by simp[Act.eval]) (B.o W2.drew B2.o.drew _ _ λa3 n3 c3 W3 ac C=>⟨_,rfl,?_⟩);have H3:=ua C;have u0:=ue (w:=W2.drew) (a:=(Ad w.heap.size 0)) (v:=Sl ra g.nr rc) y0 C.q;have u1:=ue (w:=W2.drew) (a:=(Ad w.heap.size 1)) (v:=Sl la g.nb lc) y1 C.q;clear C)
    |(refine ux6 (w0:=X) (w1:=W2.drew) rfl _ _ rfl (v:=Sl a2 n2 s) (y:=Sl a3 n3 c3) (by simp[Act.eval]) (by simp[Act.eval]) (G.o.h (zH W2).drew) H3.o (oH d.o) ?_;intro a4 n4 c4 W4 ad E4;have Y:=A.on E4.q;have u0:=Y.x.1 0;have u1:=Y.x.1 1;clear Y))
  all_goals go_wp2
  all_goals exact HN.o _ _ _ _ (oH d.o) ((E4.o.b f.o).le (oH d.o))
 refine(I _ (Bm w)).mono ?_;rintro e W ⟨⟨x1,rfl⟩,T⟩;subst W;go_wp2_with fail;generalize i:(w.alloc _).alloc _=X;have f:Hid (Bw w X):=i▸Bm w;have A:=i▸(Eb w).al _;have hs:X.heap.size=w.heap.size+1+1:=by rw[<-i];simp
 rw[<-hs];generalize N:X.alloc _=Z;have R0:Hid (IL 1 X (Sl (Sm X.heap.size 0) 1 1) Z):=N▸IL.one _ _ _ (zH _);have B1:=ua (uf f (N▸zO X:Bw X Z));clear i N t J s hs;refine H _ B1 _ _ λa2 n2 s W2 ab p=>?_;have G:=ua p;clear p;go_wp2_with (at_builtin;refine cG rfl _ _ rfl rfl rfl R0 G (oH d) ?_;intro a3 n3 c3 W3 ac E;let⟨y0,y1,y2⟩:=(A.on E.q).x);have B3:=ua (uf f E.q);refine(LS _ B3).mono ?_;rintro e W ⟨⟨x4,rfl⟩,T⟩;subst W;go_wp2_with (at_builtin;refine cG rfl _ _ rfl rfl rfl E (IL.one _ _ _ (zH W3)) (oH d) ?_;intro a4 n4 c4 W4 ad F;let⟨v0,v1,v2⟩:=(A.on F.q).x);have B4:=ua (uf f F.q);refine B W4 B4 _ _ λa5 n5 c5 W5 ag h5=>?_;have H5:=ua h5;clear h5;go_wp2_with (at_builtin;refine cG rfl _ _ rfl rfl rfl F H5 (oH d) ?_;intro a6 n6 c6 W6 ah K6);exact HN.o _ _ _ _ (oH d.o) ((K6.o.b f.o).le (oH d.o))
def uvm(c:M.Sound g)(a:Q b)(T:TR):Sb ra la rc lc g Q b T:=by
 induction T with
 |lf o=>exact usx c o
 |un o x d=>exact usy a o x d
 |bn o x y e f=>exact usz a o x y e f
def eY{a:Oa}{n c:Nat}{B:Nat->OpD}{w:Wl}{i:Int}{P:Ew}(o:M.Sound g)(s:n<=2000)(p:n<=c)(d:zM Q w a n B)(e:M.bC g.nr g.nb n B)(m:zV Q w ra la g)(u:∀a n c W,n<=6000->IL 6000 w (Sl a n c) W->P (Rt (Sl a n c)) W) :
  Cs 66 #[.agg #[Sl ra g.nr rc,Sl la g.nb lc],Sl a n c,Iv i] w P:=by
 rcases d with q|⟨b,off,rfl,t,d⟩
 .have:=e.2.2;rw[q,M.dep]at this;omega
 obtain⟨T,rfl,k,l,_⟩:=qT e;have f:=Ly (Q:=Q) (w:=w) (A:=b) (off:=off) l (λj r=>by rw[Bp];exact d j r);rw[Gf,Dy]at f;exact uvm o t T off c _ i w P rfl k p s f m λa n c W v h=>u a n c W oM (h.le oM)
def IL.d k a t e c f w:IL 2 w (Sl (Sm w.heap.size 0) 2 2) (w.alloc (Oc #[Iv k,Iv a,Iv t,nS,Iv e,Iv c,Iv f,nS] 102)):=by
 have g:∀j,j<8->(w.alloc (Oc #[Iv k,Iv a,Iv t,nS,Iv e,Iv c,Iv f,nS] 102)).cell? (Ad w.heap.size j)=(uQ [ic k a t,ic e c f])[j]?:=λj h=>by rw[(um w _ 102).x.1 j,List.getElem?_toArray];rfl
 refine⟨[ic k a t,ic e c f],zD,λx i=>?_,λb=>b=w.heap.size,λ_=>False,.inr ⟨w.heap.size,2,rfl,rfl,rfl,zD,g,λj h=>⟨?_,(um w _ 102).x.2.1 j⟩⟩,λy l=>?_,?_,λb q=>q.elim,zO w,.inr sM⟩
 .simp at i;rcases i with rfl|rfl<;>exact zK
 .rw[g j h];rcases(by omega:j=0\/j=1\/j=2\/j=3\/j=4\/j=5\/j=6\/j=7) with rfl|rfl|rfl|rfl|rfl|rfl|rfl|rfl<;>rfl
 .simp at l;rcases l with rfl|rfl<;>exact .inl rfl
 rintro b rfl;exact⟨zD,sM,λq=>q⟩
end Y
section
open M (OpD ug Gr)
namespace Y
open M (uw)
variable {Q:Np} {ra la:Oa} {rc lc:Nat} {g:Gr} {b:Nat}
def UW(w:Wl)(e:Ending)(w':Wl):Prop:=∃a n c D,e=Rt (Sl a n c)/\n<=1300000/\(∀i,i<n->(D i).sl<=512)/\Dz (zF w w') w' a n D/\Bw w w'
def IL.f{w b}k a t(e:b=w.heap.size):IL 1 w (Sl (Sm b 0) 1 1) (w.alloc (Oc #[Iv k,Iv a,Iv t,nS] 102)):=e▸IL.one k a t (zH _)
def IL.e{w W a n c}(h:IL 1300000 w (Sl a n c) W):UW w (Rt (Sl a n c)) W:=by
 obtain⟨L,t,u,P,S,h⟩:=h;let⟨A,c',e⟩:=uj h.k;injection e with e1 e2 e3;subst e1 e2 e3;refine⟨_,_,_,λi=>(L[i]?).elim (M.ins 0 0 0) IC.d,rfl,t,λi f=>?_,?_,h.q⟩
 .simp only[Bb f];exact u _ (Gi f)
 rcases h.k with⟨_,e,_⟩|⟨g,cap,e,o,z,B,x,C⟩
 .exact .inl e
 obtain rfl:a=some (Ad g 0):=by injection e
 refine .inr ⟨g,0,rfl,⟨(h.p g o).1,(h.p g o).2.1⟩,λi f=>?_⟩;have r:=Bb f;have l:∀j,j<4->W.cell? (Ad g (i*4+j))=(Iz L[i])[j]?:=λj y=>by rw[x _ (by rw[z];omega),qv L i j _ r y]
 simp only[r,Bp];exact⟨l 0 oM,l 1 oM,l 2 oM,_,_,l 3 oM,(h.m _ (Gi f)).g (λb v=>h.s b v)⟩
def lcomp_y(o:M.Sound g)(w:Wl)(H:zV Q w ra la g):Cs 24 #[.agg #[Sl ra g.nr rc,Sl la g.nb lc]] w (UW w):=by
 have D:=ua H;have v:=ua o;have E:=o.r2;have F:=o.l2;clear H o;go_enter func24,ntmps24;go_wp2;generalize p:w.alloc (Oc #[Sl ra g.nr rc,Sl la g.nb lc] 34)=X;have t:Hid (Bw w X):=p▸zO w;have l:Hid (zG X w.heap.size #[Sl ra g.nr rc,Sl la g.nb lc]):=p▸Eb w;have L:X.heap.size=w.heap.size+1:=by rw[<-p];simp
 have R0:=IL.d 6 0 2 12 0 0 X;rw[L]at R0;have ab:=ua R0;clear p L R0;go_loopw [3,4] (λov A wr=>∃k:Nat,k<=g.nr+g.nb/\A=Iv k/\IL (2+6003*k) X ov wr) (λ_ A _=>g.nr+g.nb-(intOf A).toNat)
 .exact⟨0,zK,rfl,ab.o⟩
 obtain⟨k,hk,rfl,m⟩:=hrel;obtain⟨oa,n,oc,rfl,hn⟩:=m.a;have i:=ua m;let⟨R,P,O⟩:=(l.o.on m.q).x;clear m;go_wp2_with fail;refine(KI ra la g.nr rc g.nb lc wr E F).mono ?_;rintro e W1 ⟨rfl,c⟩;have r:=ua c;let⟨R,P,O⟩:=(l.o.on (uf i.o.q c)).x;clear c;by_cases y:k<g.nr+g.nb
 .have hlt':(k:Int)<((g.nr+g.nb:Nat):Int):=oM;have B:=ua (uf (uf t.o i.o.q) r.o);go_wp2_with fail;refine(qR (Of w) ra la rc lc g _ ((zV.j D.o).h B.o) E F k y).mono ?_;rintro e W2 ⟨⟨a2,c2,rfl,J,I⟩,c⟩;have s:=ua (uf r.o c);have S:=ua (uf B.o c);have Z:=ua J;have Y:=ua I;let⟨R,P,O⟩:=(l.o.on (uf i.o.q s.o)).x;clear J I c;cases f0:(((nd g k).bl:Int)==0)
  .have aa:=ua ((je v.o y).resolve_left (by simp at f0;omega));by_cases fl:(g.nr:Int)<=(k:Int);all_goals
    go_wp2_with (at_builtin;refine cG rfl _ _ rfl rfl rfl (i.o.h (uf s.o (zO W2))) (IL.f _ _ _ sM) oM ?_;intro a3 n3 c3 W3 ac u;let⟨u0,q3,l3⟩:=(l.o.on u.o.q).x);have C:=ua (uf t.o u.o.q);refine eY v.o (BV v.o y) Y.o (Z.o.on (λz N=>(C.o.block z N).trans (S.o.block z N).symm)) aa.o ((zV.j D.o).h C.o) λa4 n4 c4 W4 ad G=>?_;have W:=ua G;clear G;go_wp2_with (first
     |(at_builtin;refine cG rfl _ _ rfl rfl rfl u.o W.o oM ?_;intro a5 n5 c5 W5 ae T)
     |(at_builtin;refine cG rfl _ _ rfl rfl rfl T.o (IL.one _ _ _ (zH W5)) oM ?_;intro a6 n6 c6 W6 af U)
     |(at_builtin;refine cG rfl _ _ rfl rfl rfl U.o (IL.one _ _ _ (zH W6)) oM ?_;intro a7 n7 c7 W7 ag V))
    go_roundw
    .exact⟨k+1,oM,by go_num,V.o.le oM⟩
    simp[intOf];omega
  go_wp2;go_roundw
  .exact⟨k+1,oM,by go_num,(i.o.h s.o).le oM⟩
  simp[intOf];omega
 obtain rfl:k=g.nr+g.nb:=oM;go_wp2;go_ret;exact IL.e (((i.o.b t.o).h r.o).le oM)
end Y
end
open M (uw EX ins uT emit_len nodeC)
def QC(K:EC)(W:Wl)(v u r:Vl)(wc:Wl):Prop :=
 ∃(h z:Int) (a:Oa) (n c:Nat),v=Iv h/\u=Iv z/\r=Sl a n c/\K.Kp W wc /\
 ((h=2/\K.k wc)\/(h=1/\∃s',K.t=s'.l 1/\K.Wd (λ_=>False) s' wc)\/(h=0/\∃s' B,K.t=s'.l 0/\z=(s'.c:Int)/\K.Wd B s' wc/\Df W wc B (Sl a n c) s'.a/\Nst K.g.nb 0 s'.c s'.a/\s'.a.length<=50000))
def X2 Q g ra la ia rc lc il ic I fU mO t w(hV:M.Sound g)(hG:zV Q w ra la g)(hI:Ints Q .u8 w ia il I)(hB:Cz il I)(ah:il<=1048576)(f0:0<=fU)(f1:fU<=50000)(m0:0<=mO)(m1:mO<=1000)(hQ:∀x,Q x->x<w.heap.size)n R(hP:∀b,(EC.mk g ra rc la lc ia il ic I fU mO n R t b w Q).Pg)(hE:Ends n R il I fU mO s0 t) :
  Cs 28 #[.agg #[Sl ra g.nr rc,Sl la g.nb lc],Sl ia il ic,Iv fU,Iv mO] w (λe w'=>WU t w e w'/\Ty g.nb t):=by
 generalize hX:((w.alloc (Oc #[Sl ra g.nr rc,Sl la g.nb lc] 34)).alloc (Oc #[Iv 0,Iv 0,Iv 0,Iv 0,nS,Iv 0,Iv 0,nS] 44))=X;have KX:Hid (Kf w X):=hX▸zY.c zY;have BG:=ua (hX▸(um w #[Sl ra g.nr rc,Sl la g.nb lc] 34).al _);have BR:=ua (hX▸uW _ #[Iv 0,Iv 0,Iv 0,Iv 0,nS,Iv 0,Iv 0,nS] 44 (w.heap.size+1) sM);have ac:X.heap.size=w.heap.size+1+1:=by rw[<-hX];simp
 have ae:=ua ac;let⟨K,G⟩:=nm (EC.mk g ra rc la lc ia il ic I fU mO n R t X.heap.size w Q);have hK:K.Ok:=G▸⟨hV,hG,hI,hB,ah,f0,f1,m0,m1,KX.o.l,hQ⟩;have af:=G▸hP _;have HE:Hid (K.E s0):=G▸hE;have HS:Hid (K.Sg s0):=G▸⟨rfl,zD,zD,f0,m0⟩;generalize hY:X.alloc (Oc #[Sl ra g.nr rc,Sl la g.nb lc,Sl ia il ic,Iv fU,Iv mO,Iv 0,Iv 0,nS,Iv 0,Iv 0,Iv 0,Iv 0] 154)=Y;have KY:Hid (Kf X Y):=hY▸zY;have HW:Hid (K.Wd (λ_=>False) s0 Y):=⟨none,0,0,0,0,0,by rw[<-G];exact hY▸Eb X,⟨Jj.symm,.inl rfl,λ_ _ _ e=>by cases e⟩,by rw[<-G];exact uf KX.q KY.q⟩;have hb:X.heap.size=K.b:=G▸rfl;have aa:Hid (K.b=w.heap.size+1+1):=by show _=_;rw[<-hb];exact ac
 have ht:Hid (K.t=t):=G▸rfl;have ap:Hid (K.w0=w):=G▸rfl;have ag:Hid (K.g=g):=G▸rfl;have H:=ua hK;have HP:=ua af;let⟨z,pz,lz⟩:=BG.x;clear G hK af hP hE hV hG hI hB ah hQ ac;go_enter func28,ntmps28;go_upto_region 5 with fail;clear hb hX hY z pz lz;have ai:=ua (BR.on KY.q);let⟨h0,J⟩:=Cr.q HP.c;have S:=ua (λP'=>yV (P:=P') H HW HE HS (q:=0) rfl h0);rw[J]at S;go_cut [25] (λv wc=>(v=Bf/\K.k wc/\K.Kp Y wc)\/(v=Bt/\K.Kp Y wc/\∃D,D.f=Ee K.g 0/\D.st = [⟨2,1,0,0⟩]/\D.a = []/\D.c=0/\K.E D/\K.Sg D/\K.Wd (λ_=>False) D wc))
 .go_wp2_with fail;refine S _ (λW1 w1 k1 e1 g1 l1=>?_) (λW1 w1 k1=>?_)
  rotate_left
  .go_wp2;go_meet;exact .inl ⟨rfl,w1,k1⟩
  have ad:Hid (K.E (({ s0.g with f:=Ee K.g 0 }:zC).m ⟨2,1,0,0⟩ K.a)):=e1;have G1:Hid (K.Sg { s0.g with f:=Ee K.g 0 }):=⟨g1.e,g1.thr,g1.a,g1.st,g1.c⟩;have W1':Hid (K.Wd (λ_=>False) { s0.g with f:=Ee K.g 0 } W1):=w1.d rfl rfl rfl rfl;clear e1 g1 w1 S;go_wp2_with fail;refine Tz (s:={ s0.g with f:=Ee K.g 0 }) H.o rfl W1'.o G1.o (λW2 w2 k2 l2=>?_) (λW2 J h2 k2=>?_)
  .have ak:=ua (qF ⟨2,1,0,0⟩ l2▸ad.o);go_wp2;go_meet;exact .inr ⟨rfl,k1.c k2,_,rfl,rfl,rfl,rfl,ak.o,⟨G1.o.e,G1.o.thr,G1.o.a,G1.o.st,by have h:((0:Nat):Int)<K.a:=l2;show((1:Nat):Int)<=_;omega⟩,w2.d rfl rfl rfl rfl⟩
  have o:=h2 (Ends.d (by have:=ad.o;rw[J]at this;exact this) rfl);go_wp2;go_meet;exact .inl ⟨rfl,o,k1.c k2⟩
 clear S;have HC:=ua hcut;go_upto_if 25 with fail;go_cut [10,11,12] (λv u r an=>QC K Y v u r an)
 .rcases HC.o with⟨rfl,J,h2⟩|⟨rfl,k1,D,i1,i2,i3,i4,hE,hG,W⟩
  .go_wp2;go_meet;exact⟨2,0,none,0,0,rfl,rfl,rfl,h2,.inl ⟨rfl,J⟩⟩
  have ND:=ua (X6 H HP (K.d-D.b).toNat 0 1 0 0 1 false (λ_=>False) { D with st:=[] } D wc · (oH H.a.r1) (by have:=H.a.r1;rw[vY K.g oM];exact FM (H.a.rb 0 oM)) rfl i1 (by rw[i2];rfl) ⟨rfl,rfl⟩ zD (by rw[i4];rfl) (by rw[i2];rfl) (by unfold zC.j;rw[i2];rfl) hE hG W (λ_ q=>q.elim) zD);have K1:=ua k1;have am:=ua W;clear hcut hE hG W;go_wp2_with fail;refine ND _ ⟨λs' L B a n c W3 f O r N=>?_,λs' z3 W3 f O N=>?_,λz3 W3 O N=>?_⟩
  .let⟨h2,o⟩:=Cr.q (Cr.a HP.c);have S:=ua (λP'=>yV (P:=P') H O f.e f.sg f.f h2);have e3:s'.g.q (K.R (0+1)) K.il K.I K.a=s'.g.l 0:=by
    have hl:=f.st;rw[o];unfold zC.q;simp[ins,zC.g,hl]
   rw[Bp]at e3;rw[e3]at S;have hl:s'.a=L:=(by rw[f.a];show D.a++L=L;rw[i3];rfl);have Z:=ua (K1.c N);have R1:=ua (hl▸r);have ao:=am.lt;have NS:=ua (show Nst K.g.nb 0 s'.c s'.a/\s'.a.length<=50000 from ⟨hl▸i4▸f.b,by have J:=f.sg.a;have h2:=f.sg.st;have o:=H.f1;omega⟩);unfold yU;clear f O r N hl;go_wp2_with fail;refine S _ (λW4 w4 k4 e4 g4 l4=>?_) (λW4 w4 k4=>?_)
   .have ab:Hid (QC K Y (Iv 0) (Iv s'.c) (Sl a n c) W4):=⟨0,s'.c,a,n,c,rfl,rfl,rfl,Z.c k4,.inr (.inr ⟨rfl,s'.g,_,Ends.d e4 rfl,rfl,w4.h (λx q=>.inr q),(R1.b K1.l).y k4 (λx p hb=>by have:=(R1.a x hb).1;have p:x=K.b:=p;omega),NS⟩)⟩;clear w4 e4 g4;go_wp2;go_meet;exact ab
   have ab:=ua (show K.Kp Y W4/\K.k W4 from ⟨Z.c k4,w4⟩);clear w4;go_wp2;go_meet;exact⟨2,s'.c,a,n,c,rfl,rfl,rfl,ab.1,.inl ⟨rfl,ab.2⟩⟩
  .have J:=f.over rfl;have Z:=ua (K1.c N);have W3':=ua O;unfold yU;clear f O N;go_wp2;go_meet;exact⟨1,z3,none,0,0,rfl,rfl,rfl,Z,.inr (.inl ⟨rfl,s',J,W3'⟩)⟩
  have Z:=ua (K1.c N);have W3':=ua O;unfold yU;clear O N;go_wp2;go_meet;exact⟨2,z3,none,0,0,rfl,rfl,rfl,Z,.inl ⟨rfl,W3'⟩⟩
 obtain⟨h,z,a,n,c,rfl,rfl,rfl,kY,hh⟩:=hcut;have KK:=ua ((KX.c KY).q);have aj:=ua (He kY ai.o (oH aa.o));let⟨zr,pr,lr⟩:=aj.x;have BL:Hid (Bw w wc):=KK.o.trans (kY.below KK.o.size (λx p e=>oH aa.o));have SX:Hid (∀(W':Wl) (A:Np),zA (λx=>x=w.heap.size+1) wc W'->∀{xa:Oa} {xn:Nat} {E:Nat->Bool},Fm (λx=>K.b<x/\x<wc.heap.size/\¬A x) wc xa xn E->Fm (zF w W') W' xa xn E):=λW' A k xa xn E h=>(h.on (λx p=>k.d x p.2.1 (λe=>oG aa.o p.1))).g (λx p=>⟨by have:=aa.o;have:=p.1;omega,Ba p.2.1 k.l⟩);rcases hh with⟨rfl,s,xa,xn,xc,lb,ps,F,o⟩|⟨rfl,s',V,W⟩|⟨rfl,s',B,V,rfl,W,U,hn⟩
 .have WX:=ua F;let⟨y,py,ly⟩:=F.e.x;unfold EC.wd at y;rw[ht.o]at o y;rcases o with o|⟨o,h4,h5,h6,h7,h8,h9⟩
  .have HC:=ua o;rw[o]at y;have T:Hid (Ty g.nb t):=⟨λq=>aB (o.symm.trans q) dC,λq=>aB (o.symm.trans q) dC⟩;clear F o;go_wp2;refine zL (by simp[results,f28,go_sem, *];rfl) rfl ?_;refine⟨⟨_,_,_,_,_,_,_,_,_,_,_,_,rfl,HC.symm,.inr (.inr (.inr rfl)),λq=>aB rfl q,λq=>aB q dC,λq=>aB q dC,?_,λ_=>rfl⟩,T⟩;refine uf ?_ Bi;repeat with_reducible first|exact BL.o|refine uD ?_ oM
  have HC:=ua o;have H8:=ua (show s.i=t.i/\s.d=t.d/\s.t=t.t/\lb=t.s/\ps=(t.c:Int) from ⟨h6,h8,h7,h4,h5⟩);rw[o]at y;have T:Hid (Ty g.nb t):=⟨λq=>aB (o.symm.trans q) dC,λ_=>by rw[<-h4,<-ag.o];exact h9⟩;clear F o h4 h5 h6 h7 h8 h9;go_wp2;refine zL (by simp[results,f28,go_sem, *];rfl) rfl ?_;refine⟨⟨_,_,_,_,_,_,_,_,_,_,_,_,rfl,HC.symm,.inr (.inr (.inl rfl)),λq=>⟨by rw[H8.o.1],by rw[H8.o.2.1],?_⟩,λq=>aB q dC,λq=>⟨H8.2.2.2.2,H8.2.2.2.1⟩,?_,λq=>aB rfl q⟩,T⟩
  .rw[<-H8.o.2.2.1];refine SX _ _ ?_ WX.ex;refine zA.c ?_ zY;repeat with_reducible first|exact Cc|refine zA.c ?_ (Dh rfl)
  refine uf ?_ Bi;repeat with_reducible first|exact BL.o|refine uD ?_ oM
 .obtain⟨xa,xn,xc,cd,lb,ps,F⟩:=W;have WX:=ua F;have C:=ua (ht.symm.trans V);let⟨y,py,ly⟩:=F.e.x;unfold EC.wd at y;have T:Hid (Ty g.nb t):=ht.symm.trans V▸⟨λq=>aB (show(1:Int)=0 from q) dC,λq=>aB (show(1:Int)=2 from q) dC⟩;clear F V;go_wp2;refine zL (by simp[results,f28,go_sem, *];rfl) rfl ?_;refine⟨⟨_,_,_,_,_,_,_,_,_,_,_,_,rfl,by rw[C.o];rfl,.inr (.inl rfl),λq=>⟨by rw[C.o];rfl,by rw[C.o];rfl,?_⟩,λq=>aB q dC,λq=>aB q dC,?_,λ_=>rfl⟩,T⟩
  .rw[C.o];refine SX _ _ ?_ WX.ex;refine zA.c ?_ zY;repeat with_reducible first|exact Cc|refine zA.c ?_ (Dh rfl)
  refine uf ?_ Bi;repeat with_reducible first|exact BL.o|refine uD ?_ oM
 obtain⟨xa,xn,xc,cd,lb,ps,F⟩:=W;have WX:=ua F;have aq:=KY.l;have RX:Hid (∀W':Wl,zA (λx=>x=w.heap.size+1) wc W'->zB (zF w W') W' (Sl a n c) 3 s'.a.length (vb s'.a)):=λW' k=>uA (U.k.on (λx p=>k.d x (U.a x p).2 (λe=>oG ((U.a x p).1) ae.o))) (λx p=>⟨by have:=(U.a x p).1;have:=ae.o;omega,Ba (U.a x p).2 k.l⟩);have C:=ua (ht.symm.trans V);obtain rfl:=U.c;let⟨y,py,ly⟩:=F.e.x;unfold EC.wd at y;have T:Hid (Ty g.nb t):=ht.symm.trans V▸⟨λ_=>ag.o▸hn,λq=>aB (show(0:Int)=2 from q) dC⟩;clear F V U hn;go_wp2;refine zL (by simp[results,f28,go_sem, *];rfl) rfl ?_;refine⟨⟨_,_,_,_,_,_,_,_,_,_,_,_,rfl,by rw[C.o];rfl,.inl rfl,λq=>⟨by rw[C.o];rfl,by rw[C.o];rfl,?_⟩,λq=>⟨by rw[C.o];rfl,by rw[C.o];rfl,c,?_⟩,λq=>aB q dC,?_,λ_=>rfl⟩,T⟩
 .rw[C.o];refine SX _ _ ?_ WX.ex;refine zA.c ?_ zY;repeat with_reducible first|exact Cc|refine zA.c ?_ (Dh rfl)
 .rw[C.o];refine RX _ ?_;refine zA.c ?_ zY;repeat with_reducible first|exact Cc|refine zA.c ?_ (Dh rfl)
 refine uf ?_ Bi;repeat with_reducible first|exact BL.o|refine uD ?_ oM
attribute [local go_sem] uma upD upE upF umb upG upH upI umc upJ upK upL
structure AP(mO:Int)(s:zC):Prop where
 m1:mO<=1000
 c:(s.st.length:Int)<=mO
 b:∀f,f∈s.st->f.e≠2->f.a<=s.a.length
 a:∀f,f∈s.st->f.e=0\/f.e=1\/f.e=2
 g:s.a.length<=1048576
 e:s.e=false
def AP.d{mO s}(h:AP mO s):s.st.length<=1000:=oG h.m1 h.c
def jl(x:uw)(sa:Oa)(sc:Nat):Vl:=.agg #[Iv x.e,Iv x.f,Iv x.to,Sl sa x.sl sc]
def zC.nx(s:zC):zC:={ s with f:=s.f+1 }
def zN.a{t K L b g il ic mO w W w' e}(d:Kept (λx=>K x\/L x\/x=b) w W)(h:zN t K L b g il ic mO W e w'):zN t K L b g il ic mO w e w':=by
 obtain⟨k,z,st,r,s,la,lc,i,j,m,n,o,p,q⟩:=h;have u:=d.l;have f:∀x,zF W w' x->zF w w' x:=λx c=>⟨by have:=c.1;omega,c.2⟩;exact⟨k,z,st,r,s,la,lc,i,j,m,n,λx c=>(o x c).imp id (f x),λx c=>(p x c).imp id (f x),yF d q⟩
def zN.below{t K L b c il ic mO w W w' e}(d:Bw w W)(h:zN t K L b c il ic mO W e w'):zN t K L b c il ic mO w e w':=h.a (Kept.of d)
def zN.over{t c:zC}{K L:Np}{b:Nat}{a:Oa}{il ic:Nat}{mO:Int}{w w':Wl}{e:Ending}(h:zN t K L b a il ic mO w e w')(i:t.e=true)(j:∃z st,c={ t with f:=z,st:=st }):zN c K L b a il ic mO w e w':=by
 obtain⟨s,r,rfl⟩:=j;obtain⟨k,z,st,n,o,la,lc,d,g,p,l,m⟩:=h;refine⟨k,z,st,n,o,la,lc,d,g,λq=>?_,l,m⟩;have q':=q;rw[i]at q';cases q'
def zN.h{s:zC}{z:Int}{K L:Np}{b:Nat}{d:Oa}{il ic:Nat}{mO:Int}{w w':Wl}{e:Ending}(h:zN (zC.h { s with f:=z }) K L b d il ic mO w e w'):zN s.h K L b d il ic mO w e w':=by
 cases c:vr s.st.reverse with
 |none =>
  have a:zC.h { s with f:=z }=zC.l { s with f:=z } 1:=by unfold zC.h;simp only[c]
  have g:s.h=s.l 1:=by unfold zC.h;rw[c]
  rw[a]at h;rw[g];exact h.over rfl ⟨s.f,s.st,rfl⟩
 |some p =>
  obtain⟨f,r⟩:=p;have a:zC.h { s with f:=z }=s.h:=by unfold zC.h;simp only[c]
  rw[<-a];exact h
def xP{K L:Np}{b:Nat}{s:zC}{k:Oa}{il ic:Nat}{mO:Int}{h:Oa}{i:Nat}{la:Oa}{lc:Nat}{w W:Wl}{t:zC}(g:zR K L W b s k il ic mO h i la lc)(o:Kept (λx=>K x\/L x\/x=b) w W)(n:t.e=true)(d:∃z st,s={ t with f:=z,st:=st,e:=s.e,r:=s.r }):zN t K L b k il ic mO w (Rt (Iv t.r)) W:=by
 obtain⟨z,st,d⟩:=d;have l:s.st=st:=by rw[d]
 have m:s.a=t.a:=by rw[d]
 refine⟨by unfold qd;rw[n];rfl,z,st,h,i,la,lc,K,L,(λq=>by rw[n]at q;cases q),⟨?_,?_,?_,g.lt,g.kl,g.kb,g.lb⟩,λx j=>.inl j,λx j=>.inl j,o⟩
 .show zX W b _ k il ic mO h st.length i la t.a.length lc;rw[<-l,<-m];exact g.c.re (by rw[d]) (by rw[d]) (by rw[d]) (by rw[d]) (by rw[d]) (by rw[d]) (by rw[d])
 .show zB K W (Sl h st.length i) 1 st.length (vo false st);rw[<-l];exact g.st
 show zB L W (Sl la t.a.length lc) 3 t.a.length (vb t.a);rw[<-m];exact g.a
def SV{K L b c il ic mO d g la lc w W t}(i:zR K L W b t c il ic mO d g la lc)(j:Kept (λx=>K x\/L x\/x=b) w W)(h:t.e=false):zN t K L b c il ic mO w (Rt (Iv (-1))) W :=
 ⟨by unfold qd;rw[h];rfl,t.f,t.st,d,g,la,lc,K,L,λ_=>⟨rfl,rfl⟩,i,λx a=>.inl a,λx a=>.inl a,j⟩
def vw{P R w W}(h:Kept P w W)(k:∀x,P x->R x):Kept R w W:=⟨h.os,h.g,h.f,h.l,λx b a=>h.d x b (λq=>a (k x q))⟩
def unr(s:zC):(s.st.length=0/\∀k,s.v k=false)\/∃j f,s.st.length=j+1/\s.st[j]?=some f/\(∀k,s.v k=(f.e==k))/\Lv s.st=f.to:=by
 rcases Nn s.st.length with a|a
 .refine .inl ⟨a,λk=>?_⟩;unfold zC.v;rw[Ic a];rfl
 obtain⟨j,b⟩:∃j,s.st.length=j+1:=⟨s.st.length-1,oM⟩;let⟨f,d,c⟩:=YU b;refine .inr ⟨j,f,b,d,λk=>?_,?_⟩
 .unfold zC.v;rw[c]
 unfold Lv;rw[c]
def zR.d{K L:Np}{w:Wl}{b:Nat}{s:zC}{n:Oa}{il ic:Nat}{mO:Int}{g:Oa}{i:Nat}{la:Oa}{lc j:Nat}(h:zR K L w b s.nx n il ic mO g i la lc)(o:s.st.length=j+1):zR K L (w.setCell (Ad b 4) (Sl g j i)) b s.u.nx n il ic mO g i la lc:=by
 have m:s.u.nx.st.length=j:=by show s.st.dropLast.length=j;rw[Vn];omega
 have l:∀x,x≠b->(w.setCell (Ad b 4) (Sl g j i)).heap[x]?=w.heap[x]?:=λx f=>Bn f;refine⟨?_,?_,?_,λx f=>by rw[uh];exact h.lt x f,h.kl,h.kb,h.lb⟩
 .rw[m];exact(h.c.d g j i).re rfl rfl rfl rfl rfl rfl rfl
 .rw[m];have e:s.u.nx.st=s.st.take j:=by show s.st.dropLast=_;rw[List.dropLast_eq_take,o];rfl
  rw[e,HG];have k:=ja h.st (j:=j) (by show j<=s.st.length;omega);rw[Pb]at k;exact k.on (λx f=>l x (λe=>h.kb (e▸f)))
 exact h.a.on (λx f=>l x (λe=>h.lb (e▸f)))
def upr{mO s}(h:AP mO s):(s.u.st.length:Int)<=mO:=by
 have:=h.c;show(s.st.dropLast.length:Int)<=mO;rw[Vn];omega
def SX{mO s}(h:AP mO s):s.u.st.length<=1000:=by
 have:=h.d;show s.st.dropLast.length<=1000;rw[Vn];omega
def ups{mO s}(h:AP mO s):∀f,f∈s.u.st->f.e≠2->f.a<=s.u.a.length:=λf c=>h.b f (List.dropLast_subset _ c)
def uns{mO s}(h:AP mO s):∀f,f∈s.u.st->f.e=0\/f.e=1\/f.e=2:=λf b=>h.a f (List.dropLast_subset _ b)
def usj{s:zC}{j:Nat}{f:Cf}{a:Bool}(d:s.st.length=j+1)(c:s.st[j]?=some f)(g:(f.e==1)=false)(h:s.st.any (λf=>f.e==1)=a):s.u.st.any (λf=>f.e==1)=a:=by
 have e:s.st=s.st.take j++[f]:=by
  rw[<-JT c,Kg oM]
 have b:s.u.st=s.st.take j:=by show s.st.dropLast=_;rw[List.dropLast_eq_take,d];rfl
 rw[b,<-h]
 conv=>rhs;rw[e]
 rw[List.any_append];simp[g]
def usk K L b s x sa sc j il ic I mO k m la lc w(f:zR K L w b s.nx j il ic mO k m la lc)(v:AP mO s)(y:x.e=12) :
  Cs 169 #[.pointer (Sm b 0),jl x sa sc] w (zN (s.q x il I mO) K L b j il ic mO w):=by
 have g:=ua f;have r:w.cell? (Ad b 4)=some (Sl k s.st.length m):=f.c.c4;have lb:=f.bl;have u:=v.d;have o:Hid (s.q x il I mO=if s.st.length=0 then s.l 0 else s.l 4):=by
  show _=_;unfold zC.q;simp only[y];simp
 obtain⟨n,i⟩:∃n,s.st.length=n:=⟨_,rfl⟩;have p:=ua i;rw[i]at r u;unfold jl;rw[o.o,p.o];by_cases a:n=0
 .rw[Zp a];subst a;go_enter func169,ntmps169;go_wp2;go_ret;exact xP (t:=s.l 0) (g.h (zO w)) (Kept.of (zO w)) rfl ⟨_,_,rfl⟩
 rw[Zn a];have h0':(0:Int)<(n:Int):=oM;go_enter func169,ntmps169;go_wp2;go_ret;exact xP (t:=s.l 4) (g.h (zO w)) (Kept.of (zO w)) rfl ⟨_,_,rfl⟩
def uku K L b s x sa sc g il ic I mO n o la lc w(C:zR K L w b s.nx g il ic mO n o la lc)(F:AP mO s)(G:x.e=1) :
  Cs 160 #[.pointer (Sm b 0),jl x sa sc] w (zN (s.q x il I mO) K L b g il ic mO w):=by
 have p:=ua C;have i:=ua F;have v:Hid (s.q x il I mO=(s.nx).m ⟨0,x.to,s.c,s.a.length⟩ mO):=by
  show _=_;unfold zC.q;simp only[G];simp[zC.y,zC.nx]
 let⟨H,E⟩:=nm s.nx.j;have r:=ua E;rw[v.o];unfold jl;go_enter func160,ntmps160;go_wp2_with fail;refine(UQ K L b s.nx g il ic mO n o la lc x.to _ (p.h (zO w)) i.d).mono ?_;rintro e W ⟨rfl,f⟩;rw[r.o];have k:=ua (p.h (uf (zO w) f));have z:=ua (uf (zO w) f);go_wp2_with fail;refine(HY b s.c s.a.length lc la k.c.c3 k.c.c5).mono ?_;rintro e W2 ⟨rfl,f⟩;have u:=ua (k.h f);have A:=ua (uf z f);go_wp2_with fail;refine(AF K L b s.nx ⟨0,x.to,s.c,s.a.length⟩ _ _ g il ic mO n o la lc _ u i.d i.c i.e (by rw[r.o];unfold Hx;simp)).mono ?_;rintro e B l;obtain⟨D,l⟩:=l;subst D;have t:Hid (zN (zC.m s.nx ⟨0,x.to,s.c,s.a.length⟩ mO) K L b g il ic mO _ _ B):=⟨rfl,l⟩;go_wp2;go_ret;exact t.below A
def SZ(K L:Np)(b:Nat)(s:zC)(x:uw)(sa:Oa)(sc:Nat)(g:Oa)(il ic:Nat)(I:Nat->Int)(mO:Int)(k:Oa)(l:Nat)(la:Oa)(lc:Nat)(w:Wl)(p:zR K L w b s.nx g il ic mO k l la lc)(D:AP mO s) :
  Cs 165 #[.pointer (Sm b 0),jl x sa sc] w (zN (s.x x mO) K L b g il ic mO w):=by
 have z:=ua p;have o:=ua D;have lb:=p.bl;have B:w.cell? (Ad b 2)=some (Iv (s.f+1)):=p.c.c2;let⟨P,C⟩:=nm s.nx.j;have A:=ua C;obtain⟨t,u⟩:∃t,s.f+1=t:=⟨_,rfl⟩;have G:=ua u;rw[u]at B;unfold jl;clear p D C u;go_enter func165,ntmps165;go_wp2_with fail;refine(UQ K L b s.nx g il ic mO k l la lc t _ (z.h (zO w)) o.d).mono ?_;rintro e W ⟨rfl,r⟩;rw[A.o];have i:Hid (zR K L W b s.nx g il ic mO k l la lc):=z.h (uf (zO w) r);have J:Hid (Bw w W):=uf (zO w) r;have Q:=ue (a:=(Ad w.heap.size 2)) (v:=Iv x.to) (cN w.heap.size rfl rfl) r;have V:=ud Q;have R:=i.c.c2;have S:=i.c.fz 2;have U:=i.bl;have T:b≠w.heap.size:=oM;clear r B;go_wp2_with fail;have E:Hid (zR K L (W.setCell (Ad b 2) (Iv x.to)) b { s with f:=x.to } g il ic mO k l la lc):=i.o.n ((Ct.e _ W).set b 2 _ rfl) rfl rfl (i.o.c.c x.to);have H:Hid (Kept (λy=>K y\/L y\/y=b) w (W.setCell (Ad b 2) (Iv x.to))):=vw (vK (Kept.of J.o) 2) (λy h=>.inr (.inr h));refine(AF K L b { s with f:=x.to } ⟨2,s.f+1,0,0⟩ _ _ g il ic mO k l la lc _ (E.h Bi) o.d o.c o.e (by rw[G.o,show({ s with f:=x.to }:zC).j=P from A.o];unfold Hx;simp)).mono ?_;rintro e N q;obtain⟨O,q⟩:=q;subst O;have F:Hid (zN (zC.m { s with f:=x.to } ⟨2,s.f+1,0,0⟩ mO) K L b g il ic mO _ _ N):=⟨rfl,q⟩;clear q;go_wp2;go_ret;exact F.a (vX H)
def GW{K L b s C il ic mO z p la lc w W}(E:zR K L w b s.nx C il ic mO z p la lc)(A:AP mO s)(r:Bw w W) :
  Cs 207 #[.pointer (Sm b 0)] W (λe V=>∃(H:Oa) (f:Cf) (q:Bool),zR K L V b s.u.nx C il ic mO H p la lc/\Kept (λy=>y=b) w V/\(∀y,y≠b->V.heap[y]?=W.heap[y]?)/\(∀k,k<=2->s.v k=(f.e==k))/\Lv s.st=f.to/\(f.e=9/\e=Rt .nilIface\/(f.e=0/\s.u.st.any (λf=>f.e==1)=q)/\e=Rt (.iface 295 (.agg #[Iv f.to,.bool q,Iv (f.c:Int),Iv (f.a:Int)]))\/f.e=1/\e=Rt (.iface 300 (.agg #[Iv f.to,.bool q,Iv (f.c:Int),Iv (f.a:Int)]))\/f.e=2/\e=Rt (.iface 303 (.agg #[Iv f.to,.bool q])))):=by
 have m:=E.h r;have n:=m.c.c4;rcases unr s with⟨B,x⟩|⟨j,f,o,t,x,F⟩
 .rw[show s.nx.st.length=0 from B]at n;refine(UO b z p W n).mono ?_;rintro _ _ ⟨rfl,rfl⟩;have e:s.u=s:=by have:=Ic B;cases s;simp_all[zC.u]
  refine⟨z,⟨9,Lv s.st,0,0⟩,false,by rw[e];exact m,Kept.of r,λ_ _=>rfl,λk i=>?_,rfl,.inl ⟨rfl,rfl⟩⟩;rw[x];simp;omega
 rw[show s.nx.st.length=j+1 from o]at n;obtain⟨g,rfl,I,J,D⟩:=UP (l:=s.st) m.st o t;refine(HS b g j p W n (m.c.fz 4) D (oH A.d) oM).mono ?_;rintro _ _ ⟨rfl,rfl⟩;refine⟨_,f,s.st.any (λf=>f.e==1),m.d o,vK (Kept.of r) 4,λy G=>Bn G,λk _=>x k,F,?_⟩;unfold Hx;rcases A.a f (Cn t) with i|i|i
 .exact .inr (.inl ⟨⟨i,usj o t (by rw[i];rfl) rfl⟩,by rw[Zp i]⟩)
 .exact .inr (.inr (.inl ⟨i,by rw[Zn (by rw[i];decide),Zp i]⟩))
 exact .inr (.inr (.inr ⟨i,by rw[Zn (by rw[i];decide),Zn (by rw[i];decide)]⟩))
def TD{B}K L b s x sa sc G il ic I mO J N la lc w(r:zR K L w b s.nx G il ic mO J N la lc)(D:AP mO s)(k:x.e=2/\B=161\/x.e=7/\B=166) :
  Cs B #[.pointer (Sm b 0),jl x sa sc] w (zN (s.q x il I mO) K L b G il ic mO w):=by
 have H:=ua r;have F:=ua D;have lb:=r.bl;let⟨T,g⟩:=nm (s.q x il I mO);rw[g];unfold jl;rcases k with⟨j,rfl⟩|⟨j,rfl⟩;all_goals
  first|go_enter func161,ntmps161|go_enter func166,ntmps166
  go_wp2_with fail;refine(GW H F (zO w)).mono ?_;rintro _ V ⟨S,f,W,i,k,C,m,v,h⟩;have A:=ua i;have E:=ua k;let⟨z,p,l⟩:=((um w _ 102).a (C w.heap.size oM)).x;have U:=i.bl;have O:=i.c.c2;have P:=i.c.fz 2;have R:b≠w.heap.size:=oM;rcases h with⟨d,rfl⟩|⟨⟨d,Q⟩,rfl⟩|⟨d,rfl⟩|⟨d,rfl⟩;all_goals first
   |have o:Hid (s.l 4=T):=by show _=_;rw[<-g];simp[zC.q,j,m,d];done
    clear r D i k C m v g d j;go_wp2;go_ret;rw[<-o.o];exact xP (t:=s.l 4) (A.h Bi) (vw (vX E) λy h=>.inr (.inr h)) rfl ⟨_,_,rfl⟩
   |skip
  first
   |have o:Hid ({ s.u with f:=x.to }=T):=by show _=_;rw[<-g];simp[zC.q,j,m,d,v];done
   |have o:Hid ({ s.u with f:=f.to }=T):=by show _=_;rw[<-g];simp[zC.q,j,m,d,v];done
  clear r D i k C m v g d j;go_wp2;go_ret;rw[<-o.o];exact SV (zR.h (A.n ((Ct.e _ V).set b 2 _ rfl) rfl rfl (A.c.c _)) Bi) (vw (vX (vK E 2)) λy h=>.inr (.inr h)) F.e
def unt K L b s x sa sc r il ic I mO P G la lc w(k:zR K L w b s.nx r il ic mO P G la lc)(C:AP mO s)(o:x.e=5) :
  Cs 164 #[.pointer (Sm b 0),jl x sa sc] w (zN (s.q x il I mO) K L b r il ic mO w):=by
 have H:=ua k;have i:=ua C;have lb:=k.bl;let⟨T,j⟩:=nm (s.q x il I mO);rw[j];unfold jl;go_enter func164,ntmps164;go_wp2_with fail;refine(GW H i (zO w)).mono ?_;rintro _ V ⟨Q,f,Y,g,A,B,n,F,h⟩;have E:=ua g;have D:=ua A;let⟨z,p,l⟩:=((um w _ 102).a (B w.heap.size oM)).x;have X:=g.bl;have R:=g.c.c2;have S:=g.c.fz 2;have W:b≠w.heap.size:=oM;rcases h with⟨d,rfl⟩|⟨⟨d,U⟩,rfl⟩|⟨d,rfl⟩|⟨d,rfl⟩;all_goals first
  |have v:Hid (s.l 4=T):=by show _=_;rw[<-j];simp[zC.q,o,n,d];done
   clear k C g A B n F j d o;go_wp2;go_ret;rw[<-v.o];exact xP (t:=s.l 4) (E.h Bi) (vw (vX D) λy h=>.inr (.inr h)) rfl ⟨_,_,rfl⟩
  |skip
 have v:Hid (s.u.h=T):=by show _=_;rw[<-j];simp[zC.q,o,n,d]
 clear k C g A B n F j d o;go_wp2_with fail;refine(qe K L b s.u.nx r il ic mO Q G la lc (E.h Bi) (SX i) i.e (ups i) (uns i)).mono ?_;rintro e N m;obtain⟨O,m⟩:=m;subst O;have J:Hid (zN (zC.h s.u.nx) K L b r il ic mO _ _ N):=⟨rfl,m⟩;clear m;go_wp2;go_ret;rw[<-v.o];exact(J.a (vw (vX D) (λy h=>.inr (.inr h)))).h
def uiI K L b s x sa sc i il ic I mO ka B la lc w(F:zR K L w b s.nx i il ic mO ka B la lc)(U:AP mO s)(J:x.e=3) :
  Cs 162 #[.pointer (Sm b 0),jl x sa sc] w (zN (s.q x il I mO) K L b i il ic mO w):=by
 have HA:=ua F;have E:=ua U;have lb:=F.bl;let⟨T,A⟩:=nm (s.q x il I mO);rw[A];unfold jl;go_enter func162,ntmps162;go_wp2_with fail;refine(GW HA E (zO w)).mono ?_;rintro _ V ⟨O,f,nn,r,R,S,H,W,h⟩;have k:=ua r;have D:=ua R;let⟨z,p,l⟩:=((um w _ 102).a (S w.heap.size oM)).x;have lv:=r.bl;have d2:=r.c.c2;have g2:=r.c.fz 2;have ae:b≠w.heap.size:=oM;rcases h with⟨g,rfl⟩|⟨⟨g,hn⟩,rfl⟩|⟨g,rfl⟩|⟨g,rfl⟩;all_goals first
  |have P:Hid (s.l 4=T):=by show _=_;rw[<-A];simp[zC.q,J,H,g];done
   clear F U r R S H W A g J;go_wp2;go_ret;rw[<-P.o];exact xP (t:=s.l 4) (k.h Bi) (vw (vX D) λy h=>.inr (.inr h)) rfl ⟨_,_,rfl⟩
  |skip
 have P:Hid (({ s.u with f:=x.to }:zC).m ⟨0,f.to,s.c,s.a.length⟩ mO=T):=by show _=_;rw[<-A];simp[zC.q,J,H,g,W]
 have ad:=ua hn;clear F U r R S H W A g J hn;go_wp2_with fail;refine(HY b s.c s.a.length lc la (k.h Bi).c.c3 (k.h Bi).c.c5).mono ?_;rintro e W2 ⟨rfl,d⟩;have C:Hid (zR K L W2 b s.u.nx i il ic mO O B la lc):=k.h (uf Bi d);have X:=ua (uf Bi d);have y0:=ue (a:=(Ad V.heap.size 0)) (v:=Iv f.to) (cN V.heap.size rfl rfl) d;have y1:=ue (a:=(Ad V.heap.size 1)) (v:=.bool nn) (cN V.heap.size rfl rfl) d;have y2:=ue (a:=(Ad V.heap.size 2)) (v:=Iv f.c) (cN V.heap.size rfl rfl) d;have y3:=ue (a:=(Ad V.heap.size 3)) (v:=Iv f.a) (cN V.heap.size rfl rfl) d;have Q:∀o,W2.frozen? (Ad V.heap.size o)=false:=λo=>by
  rw[d.frozen (p:=(Ad V.heap.size o)) sM];exact qU V 295 _ _ oM sM
 have q2:=Q 2;have q3:=Q 3;have x2:=ue (z 2) X;have aj:=ud x2;have ai:=ud y0;have e2:=C.c.c2;have r2:=C.c.fz 2;have ah:=C.bl;have af:b≠V.heap.size:=oM;have ag:w.heap.size≠V.heap.size:=oM;clear d Q d2 g2 z p;go_wp2_with fail;have aa:Hid (zR K L (((W2.setCell (Ad V.heap.size 2) (Iv s.c)).setCell (Ad V.heap.size 3) (Iv s.a.length)).setCell (Ad b 2) (Iv x.to)) b { s.u with f:=x.to } i il ic mO O B la lc):=by
  have Z:∀y,K y\/L y\/y=b->y≠V.heap.size:=λy N e=>by
   subst e;rcases N with q|q|q
   .have:=k.lt _ (.inl q);omega
   .have:=k.lt _ (.inr q);omega
   omega
  have Y:zR K L ((W2.setCell (Ad V.heap.size 2) (Iv s.c)).setCell (Ad V.heap.size 3) (Iv s.a.length)) b s.u.nx i il ic mO O B la lc:=C.on (λy N=>(Bn (Z y N)).trans (Bn (Z y N))) (by rw[uh,uh];exact zD);exact Y.n ((Ct.e _ _).set b 2 _ rfl) rfl rfl (Y.c.c x.to)
 have ac:Hid (Kept (λy=>K y\/L y\/y=b) w (((W2.setCell (Ad V.heap.size 2) (Iv s.c)).setCell (Ad V.heap.size 3) (Iv s.a.length)).setCell (Ad b 2) (Iv x.to))):=by
  have h5:=yF D (Kept.of X);exact vw (vK ((h5.set _ _ _ (oH D.l)).set _ _ _ (oH D.l)) 2) (λy h=>.inr (.inr h))
 refine(AF K L b { s.u with f:=x.to } ⟨0,f.to,s.c,s.a.length⟩ _ _ i il ic mO O B la lc _ aa (SX E) (upr E) E.e (by rw[show({ s.u with f:=x.to }:zC).j=nn from ad];unfold Hx;simp)).mono ?_;rintro e W9 G;obtain⟨he,G⟩:=G;subst he;have ab:Hid (zN (zC.m { s.u with f:=x.to } ⟨0,f.to,s.c,s.a.length⟩ mO) K L b i il ic mO _ _ W9):=⟨rfl,G⟩;clear G;go_wp2;go_ret;rw[<-P.o];exact ab.a ac
def unu K L b s x sa sc k il ic I mO r u la lc w(S:zR K L w b s.nx k il ic mO r u la lc)(V:AP mO s)(ae:s.d<=1048576)(X:x.e=8) :
  Cs 167 #[.pointer (Sm b 0),jl x sa sc] w (zN (s.q x il I mO) K L b k il ic mO w):=by
 have E:Hid (zR K L w b s.nx k il ic mO r u la lc):=S;have i:Hid (AP mO s):=V;unfold jl;have P:Hid (s.q x il I mO=if s.j then s.h else if x.to<0 then ({ s with d:=s.d+1,s:=x.f }).l 2 else ({ s with d:=s.d+1 }).x x mO):=by
  show _=_;unfold zC.q;simp only[X];simp
 obtain⟨C,N⟩:∃C,s.j=C:=⟨_,rfl⟩;have Y:Hid (s.nx.j=C):=N;have D:=P.o;rw[N]at D;obtain⟨T,U⟩:∃T,s.q x il I mO=T:=⟨_,rfl⟩;rw[U]at D ⊢;have A:Hid (T=if C=true then s.h else if x.to<0 then ({ s with d:=s.d+1,s:=x.f }).l 2 else ({ s with d:=s.d+1 }).x x mO):=D;clear S V X N D P U;go_enter func167,ntmps167;go_wp2_with fail;refine(qL K L b s.nx k il ic mO r u la lc (E.o.h (zO w)) i.o.d).mono ?_;rintro e W ⟨rfl,z⟩;rw[Y.o];have o:Hid (zR K L W b s.nx k il ic mO r u la lc):=E.o.h (uf (zO w) z);have R:Hid (Bw w W):=uf (zO w) z;have x0:=ue (a:=(Ad w.heap.size 0)) (v:=Iv x.e) (cN w.heap.size rfl rfl) z;have x1:=ue (a:=(Ad w.heap.size 1)) (v:=Iv x.f) (cN w.heap.size rfl rfl) z;have x2:=ue (a:=(Ad w.heap.size 2)) (v:=Iv x.to) (cN w.heap.size rfl rfl) z;have x3:=ue (a:=(Ad w.heap.size 3)) (v:=Sl sa x.sl sc) (cN w.heap.size rfl rfl) z;have lw:w.heap.size<W.heap.size:=ud x0;have d9:W.cell? (Ad b 264)=some (Iv s.d):=o.o.c.c9;have ab:W.cell? (Ad b 265)=some (Iv s.s):=o.o.c.a;have f9:=o.o.c.fz 264;have ac:=o.o.c.fz 265;have af:=o.o.bl;have ag:=E.o.bl;have ad:b≠w.heap.size:=oM;clear z;cases C with
 |true =>
  have B:Hid (T=s.h):=by show _=_;rw[A.o,Zp rfl]
  clear A;go_wp2_with fail;refine(qe K L b s.nx k il ic mO r u la lc o.o i.o.d i.o.e i.o.b i.o.a).mono ?_;rintro e H p;obtain⟨J,p⟩:=p;subst J;have G:Hid (zN (zC.h s.nx) K L b k il ic mO _ _ H):=⟨rfl,p⟩;clear p;go_wp2;go_ret;rw[B.o];exact(G.o.below R.o).h
 |false =>
  have F:Hid (zR K L (W.setCell (Ad b 264) (Iv ((s.d:Int)+1))) b (zC.nx { s with d:=s.d+1 }) k il ic mO r u la lc):=by
   have h:=o.o.n (s':=zC.nx { s with d:=s.d+1 }) ((Ct.e _ W).set b 264 (Iv ((s.d+1:Nat):Int)) rfl) rfl rfl (o.o.c.m (s.d+1));rw[Te,Int.natCast_one]at h;exact h
  have Q:Hid (Kept (λy=>K y\/L y\/y=b) w (W.setCell (Ad b 264) (Iv ((s.d:Int)+1)))):=vw (vK (Kept.of R.o) 264) (λy h=>.inr (.inr h));by_cases O:x.to<0
  .have B:Hid (T=({ s with d:=s.d+1,s:=x.f }:zC).l 2):=(by show _=_;rw[A.o,Zn dC,Zp O]);clear A;go_wp2;go_ret;rw[B.o];have Z:zR K L ((W.setCell (Ad b 264) (Iv ((s.d:Int)+1))).setCell (Ad b 265) (Iv x.f)) b (zC.nx { s with d:=s.d+1,s:=x.f }) k il ic mO r u la lc:=F.o.n ((Ct.e _ _).set b 265 _ rfl) rfl rfl (F.o.c.h x.f);exact xP (t:=({ s with d:=s.d+1,s:=x.f }:zC).l 2) Z (yF Q.o (vw (vK (kM _) 265) (λy h=>.inr (.inr h)))) rfl ⟨_,_,rfl⟩
  have hto':¬x.to<0:=O;have B:Hid (T=zC.x { s with d:=s.d+1 } x mO):=by show _=_;rw[A.o,Zn dC,Zn O]
  clear A;have aa:AP mO { s with d:=s.d+1 }:=⟨i.o.m1,i.o.c,i.o.b,i.o.a,i.o.g,i.o.e⟩;go_wp2_with fail;refine(SZ K L b { s with d:=s.d+1 } x sa sc k il ic I mO r u la lc _ F.o aa).mono ?_;rintro e H p;obtain⟨J,p⟩:=p;subst J;have G:Hid (zN (zC.x { s with d:=s.d+1 } x mO) K L b k il ic mO _ _ H):=⟨rfl,p⟩;go_wp2;go_ret;rw[B.o];exact G.a Q
def usl K L b s x sa sc j il ic I mO t u la lc w(o:zR K L w b s.nx j il ic mO t u la lc)(p:AP mO s)(r:x.e=4) :
  Cs 163 #[.pointer (Sm b 0),jl x sa sc] w (zN (s.q x il I mO) K L b j il ic mO w):=by
 have l:=ua p;have C:Hid (s.q x il I mO=(s.nx).m ⟨1,x.to,s.c,s.a.length⟩ mO):=by
  show _=_;unfold zC.q;simp only[r];simp[zC.y,zC.nx]
 rw[C.o];unfold jl;have v:=ua o;clear o p r;go_enter func163,ntmps163;go_wp2;have n:=uk w (Oc #[Iv x.e,Iv x.f,Iv x.to,Sl sa x.sl sc] 102);have J:(w.alloc (Oc #[Iv x.e,Iv x.f,Iv x.to,Sl sa x.sl sc] 102)).cell? (Ad w.heap.size 2)=some (Iv x.to):=cN w.heap.size rfl rfl;generalize w.alloc (Oc #[Iv x.e,Iv x.f,Iv x.to,Sl sa x.sl sc] 102)=X at *;have D:=ua n;have k:=ua (v.h n);have E:Hid (∀W,Bw X W->W.cell? (Ad w.heap.size 2)=some (Iv x.to)):=λW G=>ue J G;clear n;go_region_with (first
  |(go_at_call 206;refine(HY b s.c s.a.length lc la (k.h (zH X).drew).c.c3 (k.h (zH X).drew).c.c5).mono ?_;rintro e W ⟨rfl,i⟩;have y2:=E W (uf (zH X).drew i);have A:=ua (k.h (uf (zH X).drew i));have B:=ua (uf (zH X).drew i);clear i)
  |(go_at_call 204;refine(AF K L b s.nx ⟨1,x.to,s.c,s.a.length⟩ _ _ j il ic mO t u la lc _ A l.d l.c l.e (by unfold Hx;simp)).mono ?_;rintro e F g;obtain⟨H,g⟩:=g;subst H;have z:Hid (zN (zC.m s.nx ⟨1,x.to,s.c,s.a.length⟩ mO) K L b j il ic mO _ _ F):=⟨rfl,g⟩;clear g))
 all_goals
  go_wp2;go_ret;exact(z.below B).below D
def usm:(prog.info? 165).map (λi=>(i.zero,i.size,i.bytes))=some (some (.agg #[Iv 0,Iv 0,Iv 0]),3,24):=rR
def usn:vJ 42 165 3 24:=⟨underlying42,⟨_,usm,rfl⟩,oM⟩
def Uf(e:Cm):Obj:=.cells #[Iv e.e,Iv e.f,Iv e.c] 165
def uso(w:Wl)(e:Cm):Src prog 3 42 (Sl (Sm w.heap.size 0) 1 1) 1 (Ji e) (w.alloc (Uf e)):=qg underlying42 rfl rfl rfl
def evT{ops:Array Oper}{o:Oper}{a:Act}{w:Wl}{K:Act->World->Prop}{f:Exit->Act->World->Prop}{E:Prop}(i:o.guard=none)(s x:Operand)(l:o.op=.call { callee:=.builtin .append,args:=#[s,x],argTypes:=#[42,42] })
  {L:Np} {w1:Wl} {v y:Vl} {m:Nat} {cs:List Value} {d:Cm} (n:a.eval s=v) (q:a.eval x=y) (r:y=Sl (Sm w1.heap.size 0) 1 1) (p:w=w1.alloc (Uf d)) (h:zB L w1 v 3 m cs) (j:∀b,L b->b<w1.heap.size) (u:m<=4194304)
  (k:∀w' c c',Hid (zB (λb=>L b\/(w1.alloc (Uf d)).heap.size<=b) w' (Sl c (m+1) c') 3 (m+1) (cs++Ji d))->Hid (zT (λb=>L b) (w1.alloc (Uf d)) w')->K (a.put o.dst (Sl c (m+1) c')) w'):if Region.wanted o (yielded ops a.tmps)=true then Oper.wp prog o a w K f else E:=by
 subst p r;have b1:=uk w1 (Uf d);refine jN i s x 42 42 l n q usn (h.on (λb g=>b1.block b (j b g))) (uso w1 d) oM ?_;intro A w' e t z;obtain⟨c,c',rfl⟩:=uj e;exact k w' c c' e t
def usp{K L:Np}{b:Nat}{s:zC}{k a:Int}{r:Oa}{il ic:Nat}{mO:Int}{t:Oa}{u:Nat}{la:Oa}{lc:Nat}{w Y W:Wl}{m:Oa}{c':Nat}(i:zR K L w b s.nx r il ic mO t u la lc)(B:s.e=false)(p:Bw w Y)(o:zT (λx=>L x) Y W)
  (y:zB (λx=>L x\/Y.heap.size<=x) W (Sl m (s.a.length+1) c') 3 (s.a.length+1) (vb s.a++Ji ⟨k,a,s.c⟩)) :
  zN (s.n k a) K L b r il ic mO w (Rt (Iv (-1))) (W.setCell (Ad b 5) (Sl m (s.a.length+1) c')):=by
 have A:=i.bl;have E:=p.size;have D:=o.l;have Gl:∀x,x<w.heap.size->¬L x->W.heap[x]?=w.heap[x]?:=λx j C=>(o.d x oM C).trans (p.block x j);have z:=Gl b A i.lb;refine⟨by unfold qd;simp[zC.n,B],s.f+1,s.st,t,u,m,c',K,λx=>(L x\/Y.heap.size<=x)/\x<W.heap.size,λ_=>⟨rfl,rfl⟩,⟨?_,?_,?_,?_,?_,i.kb,?_⟩,λx j=>.inl j,?_,?_⟩
 .show zX _ b _ r il ic mO t s.st.length u m (s.a++[_]).length c';rw[zJ,Dd];have h:=(i.c.on z).e m (s.a.length+1) c';exact h.re rfl rfl rfl rfl rfl rfl rfl
 .exact i.st.on (λx j=>(Bn (λe=>i.kb (by simp at e;exact e▸j))).trans (Gl x (i.lt x (.inl j)) (λq=>i.kl x j q)))
 .show zB _ _ (Sl m (s.a++[_]).length c') 3 (s.a++[_]).length (vb (s.a++[_]));rw[ujk,zJ,Dd];exact zB.on (y.a oM (λx q j=>⟨q,j⟩)) (λx q=>Bn (λe=>by subst e;exact q.1.elim i.lb oM))
 .intro x j;rw[uh];rcases j with q|q
  .have:=i.lt x (.inl q);omega
  exact q.2
 .rintro x h ⟨q|q,_⟩
  .exact i.kl x h q
  have:=i.lt x (.inl h);omega
 .rintro⟨q|q,_⟩
  .exact i.lb q
  omega
 .rintro x ⟨q|q,h⟩
  .exact .inl q
  exact .inr ⟨oM,by rw[uh];exact h⟩
 refine⟨o.os.trans p.os,o.g.trans p.tape,o.f.trans p.output,by rw[uh];omega,λx j v=>(Bn (λe=>v (.inr (.inr e)))).trans (Gl x j (λq=>v (.inr (.inl q))))⟩
def GX K L b m kd s x sa sc z il ic mO R S la lc w(I:zR K L w b s.nx z il ic mO R S la lc)(t:AP mO s)(r:w.cell? (Ad m 0)=some (Iv kd))(N:¬L m) :
  Cs 208 #[.pointer (Sm b 0),jl x sa sc,.pointer (Sm m 0)] w (zN (s.n kd x.f) K L b z il ic mO w):=by
 have l:=ua I;have F:=ua t;have O:=t.g;unfold jl;go_enter func208,ntmps208;go_wp2;have k:=uk w (Oc #[Iv x.e,Iv x.f,Iv x.to,Sl sa x.sl sc] 102);have x1:(w.alloc (Oc #[Iv x.e,Iv x.f,Iv x.to,Sl sa x.sl sc] 102)).cell? (Ad w.heap.size 1)=some (Iv x.f):=cN w.heap.size rfl rfl;have P:(w.alloc (Oc #[Iv x.e,Iv x.f,Iv x.to,Sl sa x.sl sc] 102)).heap.size=w.heap.size+1:=sM;generalize w.alloc (Oc #[Iv x.e,Iv x.f,Iv x.to,Sl sa x.sl sc] 102)=X at *;have G:=ua k;have i:=ua (l.h k);have Q:=ue r k;have c3:=i.c.c3;have H:X.cell? (Ad b 5)=some (Sl la s.a.length lc):=i.c.c5;have T:=i.bl;have Z:=ud Q;have aa:w.heap.size<X.heap.size:=oM;obtain⟨ln,j⟩:∃ln,s.a.length=ln:=⟨_,rfl⟩;have C:=ua j;rw[j]at H O;have E:Hid (zB L X.drew (Sl la ln lc) 3 ln (vb s.a)):=by
  have h:=i.a;rw[show s.nx.a.length=ln from j]at h;exact h.on (λy u=>rfl)
 have D:Hid (∀y,L y->y<X.drew.heap.size):=λy u=>i.lt y (.inr u);have B:Hid (∀W o,zT (λy=>L y) (X.drew.alloc o) W->W.cell? (Ad b 5)=some (Sl la ln lc)/\W.frozen? (Ad b 5)=false):=λW o J=>by
  have e:=(J.d b sO l.lb).trans (Iu X.drew _ _ T);exact⟨(Bd (a:=(Ad b 5)) e).trans (by have:=i.c.c5;rw[show s.nx.a.length=ln from j]at this;exact this),(Dp (a:=(Ad b 5)) e).trans (i.c.fz 5)⟩
 clear r k P j N;go_region_law (first
  |(refine evT rfl (.tmp 10) (.tmp 19) rfl (w1:=X.drew) (L:=L) (v:=Sl la ln lc) (y:=Sl (Sm X.heap.size 0) 1 1) (cs:=vb s.a) (d:=⟨kd,x.f,s.c⟩) (by simp[Act.eval]) (by simp[Act.eval]) rfl rfl E D oM ?_;intro W4 U V A p;let⟨r5,v5⟩:=B W4 _ p))
 all_goals go_wp2
 all_goals go_ret
 all_goals
  have q:=A;rw[<-C.o]at q ⊢;exact(usp (Y:=X.drew.alloc (Uf ⟨kd,x.f,s.c⟩)) l F.e (uf G (uf (zH X).drew (zO X.drew))) p q)
def Ku(f:FuncId):Vl:=.func (.func f) #[] #[]
def Xb(k:Nat):Vl:=.func (.func 208) #[] #[.pointer (Sm k 0)]
def Sa(a b c:Nat):Array Value:=#[Ku 159,Ku 160,Ku 161,Ku 162,Ku 163,Ku 164,Ku 165,Ku 166,Ku 167,Xb a,Xb b,Xb c,Ku 169]
def GZ{k}{w}:Cs 168 #[Iv k] w (λe w'=>e=Rt (.func (.func 208) #[] #[.pointer (Sm w.heap.size 0)])/\w'=w.alloc (Oc #[Iv k] 3)):=by
 go_enter func168,ntmps168;go_wp2;go_ret;exact⟨rfl,rfl⟩
def uez a b f c w(d:(w.cell? a).isSome=true)(e:w.frozen? a=false):(store a (.func b f c)).run prog w=.ok () (w.setCell a (.func b f c)):=by
 let⟨u,g⟩:=Kc.1 d;rw[run_store _ _ _ _ _ rfl,g];simp[e]
attribute [local go_sem] uez
def TO(w:Wl)(b:Nat)(a c v2 v3 v4 v5 v6 v7 v8 g d e f:Vl):Wl:=(((((((((((((w.setCell (Ad b 0) a).setCell (Ad b 1) c).setCell (Ad b 2) v2).setCell (Ad b 3) v3).setCell (Ad b 4) v4).setCell (Ad b 5) v5).setCell (Ad b 6) v6).setCell (Ad b 7) v7).setCell (Ad b 8) v8).setCell (Ad b 9) g).setCell (Ad b 10) d).setCell (Ad b 11) e).setCell (Ad b 12) f)
def ukw w b a c v2 v3 v4 v5 v6 v7 v8 i d f g:Ct (λx=>x=b) w (TO w b a c v2 v3 v4 v5 v6 v7 v8 i d f g):=by
 unfold TO;have h:=λ(o:Nat) (v:Vl) {W:Wl} (k:Ct (λx=>x=b) w W)=>Ct.set (P:=λx=>x=b) k b o v rfl;exact(h 12 g (h 11 f (h 10 d (h 9 i (h 8 v8 (h 7 v7 (h 6 v6 (h 5 v5 (h 4 v4 (h 3 v3 (h 2 v2 (h 1 c (h 0 a (Ct.e _ _))))))))))))))
structure TP(w:Wl)(e:Ending)(w':Wl):Prop where
 ex:∃k0 k1 k2,e=Rt (.agg (Sa k0 k1 k2))/\w'.cell? (Ad k0 0)=some (Iv 0)/\w'.cell? (Ad k1 0)=some (Iv 1)/\w'.cell? (Ad k2 0)=some (Iv 2)
 q:Bw w w'
def uiK w:Cs 110 #[] w (TP w):=by
 go_enter func110,ntmps110;go_wp2_with fail;refine(GZ).mono ?_;rintro e w' ⟨rfl,rfl⟩;go_wp2_with fail;refine(GZ).mono ?_;rintro e w' ⟨rfl,rfl⟩;go_wp2_with fail;refine(GZ).mono ?_;rintro e w' ⟨rfl,rfl⟩;have m:=Vr (Vr (Vr (xC w (Oc #[.nilFunc,.nilFunc,.nilFunc,.nilFunc,.nilFunc,.nilFunc,.nilFunc,.nilFunc,.nilFunc,.nilFunc,.nilFunc,.nilFunc,.nilFunc] 199) _ rfl) (Oc #[Iv 0] 3)) (Oc #[Iv 1] 3)) (Oc #[Iv 2] 3);have i:=ua (uf (Lk w (Oc #[.nilFunc,.nilFunc,.nilFunc,.nilFunc,.nilFunc,.nilFunc,.nilFunc,.nilFunc,.nilFunc,.nilFunc,.nilFunc,.nilFunc,.nilFunc] 199) (Oc #[Iv 0] 3) (Oc #[Iv 1] 3)) (uk _ (Oc #[Iv 2] 3)));simp only[Ck];generalize k:(((w.alloc _).alloc _).alloc _).alloc _=Y at *;have p:Y.cell? (Ad (w.heap.size+1) 0)=some (Iv 0):=k▸uG _ (uG _ (cN (w.heap.size+1) sM rfl));have q:Y.cell? (Ad (w.heap.size+1+1) 0)=some (Iv 1):=k▸uG _ (cN (w.heap.size+1+1) sM rfl);have r:Y.cell? (Ad (w.heap.size+1+1+1) 0)=some (Iv 2):=k▸cN (w.heap.size+1+1+1) sM rfl;clear k;have t:=λj=>Vq (j:=j) m;have b:=λj v h=>uN (j:=j) (v:=v) m h;have u:=ud (b 0 _ rfl);have y:=b 0 _ rfl;have z:=b 1 _ rfl;have D:=b 2 _ rfl;have E:=b 3 _ rfl;have F:=b 4 _ rfl;have G:=b 5 _ rfl;have H:=b 6 _ rfl;have I:=b 7 _ rfl;have J:=b 8 _ rfl;have L:=b 9 _ rfl;have A:=b 10 _ rfl;have B:=b 11 _ rfl;have C:=b 12 _ rfl;clear b;have s:=trivial;have n:Hid (∀W',Ct (λx=>x=w.heap.size) Y W'->TP w (Rt (.agg (Sa (w.heap.size+1) (w.heap.size+1+1) (w.heap.size+1+1+1)))) W'):=λW' c =>
  ⟨⟨_,_,_,rfl,(Bd (a:=⟨w.heap.size+1,0,none⟩) (c.d (w.heap.size+1) oM)).trans p,(Bd (a:=⟨w.heap.size+1+1,0,none⟩) (c.d (w.heap.size+1+1) oM)).trans q,(Bd (a:=⟨w.heap.size+1+1+1,0,none⟩) (c.d (w.heap.size+1+1+1) oM)).trans r⟩,
   ⟨c.os.trans i.os,c.g.trans i.tape,c.f.trans i.output,by rw[c.l];exact i.size,λx o=>(c.d x oM).trans (i.block x o)⟩⟩
 go_wp2;refine zL (v:=.agg (Sa (w.heap.size+1) (w.heap.size+1+1) (w.heap.size+1+1+1))) ?_ rfl ?_
 .unfold Sa Ku Xb;simp[results,f110,go_sem, *]
 exact n _ (ukw _ _ _ _ _ _ _ _ _ _ _ _ _ _ _)
def ukx fU mO w:Cs 45 #[Iv fU,Iv mO] w (JW (decide (0<=fU/\fU<=50000/\0<=mO/\mO<=1000)) w):=by
 by_cases a:0<=fU<;>by_cases b:fU<=50000<;>by_cases c:0<=mO<;>by_cases d:mO<=1000
 all_goals
  go_enter func45,ntmps45;go_wp2;go_ret;exact⟨sO,rfl⟩
def TQ{kd}{b}{c} sa a sc{w}(d:a<=1048576):Cs 47 #[.agg #[Iv kd,Iv b,Iv c,Sl sa a sc]] w (Sq (decide (512<a)) w):=by
 by_cases h:512<a
 .have h':(512:Int)<(a:Int):=oM;go_enter func47,ntmps47;go_wp2;go_ret;exact⟨by simp[h],zO w⟩
 have h':¬(512:Int)<(a:Int):=oM;go_enter func47,ntmps47;go_wp2;go_ret;exact⟨by simp[h],zO w⟩
def uwR(n:Nat)(R:Nat->uw)(w:Wl)(e:Ending)(w':Wl):Prop:=(∃r:Int,e=Rt (Iv r)/\(0<=r↔∃i,i<n/\512<(R i).sl)/\-1<=r/\r<=1048576)/\Bw w w'
def idI(w:Wl)(n:Nat)(R:Nat->uw)(a:Vl)(wr:Wl):Prop:=∃k:Nat,k<=n/\a=Iv (k:Int)/\(∀i,i<k->¬512<(R i).sl)/\Bw w wr
def unx Q a n c R w(d:Dz Q w a n R)(I:n<=1048576)(D:∀i,i<n->(R i).sl<=1048576) :
  Cs 109 #[Sl a n c,.func (.func 47) #[] #[]] w (uwR n R w):=by
 have y:=ua d;have z:=ua D;go_enter func109,ntmps109;go_wp2;go_loopw [8] (λs wr=>idI w n R s wr) (λs _=>n-(intOf s).toNat)
 .exact⟨0,zK,rfl,λi p=>aB p (Ge _),zH _⟩
 obtain⟨k,H,rfl,B,v⟩:=hrel;have t:=ua B;have l:=ua v;by_cases q:k<n
 .have d:=y.h v;rcases d with G|⟨b,off,rfl,J,d⟩
  .omega
  let⟨A,E,F,sa,sc,c3,L⟩:=d k q;have lb:=ud A;have hlt':(k:Int)<(n:Int):=oM;have r:=z k q;let⟨g,x⟩:=nm ((R k).sl);have u:=ua x;rw[x]at c3 r;by_cases j:512<g
  .have C:decide (512<g)=true:=(by simp[j]);have o:=ua j;go_wp2_with (go_at_call 47;refine(TQ sa g sc r).mono ?_;rintro e W ⟨rfl,f⟩;have m:Hid _:=f;clear f);go_ret;exact⟨⟨(k:Int),rfl,⟨λ_=>⟨k,q,by rw[u.o];exact o⟩,λ_=>oM⟩,oM,oM⟩,uf l m⟩
  have C:decide (512<g)=false:=by simp[j]
  have o:=ua j;go_wp2_with (go_at_call 47;refine(TQ sa g sc r).mono ?_;rintro e W ⟨rfl,f⟩;have m:Hid _:=f;clear f);go_roundw
  .exact⟨k+1,oM,by go_num,Vt t (by rw[u.o];exact o),uf l m⟩
  simp[intOf];omega
 obtain rfl:k=n:=oM;go_wp2;go_ret;exact⟨⟨-1,rfl,⟨λh=>oM,λ⟨i,p,h⟩=>aB h (t i p)⟩,oM,oM⟩,l⟩
def uhc Q a n c R w(l:Dz Q w a n R)(o:n<=1048576)(p:∀i,i<n->(R i).sl<=1048576) :
  Cs 46 #[Sl a n c,.func (.func 47) #[] #[]] w (Qq (∃i,i<n/\512<(R i).sl) w):=by
 have h:=ua l;have j:=ua p;go_enter func46,ntmps46;go_wp2_with fail;refine(unx Q a n c R _ h o j).mono ?_;rintro e W ⟨⟨r,rfl,g,s,t⟩,f⟩;have d:=ua g;have b:=ua f;clear g f;by_cases k:0<=r
 .go_wp2;go_ret;exact⟨⟨true,rfl,Qp (d.1 k)⟩,b⟩
 have m:decide (0<=r)=false:=sO;go_wp2;go_ret;exact⟨⟨false,by rw[<-m];rfl,xU (λq=>oH (d.2 q))⟩,b⟩
def upV{ι:Type}{F:ι->World}{w}{f:FuncId}{args:Av}{n:ι}{v:Bool}(a:Bw w (F n))(b:∀W,Bw w W->∃n,W=F n)(h:Cs f args (F n) (Sq v (F n))):Cs f args (F n) λe c=>e=Rt (.bool v)/\∃m,c=F m :=
 h.mono λe W q=>⟨q.1,b W (uf a q.2)⟩
def xQ{s:zC}{n:Nat}{S:Nat->Int}:(s.k n S).st=s.st:=by unfold zC.k;split<;>(try split)<;>rfl
def AI{s:zC}{n:Nat}{S:Nat->Int}:(s.k n S).a=s.a:=by unfold zC.k;split<;>(try split)<;>rfl
def HW{s:zC}{n:Nat}{S:Nat->Int}:(s.k n S).e=s.e:=by unfold zC.k;split<;>(try split)<;>rfl
def UR(s:zC)(n:Nat)(S:Nat->Int):s.nx.k n S=(s.k n S).nx:=by
 unfold zC.k;show(if s.i<s.c then _ else if s.c=s.i then _ else _)=_;split
 .rfl
 split<;>rfl
def zR.m{K L w w' b s s' g il ic mO i j la lc}(h:zR K L w b s g il ic mO i j la lc)(f:Kept (λx=>x=b) w w')(n:s'.st=s.st)(k:s'.a=s.a)(o:zX w' b s' g il ic mO i s.st.length j la s.a.length lc):zR K L w' b s' g il ic mO i j la lc:=by
 refine⟨by rw[n,k];exact o,?_,?_,λx c=>Ba (h.lt x c) f.l,h.kl,h.kb,h.lb⟩
 .rw[n];exact h.st.on (λx c=>f.d x (h.lt x (.inl c)) (λe=>h.kb (e▸c)))
 rw[k];exact h.a.on (λx c=>f.d x (h.lt x (.inr c)) (λe=>h.lb (e▸c)))
def upW K L Q Q' b s x sa sc p il ic I mO l o la lc w(hA:zR K L w b s.nx p il ic mO l o la lc)(hp:AP mO s)(hx:x.e=0)(hS:Ints Q .i64 w sa x.sl x.set)(ae:x.sl<=1048576)(hI:Ints Q' .u8 w p il I)(hB:Cz il I)(ao:il<=1048576)(hq:¬Q b)(ai:∀y,Q y->y<w.heap.size) :
  Cs 159 #[.pointer (Sm b 0),jl x sa sc] w (zN (s.q x il I mO) K L b p il ic mO w):=by
 have HA:=ua hA;have g:Hid (AP mO s):=hp;have HS:=ua hS;have HI:=ua hI;have aj:=ua hB;have HQ:=ua hq;have af:=ua ai;unfold jl;have HE:Hid (s.q x il I mO=s.w x.sl x.set il I):=by
  show _=_;unfold zC.q;simp only[hx];simp
 obtain⟨T,hT⟩:∃T,s.q x il I mO=T:=⟨_,rfl⟩;have HT:Hid (T=s.w x.sl x.set il I):=by show _=_;rw[<-hT,HE.o]
 rw[hT];clear hA hp hx hS hI hB hq ai hT HE;go_enter func159,ntmps159;go_wp2;have hX:=uk w (Oc #[Iv x.e,Iv x.f,Iv x.to,Sl sa x.sl sc] 102);have x3:(w.alloc (Oc #[Iv x.e,Iv x.f,Iv x.to,Sl sa x.sl sc] 102)).cell? (Ad w.heap.size 3)=some (Sl sa x.sl sc):=cN w.heap.size rfl rfl;generalize w.alloc (Oc #[Iv x.e,Iv x.f,Iv x.to,Sl sa x.sl sc] 102)=X at *;have HX:=ua hX;have Y:=ua (HA.h hX);have aw:=ud x3;have an:=ua x3;let⟨ι,aq,F,S,ad⟩:=Vb X;have f3:∀n,(F n).cell? (Ad b 3)=some (Iv s.c):=λn=>ue Y.c.c3 (S n);have f0:∀n,(F n).cell? (Ad b 0)=some (Sl p il ic):=λn=>ue Y.c.c0 (S n);have g3:∀n,(F n).cell? (Ad w.heap.size 3)=some (Sl sa x.sl sc):=λn=>ue x3 (S n);have HC:=ua (ad _ (zH X).drew);have O:=ua S;have HF':=ua ad;clear S ad hX x3;by_cases aa:s.c<il
 .have au:s.c<=1048576:=oM;obtain⟨B,C,rfl,ap,ag⟩:=HI.resolve_left oM;have i0:∀n,(F n).cell? (Ad B (C+s.c))=some (Bv (I s.c)):=λn=>ue (ue (ag s.c aa) HX) (O n);have ak:=aj s.c aa;have hlt':(s.c:Int)<(il:Int):=oM;let⟨u,hu⟩:=nm (I s.c);rw[hu]at ak i0;have HU:Hid (I s.c=u):=hu;let⟨hh,ah⟩:=nm (vq x.sl x.set u);have HH:Hid (vq x.sl x.set u=hh):=ah;clear hu ah ag;refine ye F rR rR HC ?_;repeat (go_big_quiet_step (first|(go_at_call 200;exact upV (O _) HF' (unA Q sa x.sl sc x.set u _ ae ((HS.h HX).h (O _))))))
  refine wpQuiet_nil ?_;rintro _ ⟨nq,rfl⟩;have v3:=g3 nq;have U:=O nq;have r:=ua (Y.h U);have Z:Hid (Bw w (F nq)):=uf HX U;generalize F nq=V at *;have am:=ud v3;rw[HH.o];cases hh with
  |true =>
   have A:Hid (T={ s with c:=s.c+1,f:=s.f+1 }):=by
    show _=_;rw[HT.o];unfold zC.w;rw[Zp ⟨aa,by rw[HU.o];exact HH.o⟩]
   have d3:V.cell? (Ad b 3)=some (Iv s.c):=r.o.c.c3;have e3:=r.o.c.fz 3;have av:=r.o.bl;clear HT HH v3;go_wp2;go_ret;rw[A.o];have h3:zR K L (V.setCell (Ad b 3) (Iv ((s.c:Int)+1))) b { s with c:=s.c+1,f:=s.f+1 } (Sm B C) il ic mO l o la lc:=by
    have h:=r.o.n (s':={ s with c:=s.c+1,f:=s.f+1 }) ((Ct.e _ V).set b 3 (Iv ((s.c+1:Nat):Int)) rfl) rfl rfl (r.o.c.f (s.c+1));rw[Te,Int.natCast_one]at h;exact h
   exact SV h3 (vw (vK (Kept.of Z.o) 3) (λy h=>.inr (.inr h))) g.o.e
  |false =>
   have P:Hid (T=(if s.j then s else s.k x.sl x.set).h):=by
    show _=_;rw[HT.o];unfold zC.w;rw[Zn (λq=>by have:=q.2;rw[HU.o,HH.o]at this;cases this)]
   go_wp2_with fail;refine(qL K L b s.nx (Sm B C) il ic mO l o la lc r g.d).mono ?_;rintro e V2 ⟨rfl,H⟩;rw[show s.nx.j=s.j from rfl];have E:=ua (r.h H);have z:=ua (uf Z H);have y3:=ue v3 H;have al:=ud y3;cases N:s.j with
   |true =>
    have A:Hid (T=s.h):=(by show _=_;rw[P.o,N,Zp rfl]);clear N;go_wp2_with fail;refine(qe K L b s.nx (Sm B C) il ic mO l o la lc E g.d g.e g.b g.a).mono ?_;rintro e G i;obtain⟨J,i⟩:=i;subst J;have D:Hid (zN (zC.h s.nx) K L b (Sm B C) il ic mO _ _ G):=⟨rfl,i⟩;clear i;go_wp2;go_ret;rw[A.o];exact(D.below z).h
   |false =>
    have A:Hid (T=(s.k x.sl x.set).h):=(by show _=_;rw[P.o,N,Zn dC]);clear N;go_wp2_with fail;refine(TW Q b s.nx (Sm B C) il ic mO l s.st.length o la s.a.length lc sa x.sl sc x.set _ E.c (HS.h z) HQ (λy hy=>Ba (af y hy) z.size) ae).mono ?_;rintro e R t;obtain⟨v,rfl⟩:=t.k;have ab:Hid (zR K L R b (zC.nx (s.k x.sl x.set)) (Sm B C) il ic mO l o la lc):=by
     have W:=t.c;rw[UR]at W;exact E.m t.m (xQ) (AI) W
    have ac:Hid (Kept (λy=>K y\/L y\/y=b) w R):=vw (yF (Kept.of z.o) t.m) (λy h=>.inr (.inr h));clear t;go_wp2_with fail;refine(qe K L b (zC.nx (s.k x.sl x.set)) (Sm B C) il ic mO l o la lc ab (by rw[show(zC.nx (s.k x.sl x.set)).st=s.st from xQ];exact g.d) (by rw[show(zC.nx (s.k x.sl x.set)).e=s.e from HW];exact g.e) (by rw[show(zC.nx (s.k x.sl x.set)).st=s.st from xQ,show(zC.nx (s.k x.sl x.set)).a=s.a from AI];exact g.b) (by rw[show(zC.nx (s.k x.sl x.set)).st=s.st from xQ];exact g.a)).mono ?_;rintro e G i;obtain⟨J,i⟩:=i;subst J;have D:Hid (zN (zC.h (zC.nx (s.k x.sl x.set))) K L b (Sm B C) il ic mO _ _ G):=⟨rfl,i⟩;clear i;go_wp2;go_ret;rw[A.o];exact(D.a ac).h
 have hlt':¬(s.c:Int)<(il:Int):=oM;have P:Hid (T=(if s.j then s else s.k x.sl x.set).h):=by
  show _=_;rw[HT.o];unfold zC.w;rw[Zn (λq=>aa q.1)]
 refine ye F rR rR HC ?_;repeat (go_big_quiet_step (fail))
 refine wpQuiet_nil ?_;rintro _ ⟨nq,rfl⟩;have v3:=g3 nq;have U:=O nq;have r:=ua (Y.h U);have Z:=ua (uf HX U);generalize F nq=V at *;have am:=ud v3;go_wp2_with fail;refine(qL K L b s.nx p il ic mO l o la lc r g.d).mono ?_;rintro e V2 ⟨rfl,H⟩;rw[show s.nx.j=s.j from rfl];have E:=ua (r.h H);have z:=ua (uf Z H);have y3:=ue v3 H;have al:=ud y3;cases N:s.j with
 |true =>
  have A:Hid (T=s.h):=by show _=_;rw[P.o,N,Zp rfl]
  go_wp2_with fail;refine(qe K L b s.nx p il ic mO l o la lc E g.d g.e g.b g.a).mono ?_;rintro e G i;obtain⟨J,i⟩:=i;subst J;have D:Hid (zN (zC.h s.nx) K L b p il ic mO _ _ G):=⟨rfl,i⟩;go_wp2;go_ret;rw[A.o];exact(D.below z).h
 |false =>
  have A:Hid (T=(s.k x.sl x.set).h):=by show _=_;rw[P.o,N,Zn dC]
  go_wp2_with fail;refine(TW Q b s.nx p il ic mO l s.st.length o la s.a.length lc sa x.sl sc x.set _ E.c (HS.h z) HQ (λy hy=>Ba (af y hy) z.size) ae).mono ?_;rintro e R t;obtain⟨v,rfl⟩:=t.k;have ab:Hid (zR K L R b (zC.nx (s.k x.sl x.set)) p il ic mO l o la lc):=by
   have W:=t.c;rw[UR]at W;exact E.m t.m (xQ) (AI) W
  have ac:Hid (Kept (λy=>K y\/L y\/y=b) w R):=vw (yF (Kept.of z.o) t.m) (λy h=>.inr (.inr h));go_wp2_with fail;refine(qe K L b (zC.nx (s.k x.sl x.set)) p il ic mO l o la lc ab (by rw[show(zC.nx (s.k x.sl x.set)).st=s.st from xQ];exact g.d) (by rw[show(zC.nx (s.k x.sl x.set)).e=s.e from HW];exact g.e) (by rw[show(zC.nx (s.k x.sl x.set)).st=s.st from xQ,show(zC.nx (s.k x.sl x.set)).a=s.a from AI];exact g.b) (by rw[show(zC.nx (s.k x.sl x.set)).st=s.st from xQ];exact g.a)).mono ?_;rintro e G i;obtain⟨J,i⟩:=i;subst J;have D:Hid (zN (zC.h (zC.nx (s.k x.sl x.set))) K L b p il ic mO _ _ G):=⟨rfl,i⟩;go_wp2;go_ret;rw[A.o];exact(D.a ac).h
attribute [local go_sem] uez
def upR{mO:Int}{s:zC}(d:s.e=false)(x:uw)(il:Nat)(I:Nat->Int):(s.q x il I mO).e=true->0<=(s.q x il I mO).r:=by
 have g:∀(s:zC) (c:Int),0<=c->(s.l c).e=true->0<=(s.l c).r:=λs c h _=>h;have i:∀s:zC,s.e=false->s.h.e=true->0<=s.h.r:=λs h=>by
  unfold zC.h;split
  .exact g _ _ dC
  intro q;have q':=q;rw[h]at q';cases q'
 have u:∀(s:zC) f,s.e=false->(s.m f mO).e=true->0<=(s.m f mO).r:=λs f h=>by
  unfold zC.m;split
  .exact g _ _ dC
  intro q;have q':=q;rw[h]at q';cases q'
 have o:∀t:zC,t.e=false->t.e=true->0<=t.r:=λt h q=>by rw[h]at q;cases q
 have p:∀n S,(s.k n S).e=s.e:=λn S=>HW;have j:∀(c:Prop) [Decidable c] (a b:zC),(a.e=true->0<=a.r)->(b.e=true->0<=b.r)->(if c then a else b).e=true->0<=(if c then a else b).r:=λc _ a b v y=>by split<;>assumption
 unfold zC.q zC.w;repeat' first|exact o _ d|exact u _ _ d|exact g _ _ dC|exact i _ d|exact i _ (by split;exact d;exact(p _ _).trans d)|refine j _ _ _ ?_ ?_
def UJ{mO:Int}{s:zC}(x:uw)(il:Nat)(I:Nat->Int)(h:x.e<0\/13<=x.e):s.q x il I mO=s.l 4:=by
 unfold zC.q;have n:∀k:Int,0<=k->k<13->¬x.e=k:=λk a b e=>by omega
 simp[n 0 dC dC,n 1 dC dC,n 2 dC dC,n 3 dC dC,n 4 dC dC,n 5 dC dC,n 6 dC dC,n 7 dC dC,n 8 dC dC,n 9 dC dC,n 10 dC dC,n 11 dC dC,n 12 dC dC]
def unE K L Q Q'(b l m o:Nat)s x sa(sc:Nat)c(il ic:Nat)I(mO:Int)g(h:Nat)la(lc:Nat)(k:Nat)w(i:zR K L w b s.nx c il ic mO g h la lc)(j:AP mO s)(G:s.d<=1048576)(a:x.e=(k:Int))(p:k<13)(B:Ints Q .i64 w sa x.sl x.set)(F:x.sl<=1048576)(A:Ints Q' .u8 w c il I)(z:Cz il I)(C:il<=1048576)(D:¬Q b)(E:∀y,Q y->y<w.heap.size)(t:w.cell? (Ad l 0)=some (Iv 0))(u:w.cell? (Ad m 0)=some (Iv 1))(v:w.cell? (Ad o 0)=some (Iv 2))(r:¬L l/\¬L m/\¬L o) :
  ∃f cap,(Sa l m o)[k]?=some (.func (.func f) #[] cap)/\(∀args w,(callFunc f args).run prog w=.ok (.enter f args) w)/\Cs f (#[.pointer (Sm b 0),jl x sa sc]++cap) w (zN (s.q x il I mO) K L b c il ic mO w):=by
 match k,p,a with
 |0,_,a=>exact⟨_,#[],rfl,enters_of func159 rR rfl,upW K L Q Q' b s x sa sc c il ic I mO g h la lc w i j a B F A z C D E⟩
 |1,_,a=>exact⟨_,#[],rfl,enters_of func160 rR rfl,uku K L b s x sa sc c il ic I mO g h la lc w i j a⟩
 |2,_,a=>exact⟨_,#[],rfl,enters_of func161 rR rfl,TD K L b s x sa sc c il ic I mO g h la lc w i j (.inl ⟨a,rfl⟩)⟩
 |3,_,a=>exact⟨_,#[],rfl,enters_of func162 rR rfl,uiI K L b s x sa sc c il ic I mO g h la lc w i j a⟩
 |4,_,a=>exact⟨_,#[],rfl,enters_of func163 rR rfl,usl K L b s x sa sc c il ic I mO g h la lc w i j a⟩
 |5,_,a=>exact⟨_,#[],rfl,enters_of func164 rR rfl,unt K L b s x sa sc c il ic I mO g h la lc w i j a⟩
 |6,_,a =>
  refine⟨_,#[],rfl,enters_of func165 rR rfl,?_⟩;have e:s.q x il I mO=s.x x mO:=by unfold zC.q;simp only[a];simp
  rw[e];exact SZ K L b s x sa sc c il ic I mO g h la lc w i j
 |7,_,a=>exact⟨_,#[],rfl,enters_of func166 rR rfl,TD K L b s x sa sc c il ic I mO g h la lc w i j (.inr ⟨a,rfl⟩)⟩
 |8,_,a=>exact⟨_,#[],rfl,enters_of func167 rR rfl,unu K L b s x sa sc c il ic I mO g h la lc w i j G a⟩
 |9,_,a =>
  refine⟨_,#[.pointer (Sm l 0)],rfl,enters_of func208 rR rfl,?_⟩;have e:s.q x il I mO=s.n 0 x.f:=by unfold zC.q;simp only[a];simp
  rw[e];exact GX K L b l 0 s x sa sc c il ic mO g h la lc w i j t r.1
 |10,_,a =>
  refine⟨_,#[.pointer (Sm m 0)],rfl,enters_of func208 rR rfl,?_⟩;have e:s.q x il I mO=s.n 1 x.f:=by unfold zC.q;simp only[a];simp
  rw[e];exact GX K L b m 1 s x sa sc c il ic mO g h la lc w i j u r.2.1
 |11,_,a =>
  refine⟨_,#[.pointer (Sm o 0)],rfl,enters_of func208 rR rfl,?_⟩;have e:s.q x il I mO=s.n 2 x.f:=by unfold zC.q;simp only[a];simp
  rw[e];exact GX K L b o 2 s x sa sc c il ic mO g h la lc w i j v r.2.2
 |12,_,a=>exact⟨_,#[],rfl,enters_of func169 rR rfl,usk K L b s x sa sc c il ic I mO g h la lc w i j a⟩
 |k+13,p,_=>exact absurd p oM
def UK{P:Program}{ops:Array Oper}{o:Oper}{a:Act}{w:Wl}{K:Act->World->Prop}{d:Exit->Act->World->Prop}{E:Prop}{f:FuncId}{cap:Av}(i:∀args w,(callFunc f args).run P w=.ok (.enter f args) w)(k:o.guard=none)(g b c:Operand)(r s:TypeId)
  (m:o.op=.call { callee:=.value g,args:=#[b,c],argTypes:=#[r,s] }) {y1 y2:Vl} (j:a.eval g=.func (.func f) #[] cap) (p:a.eval b=y1) (q:a.eval c=y2) (h:Calls P f (#[y1,y2]++cap) w (λe w'=>∃u,e=Rt u/\K (a.put o.dst u) w')):if Region.wanted o (yielded ops a.tmps)=true then Oper.wp P o a w K d else E:=by
 rw[Zp (by simp[Region.wanted,k])];have n:(execOp a.eval o).run P w=.ok (.enter f (#[y1,y2]++cap)) w:=by
  unfold execOp;simp only[m,resolve,invoke,Deferred.ofValue,Nl,Nm,Pf,List.map_toArray,Nr,List.map_nil,p,q,j];simpa using i (#[y1,y2]++cap) w
 unfold Oper.wp;rw[n];refine Calls.mono h ?_;rintro e w' ⟨u,rfl,l⟩;exact l
def Xc(wr:World)(b:Nat):Nat:=match wr.cell? (Ad b 263) with|some (.int _ z)=>z.toNat|_=>0
def UL{wr b}{k:Nat}(h:wr.cell? (Ad b 263)=some (Iv (k:Int))):Xc wr b=k:=by unfold Xc;rw[h];simp
structure HK(w0:Wl)(t:zC)(n:Nat)(R:Nat->uw)(il:Nat)(I:Nat->Int)(fU mO:Int)(b:Nat)(ia:Oa)(ic:Nat)(s:zC)(wr:Wl)(ka:Oa)(kc:Nat)(la:Oa)(lc:Nat)(K L:Np):Prop where
 a:zR K L wr b s ia il ic mO ka kc la lc
 lo:∀x,K x\/L x->w0.heap.size<=x
 m:Kept (λx=>x=b) w0 wr
 c:Good mO s
 st:(s.b:Int)<=fU
 thr:s.d<=s.b
 d:Ends n R il I fU mO s t
 nd:s.e=false
def UM(w0:Wl)(t:zC)(n:Nat)(R:Nat->uw)(il:Nat)(I:Nat->Int)(fU mO:Int)(b:Nat)(a:Oa)(ic:Nat)(wr:Wl):Prop :=
 ∃s c d la lc,∃K L:Nat->Prop,HK w0 t n R il I fU mO b a ic s wr c d la lc K L
def AH(t:zC)(b:Nat)(a:Oa)(il ic:Nat)(mO:Int)(w:Wl)(e:Ending)(w':Wl):Prop :=
 e=Rt (Iv t.r)/\∃z st c d la lc,∃K L:Nat->Prop,zR K L w' b { t with f:=z,st:=st } a il ic mO c d la lc/\(∀x,K x\/L x->w.heap.size<=x)/\Kept (λx=>x=b) w w'
def HM{w w0 t n R il I fU mO b k ic s wr W G J la lc K L}(h:HK w0 t n R il I fU mO b k ic s wr G J la lc K L)(a:Bw w w0){T e}(i:s.p n R il I fU mO=T)(u:T.e=true)(A:zN T K L b k il ic mO wr e W):AH t b k il ic mO w e W:=by
 have B:t=T:=by
  have o:=h.d.p h.nd;rw[i]at o;exact o.d u
 subst B;obtain⟨C,z,st,H,N,O,P,v,y,U,D,E,F,c⟩:=A;have Q:=a.size;have S:=h.m.l;refine⟨by rw[C];unfold qd;rw[u];rfl,z,st,H,N,O,P,v,y,D,λx j=>?_,?_⟩
 .rcases j with q|q
  .rcases E x q with r|r
   .have:=h.lo x (.inl r);omega
   have:=r.1;omega
  rcases F x q with r|r
  .have:=h.lo x (.inr r);omega
  have:=r.1;omega
 refine⟨c.os.trans (h.m.os.trans a.os),c.g.trans (h.m.g.trans a.tape),c.f.trans (h.m.f.trans a.output),by have:=c.l;omega,λx j i=>?_⟩;refine(c.d x oM (λq=>?_)).trans ((h.m.d x oM i).trans (a.block x j));rcases q with q|q|q
 .have:=h.lo x (.inl q);omega
 .have:=h.lo x (.inr q);omega
 exact i q
def HN{w0 t n R il I fU mO b v ic s wr W G J la lc K L}(h:HK w0 t n R il I fU mO b v ic s wr G J la lc K L){T e}(i:s.p n R il I fU mO=T)(o:T.e=false)(C:T.d<=T.b)(B:zN T K L b v il ic mO wr e W) :
  UM w0 t n R il I fU mO b v ic W/\fU.toNat-Xc W b<fU.toNat-Xc wr b:=by
 obtain⟨U,z,st,H,N,O,P,y,A,D,w,E,F,j⟩:=B;obtain⟨rfl,rfl⟩:=D o;have Q:=h.m.l;have k:=qP (n:=n) (R:=R) (il:=il) (I:=I) (mO:=mO) h.nd h.st;rw[i]at k;have S:T.b=s.b+1:=by
  rcases k.2 with⟨q,_⟩|q
  .rw[o]at q;cases q
  exact q
 refine⟨⟨T,H,N,O,P,y,A,w,λx u=>?_,?_,i▸ZL h.c,k.1,C,i▸h.d.p h.nd,o⟩,?_⟩
 .rcases u with q|q
  .rcases E x q with r|r
   .exact h.lo x (.inl r)
   have:=r.1;omega
  rcases F x q with r|r
  .exact h.lo x (.inr r)
  have:=r.1;omega
 .refine⟨j.os.trans h.m.os,j.g.trans h.m.g,j.f.trans h.m.f,by have:=j.l;omega,λx u i=>?_⟩;refine(j.d x oM (λq=>?_)).trans (h.m.d x u i);rcases q with q|q|q
  .have:=h.lo x (.inl q);omega
  .have:=h.lo x (.inr q);omega
  exact i q
 rw[UL w.c.c8,UL h.a.c.c8];show fU.toNat-T.b<fU.toNat-s.b;have:=k.1;omega
def upS Q Q' b a n c R D il ic I fU mO t w(hA:zR (λ_=>False) (λ_=>False) w b s0 D il ic mO none 0 none 0)(hP:Dz Q w a n R)(hn:n<=1048576)(hI:Ints Q' .u8 w D il I)(hB:Cz il I)(bi:il<=1048576)(hR:JU n R fU mO)(hE:Ends n R il I fU mO s0 t)(hq:¬Q b)(bo:∀y,Q y->y<w.heap.size)(bn:¬Q' b)(bp:∀y,Q' y->y<w.heap.size) :
  Cs 48 #[.pointer (Sm b 0),Sl a n c,Iv fU] w (AH t b D il ic mO w):=by
 have HA:=ua hA;have a8:=ua hP;have HI:=ua hI;have a4:=ua hB;have aj:=ua hR;have a5:=ua hE;have E:Hid ((¬Q b)/\(∀y,Q y->y<w.heap.size)/\(¬Q' b)/\∀y,Q' y->y<w.heap.size):=⟨hq,bo,bn,bp⟩;have lb:=hA.bl;have bc:=hR.f0;have bw:=hR.f1;go_enter func48,ntmps48;go_wp2_with fail;refine(uiK _).mono ?_;rintro e W1 bd;obtain⟨⟨k0,k1,k2,rfl,h0,u,z⟩,ax⟩:=bd;unfold Sa Ku Xb;go_wp2;generalize hX:W1.alloc _=B;have hX':=hX;have A:Hid (Bw w B):=hX'▸uf ax (zO W1);have aw:Hid (B.heap[W1.heap.size]?=some (Oc (Sa k0 k1 k2) 199)):=hX'▸xC W1 _ _ rfl;have a7:Hid (B.cell? (Ad k0 0)=some (Iv 0)/\B.cell? (Ad k1 0)=some (Iv 1)/\B.cell? (Ad k2 0)=some (Iv 2)):=hX'▸⟨uG _ h0,uG _ u,uG _ z⟩;have ba:=ua ax.size;go_loopw [11] (λ_ wr=>UM B t n R il I fU mO b D ic wr) (λ_ wr=>fU.toNat-Xc wr b)
 .refine⟨s0,none,0,none,0,λ_=>False,λ_=>False,HA.h A,λx P=>(P.elim id id).elim,kM _,⟨?_,zD,λf hf=>?_,List.Pairwise.nil,λf hf=>?_⟩,bc,zD,a5,rfl⟩
  .exact aj.m0
  .simp[s0]at hf
  simp[s0]at hf
 obtain⟨s,ka,kc,la,lc,K,L,J⟩:=hrel;have i:=ua J;have c2:=J.a.c.c2;have c8:=J.a.c.c8;have f2:=J.a.c.fz 2;have f8:=J.a.c.fz 263;have b8:=J.a.bl;have b4:=J.st;have b2:(s.b:Int)<=50000:=oM;have au:=ua J.nd;have ah:Hid (∀(N:Int) (W:Wl),s.p n R il I fU mO=s.l N->Bw wr W->AH t b D il ic mO w (Rt (Iv N)) W):=λN W u z =>
  HM i A u rfl (xP (t:=s.l N) (i.a.h z) (Kept.of z) rfl ⟨_,_,rfl⟩)
 by_cases ac:s.f<0
 .have F:Hid (s.p n R il I fU mO=s.l 4):=by show _=_;unfold zC.p;rw[Zp (.inl ac)]
  go_wp2;go_ret;exact ah 4 _ F (zH _)
 have ha0':¬s.f<0:=ac;by_cases ad:(n:Int)<=s.f
 .have F:Hid (s.p n R il I fU mO=s.l 4):=by show _=_;unfold zC.p;rw[Zp (.inr ad)]
  go_wp2;go_ret;exact ah 4 _ F (zH _)
 have ha1':¬(n:Int)<=s.f:=ad;by_cases af:(s.b:Int)=fU
 .have F:Hid (s.p n R il I fU mO=s.l 3):=by show _=_;unfold zC.p;rw[Zn (λq=>q.elim ac ad),Zp af]
  have hfu':((s.b:Int)==fU)=true:=by simp[af]
  go_wp2;go_ret;exact ah 3 _ F (zH _)
 have hfu':((s.b:Int)==fU)=false:=by simp[af]
 let⟨q,hq⟩:=Rb (show 0<=s.f by omega);have a1:q<n:=oM;have F:Hid (s.p n R il I fU mO=zC.q { s with b:=s.b+1 } (R q) il I mO):=by
  unfold zC.p;rw[Zn (λq=>q.elim ac ad),Zn af,hq];rfl
 have al:=(a8.h A).on (λy C=>i.m.d y (Ba (E.2.1 y C) A.size) (λe=>E.1 (e▸C)));rcases al with h0|⟨pb,po,rfl,bm,al⟩
 .omega
 let⟨p0,p1,p2,sa,sc,p3,bq⟩:=al q a1;have a9:=ua bq;have bz:pb≠b:=λe=>E.1 (e▸bm);have b3:=aj.m q a1;have lp:=ud p0;generalize R q=x at *;have b0:(q:Int)<(n:Int):=oM;have a3:=ua hq;rw[hq]at c2;have d0:decide ((q:Int)<0)=false:=sM;have d1:decide ((n:Int)<=(q:Int))=false:=sO;have ag:Hid (zR K L (wr.setCell (Ad b 263) (Iv ((s.b:Int)+1))) b { s with b:=s.b+1 } D il ic mO ka kc la lc):=by
  have h:=i.a.n (s':={ s with b:=s.b+1 }) ((Ct.e _ wr).set b 263 (Iv ((s.b+1:Nat):Int)) rfl) rfl rfl (i.a.c.l (s.b+1));rw[Te,Int.natCast_one]at h;exact h
 have an:Hid (∀o:Obj,s.p n R il I fU mO=zC.l { s with b:=s.b+1 } 4->AH t b D il ic mO w (Rt (Iv 4)) ((wr.setCell (Ad b 263) (Iv ((s.b:Int)+1))).alloc o)):=λo h =>
  HM i A h rfl (xP (t:=zC.l { s with b:=s.b+1 } 4) (ag.h Bi) (vw (vX (vK (kM wr) 263)) (λy h=>.inr (.inr h))) rfl ⟨_,_,rfl⟩)
 by_cases a0:x.e<0
 .have G:Hid (s.p n R il I fU mO=zC.l { s with b:=s.b+1 } 4):=by show _=_;rw[F.o,UJ x il I (.inl a0)]
  go_wp2;go_ret;exact an _ G
 have hk0':¬x.e<0:=a0;by_cases bj:13<=x.e
 .have G:Hid (s.p n R il I fU mO=zC.l { s with b:=s.b+1 } 4):=by show _=_;rw[F.o,UJ x il I (.inr bj)]
  go_wp2;go_ret;exact an _ G
 let⟨k,hk⟩:=Rb (show 0<=x.e by omega);have bk:k<13:=oM;have aq:=ua hk;have a6:=ua bk;rw[hk]at p0;have b7:(k:Int)<13:=oM;have e0:decide ((k:Int)<0)=false:=sM;have e1:decide (13<=(k:Int))=false:=sO;have a2:Hid (zR K L ((wr.setCell (Ad b 263) (Iv ((s.b:Int)+1))).setCell (Ad b 2) (Iv ((q:Int)+1))) b (zC.nx { s with b:=s.b+1 }) D il ic mO ka kc la lc):=by
  have h:=ag.n (s':=zC.nx { s with b:=s.b+1 }) ((Ct.e _ _).set b 2 (Iv (s.f+1)) rfl) rfl rfl (ag.c.c (s.f+1));have e:Iv (s.f+1)=Iv ((q:Int)+1):=by rw[a3.o]
  rw[e]at h;exact h
 have av:Hid (∀y,y≠b->y<wr.heap.size->((wr.setCell (Ad b 263) (Iv ((s.b:Int)+1))).setCell (Ad b 2) (Iv ((q:Int)+1))).heap[y]?=wr.heap[y]?):=λy u z=>(Bn u).trans (Bn u);have U:Hid (Kept (λy=>K y\/L y\/y=b) wr ((wr.setCell (Ad b 263) (Iv ((s.b:Int)+1))).setCell (Ad b 2) (Iv ((q:Int)+1)))):=vw (vK (vK (kM wr) 263) 2) (λy h=>.inr (.inr h));have bb:Hid (((wr.setCell (Ad b 263) (Iv ((s.b:Int)+1))).setCell (Ad b 2) (Iv ((q:Int)+1))).heap.size=wr.heap.size):=by show _=_;rw[uh,uh]
 go_wp2;generalize (wr.setCell (Ad b 263) (Iv ((s.b:Int)+1))).setCell (Ad b 2) (Iv ((q:Int)+1))=Y at *;have bs:Y.heap.size=wr.heap.size:=bb.o;have P:=xC Y (Oc #[Iv k,Iv x.f,Iv x.to,Sl sa x.sl sc] 102) wr.heap.size bs.symm;have H:Hid (Bw Y (Y.alloc (Oc #[Iv k,Iv x.f,Iv x.to,Sl sa x.sl sc] 102))):=zO Y;have b6:wr.heap.size<(Y.alloc (Oc #[Iv k,Iv x.f,Iv x.to,Sl sa x.sl sc] 102)).heap.size:=by rw[Ck];omega
 generalize Y.alloc (Oc #[Iv k,Iv x.f,Iv x.to,Sl sa x.sl sc] 102)=X at *;have x0:=uN (j:=0) P rfl;have x1:=uN (j:=1) P rfl;have x2:=uN (j:=2) P rfl;have x3:=uN (j:=3) P rfl;have aa:Hid (Kept (λy=>K y\/L y\/y=b) wr X.drew):=TU ⟨H.o.os.trans U.o.os,H.o.tape.trans U.o.g,H.o.output.trans U.o.f,zP U.o.l H.o.size,λy u z=>(H.o.block y oM).trans (U.o.d y u z)⟩;have ai:Hid (∀y,y≠b->y<B.heap.size->X.drew.heap[y]?=B.heap[y]?):=λy u z=>(H.o.block y (oH i.o.m.l)).trans ((av.o y u (oH i.o.m.l)).trans (i.o.m.d y z u));have bu:=(Gw.1 aw).1;have br:W1.heap.size≠b:=λe=>oG ba.o HA.o.bl;have bt:∀y v,B.cell? (Ad y 0)=some (Iv v)->v<=2->0<=v->y≠b:=λy v u z h3 e=>by
  subst e;have h4:=ue HA.c.c0 A;rw[u]at h4;cases h4
 have am:∀y v,B.cell? (Ad y 0)=some (Iv v)->v<=2->0<=v->X.drew.cell? (Ad y 0)=some (Iv v)/\¬L y:=λy v u z h3=>⟨(Bd (a:=(Ad y 0)) (ai y (bt y v u z h3) (ud u))).trans u,λq=>by have h5:=i.lo y (.inr q);have h6:y<B.heap.size:=ud u;omega⟩;obtain⟨j0,j1,j2⟩:=a7;have g0:=am k0 0 j0 dC dC;have g1:=am k1 1 j1 dC dC;have g2:=am k2 2 j2 dC dC;have be:AP mO { s with b:=s.b+1 }:=⟨aj.m1,i.c.c,i.c.b,i.c.a,by have:=i.c.e;show s.a.length<=_;omega,au⟩;have b5:=i.thr;let⟨f,cap,bh,bg,ae⟩:=unE K L Q Q' b k0 k1 k2 { s with b:=s.b+1 } x sa sc D il ic I mO ka kc la lc k X.drew ((a2.h H).h (zH X).drew) be (by show s.d<=_;omega) aq a6
  (a9.o.on (λy C=>(H.o.block y (by have:=E.o.2.1 y C;have:=A.o.size;have:=i.o.m.l;omega)).trans (av.o y (λe=>E.o.1 (e▸C)) (by have:=E.o.2.1 y C;have:=A.o.size;have:=i.o.m.l;omega)))) oM
  ((HI.h A).on (λy C=>ai y (λe=>E.2.2.1 (e▸C)) (Ba (E.2.2.2 y C) A.size))) a4 bi E.1 (λy C=>by have:=E.2.1 y C;have:=A.size;have:=i.m.l;show y<X.heap.size;omega) g0.1 g1.1 g2.1 ⟨g0.2,g1.2,g2.2⟩
 have tc:=uN (j:=k) (t:=199) ((ai W1.heap.size br bu).trans aw) bh;have b9:=ud tc;let⟨T,hT⟩:=nm (zC.q { s with b:=s.b+1 } x il I mO);have G:Hid (s.p n R il I fU mO=T):=by show _=_;rw[F.o,hT]
 have ak:Hid (T.d<=T.b):=by
  show _<=_;rw[<-hT,ZM];have u:=uk6 (mO:=mO) (s:={ s with b:=s.b+1 }) x il I;have z:({ s with b:=s.b+1 }:zC).d=s.d:=rfl;rw[z]at u;show _<=s.b+1;omega
 have ay:=upR (mO:=mO) (s:={ s with b:=s.b+1 }) au x il I;rw[hT]at ay ae;unfold jl at ae;rw[aq.o]at ae;have ao:=ua ae;have ap:=ua bg;cases Z:T.e with
 |true =>
  have V:=ua Z;have bf:=ay Z;let⟨N,az⟩:=nm T.r;have ab:Hid (qd T=N):=by show _=_;unfold qd;rw[Z,<-az];rfl
  rw[az]at bf;have bx:(N != -1)=true:=sO;go_region_law (first
   |(refine UK ap rfl (.tmp 63) (.tmp 64) (.tmp 65) 196 102 rfl (f:=f) (cap:=cap) (y1:=.pointer (Sm b 0)) (y2:=.agg #[Iv (k:Int),Iv x.f,Iv x.to,Sl sa x.sl sc]) (by simp[Act.eval]) (by simp[Act.eval]) (by simp[Act.eval]) (ao.mono ?_);rintro e W O;obtain⟨he,O⟩:=O;have S:Hid (zN T K L b D il ic mO X.drew (Rt (Iv (qd T))) W):=⟨rfl,O⟩;rw[ab.o]at he;subst he;refine⟨_,rfl,?_⟩))
  all_goals go_wp2
  all_goals go_ret
  all_goals
   have h:=S.a aa;rw[ab.o]at h;exact HM i A G V h
 |false =>
  have V:=ua Z;have ab:Hid (qd T = -1):=by show _=_;unfold qd;rw[Z];rfl
  go_region_law (first
   |(refine UK ap rfl (.tmp 63) (.tmp 64) (.tmp 65) 196 102 rfl (f:=f) (cap:=cap) (y1:=.pointer (Sm b 0)) (y2:=.agg #[Iv (k:Int),Iv x.f,Iv x.to,Sl sa x.sl sc]) (by simp[Act.eval]) (by simp[Act.eval]) (by simp[Act.eval]) (ao.mono ?_);rintro e W O;obtain⟨he,O⟩:=O;have S:Hid (zN T K L b D il ic mO X.drew (Rt (Iv (qd T))) W):=⟨rfl,O⟩;rw[ab.o]at he;subst he;refine⟨_,rfl,?_⟩))
  all_goals go_wp2
  all_goals go_roundw
  all_goals first
   |exact(HN i G V ak (S.a aa)).2
   |exact(HN i G V ak (S.a aa)).1
   |((repeat apply Exists.intro);exact⟨(HN i G V ak (S.a aa)).1,rfl⟩)
def Ex:Array Value:=#[nS,Iv 0,Iv 0,Iv 0,nS,nS,Iv 0]++(madeCells #[Bf] 256++#[Iv 0,Iv 0,Iv 0])
def TM:(prog.info? 112).map (λi=>(i.zero,i.size))=some (some (.agg Ex),266):=rR
def kL:Ex.size=266:=by simp[Ex,size_madeCells]
def upv{i}(h:i<256):Ex[7+i]?=some Bf:=by
 unfold Ex;rw[Array.getElem?_append_right sM,Array.getElem?_append_left (by simp[size_madeCells];omega)];have e:7+i-(#[nS,Iv 0,Iv 0,Iv 0,nS,nS,Iv 0]:Av).size=i:=sM;rw[e];exact HB h
def Je(a:Oa)(il ic:Nat)(mO:Int):Array Value:=(Ex.setIfInBounds 0 (Sl a il ic)).setIfInBounds 1 (Iv mO)
def TN a il ic mO:(Je a il ic mO).size=266:=by unfold Je;simp[kL]
def upw b il ic mO{j v}(c:j≠0)(d:j≠1)(a:Ex[j]?=some v):(Je b il ic mO)[j]?=some v:=by
 unfold Je;rw[Jk oM,Jk oM];exact a
def unv(W:Wl)(b:Oa)(il ic:Nat)(mO:Int):zR (λ_=>False) (λ_=>False) (W.alloc (Oc (Je b il ic mO) 112)) W.heap.size s0 b il ic mO none 0 none 0:=by
 have a:=xC W (Oc (Je b il ic mO) 112) _ rfl;have g:=λ(j:Nat) (v:Vl) (c:j≠0) (d:j≠1) (f:Ex[j]?=some v)=>uN (j:=j) a (upw b il ic mO c d f);refine⟨⟨uN (j:=0) a ?_,uN (j:=1) a ?_,g 2 _ dC dC rR,g 3 _ dC dC rR,g 4 _ dC dC rR,g 5 _ dC dC rR,g 6 _ dC dC rR,λi e=>g (7+i) _ oM oM (upv e),g 263 _ dC dC rR,g 264 _ dC dC rR,g 265 _ dC dC rR,λj=>Vq a⟩,.inl ⟨rfl,rfl,rfl⟩,.inl ⟨rfl,rfl,rfl⟩,λx k=>(k.elim id id).elim,λx h=>h.elim,id,id⟩
 .unfold Je;rw[Jk dC];simp[kL]
 unfold Je;simp[kL]
def unw(W:Wl)(b:Oa)(il ic:Nat)(mO:Int):(storeCells (Ad W.heap.size 0) ((Ex.toList.set 0 (Sl b il ic)).set 1 (Iv mO))).run prog (W.alloc (Oc Ex 112))=.ok () (W.alloc (Oc (Je b il ic mO) 112)):=by
 have c:Ex.all Value.oneCell'=true:=rR;have h:=run_storeCells_new (P:=prog) W 112 Ex (Je b il ic mO) (by rw[TN];exact(zero_of_info (P:=prog) TM).2) (by rw[kL,TN]) (by
  rw[Array.all_eq_true_iff_forall_mem];intro v a;rcases Array.mem_or_eq_of_mem_setIfInBounds a with a|rfl
  .rcases Array.mem_or_eq_of_mem_setIfInBounds a with a|rfl
   .exact Array.all_eq_true_iff_forall_mem.1 c v a
   rfl
  rfl)
 have e:(Je b il ic mO).toList=(Ex.toList.set 0 (Sl b il ic)).set 1 (Iv mO):=by unfold Je;simp
 rw[e]at h;exact h
def upx Q Q' a n c R j il ic I fU mO t w(O:Dz Q w a n R)(V:JU n R fU mO)(hn:n<=1048576)(U:Ints Q' .u8 w j il I)(S:Cz il I)(ag:il<=1048576)(T:Ends n R il I fU mO s0 t)(Y:t.r=0\/t.r=1\/t.r=2\/t.r=3)(aa:∀y,Q y->y<w.heap.size)(ab:∀y,Q' y->y<w.heap.size) :
  Cs 10 #[Sl a n c,Sl j il ic,Iv fU,Iv mO] w (WU t w):=by
 have G:=ua O;have HI:=ua U;have o:=ua V;have ac:=ua S;have ae:=ua T;have ad:=ua Y;have J:=ua aa;have HQ':=ua ab;have hz:=(zero_of_info (P:=prog) TM).1;have s:=ua (um w #[Iv 0,Iv 0,Iv 0,Iv 0,nS,Iv 0,Iv 0,nS] 44);clear O U V S T aa ab Y;go_enter func10,ntmps10;go_wp2_with fail;refine(ukx fU mO _).mono ?_;rintro e W ⟨rfl,hW⟩;subst W;rw[show decide (0<=fU/\fU<=50000/\0<=mO/\mO<=1000)=true from Ke ⟨o.o.f0,o.o.f1,o.o.m0,o.o.m1⟩];go_wp2_with fail;refine(uhc Q a n c R _ (G.h (zO w)) hn (λi E=>zP (o.m i E) oM)).mono ?_;rintro e W ⟨⟨r,rfl,hr⟩,D⟩;have u:=ua (uf (zO w) D);replace s:=ua (s.on D);have am:=s.x.2.2;cases r with
 |true=>let⟨i,E,hl⟩:=hr.1 rfl;have:=o.m i E;omega
 |false =>
  have ai:=kL;have ah:¬Ex=#[]:=λh=>by have v:=kL;rw[h]at v;cases v
  have aj:=unw W j il ic mO;have b:=ua (uk W (Oc (Je j il ic mO) 112));have af:=ua (unv W j il ic mO);clear D hr;go_wp2_with fail;generalize W.alloc (Oc (Je j il ic mO) 112)=X at *;clear aj ai ah hz;refine(upS Q Q' W.heap.size a n c R j il ic I fU mO t X af ((G.h u).h b) hn ((HI.h u).h b) ac ag o ae (λq=>oH (J _ q)) (λy q=>by have N:=J y q;have v:=b.size;omega) (λq=>oH (HQ' _ q)) (λy q=>by have N:=HQ' y q;have v:=b.size;omega)).mono ?_;rintro e W2 ⟨rfl,z,st,ka,kc,la,lc,K,L,C,Z,p⟩;have al:=b.size;have ak:=p.l;have HM:=ua C;replace s:=ua (((s.on b).a (p.d _ oM oM)));have B:Hid (Bw w W2):=⟨p.os.trans (b.os.trans u.os),p.g.trans (b.tape.trans u.tape),p.f.trans (b.output.trans u.output),oM,λx hx=>(p.d x oM oM).trans ((b.block x oM).trans (u.block x hx))⟩;have H:Hid (∀x,L x->w.heap.size<x/\x<W2.heap.size):=λx q=>⟨by have:=Z x (.inr q);omega,C.lt x (.inr q)⟩;have ao:w.heap.size<W2.heap.size:=oM;clear C Z p;go_wp2_with fail;refine(uiO K L W.heap.size { t with f:=z,st:=st } j il ic mO ka kc la lc t.r W2 HM rfl ad.o).mono ?_;rintro e W3 ⟨cd,ps,lb,fa,ea,en,ec,su,th,va,vn,vc,rfl,F⟩;have A:=F.q;have an:=A.size;have HN:Hid (¬(L w.heap.size\/zF W2 W3 w.heap.size)):=λq=>q.elim (λq=>aB (H.o _ q).1 (Nq _)) (λq=>aB q.1 oM);replace B:=ua (uf B A);let⟨zr,pr,lr⟩:=(s.on A).x;have k:=ua F;clear A F;go_wp2;refine zL (by simp[results,f10,go_sem, *];rfl) rfl ?_;refine⟨_,_,_,_,_,_,_,_,_,_,_,_,rfl,(show Ht _ t _ _ _ _ _ _ _ _ _ _ _ from ⟨k.o.r,k.o.e,k.o.i,k.o.ok,k.o.d,k.o.q,k.o.lz⟩).mv ?_ (λx h=>?_) ?_⟩
  .repeat with_reducible first|exact Xg|refine zS.n ?_ _ _ _ HN.o
  .rcases h with h|h
   .have:=H.o x h;exact⟨oM,sO⟩
   have N:=h.1;have v:=h.2;exact⟨oM,sO⟩
  repeat with_reducible first|exact B.o|refine uD ?_ zD
end Go.Proofs.YtmlblamikgkdcaaGreat
