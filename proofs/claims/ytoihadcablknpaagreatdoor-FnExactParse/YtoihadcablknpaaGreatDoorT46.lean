import Derived.Test.YtoihadcablknpaaGreatDoorT43
import Derived.Test.YtoihadcablknpaaGreatDoorT45
import Derived.Test.YtoihadcablknpaaGreatDoorCards
import Derived.Test.YtoihadcablknpaaGreatDoorTie
import Derived.ProofKit
import Derived.OpenShut
import Derived.ShutString
import Derived.Deep.DeepHandedRow
import Derived.LaidSub
set_option linter.unusedVariables false
set_option linter.unusedSimpArgs false
set_option linter.defProp false
set_option maxHeartbeats 40000000
set_option maxRecDepth 100000
namespace Go.Proofs.YtoihadcablknpaaGreatDoor
open Go.RowKit
open Go.Proofs.Tryz
section
open M (OpD uh Gr)
section
variable {g:Gr} {il:Nat} {I:Nat->Int}
def S3(j:M.Valid g)(n:il<=4000){l:List Bo}{k:Nat}{z:LI}(h:Tel g il I l k z)(c:∀(i:Nat) (d:Bo),l[i]?=some d->d.e=1->0<=d.f/\d.f<g.nb):z.length<=20000*k/\z.length<=400000:=by
 induction h with
 |nil=>exact⟨wP,wP⟩
 |skip _ _ b=>exact b (λi d a=>c i d (by rw[Cr (zT.1 a).1];exact a))
 |more _ _ _ b =>
  have:=b (λi d a=>c i d (by rw[Cr (zT.1 a).1];exact a));omega
 |@one l k z y d _ o p m b =>
  have:=b (λi d a=>c i d (by rw[Cr (zT.1 a).1];exact a));obtain⟨q,r⟩:=c l.length d sM o;have:=jO m n (by have:=(j.ln d.f.toNat oM).1;omega);rw[wK];omega
end
def PP.c{t il I fU mO R}(h:PP t il I fU mO R):R.j.length<=1048576/\R.a.length<=1048576/\R.text.length<=1048576:=by
 have z:∀c a,(Ga c a).j.length<=1048576/\(Ga c a).a.length<=1048576/\(Ga c a).text.length<=1048576:=λc a=>⟨wP,wP,wP⟩
 cases h with
 |bounds=>exact z _ _
 |text=>exact z _ _
 |check=>exact z _ _
 |input=>exact z _ _
 |@run g m _ u p s i r v k n =>
  have l:=(qZ p).1;have f:(rg m.j 256).length<=1048576:=oH (M.dR (qC m.j));cases n with
  |out=>exact z _ _
  |fail e b =>
   refine⟨f,wP,?_⟩;have q:(Ie m.j).size<=2000:=by
    have:=M.eF (qC m.j);unfold Ie;rw[Ft];show 9+_<=_;omega
   have:=jO b i q;exact wN this dC
  |label e b =>
   refine⟨f,wP,?_⟩;obtain⟨x,y⟩:=k.d e;have:=jO b i (by have:=(l.ln m.label.toNat oM).1;omega);exact wN this dC
  |ok e b =>
   obtain⟨o,w⟩:=k.ok e;refine⟨f,?_,?_⟩
   ·show(yZ m.a).length<=_;rw[DB];have:=Ss (Ih m.a) m.a.length;omega
   have:=(S3 l i b (QQ o.a)).2;exact wN this dC
def Ro(L:List Bo)(j:Nat):Int:=intOf ((L.flatMap Ck).getD j (Iv 0))
def S4{L:List Bo}{j:Nat}(h:j<(L.flatMap Ck).length):(L.flatMap Ck)[j]?=some (Iv (Ro L j)):=by
 have e:∀v∈L.flatMap Ck,∃z,v=Iv z:=λv b=>by
  obtain⟨d,_,a⟩:=Hi.1 b;simp only[Ck,Bx,Jp,or_false]at a;rcases a with rfl|rfl|rfl|rfl|rfl<;>exact⟨_,rfl⟩
 obtain⟨z,c⟩:=e _ (Gb h);unfold Ro;rw[Cx,zG h,Option.getD_some,c];rfl
def Cj.r3{lo w v R}(h:Cj lo w v R):∃p q m xc na nc s H,lo<=p/\p<=q/\q<=w.heap.size/\v=.agg #[Iv R.i,Iv R.f,Iv R.label,Iv R.h,Sl m R.j.length xc,Iv R.d,Iv R.b,Sl na R.a.length nc,Sl s R.text.length H] /\
  Hq (λb=>lo<=b/\b<p) (λb=>p<=b/\b<q) (λb=>q<=b/\b<w.heap.size) w m na s R.j.length R.a.length R.text.length (lf R.j) (Ro R.a) (V.zf R.text):=by
 obtain⟨p,q,m,xc,na,nc,L,A,B,C,D,n,E,F,a,c,rfl,G⟩:=h;refine⟨p,q,m,xc,na,nc,a,c,A,B,C,D,?_,?_,?_⟩
 ·rcases n with l|⟨b,o,rfl,r,n⟩
  ·exact .inl l
  exact .inr ⟨b,o,rfl,r,n,λj k=>E b o j rfl k⟩
 ·rcases F with⟨_,l,_⟩|⟨g,cap,e,r,I,J,y,z⟩
  ·exact .inl oM
  refine .inr ⟨g,0,by injection e,r,λj k=>?_,λj k=>?_⟩
  ·rw[zL,y j oM];exact S4 oM
  rw[zL];exact(z j oM).2
 by_cases l:0<R.text.length
 ·obtain⟨g,rfl,b1,t,u,x⟩:=G l;exact .inr ⟨g,0,rfl,⟨b1,t⟩,u,λj k=>by rw[zL];exact(x j k).2⟩
 exact .inl oM
section
variable {κ:IntKind} {A:Np} {w:Wl} {a:Oa} {β n cap:Nat} {f T:Nat->Int} {P:Ew}
def Rw.b(h:Rw κ A w a n f):wB A κ w a n f:=h.imp id λ⟨β,o,e,q,r⟩=>⟨β,o,e,q,r.c⟩
def Rw.tx(h:Rw .u8 A w (Sm β 0) n f):V.Tx w β 0 n f:=by
 rcases h with h|⟨a,o,e,_,r⟩
 ·exact λi d=>by omega
 cases e;exact r.c
def MJ(h:V.ArgT w a n T)(k:∀i,0<=T i/\T i<=255)(m:n<=1048576)(o:∀W,Rw .u8 (λβ=>β=w.heap.size) W (Sm w.heap.size 0) n T->Kf w W->w.heap.size<W.heap.size->P (Rt (Sl (Sm w.heap.size 0) n n)) W):Cs 5 #[Sl a n cap] w P:=by
 refine(V.copyT a n cap T w h k m).mono ?_;rintro e W ⟨rfl,c,d,f,g⟩;exact o W (.inr ⟨_,0,rfl,rfl,c,λj l=>by rw[zL];exact(d j l).2⟩) (wA.i f (λ_ q _=>q)) g
end
section
variable {a0 a1:Oa} {c0 c1 il gb ib:Nat} {I:Nat->Int} {t:Tx} {fU mO:Int} {w W:Wl} {R:kO} {P:Ew}
def Uq{C w w' b c}(h:wJ w b c)(k:wA C w w')(e:¬C b):wJ w' b c:=h.a (k.d _ h.x.2.2 e)
def S5(A:Rw .u8 (λb=>b=gb) W (Sm gb 0) t.n t.T)(x:Rw .u8 (λb=>b=ib) W (Sm ib 0) il I)(C:gb<W.heap.size)(B:∀i,0<=I i/\I i<=255)(D:il<=1048576)(E:V.Tab W)(w:Dm W)(z:PP t il I fU mO R)
  (F:∀p q l xc na nc c m W',W.heap.size<=p->p<=q->q<=W'.heap.size->Hq (λb=>W.heap.size<=b/\b<p) (λb=>p<=b/\b<q) (λb=>q<=b/\b<W'.heap.size) W' l na c R.j.length R.a.length R.text.length (lf R.j) (Ro R.a) (V.zf R.text)->Kf W W' ->
   P (Rt (.agg #[Iv R.i,Iv R.f,Iv R.label,Iv R.h,Sl l R.j.length xc,Iv R.d,Iv R.b,Sl na R.a.length nc,Sl c R.text.length m])) W') :
  Cs 6 #[Sl (Sm gb 0) t.n t.n,Sl (Sm ib 0) il il,Iv fU,Iv mO] W P :=
 uoQ (A.b.g (λb e=>e▸C)) wF x.tx B wF D E w z λv W' y k=>by
  obtain⟨p,q,l,xc,na,nc,c,m,o,s,u,rfl,r⟩:=y.r3;exact F p q l xc na nc c m W' o s u r k
def S6(h0:V.ArgT w a0 t.n t.T)(h1:V.ArgT w a1 il I)(hb:∀i,0<=I i/\I i<=255)(Q:il<=1048576)(b0:V.Tab w)(hE:Dm w) :
  Cs 3 #[Sl a0 t.n c0,Sl a1 il c1,Iv fU,Iv mO] w (λe w'=>e=Rt Bt/\Bw w w'):=by
 have HB:=ua hb;have ah:=t.le;have cq:¬((1048576:Int)<(t.n:Int)):=oM;have cr:¬((1048576:Int)<(il:Int)):=oM;have bi:=ua (λ(W:Wl) (k:Bw w W)=>hE.on (k.block 0 (ud hE)));have bj:=ua (λ(W:Wl) (k:Bw w W)=>b0.on k);have CG:=ua (λ(N:Ew) (W:Wl) (k:Bw w W) n=>MJ (P:=N) (cap:=c0) (h0.q k) t.j ah n);have CI:=ua (λ(N:Ew) (W:Wl) (k:Bw w W) n=>MJ (P:=N) (cap:=c1) (h1.q k) hb Q n);go_enter func3,ntmps3;go_wp2_with fail;refine CG _ w (wI _) λW1 g1 k1 l1=>?_
 have G1:=ua g1;have K1:=ua k1;have L1:=ua l1;go_wp2_with fail;refine CI _ W1 K1.u λW2 i2 k2 l2=>?_
 have K2:=ua (K1.c k2);have L2:=ua l2;have SP:=ua (uo7 (fU:=fU) (mO:=mO) (gc:=t.n) (ic:=il) (t:=t) ((G1.q k2.u).b.g (λb e=>by have:=L1;show b<_;omega)) i2.tx HB Q);go_wp2_with fail;refine SP.mono ?_;rintro e O ⟨v3,R,rfl,ay,hM,k3⟩;obtain⟨p3,q3,xa,xc,na,nc,ta,tc,e1,e2,e3,rfl,u3⟩:=hM.r3;have o:=ua ay.c;have IP:=ua (λ(N:Ew) (W:Wl) (gb ib:Nat) (kW:Bw w W) hA hI hg n=>S5 (P:=N) (W:=W) (gb:=gb) (ib:=ib) (fU:=fU) (mO:=mO) hA hI hg HB Q (bj W kW) (bi W kW) ay n);have U3:=ua u3;have L3:Hid (W2.heap.size<=p3/\p3<=q3/\q3<=O.heap.size):=⟨e1,e2,e3⟩;have K3:=ua (uf K2.u k3);generalize lf R.j=f1 at *;generalize Ro R.a=f2 at *;generalize V.zf R.text=f3 at *;generalize R.j.length=C at *;generalize R.a.length=A at *;generalize R.text.length=B at *;generalize R.i=F at *;generalize R.f=r1 at *;generalize R.label=r2 at *;generalize R.h=G at *;generalize R.d=H at *;generalize R.b=J at *;generalize hY:O.alloc (Oc #[Iv F,Iv r1,Iv r2,Iv G,Sl xa C xc,Iv H,Iv J,Sl na A nc,Sl ta B tc] 26)=Y;have KY:Hid (Kf O Y):=hY▸wU;have BY:Hid (wJ Y O.heap.size #[Iv F,Iv r1,Iv r2,Iv G,Sl xa C xc,Iv H,Iv J,Sl na A nc,Sl ta B tc]):=hY▸Cm;have U:Hid (O.heap.size<Y.heap.size):=BY.x.2.2;have BK:=ua (uf K3 KY.u);go_wp2_with fail;refine CG _ Y BK λW4 x4 k4 l4=>?_
 have X4:=ua x4;have K4:=ua k4;have v:=ua l4;go_wp2_with fail;refine CI _ W4 (uf BK K4.u) λW5 x5 k5 l5=>?_
 have X4':=ua (X4.q k5.u);have X5:=ua x5;have K5:=ua (K4.c k5);have D:=ua l5;go_wp2_with fail;refine IP _ W5 Y.heap.size W4.heap.size (uf BK K5.u) X4' X5 (Nat.lt_trans v D) λp q bd bf a5 a7 a9 bb W6 e1 e2 e3 u6 k6=>?_
 generalize hZ:W6.alloc (Oc #[Iv F,Iv r1,Iv r2,Iv G,Sl bd C bf,Iv H,Iv J,Sl a5 A a7,Sl a9 B bb] 26)=Z;have KZ:Hid (Kf W6 Z):=hZ▸wU;have BZ:Hid (wJ Z W6.heap.size #[Iv F,Iv r1,Iv r2,Iv G,Sl bd C bf,Iv H,Iv J,Sl a5 A a7,Sl a9 B bb]):=hZ▸Cm;have ad:=ua (K5.c (k6.c KZ));have YZ:=ua (BY.on ad.u);have E:Hid (W5.heap.size<=p/\p<=q/\q<=W6.heap.size/\W6.heap.size<Z.heap.size):=⟨e1,e2,e3,BZ.x.2.2⟩;have U6:=ua (u6.q KZ.u);have ae:=ua ((U3.q KY.u).q ad.u);have au:=ua (X4'.q (k6.c KZ).u);have av:=ua (X5.q (k6.c KZ).u);have ab:=ua (uf BK ad.u);obtain⟨y,py,ly⟩:=YZ.x;obtain⟨z,pz,lz⟩:=BZ.x;go_wp2_with fail;refine DA U6 ae o.1 o.2.1 o.2.2 λW7 k7=>?_
 have K7:=ua k7;go_wp2_with fail;refine CG _ W7 (uf ab K7.u) λW8 x8 k8 l8=>?_
 have K8:=ua (K7.c k8);have X8:=ua x8;go_wp2_with fail;refine Wa (.inr ⟨rfl,rfl⟩) (au.q K8.u) X8 ah λW9 k9=>?_
 have K9:=ua (K8.c k9);go_wp2_with fail;refine CI _ W9 (uf ab K9.u) λcf cc b2 cs=>?_
 have ai:=ua (K9.c b2);have bu:=ua cc;go_wp2_with fail;refine Wa (.inr ⟨rfl,rfl⟩) (av.q ai.u) bu Q λcg b3=>?_
 have aj:=ua (ai.c b3);go_wp2_with fail;refine Wb (.inr ⟨rfl,rfl,rfl⟩) (s:=1) (au.q aj.u) ah oM λch _ b4=>?_
 have ak:=ua ((aj.l (λ_ q=>q.elim)).c b4);obtain⟨S,hS⟩:=nm (1+t.n);have az:S<=1048577:=oM;rw[hS];go_wp2_with fail;refine Wb (.inr ⟨rfl,rfl,rfl⟩) (av.m ak (λb e q=>oH v)) Q oM λci _ b5=>?_
 have L:=ua ((ak.l (C':=λb=>b=Y.heap.size\/b=W4.heap.size) (λ_ q=>.inl q)).c (b5.l (λ_ q=>.inr q)));obtain⟨S2,az⟩:=nm (S+il);have co:decide ((S2:Int)<0)=false:=sM;have cp:¬((S2:Int)<0):=oM;rw[az];have aw:=ua (Uq YZ.o L.o (λe=>oG U.o v.o));have ax:=ua (Uq BZ L (λe=>by have:=v;have:=D;have:=E;omega));have ao:=ua (U6.m L (λb q e=>by have:=v;have:=D;have:=E;omega));obtain⟨y,py,ly⟩:=aw.x;obtain⟨z,pz,lz⟩:=ax.x;go_wp2_with fail;refine DA ao.o (ae.o.m L.o (λb q e=>by have:=U.o;have:=v.o;have:=L3.o;omega)) o.o.1 o.o.2.1 o.o.2.2 λcj aa=>?_
 have bk:=ua (L.c (aa.l (λ_ q=>q.elim)));have bo:=ua (ao.q aa.u);have ag:=ua (ax.on aa.u);have cn:=ua (aw.on aa.u);obtain⟨z,pz,lz⟩:=ag.x;have b9:=ua ag.x.2.2;go_wp2_with fail;refine ugb (s:=1) bo ⟨λb q r=>oM,λb q r=>by have:=E;omega,λb q r=>oM⟩ o.1 o.2.1 o.2.2 oM (λb q=>oG b9 E) λck u15 a2=>?_
 have bp:=ua u15;have bl:=ua ((bk.l (C':=λb=>b=Y.heap.size\/b=W4.heap.size\/(W5.heap.size<=b/\b<W6.heap.size)) (λb e=>oM)).c (a2.l (λb e=>oH E)));have bz:=ua (Uq ag a2 (λe=>oH E));obtain⟨z,pz,lz⟩:=bz.x;obtain⟨M,hM⟩:=nm (1+C+A*5+B);have HM:=ua hM;rw[hM];go_wp2_with fail;refine ugc (s:=1) bp o.1 o.2.1 o.2.2 oM λap b6=>?_
 have al:=ua (bl.c (b6.l (λ_ q=>q.elim)));rw[HM.o];have m1:¬((M:Int)<0):=oM;have m2:=CK M;have X:=ua (qX ab.o al.o (λb hb e=>by have:=K3.o.size;have:=U.o;have:=v.o;have:=D.o;omega));go_wp2_with fail;refine CG _ ap X λaq cd b7 ca=>?_
 have bw:=ua cd;have am:=ua b7;have bm:=ua ca;go_wp2_with fail;refine CI _ aq (uf X am.u) λbt ce a3 cb=>?_
 have bx:=ua ce;have X17':=ua (bw.q a3.u);have ac:=ua (am.c a3);have bn:=ua (Nat.lt_trans bm cb);go_wp2_with fail;refine IP _ bt ap.heap.size aq.heap.size (uf X ac.u) X17' bx bn λp' q' be bg a6 a8 ba bc af e1 e2 e3 u19 a4=>?_
 generalize hV:af.alloc (Oc #[Iv F,Iv r1,Iv r2,Iv G,Sl be C bg,Iv H,Iv J,Sl a6 A a8,Sl ba B bc] 26)=V;have KV:Hid (Kf af V):=hV▸wU;have BV:Hid (wJ V af.heap.size #[Iv F,Iv r1,Iv r2,Iv G,Sl be C bg,Iv H,Iv J,Sl a6 A a8,Sl ba B bc]):=hV▸Cm;have an:=ua (al.c ((ac.c (a4.c KV)).l (λ_ q=>q.elim)));have YV:=ua (Uq YZ.o an.o (λe=>by have:=U.o;have:=v.o;have:=D.o;omega));have bq:=ua (u19.q KV.u);have br:=ua (ae.o.m an.o (λb q e=>by have:=U.o;have:=v.o;have:=D.o;have:=L3.o;omega));have bh:=ua (uf X (ac.c (a4.c KV)).u);obtain⟨y,py,ly⟩:=YV.x;obtain⟨z,pz,lz⟩:=BV.x;go_wp2_with fail;refine DA bq br o.1 o.2.1 o.2.2 λcm b8=>?_
 have BF:=ua (uf bh b8.u);go_wp2;go_ret;exact⟨rfl,BF⟩
end
end
namespace fnExactParse
open Go.ChangeShapes Go.WideShapes Go.ChangeAt Go.RowKit
open Go.ChangeMaps (open_string shut_string)
def own:ownKnob prog.godebug=none:=rR
def gE:laidOutB prog=true:=rR
def S7 : Tryz.prog.globalNamed "internal/strconv.uint64pow10" = some 2 := by kernel_rfl
def lE:(prog.globals[2]?).map (·.type)=some 382:=rR
def S8:prog.cellsOf 382=20:=rR
def uS:prog.cellsOf 189=1:=rR
def S9:(Rows.laid_internal_strconv_uint64pow10:DataW Unit)=Lib.tabData .u64 Lib.pow10Tab:=rR
def et : Tryz.prog.globalNamed "errors.errorType" = some 0 := by kernel_rfl
def rt : (Tryz.prog.cutTypes.find? (·.1 == "internal/reflectlite.rtype")).map (·.2) = some 217 := by kernel_rfl
def T0:((List.range 424).filter λt=>prog.rowNamed t [101,114,114,111,114]) = [56]:=rR
def size:prog.types.size=424:=rR
def T1 {W}(h : laidMetH Tryz.prog Rows.fnExactParseRow.laid W) : Lib.TabIs Tryz.prog W "internal/strconv.uint64pow10" .u64 Lib.pow10Tab := by
 have h1 := laidMetH.filter (fun x => x.1 == "internal/strconv.uint64pow10") h;have h2 : laidMetH Tryz.prog [("internal/strconv.uint64pow10", Rows.laid_internal_strconv_uint64pow10)] W := h1;have h3 : laidMet Tryz.prog [("internal/strconv.uint64pow10", Rows.laid_internal_strconv_uint64pow10)] W := h2;rw[S9]at h3;exact Lib.tabIs_of_head (rest:=[]) S7 lE Tryz.underlying382 Tryz.underlying189 uS S8 h3
def T2{W}(h:laidMetH Tryz.prog Rows.fnExactParseRow.laid W):Dm W:=by
 have h1 := laidMetH.filter (fun x => x.1 == "errors.errorType") h;have h2 : laidMet Tryz.prog [] W /\ handlesMet Tryz.prog [("errors.errorType", Rows.laid_errors_errorType)] W := h1;obtain⟨name,u,ty,e1,e2,e3,e4,e5⟩:=h2.2 _ (Aw.2 rfl);have en:name = [101,114,114,111,114]:=(Ko e1).symm;subst en;obtain rfl:=Ko (rt.symm.trans e2);have hm:ty∈(List.range 424).filter λt=>Tryz.prog.rowNamed t [101,114,114,111,114]:=Ik.2 ⟨Ng.2 (by rw[<-size];exact e3),e4⟩
 rw[T0]at hm;obtain rfl:=Aw.1 hm;have hh:typeHandle Tryz.prog 56=.pointer (Sm 5 56):=rR;rw[hh]at e5;show W.cell? (Ad 0 0)=some (.iface 217 (.agg #[.pointer (Sm 5 56)]));simpa using World.var?_cell et e5 0
def gD{w x}{a cap:Nat}{zs:LI}(h:(x=none/\a=0)\/∃y,x=some y/\a<=cap/\zs.length=cap/\(∀i,i<zs.length->w.cell? (y.add i)=some (Bv (zs.getD i 0)))/\∀n∈zs,(Lit.int .u8 n).wf=true):∃T:Nat->Int,V.ArgT w x a T/\∀i,0<=T i/\T i<=255:=by
 rcases h with⟨rfl,rfl⟩|⟨⟨b,off,f⟩,rfl,j,k,d,e⟩
 ·exact⟨λ_=>0,.inl rfl,λ_=>⟨Eg 0,by show(0:Int)<=255;omega⟩⟩
 refine⟨λi=>zs.getD i 0,?_,λi=>by simpa using range_u8 e i⟩;by_cases c:a=0
 ·exact .inl c
 obtain rfl:f=none:=by simpa[Addr.add] using World.cell?_spot (d 0 oM)
 refine .inr ⟨b,off,rfl,λi g=>?_⟩;have h:=d i oM;rw[show((Ad b off):Addr).add i=(Ad b (off+i)) by by_cases c:i=0<;>simp[Addr.add,c]]at h;exact h
def T3{w c d a h b j T I}fU mO(k:V.ArgT w c a T)(g:∀i,0<=T i/\T i<=255)(l:V.ArgT w d b I)(b1:∀i,0<=I i/\I i<=255)(f:laidMetH prog Rows.fnExactParseRow.laid w) :
  Cs 3 #[Sl c a h,Sl d b j,Iv fU,Iv mO] w λe w'=>e=Rt Bt/\Bw w w':=by
 by_cases n:1048576<a
 ·have m:(1048576:Int)<(a:Int):=oM;go_enter func3,ntmps3;go_wp2;go_ret;exact⟨rfl,wI _⟩
 by_cases o:1048576<b
 ·have m:(1048576:Int)<(b:Int):=oM;have hd':¬((1048576:Int)<(a:Int)):=oM;go_enter func3,ntmps3;go_wp2;go_ret;exact⟨rfl,wI _⟩
 exact S6 (t:=⟨a,T,g,oM⟩) k l b1 oM (Lib.tabBelow_of_tabIs (T1 f)) (T2 f)
def lD(H:Type)(enc:TypeId×Value->H)(W:Wl)(o:Nat)(args:Av)(u G:List (DataW H))(F:List MemPlace)
  (C:∀(j:Nat) t v,f3.params[j]?=some t->args[j]?=some v->Value.okWide prog W .any o t v)
  (A:DataW.Whole enc prog f3.params.toList Rows.fnExactParseSpec.vars false W args.toList u G F) (L:laidMetH prog Rows.fnExactParseRow.laid W) :
  Cs 3 args W λe W'=>∃v,e=Rt v/\Rows.fnExactParseSpec.post enc prog f3 false true false false W args v W':=by
 have k:∀(j:Nat) t v,f3.params[j]?=some t->args[j]?=some v->Value.okWide prog W .any o t v:=C;have hW':=A;obtain⟨p,q,z,N,rfl,af,ag⟩:=A;have y:DataW.TrodAll enc prog W 0 (λ_=>true) true f3.params.toList args.toList u p:=z;rw[params3]at y k;obtain⟨v0,ah,d0,aa,p0,q0,ae,rfl,rfl,s,Y⟩:=trodAll_cons y;obtain⟨v1,ai,d1,ab,p1,q1,rfl,rfl,rfl,b,r1⟩:=trodAll_cons Y;obtain⟨v2,aj,d2,ac,p2,q2,rfl,rfl,rfl,f,r2⟩:=trodAll_cons r1;obtain⟨v3,ak,d3,ad,p3,q3,rfl,rfl,rfl,J,Z⟩:=trodAll_cons r2;obtain⟨rfl,rfl,rfl⟩:=trodAll_nil Z;obtain rfl:args=#[v0,v1,v2,v3]:=by cases args;simp_all
 obtain⟨rfl,rfl⟩:=trodVars_none N;have lt:∀{d v p},DataW.Trod enc prog W 0 (λ_=>true) true 22 v d p->∀x∈p,x.block<W.heap.size:=λh=>by obtain⟨m,B⟩:=h;exact DataW.trod_lt m _ _ _ B
 have D:∀{v d p},Value.okWide prog W .any o 22 v->DataW.Trod enc prog W 0 (λ_=>true) true 22 v d p->∃a n c T,v=Sl a n c/\V.ArgT W a n T/\∀i,0<=T i/\T i<=255:=λS h=>by
  obtain⟨a,n,c,rfl⟩:=okWide_slice underlying22 S;obtain⟨fU,Q⟩:=h;rcases open_ints underlying22 underlying5 rR Q with⟨g,_⟩|⟨x,l,c,zs,g,_,R,B,X,_,O,U⟩
  ·simp[Value.cells]at g;obtain⟨rfl,rfl,rfl⟩:=g;obtain⟨T,b,f⟩:=gD (w:=W) (cap:=0) (zs:=[]) (.inl ⟨rfl,rfl⟩);exact⟨_,_,_,T,rfl,b,f⟩
  simp[Value.cells]at g;obtain⟨rfl,rfl,rfl⟩:=g;obtain⟨T,b,f⟩:=gD (w:=W) (.inr ⟨_,rfl,R,by simpa using X,O,U⟩);exact⟨_,_,_,T,rfl,b,f⟩
 obtain⟨a0,n0,c0,T,rfl,t0,E⟩:=D (k 0 22 v0 rfl rfl) s;obtain⟨a1,n1,c1,I,rfl,t1,b1⟩:=D (k 1 22 v1 rfl rfl) b;obtain⟨x2,rfl,rfl,rfl,w2⟩:=open_int underlying3 (k 2 3 v2 rfl rfl) f;obtain⟨x3,rfl,rfl,rfl,w3⟩:=open_int underlying3 (k 3 3 v3 rfl rfl) J;clear z C;refine(T3 x2 x3 t0 E t1 b1 L).mono λe W' ⟨P,r⟩=>?_
 subst P;exact⟨_,rfl,_,_,_,[],_,[],hW',trodAll_mk1 (shut_bool underlying4 _),(trodAll_cons_mk (Below.trod gE rR (of_decide_eq_true rR) s r (lt s)) (trodAll_cons_mk (Below.trod gE rR (of_decide_eq_true rR) b r (lt b)) (trodAll_cons_mk (shut_int underlying3 w2) (trodAll_cons_mk (shut_int underlying3 w3) trodAll_mk0)))),rfl,r.frame _,λh=>by cases h⟩
end fnExactParse
namespace fnExactParse
open Go.ChangeShapes Go.WideShapes Go.ChangeAt Go.RowKit
open Go.ChangeMaps (open_string shut_string)
def eZ:DataW Unit->Array Value
 |.agg xs=>(xs.map fun|.lit (.int k z)=>Value.int k z|_=>Value.bool false).toArray
 |_=>#[]
def lay(c:Av):Obj->Obj
 |.cells _ t a=>.cells c t a
 |o=>o
noncomputable def fA (a:Os):Wl :=
 { World.holding prog a ⟨#[],#[],[]⟩ with heap:=((((World.holding prog a ⟨#[],#[],[]⟩).heap.modify 2 (lay (eZ Rows.laid_internal_strconv_uint64pow10))).modify 3 (lay (eZ Rows.laid_math_bits_deBruijn32tab))).modify 4 (lay (eZ Rows.laid_math_bits_deBruijn64tab))).modify 0 (lay #[.iface 217 (Gy 56)]) }
def lF a:laidMetH prog Rows.fnExactParseRow.laid ((fA a).forCall (λ_ _=>0) ⟨#[],#[nS,nS,Iv 0,Iv 0],[]⟩).memory :=
 laidMetH_of_parts (laidMet_of_run' 8 rR rR) rR
def T4 a{H}(enc:TypeId×Value->H):∃b,DataW.whole enc prog ((fA a).forCall (λ_ _=>0) ⟨#[],#[nS,nS,Iv 0,Iv 0],[]⟩).memory f3.params.toList Rows.fnExactParseSpec.vars false #[nS,nS,Iv 0,Iv 0].toList 8=some ([.nil,.nil,.lit (.int .i64 0),.lit (.int .i64 0)],[],b) :=
 ⟨[],rR⟩
def T5 a(l:a.Started)H(enc:TypeId×Value->H)(F:Stop.Interp) :
  ReturnsInHanded {} Tryz.checked a 3 .any ((OpenSpec.ofChange Rows.fnExactParseSpec).preRow enc prog f3 Rows.fnExactParseRow.domain false Rows.fnExactParseRow.laid) (((OpenSpec.ofChange Rows.fnExactParseSpec).at F).post enc prog f3 false true false false):=by
 obtain⟨m,j⟩:=T4 a enc;refine returnsInHanded_of_row (C:=Tryz.checked) (s:=OpenSpec.ofChange Rows.fnExactParseSpec) own l rR func3
  (witness_row_at (enc:=enc) (C:=Tryz.checked) false (fA a) #[nS,nS,Iv 0,Iv 0] rfl rR rR rR
   (OpenSpec.preRow_of_cond 8 j rR (λk h=>by cases h) rR (lF a))) ?_
 intro W b args d e c i g _ _ _ f _ _;exact lD H enc W b args d e c i g f
end fnExactParse
namespace fnExactParse
open Go.ChangeShapes Go.WideShapes Go.ChangeAt Go.RowKit
open Go.ChangeMaps (open_string shut_string)
def j1:(Rows.fnExactParseRow.inPlace==prog.inPlace 3)=true:=rR
def j2:(Rows.fnExactParseRow.unfollowed==prog.unfollowed 3)=true:=rR
def j3:(Rows.fnExactParseRow.recurses==prog.recurses 3)=true:=rR
def j4:(Rows.fnExactParseRow.named==prog.varsNamed 3)=true:=rR
def ML:joinedFacts prog 3 f3 (OpenSpec.ofChange Rows.fnExactParseSpec).bare Rows.fnExactParseRow=true:=by
 unfold joinedFacts;rw[j1,j2,j3,j4]
 kernel_rfl
def said:Rows.FnExactParseSaid :=
 OpenClaim.holds_of_cond 3 f3 rfl rfl rfl rfl rfl rfl rfl ⟨rfl,rfl,rfl,rfl,rfl⟩ rfl rfl rfl rfl rfl rR func3 ML
  (of_decide_eq_true rR) (by unfold Func.isWrapper;first|(rw[Zp (by decide +kernel)];kernel_rfl)|(rw[Zn (by decide +kernel)];exact⟨rfl,rfl⟩))
  (λa b H enc _ F=>by rw[OpenClaim.pre_eq_preRow];exact T5 a b H enc F)
def plain f fn(hf : Tryz.pinned.checked.prog.funcNamed "loop.example/s0055/laws.FnExactParse" = some f)(hfn : Tryz.pinned.checked.prog.funcs[f]? = some fn) :
  true=Tryz.pinned.checked.prog.looks []/\∀(j:Nat) t,fn.params[j]?=some t->Tryz.pinned.checked.prog.wantsStandIn t=false:=by
 obtain rfl : f = 3 := Option.some.inj ((show Tryz.prog.funcNamed "loop.example/s0055/laws.FnExactParse" = some 3 by kernel_rfl).symm.trans hf) |>.symm;obtain rfl:fn=Tryz.f3:=(Ko (Tryz.func3.symm.trans hfn)).symm;refine⟨rR,λj t ht=>?_⟩;rw[Tryz.params3]at ht;have hm:t=22\/t=3:=by have:=Array.mem_of_getElem? ht;simp at this;omega
 rcases hm with rfl|rfl
 ·exact(show Tryz.prog.wantsStandIn 22=false by kernel_rfl)
 exact(show Tryz.prog.wantsStandIn 3=false by kernel_rfl)
end fnExactParse
section
theorem fnExactParse_holds:Rows.FnExactParseCardSaid :=
 Claim7.holds_tied_plain_at .later [] _ _ _ _ fnExactParse.said (λ_ h=>by cases h) rR (λ_ h=>by cases h) fnExactParse_row_tie rfl ⟨rfl,rfl⟩ rR rfl fnExactParse.plain rR
end
end Go.Proofs.YtoihadcablknpaaGreatDoor
