import Derived.Test.YtmlblamikgkdcaaGreatT19
import Derived.Test.YtmlblamikgkdcaaGreatT20
import Derived.Test.YtmlblamikgkdcaaGreatRows
set_option linter.unusedVariables false
set_option linter.unusedSimpArgs false
set_option linter.defProp false
set_option maxHeartbeats 40000000
set_option maxRecDepth 100000
namespace Go.Proofs.YtmlblamikgkdcaaGreat
open Go.RowKit
open Go.Proofs.Tryz
open M (OpD ug Gr)
def Sd(p:Nat×(Nat->Int))(h:Cz p.1 p.2):Tx:=if hn:p.1<=4000 then ⟨p.1,λi=>if i<p.1 then p.2 i else 0,λi=>by
 split
 .rename_i a;exact h i a
 omega,oM⟩ else ⟨4001,λ_=>0,λ_=>oM,oM⟩
def uvn{p:Nat×(Nat->Int)}{h:Cz p.1 p.2}(a:p.1<=4000):(Sd p h).n=p.1:=by unfold Sd;rw[dif_pos a]
def usA{p:Nat×(Nat->Int)}{h:Cz p.1 p.2}(g:p.1<=4000){Q w a}(c:Ints Q .u8 w a p.1 p.2):Ei Q w a (Sd p h):=by
 unfold Sd Ei;rw[dif_pos g];rcases c with e|⟨b,o,e,j,d⟩
 .exact .inl e
 refine .inr ⟨b,o,e,j,λi f=>?_⟩;have hi':=f;show _=some (Bv (if i<p.1 then p.2 i else 0));rw[Zp hi'];exact d i hi'
def usB{p:Nat×(Nat->Int)}{h:Cz p.1 p.2}{g}(b:PV (Sd p h) g):p.1<=4000:=by
 by_cases a:p.1<=4000
 .exact a
 obtain⟨_,_,q,_⟩:=b;unfold Sd at q;rw[dif_neg a]at q;have:(4001:Nat)<=4000:=q;omega
def IA{Q w a n S}(h:Ints Q .u8 w a n S):Ints (Of w) .u8 w a n S:=(qD h).g (λ_ q=>q.2)
def uwS(w:Wl)(e:Ending)(w':Wl):Prop:=∃(ra:Oa) (nr rc:Nat) (la:Oa) (c lc:Nat) (a b:Int),e=Rt (.tuple #[.agg #[Sl ra nr rc,Sl la c lc],Iv a,Iv b])/\a=7/\Bw w w'
def ukI a n c w(h:4000<n)(e:n<=6000000) :
  Cs 26 #[Sl a n c] w (uwS w):=by
 have b:(n:Int) > 4000:=oM;have d:=Ke b;go_enter func26,ntmps26;go_wp2;refine zL (v:=.tuple #[.agg #[nS,nS],Iv 7,Iv 0]) ?_ rfl ?_
 .simp[results,f26,go_sem]
 exact⟨_,_,_,_,_,_,_,_,rfl,rfl,Bi⟩
def ukJ{t il ic C I}fU mO a n c w(h:4000<n)(A:n<=6000000) :
  Cs 5 #[Sl a n c,Sl C il ic,Iv fU,Iv mO] w (AN t il I fU mO w):=by
 generalize i:w.alloc (Oc #[Iv 0,Iv 0,Iv 0,Iv 0,nS,Iv 0,Iv 0,nS,nS] 28)=X;have k:Hid (Bw w X):=i▸Bi;have m:Hid (zG X w.heap.size rz):=i▸Eb _;have s:=ua (ukI a n c X h A);go_enter func5,ntmps5;go_upto_region 1 with fail;clear i;by_cases g:Uj fU mO
 rotate_left
 .let⟨z,E,lz⟩:=m.x;unfold rz at z;have B:fU<0\/(¬fU<0/\50000<fU)\/(¬fU<0/\¬50000<fU/\mO<0)\/(¬fU<0/\¬50000<fU/\¬mO<0/\1000<mO):=by unfold Uj at g;omega
  clear g;rcases B with d|⟨d,f⟩|⟨d,f,o⟩|⟨d,f,o,v⟩;all_goals
   go_wp2;refine zL (by simp[results,f5,go_sem, *]) rfl (Se (c:=4) (a:=0) dC ?_);repeat with_reducible first|exact k.o|refine uD ?_ zD
 obtain⟨b1,F,G,H⟩:=g;have d:¬fU<0:=oM;have f:¬50000<fU:=oM;have o:¬mO<0:=oM;have v:¬1000<mO:=oM;go_wp2_with fail;refine s.mono ?_;rintro e W1 ⟨ra,nr,rc,la,D,lc,b,u,rfl,p,j⟩;have hc':(b==0)=false:=by simp[p]
 have r:Hid (¬(b=0\/b=1\/b=2)):=by show ¬_;omega
 generalize y:W1.alloc (Oc #[Sl ra nr rc,Sl la D lc] 34)=Y;have l:Hid (Bw W1 Y):=y▸Bi;have q:=ua (uf (uf k j) l);let⟨z,E,lz⟩:=((m.on j).on l).x;unfold rz at z;clear j p;go_wp2;refine zL (by simp[results,f5,go_sem, *]) rfl (Se (a:=u) r ?_);repeat with_reducible first|exact q.o|refine uD ?_ zD
def ux7(w:Wl)(e:Ending)(w':Wl):Prop:=e=Rt Bt/\Bw w w'
def uwT{a}(h:a=0\/a=1\/a=2)w:Cs 6 #[Iv a] w (λe w'=>e=Rt Bt/\w'=w):=by
 rcases h with rfl|rfl|rfl;all_goals
  go_enter func6,ntmps6;go_wp2;go_ret;exact⟨rfl,rfl⟩
def uwU{a}(h:¬(a=0\/a=1\/a=2))w:Cs 6 #[Iv a] w (λe w'=>e=Rt Bf/\w'=w):=by
 have b:(a==0)=false:=sO;have c:(a==1)=false:=sO;have d:(a==2)=false:=sO;go_enter func6,ntmps6;go_wp2;go_ret;exact⟨rfl,rfl⟩
def uvo Q a n c S w(hI:Ints Q .u8 w a n S)(X:Cz n S)(hc:n<=c)(bk:a=none->n=0/\c=0)(cf:n<=9223372036854775807) :
  Cs 3 #[Sl a n c] w (ux7 w):=by
 by_cases h1:1048576<n
 .have h1':(1048576:Int)<(n:Int):=oM;go_enter func3,ntmps3;go_wp2;go_ret;exact⟨rfl,zH _⟩
 have h1':¬(1048576:Int)<(n:Int):=oM;have aw:Hid (∀W,Ints Q .u8 W a n S->Cs 4 #[Sl a n c] W (Pv (dpT (Po n S X)) W)):=λW hW=>T9 Q a n c S W hW X oM hc bk;let⟨ae,ap⟩:=T8 (Po n S X);generalize dpT (Po n S X)=p at *;have HI:=ua hI;have b5:=ae.2;have cc:=ap.2;have av:=ua ap.1;let⟨t,ht⟩:=nm (Sd p.1 ae.1);have bt:Hid (∀g,PV t g->p.1.1<=4000):=λg h=>usB (h:=ae.1) (ht▸h);have ai:Hid (p.1.1<=4000->t.n=p.1.1/\∀Q w a,Ints Q .u8 w a p.1.1 p.1.2->Ei Q w a t):=λh=>ht▸⟨uvn h,λQ w a q=>usA h q⟩;clear hI X hc bk ae ap h1 ht;go_enter func3,ntmps3;go_wp2_with fail;refine(aw w HI).mono ?_;rintro e W1 ⟨a1,D,a2,A,V,sk,rfl,bc,a9,bh,bz⟩;have a0:Hid (Cs 5 #[Sl a1 p.1.1 D,Sl a2 p.2.1 A,Iv V,Iv sk] W1 (AN t p.2.1 p.2.2 V sk W1)):=by
  by_cases am:4000<p.1.1
  .exact ukJ V sk a1 p.1.1 D W1 am b5
  let⟨e,h⟩:=ai oM;rw[<-e];exact up6 (h _ _ _ (IA bc)) (IA a9) av oM
 have j:=ua bh.q;clear bc a9 bh bz;go_wp2_with fail;refine a0.mono ?_;rintro e W2 ⟨F,ac,lb,fa,xa,xn,xc,th,er,na,nn,nc,ta,tl,tc,rfl,bf,hw⟩;unfold VG;have HW:=ua hw;have b8:=ua (ai);replace j:=ua (uf j bf);generalize hV:W2.alloc (Oc #[Iv F,Iv ac,Iv lb,Iv fa,Sl xa xn xc,Iv th,Iv er,Sl na nn nc,Sl ta tl tc] 28)=T;have K3:Hid (Bw W2 T):=hV▸Bi;have s:Hid (zG T W2.heap.size #[Iv F,Iv ac,Iv lb,Iv fa,Sl xa xn xc,Iv th,Iv er,Sl na nn nc,Sl ta tl tc]):=hV▸Eb _;replace j:=ua (uf j K3);let⟨wz,wp,wl⟩:=s.x;clear hw bf a0;by_cases hr:F=0\/F=1\/F=2
 rotate_left
 .go_wp2_with fail;refine(uwU hr T).mono ?_;rintro e W4 ⟨rfl,rfl⟩;go_wp2;go_ret;exact⟨rfl,j⟩
 let⟨g,m,N⟩:=HW hr;have u:=ua N;have am:=bt _ N.p;let⟨tn,bo⟩:=ai am;clear HW N;go_wp2_with fail;refine(uwT hr T).mono ?_;rintro e bw ⟨rfl,ch⟩;subst bw;go_wp2_with fail;refine(aw T (HI.h j)).mono ?_;rintro e W4 ⟨a3,c3,a4,c4,cb,cj,rfl,bd,ba,ad,an⟩;have B:=ua ba;have v:=ua (uf K3 ad.q);replace j:=ua (uf j ad.q);replace s:=ua (s.on ad.q);have a6:=ua (bo _ _ _ (IA bd));clear bd ba ad wz wp wl bo hV;go_wp2_with fail;rw[<-tn]at an ⊢;refine uqA a6 an u.p λra rc la lc W5 hG bi=>?_;have E:=ua u.p.a;have a5:=ua (VJ E);generalize al:W5.alloc (Oc #[Sl ra g.nr rc,Sl la g.nb lc] 34)=W6;have K6:Hid (Bw W5 W6):=al▸Bi;have BG:Hid (zG W6 W5.heap.size #[Sl ra g.nr rc,Sl la g.nb lc]):=al▸Eb _;have O:=ua (hG.h K6);have I:=uf bi.q K6;have P:=ua I.size;replace j:=ua (uf j I);replace s:=ua (s.on I);replace B:=ua (B.h I);replace v:=ua (uf v I);let⟨gz,gp,gl⟩:=BG.x;clear hG bi a6 I an K3;go_wp2_with fail;clear gz gp gl al;let⟨bj,bl⟩:=u.a.elim (λh=>h.2.2) (λh=>aB h dC);refine(F0 _ ra la rc lc g W6 O.a a5 (uob ra la g rc lc E.r2 E.l2) E bj bl).mono ?_;rintro e W7 ⟨rfl,C⟩;clear bj bl;replace j:=ua (uf j C);replace s:=ua (s.on C);replace B:=ua (B.h C);replace v:=ua (uf v C);replace O:=ua (O.h C);replace P:=ua (zP P C.size);let⟨gz,gp,gl⟩:=(BG.on C).x;clear C BG;go_wp2_with fail;clear gz gp gl;refine(K7 _ ra la rc lc g E a5 W7 O).mono ?_;rintro e W8 ⟨a8,c8,rfl,bb,G⟩;have ax:=ua bb;replace j:=ua (uf j G);replace s:=ua (s.on G);replace B:=ua (B.h G);replace v:=ua (uf v G);replace P:=ua (zP P G.size);have aq:=K5 E.a;let⟨b1,b2,b3,b4⟩:=u.b;have bq:Hid (JU (Jq g) (Me g) V sk):=⟨b1,b2,b3,b4,aq.2⟩;have cg:=aq.1;have b0:m.r=0\/m.r=1\/m.r=2\/m.r=3:=oH u.c;clear bb G O aq b1 b2 b3 b4;go_wp2_with fail;refine(upx _ _ a8 (Jq g) c8 (Me g) a4 p.2.1 c4 p.2.2 V sk m W8 ax bq oM B av oM u.e b0 (λy q=>q.2) (λy q=>Ba q.2 P)).mono ?_;rintro e W9 ⟨z,ps,aa,U,bp,ag,au,bn,ab,va,vn,vc,rfl,Y⟩;have HO:=ua Y;obtain rfl:z=F:=Y.r.trans u.c.symm;let⟨f1,f2,x1,x2,_⟩:=Y.i oM;let⟨g1,g2⟩:=u.f;let⟨y1,y2,_⟩:=u.x;obtain rfl:U=fa:=f1.trans g1.symm;obtain rfl:ab=th:=f2.trans g2.symm;obtain rfl:ag=xn:=x1.trans y1.symm;have ci:ag<=512:=by rw[x1];exact Uu m.t 256
 have k9:=Y.q;generalize ak:W9.alloc (Oc #[Iv z,Iv ps,Iv aa,Iv U,Sl bp ag au,Iv bn,Iv ab,Sl va vn vc] 44)=R;have af:=ak▸Bi;have J:Hid (zG R W9.heap.size #[Iv z,Iv ps,Iv aa,Iv U,Sl bp ag au,Iv bn,Iv ab,Sl va vn vc]):=ak▸Eb _;have k8:=uf k9 af;have aj:=ua af;replace j:=ua (uf j k8);replace s:=ua (s.on k8);replace v:=ua (uf v k8);have br:=ua (ukP (c:=au) (c':=xc) (x2.h af) (y2.h v) oM);have q1:(z != z)=false:=sM;have q2:(U != U)=false:=sM;have q3:(ab != ab)=false:=sM;let⟨wz,wp,wl⟩:=s.x;let⟨oz,op,ol⟩:=J.x;clear Y f1 f2 x1 x2 g1 g2 y1 y2 k9 af k8 ax B;go_wp2_with fail;refine br.mono ?_;rintro e a7 ⟨rfl,mq,rfl⟩;have H:Bw R (R.drewN mq):=Be (zH _) mq;replace j:=ua (uf j H);replace s:=ua (s.on H);replace J:=ua (J.on H);replace v:=ua (uf v H);replace aj:=ua (uf aj H);generalize R.drewN mq=a7 at *;clear wz wp wl oz op ol ak H;let⟨wz,wp,wl⟩:=s.x;let⟨oz,op,ol⟩:=J.x;by_cases A:z=2
 .let⟨p1,p2⟩:=u.l A;let⟨r1,r2⟩:=HO.d A;obtain rfl:ps=ac:=r1.trans p1.symm;obtain rfl:aa=lb:=r2.trans p2.symm;have c2':(z==2)=true:=by simp[A]
  have s1:(ps==ps)=true:=sM;have s2:(aa==aa)=true:=sM;clear A p1 p2 r1 r2;go_wp2;go_ret;exact⟨rfl,j⟩
 have c2':(z==2)=false:=by simp[A]
 by_cases D:z=1
 .have c1':(z==1)=true:=by simp[D]
  clear D A;go_wp2;go_ret;exact⟨rfl,j⟩
 have c1':(z==1)=false:=by simp[D]
 have c0:z=0:=oM;let⟨p1,p2,p3⟩:=u.n c0;let⟨r1,r2,ck,bg⟩:=HO.ok c0;obtain rfl:ps=ac:=r1.trans p1.symm;subst r2;let⟨ao,ce⟩:=u.o.o.ok (u.c.symm.trans c0);have SB:=ua (ukQ _ va m.a.length vc (Jz m.a) a7 ((ZE bg).ev.h aj) oM ao.a.d);have bu:=ua ao.a.d;have ay:=ua p3;have az:=ua p2;have s1:(ps==ps)=true:=sM;clear D A c0 p1 p2 p3 r1 bg ao;go_wp2_with fail;refine SB.mono ?_;rintro e b9 ⟨ta,tc,rfl,ho⟩;have bm:=(urd bu).trans (VH m.a);have Z:=ho.q;have ah:=ho.k;rw[bm,<-AQ m.a]at ah;have b6:(jz m.a).length<=1000000:=by rw[AQ];have:=CM (Jz m.a) m.a.length;omega
 rw[<-AQ m.a];have hN:=az;have HN3':=ay;generalize jz m.a=L at *;subst hN;have be:=uf v Z;have bs:=ua (uiW (c:=tc) (c':=nc) ah (xd HN3' oM be) rfl b6);replace j:=ua (uf j Z);let⟨wz,wp,wl⟩:=(s.on Z).x;let⟨oz,op,ol⟩:=(J.on Z).x;generalize bx:L.length=ln at *;clear ho bm ah HN3' be SB az ay bx Z;go_wp2_with fail;refine bs.mono ?_;rintro e ca ⟨rfl,b7⟩;replace j:=ua (uf j b7);go_wp2;go_ret;exact⟨rfl,j⟩
namespace fnMachine
open Go.ChangeShapes Go.WideShapes Go.ChangeAt Go.RowKit Go.Deep
def own:ownKnob prog.godebug=none:=rR
def usC:laidOutB prog=true:=rR
def usD:prog.cellsOf 5=1:=rR
def uvp b off i:((Ad b off):Addr).add i=(Ad b (off+i)):=by
 by_cases a:i=0
 .subst a;simp[Addr.add]
 simp[Addr.add,a]
def fC{H}{enc:TypeId×Value->H}{w k u o fU cs}{x:DataW H×List MemPlace}(h:DataW.trod enc prog w k u o fU 22 cs=some x) :
  ∃a n c S,cs = [Sl a n c]/\Ints (λ_=>True) .u8 w a n S/\n<=9223372036854775807/\Cz n S/\n<=c/\(a=none->n=0/\c=0):=by
 rcases open_ints underlying22 underlying5 usD h with⟨rfl,_⟩|⟨a,f,cap,d,rfl,_,y,p,t,_,g,s⟩
 .exact⟨none,0,0,λ_=>0,rfl,.inl rfl,oM,(λi j=>oM),zD,λ_=>⟨rfl,rfl⟩⟩
 have z:f<=d.length:=by rw[t];split<;>omega
 have q:f<=9223372036854775807:=by have:=p;unfold maxLen at this;omega
 refine⟨some a,f,cap,λi=>d.getD i 0,rfl,?_,q,(λi j=>?_),oM,λe=>by cases e⟩
 .by_cases l:f=0
  .exact .inl l
  obtain⟨b,off,v⟩:=a;have m:=g 0 oM;have r:v=none:=by simpa[Addr.add] using World.cell?_spot m
  subst r;refine .inr ⟨b,off,rfl,trivial,λi j=>?_⟩;have:=g i oM;rwa [uvp]at this
 have hi':i<d.length:=oM;have:d.getD i 0∈d:=by
  rw[El,Bb hi'];exact Gi hi'
 exact bounds_u8 (s _ this)
def uvq z(L:z.Started)H(enc:TypeId×Value->H) :
  ReturnsInHanded {} Tryz.checked z 3 .any (Rows.fnMachineSpec.pre6 enc prog f3 Rows.fnMachineRow.domain false) (Rows.fnMachineSpec.post enc prog f3 false true false false):=by
 refine returnsInHanded_of_change (C:=Tryz.checked) own L rR func3
  (ChangeSpec.witness6 (enc:=enc) (C:=Tryz.checked) false ⟨#[],#[nS],[]⟩ 8 rR rR rR rR) ?_
 intro W N args Q T O w u V _;have v:=w;have hW':=u;obtain⟨p,q,t,B,rfl,X,Y⟩:=u;have s:=t;rw[params3]at s v;obtain⟨A,aa,P,R,I,Z,U,rfl,rfl,r,J⟩:=trodAll_cons s;obtain⟨rfl,rfl,rfl⟩:=trodAll_nil J;obtain rfl:args=#[A]:=by cases args;simp_all
 obtain⟨rfl,rfl⟩:=trodVars_none B;obtain⟨d,b,f,rfl⟩:=okWide_slice underlying22 (v 0 22 A rfl rfl);have y:=r;have G:∀x∈I,x.block<W.heap.size:=by obtain⟨m,F⟩:=y;exact DataW.trod_lt m _ _ _ F
 obtain⟨S,i,k,g,j,l⟩:∃S:Nat->Int,Ints (λ_=>True) .u8 W d b S/\b<=9223372036854775807/\Cz b S/\b<=f/\(d=none->b=0/\f=0):=by
  obtain⟨fU,E⟩:=r;let⟨a,n,c,S,e,i,k,g,j,l⟩:=fC E;simp[Value.cells]at e;obtain⟨rfl,rfl,rfl⟩:=e;exact⟨S,i,k,g,j,l⟩
 clear t w;refine(uvo (λ_=>True) d b f S W i g j l k).mono λe W' ⟨D,o⟩=>?_;subst D;exact⟨_,rfl,_,_,_,[],_,[],hW',trodAll_mk1 (shut_bool underlying4 _),(trodAll_cons_mk (Below.trod usC rR (of_decide_eq_true rR) y o G) trodAll_mk0),rfl,o.frame _,λh=>by cases h⟩
def over:Rows.fnMachineRow.holds Tryz.pinned (OpenSpec.ofChange Rows.fnMachineSpec) :=
 OpenClaim.holds_of_wide 3 f3 rfl rfl rfl rfl rfl rfl rfl ⟨rfl,rfl,rfl,rfl,rfl⟩ rfl rfl rfl rfl rfl rR func3 rR
  (of_decide_eq_true rR) (by unfold Func.isWrapper;first|(rw[Zp (by decide +kernel)];kernel_rfl)|(rw[Zn (by decide +kernel)];exact⟨rfl,rfl⟩))
  (λa b H enc _=>uvq a b H enc)
end fnMachine
section
theorem fnMachine_holds:Rows.FnMachineSaid:=fnMachine.over
end
end Go.Proofs.YtmlblamikgkdcaaGreat
