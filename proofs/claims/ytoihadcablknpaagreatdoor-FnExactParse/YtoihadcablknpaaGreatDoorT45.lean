import Derived.Test.YtoihadcablknpaaGreatDoorT41
import Derived.Test.YtoihadcablknpaaGreatDoorT39
import Derived.Test.YtoihadcablknpaaGreatDoorT44
import Derived.Test.YtoihadcablknpaaGreatDoorT38
set_option linter.unusedVariables false
set_option linter.unusedSimpArgs false
set_option linter.defProp false
set_option maxHeartbeats 40000000
set_option maxRecDepth 100000
namespace Go.Proofs.YtoihadcablknpaaGreatDoor
open Go.RowKit
open Go.Proofs.Tryz
section
open M (OpD uh Gr)
def uo6 w s:∃a c W,(convert 9 22 (.string s)).run prog w=.ok (Sl a s.size c) W/\wB (λb=>b=w.heap.size) .u8 W a s.size (Kb s)/\Bw w W:=by
 have f:=Lib.run_convert_string_bytes (P:=prog) w 9 22 5 s underlying9 underlying22 underlying5;refine⟨_,_,_,f,.inr ⟨w.heap.size,0,rfl,rfl,λi d=>?_⟩,?_⟩
 ·rw[zL];exact Lib.bytesWorld_cell w 5 s i d
 refine⟨?_,?_,?_,by rw[Lib.bytesWorld_size];omega,λk e=>Lib.bytesWorld_at_old w 5 s k e⟩;all_goals rfl
def DM args w:(callFunc 15 args).run prog w=.ok (.enter 15 args) w:=by simp[callFunc,func15,f15,go_sem]
def ure args w:(callFunc 16 args).run prog w=.ok (.enter 16 args) w:=by simp[callFunc,func16,f16,go_sem]
def urf{W ib il I}(h:V.Tx W ib 0 il I):wB (Of W) .u8 W (Sm ib 0) il I:=by
 by_cases a:il=0
 ·exact .inl a
 exact .inr ⟨ib,0,rfl,h.lt oM,h⟩
def urg{w W2 c F:Wl}{k na:Oa}{n xc nc q:Nat}{e:Vl}{R:kO}{E:Nat->Bool}(v:Dw (wM W2 c) F k n E)(o:R.j=rg E 256)(s:wC (λb=>c.heap.size<=b/\b<q) F (Sl na R.a.length nc) 5 R.a.length (R.a.flatMap Ck))(u:V.Val q F.heap.size F e R.text)(x:w.heap.size<=W2.heap.size)(y:W2.heap.size<=c.heap.size)(p:c.heap.size<=q)(r:q<=F.heap.size) :
  Cj w.heap.size F (.agg #[Iv R.i,Iv R.f,Iv R.label,Iv R.h,Sl k n xc,Iv R.d,Iv R.b,Sl na R.a.length nc,e]) R:=by
 obtain⟨l,m,t⟩:=v;rw[<-o]at l m;subst l;exact⟨c.heap.size,q,k,xc,na,nc,e,oM,p,r,rfl,m.g (λb q=>⟨by have:=q.1;omega,q.2⟩),t,s,u⟩
def DN{w W2 l W6 k F:Wl}{r na:Oa}{s xc nc zb N:Nat}{p:Vl}{R:kO}{E:Nat->Bool}(t:∀F,wA (λx=>x=zb\/x=w.heap.size) l F->Dw (wM W2 l) F r s E)(o:R.j=rg E 256)(G:wA (λx=>x=zb\/x=w.heap.size) l k)(n:wA (λx=>x=zb\/x=w.heap.size) k F)
  (B:wC (λb=>N<=b/\b<W6.heap.size) k (Sl na R.a.length nc) 5 R.a.length (R.a.flatMap Ck)) (C:V.Val W6.heap.size k.heap.size k p R.text) (J:zb<N) (D:w.heap.size<=W2.heap.size) (v:W2.heap.size<=l.heap.size) (y:l.heap.size<=N) (z:N<=W6.heap.size) (A:W6.heap.size<=k.heap.size) (I:w.heap.size<N) :
  Cj w.heap.size F (.agg #[Iv R.i,Iv R.f,Iv R.label,Iv R.h,Sl r s xc,Iv R.d,Iv R.b,Sl na R.a.length nc,p]) R:=by
 refine urg (t F (G.c n)) o (uA (B.on (λb q=>n.d b oM (λe=>oM))) (λb q=>⟨oM,q.2⟩)) ?_ D v (wN y z) (wN A n.h);obtain⟨a,c,e,h⟩:=C.m n (λg H _ e=>oM);exact⟨a,c,e,λu=>let ⟨g,o,e2,e3,e4⟩:=h u;⟨g,o,e2,wX e3 n.h,e4⟩⟩
def urh{g p q:Nat}{a}(h:So g p q a){d}{i:Nat}(k:(yZ a)[i]?=some d)(b:d.e=1):0<=d.f/\d.f<g:=by
 obtain⟨j,l,rfl⟩:=Dc.1 (Be k);have c:=(ED _ l).1;have e:Ih a j=a[j]:=qG c;have:=(h.f a[j] (Gb c)).2.2.2.2;unfold Lx at b ⊢;rw[e]at b ⊢;exact this b
def Sh(g:Gr)(il:Nat)(I:Nat->Int)(L:List Bo)(a:Wl)(zb:Nat)(ps c th:Int)(h:Vl)(e:Oa)(n f:Nat)(d:Vl)(wr:Wl):Prop :=
 ∃i k z b,i<=n/\d=Iv ((i:Nat):Int)/\wJ wr zb #[Iv 0,Iv ps,Iv 0,Iv c,h,Iv th,Iv ((k:Nat):Int),Sl e n f,b]/\Ce g il I L a.heap.size i k z b wr/\wA (λx=>x=zb) a wr
section
variable {Q:Np} {t:Tx} {ga:Oa} {gc ib il ic:Nat} {I:Nat->Int} {fU mO:Int} {w:Wl}
def rz:Array Value:=#[Iv 0,Iv 0,Iv 0,Iv 0,nS,Iv 0,Iv 0,nS,nS]
def Si{c a:Int}{W:Wl}(b:PP t il I fU mO (Ga c a))(k:Bw w W):RW t il I fU mO w (Rt (.agg #[Iv c,Iv a,Iv 0,Iv 0,nS,Iv 0,Iv 0,nS,nS])) W:=⟨_,_,rfl,b,SA c a k.size,k⟩
def uo7(hT:Do (Of w) w ga t)(hI:V.Tx w ib 0 il I)(hb:∀i,0<=I i/\I i<=255)(hn:il<=1048576) :
  Cs 4 #[Sl ga t.n gc,Sl (Sm ib 0) il ic,Iv fU,Iv mO] w (RW t il I fU mO w):=by
 generalize hX:w.alloc (Oc #[Iv 0,Iv 0,Iv 0,Iv 0,nS,Iv 0,Iv 0,nS,nS] 26)=X;have BX:Hid (Bw w X):=hX▸wG _;have RX:Hid (wJ X w.heap.size rz):=hX▸Cm;have HT:=ua (hT.q BX.o);have HI:=ua (hI.q BX.o);have az:=ua hb;have a9:=ua hI;clear hT hI hb;go_enter func4,ntmps4;go_upto_region 1 with fail;clear hX;by_cases hB:Jl fU mO
 rotate_left
 ·have HP:Hid (PP t il I fU mO (Ga 4 0)):=.bounds hB;obtain⟨z,pz,lz⟩:=RX.o.x;unfold rz at z;have hq:fU<0\/(¬fU<0/\50000<fU)\/(¬fU<0/\¬50000<fU/\mO<0)\/(¬fU<0/\¬50000<fU/\¬mO<0/\1000<mO):=by unfold Jl at hB;omega
  clear hB;rcases hq with h1|⟨h1,h2⟩|⟨h1,h2,h3⟩|⟨h1,h2,h3,h4⟩;all_goals
   go_wp2;refine wL (by simp[results,f4,go_sem, *]) rfl (Si HP.o ?_);repeat with_reducible first|exact BX.o|refine uy ?_ wF
 obtain⟨b1,b2,b3,b4⟩:=hB;have HB:Hid (Jl fU mO):=⟨b1,b2,b3,b4⟩;have h1:¬fU<0:=oM;have h2:¬50000<fU:=oM;have h3:¬mO<0:=oM;have h4:¬1000<mO:=oM;go_wp2_with fail;refine(H0 _ t ga gc X HT.o).mono ?_;rintro e W1 ⟨bd,co,g,ra,rc,la,lc,hP,rfl,hG,k1⟩;have B1:=ua (uf BX.o k1.u);have R1:=ua (RX.o.on k1.u);have I1:=ua (HI.o.q k1.u);have HP:=ua hP;generalize hY:W1.alloc (Oc #[Sl ra g.nr rc,Sl la g.nb lc] 37)=Y;have KY:Hid (Bw W1 Y):=hY▸wG _;have GY:Hid (wJ Y W1.heap.size #[Sl ra g.nr rc,Sl la g.nb lc]):=hY▸Cm;have GX:=ua (hG.q KY.o);have RY:=ua (R1.o.on KY.o);have BY:=ua (uf B1.o KY.o);have IY:=ua (I1.o.q KY.o);clear hP hG k1 R1 I1 HT HI RX BX;by_cases hc:bd=0
 rotate_left
 ·have ac:Hid (PP t il I fU mO (Ga bd co)):=.text HB.o HP.o hc;have hc':(bd==0)=false:=by simp[hc]
  obtain⟨z,pz,lz⟩:=RY.o.x;unfold rz at z;clear hc;go_wp2;refine wL (by simp[results,f4,go_sem, *]) rfl (Si ac.o ?_);repeat with_reducible first|exact BY.o|refine uy ?_ wF
 subst hc;obtain⟨J,rfl⟩:=qZ HP.o;have HV:=ua J;obtain⟨gz,gp,gl⟩:=GY.o.x;clear J;go_wp2_with fail;clear gz gp gl hY;refine(ujs _ ra la rc lc g Y GX.o (qD HV.o)).mono ?_;rintro e W2 ⟨⟨c,nd,hA,rfl⟩,k2⟩;have R2:=ua (RY.o.on k2);have B2:=ua (uf BY.o k2);have G2:=ua (GX.o.q k2);have GB:=ua (GY.o.on k2);have I2:=ua (IY.o.q k2);have HA:=ua hA;have s2:Hid (W1.heap.size<W2.heap.size):=GB.o.x.2.2;clear hA k2 RY BY GX GY IY;by_cases hc:c=0
 rotate_left
 ·have ac:Hid (PP t il I fU mO (Ga c nd)):=.check HB.o HP.o HA.o hc;have hc':(c==0)=false:=by simp[hc]
  obtain⟨z,pz,lz⟩:=R2.o.x;unfold rz at z;clear hc;go_wp2;refine wL (by simp[results,f4,go_sem, *]) rfl (Si ac.o ?_);repeat with_reducible first|exact B2.o|refine uy ?_ wF
 subst hc;obtain rfl:=RT HA.o;by_cases cq:4000<il
 ·have ac:Hid (PP t il I fU mO (Ga 7 4000)):=.input HB.o HP.o HA.o cq;have h4':(4000:Int)<(il:Int):=oM;obtain⟨z,pz,lz⟩:=R2.o.x;unfold rz at z;go_wp2;refine wL (by simp[results,f4,go_sem, *]) rfl (Si ac.o ?_);repeat with_reducible first|exact B2.o|refine uy ?_ wF
 have h4':¬(4000:Int)<(il:Int):=oM;obtain⟨m,hE⟩:=RD (n:=Hw g) (R:=Kj g) (il:=il) (I:=I) (fU:=fU) (mO:=mO) fU.toNat s0 b1 (by show(fU-0).toNat<=_;omega);have HE:=ua hE;obtain⟨gz,gp,gl⟩:=GB.o.x;clear hE;go_wp2_with fail;clear gz gp gl;refine(ZO (Of W2) g ra la (Sm ib 0) rc lc il ic I fU mO m W2 HV.o.a G2.o.h (urf I2.o) (λi _=>az.o i) hn b1 b2 b3 b4 (λ_ h=>h) (Hw g) (Kj g) (λb=>zj rfl rfl) HE.o).mono ?_;rintro e A ⟨⟨cd,ps,lb,fa,r,s,xc,st,th,va,vn,vc,rfl,hO⟩,bf⟩;have k3:=hO.u;have K3:=ua k3;have HO:=ua hO;have bq:=ua bf;have R3:=ua (R2.o.on k3);have B3:=ua (uf B2.o k3);have G3:=ua (G2.o.q k3);have bm:=ua (GB.o.on k3);have I3:=ua (I2.o.q k3);have S3:=ua B2.o.size;have lw:=ua R2.o.x.2.2;have a0:Hid (∀R,RunR g il I m R->PP t il I fU mO R):=λR h=>.run HB.o HP.o HA.o oM HE.o (by rw[<-hO.i];exact hO.e) bf h
 generalize hZ:A.alloc (Oc #[Iv cd,Iv ps,Iv lb,Iv fa,Sl r s xc,Iv st,Iv th,Sl va vn vc] 44)=Z;have kZ:Bw A Z:=hZ▸wG _;have OZ:Hid (wJ Z A.heap.size #[Iv cd,Iv ps,Iv lb,Iv fa,Sl r s xc,Iv st,Iv th,Sl va vn vc]):=hZ▸Cm;have RZ:=ua (R3.o.on kZ);have KZ:=ua kZ;have S:Hid (Z.heap.size=A.heap.size+1):=by rw[<-hZ];show _=_;simp
 have b5:=hO.e;have ae:=ua hO.i;clear k3 hO bf kZ R2 B2 I2 G2 GB HE;by_cases c3:cd=3
 ·have ac:Hid (PP t il I fU mO (Ga 3 0)):=a0.o _ (.out (ae.o▸c3));subst c3;obtain⟨z,pz,lz⟩:=RZ.o.x;unfold rz at z;obtain⟨y,py,ly⟩:=OZ.o.x;have BZ:=ua (uf B3.o KZ.o);clear b5;go_wp2;refine wL (by simp[results,f4,go_sem, *]) rfl (Si ac.o ?_);repeat with_reducible first|exact BZ.o|refine uy ?_ wF
 have c3':(cd==3)=false:=by simp[c3]
 generalize hU:Z.alloc (Oc #[Iv cd,Iv 0,Iv 0,Iv fa,Sl r s xc,Iv th,Iv 0,nS,nS] 26)=U;have kU:Bw Z U:=hU▸wG _;have KU:=ua (uf KZ.o kU);have sU:Hid (U.heap.size=Z.heap.size+1):=by rw[<-hU];show _=_;simp
 have UU:Hid (wJ U Z.heap.size #[Iv cd,Iv 0,Iv 0,Iv fa,Sl r s xc,Iv th,Iv 0,nS,nS]):=hU▸Cm;have OU:=ua (OZ.o.on kU);have RU:=ua (RZ.o.on kU);have SX:Hid (∀F,wA (λx=>x=Z.heap.size\/x=w.heap.size) A F->Dw (wM W2 A) F r s m.j):=λF k=>(((HO.o.h c3).2.2).on (λb q=>k.d b q.2 (λe=>e.elim (λe=>oG q.2 S.o) (λe=>oG q.1 lw.o))))
 obtain⟨e1,e2,_⟩:=HO.o.h c3;subst e1 e2;obtain⟨y,py,ly⟩:=OZ.o.x;obtain⟨uz,up,ul⟩:=UU.o.x;obtain⟨oz,op,ol⟩:=OU.o.x;have HU:=ua hU;clear kU b5 hU;go_upto_region 15 with fail;rw[HU.o];clear HU hZ y py ly;by_cases c1:cd=1
 ·subst c1;have ad:Hid (∀z,V.Ans I (Kb (Ie m.j)) il (Ie m.j).size m.h z->PP t il I fU mO ⟨1,m.h,0,m.h,rg m.j 256,m.d,0,[],z⟩):=λz h=>a0.o _ (.fail ae.o.symm h)
  generalize p:U.setCell (Ad Z.heap.size 1) (Iv m.h)=o;have G:Hid (wA (λx=>x=Z.heap.size\/x=w.heap.size) A o):=p▸(wA.i KU.o (λ_ q _=>q)).c (zP (.inl rfl));have lU:w.heap.size<Z.heap.size:=oG R3.o.x.2.2 S.o;have OV:=ua (p▸OU.o.h Z.heap.size 1 (Iv m.h) (oH S.o));have UV:Hid (wJ o Z.heap.size #[Iv 1,Iv m.h,Iv 0,Iv m.h,Sl r s xc,Iv m.d,Iv 0,nS,nS]):=p▸UU.o.set 1 (Iv m.h);have RV:=ua (p▸RU.o.h Z.heap.size 1 (Iv m.h) oM);have sV:Hid (o.heap.size=Z.heap.size+1):=by rw[<-p,uj];exact sU.o
  have BV:Hid (Bw w o):=p▸uy (uf B3.o KU.o) oM;obtain⟨aq,ap,ao⟩:=OV.o.x;obtain⟨aw,av,au⟩:=UV.o.x;have CX:=ua (qC m.j);obtain⟨xi,ct⟩:=nm (lf (rg m.j 256));obtain⟨sx,ag⟩:=nm (M.setT (rg m.j 256).length (lf (rg m.j 256)));have c7:sx.size<=1200:=ag▸M.eF CX.o;obtain⟨xl,a4⟩:=nm (Ie m.j).size;have c9:xl<=2000:=by rw[<-a4];unfold Ie;rw[ag,Ft];show 9+sx.size<=_;omega
  have cj:Hid (∀W,∃a c W',(convert 9 22 (.string (⟨#[101,120,112,101,99,116,101,100,32]⟩++sx))).run prog W=.ok (Sl a xl c) W'/\wB (λb=>b=W.heap.size) .u8 W' a xl (Kb (Ie m.j))/\Bw W W'):=λW=>by
   have:=uo6 W (Ie m.j);rw[a4]at this;unfold Ie at this;rw[ag]at this;unfold Ie;rw[ag];exact this
  rw[a4]at ad;have cb:Hid (Cs 16 #[Sl r s xc] o.drew (Wf sx o.drew)):=by
   have Q:=SX.o o G.o;have:=uev (wM W2 A) r s xc (lf (rg m.j 256)) o.drew (Q.2.1.q (wI o).drew) (Q.1▸CX.o);rw[Q.1,ag]at this;rw[Q.1];exact this
  have da:¬9223372036854775807<9+sx.size:=oM;clear ct ag a4;go_upto_region 17 with fail;clear p uz up ul oz op ol;go_region_law (first
   |(refine yp ure rfl #[.tmp 89] #[23] rfl (ys:=#[Sl r s xc]) (by simp[Act.eval,Act.put]) (cb.o.mono ?_);rintro e B ⟨rfl,k5⟩;have K5:=ua (uf (wI o).drew k5);obtain⟨ba,bc,W6,cz,bz,kb⟩:=cj.o B;have K6:=ua (uf K5.o kb);have ce:=ua bz;obtain⟨o5,p5,l5⟩:=(OV.o.on K5.o).x;obtain⟨o6,p6,l6⟩:=(OV.o.on K6.o).x;clear k5 bz kb;refine⟨_,rfl,?_⟩)
   |(refine yp DM rfl #[.tmp 85,.tmp 87,.tmp 92] #[22,3,22] rfl (ys:=#[Sl (Sm ib 0) il ic,Iv (m.h:Int),Sl ba xl bc]) (by simp[Act.eval,Act.put]) ((DC (a9.o.q (uf BV.o K6.o)) az.o hn ce.o oM).mono ?_);rintro e W7 ⟨tv,z,rfl,D,J,k7⟩;have ai:=ua (ad.o z D);have aj:=ua J;have v:=ua (uf K6.o k7);have L7:=ua k7.size;obtain⟨u7,p7,l7⟩:=(UV.o.on v.o).x;obtain⟨r7,q7,n7⟩:=(RV.o.on v.o).x;obtain⟨ta,T,am,_⟩:=J;subst am;unfold rz at r7;clear D k7;refine⟨_,rfl,?_⟩))
  all_goals
   clear aw av au aq ap ao;go_wp2;refine wL (by simp[results,f4,go_sem, *];rfl) rfl ⟨_,_,rfl,ai.o,DN (zb:=Z.heap.size) (W6:=W6) (N:=Z.heap.size+1) SX.o rfl (G.o.c (wA.i v.o (λ_ q _=>q))) ?_ (.inl ⟨rfl,rfl,rfl⟩) aj.o (Jb _) S3.o K3.o.size (oH S.o) ?_ L7.o oM,?_⟩
   ·repeat with_reducible first|exact zM|refine wA.c ?_ (zP (.inl rfl))|refine wA.c ?_ (zP (.inr rfl))
   ·have:=sV.o;have:=K6.o.size;omega
   have bg:=uf BV.o v.o;repeat with_reducible first|exact bg|refine uy ?_ wF|refine uy ?_ oM
 have c1':(cd==1)=false:=by simp[c1]
 have lU:w.heap.size<Z.heap.size:=oG R3.o.x.2.2 S.o;have lZ:Hid (A.heap.size<=Z.heap.size):=by have:=S.o;show _<=_;omega
 by_cases c2:cd=2
 ·subst c2;obtain⟨rfl,rfl⟩:=HO.o.d rfl;obtain⟨t0,t1⟩:=bq.o.d ae.o.symm;obtain⟨j,hj⟩:∃j:Nat,m.label=(j:Int):=⟨m.label.toNat,oM⟩;have ak:j<g.nb:=oM;have HJ:Hid (m.label.toNat=j):=by rw[hj];rfl
  have ad:Hid (∀z,V.Ans I (g.d j).f il (g.d j).nl m.c z->PP t il I fU mO ⟨2,m.c,j,m.h,rg m.j 256,m.d,0,[],z⟩):=λz h=>a0.o _ (hj▸.label ae.o.symm (by rw[HJ.o];exact h))
  rw[hj]at oz OU;generalize p:(U.setCell (Ad Z.heap.size 1) (Iv m.c)).setCell (Ad Z.heap.size 2) (Iv j)=o;have aa:Hid (Bw A o):=p▸uy (uy KU.o lZ.o) lZ.o;have OV:=ua (p▸(OU.o.h Z.heap.size 1 (Iv m.c) (oH S.o)).h Z.heap.size 2 (Iv j) (oH S.o));have UV:Hid (wJ o Z.heap.size #[Iv 2,Iv m.c,Iv j,Iv m.h,Sl r s xc,Iv m.d,Iv 0,nS,nS]):=p▸(UU.o.set 1 (Iv m.c)).set 2 (Iv j);have sV:Hid (o.heap.size=Z.heap.size+1):=by rw[<-p,uj,uj];exact sU.o
  have BV:Hid (Bw w o):=uf B3.o aa.o;obtain⟨cv,cw,bj,an,rfl,b7,af⟩:=Wc (G3.o.q aa.o).c ak;have cy:=ua af;have b6:=(HV.o.ln j ak).1;obtain⟨aq,ap,ao⟩:=OV.o.x;obtain⟨aw,av,au⟩:=UV.o.x;obtain⟨bx,bw,bu⟩:=(bm.o.on aa.o).x;have RN:=ua (DC (ic:=ic) (q:=(m.c:Int)) (mc:=an) (a9.o.q (uf BV.o (wI o).drew)) az.o hn (af.q (wI o).drew) oM);have hjn':(j:Int)<(g.nb:Int):=oM;generalize (g.d j).nl=a5 at *;clear hj t0 t1 af;go_upto_region 22 with fail;clear p uz up ul oz op ol;go_region_law (
   (refine yp DM rfl #[.tmp 105,.tmp 107,.tmp 114] #[22,3,22] rfl (ys:=#[Sl (Sm ib 0) il ic,Iv (m.c:Int),Sl bj a5 an]) (by simp[Act.eval,Act.put]) (RN.o.mono ?_);rintro e W7 ⟨tv,z,rfl,D,J,k7⟩;have ai:=ua (ad.o z D);have aj:=ua J;have v:=ua (uf (wI o).drew k7);obtain⟨u7,p7,l7⟩:=(UV.o.on v.o).x;obtain⟨r7,q7,n7⟩:=((R3.o.on aa.o).on v.o).x;obtain⟨ta,T,am,_⟩:=J;subst am;unfold rz at r7;clear D k7;refine⟨_,rfl,?_⟩))
  all_goals
   clear aw av au aq ap ao bx bw bu b7;go_wp2;refine wL (by simp[results,f4,go_sem, *];rfl) rfl ⟨_,_,rfl,ai.o,DN (zb:=Z.heap.size) (W6:=o.drew) (N:=Z.heap.size+1) SX.o rfl (wA.i (uf aa.o v.o) (λ_ q _=>q)) ?_ (.inl ⟨rfl,rfl,rfl⟩) aj.o (Jb _) S3.o K3.o.size (oH S.o) ?_ v.o.size oM,?_⟩
   ·repeat with_reducible first|exact zM|refine wA.c ?_ (zP (.inl rfl))|refine wA.c ?_ (zP (.inr rfl))
   ·have:=sV.o;show _<=o.heap.size;omega
   have bg:=uf BV.o v.o;repeat with_reducible first|exact bg|refine uy ?_ wF|refine uy ?_ oM
 have c2':(cd==2)=false:=by simp[c2]
 obtain rfl:cd=0:=oH HO.o.e;obtain⟨rfl,cs,dd,b0⟩:=HO.o.ok rfl;subst cs;obtain rfl:=HO.o.lz dC;obtain⟨b8,c4⟩:=bq.o.ok ae.o.symm;have bl:=ua b8.a;generalize p:U.setCell (Ad Z.heap.size 1) (Iv m.c)=o;have aa:Hid (Bw A o):=p▸uy KU.o lZ.o;have OV:=ua (p▸OU.o.h Z.heap.size 1 (Iv m.c) (oH S.o));have UV:Hid (wJ o Z.heap.size #[Iv 0,Iv m.c,Iv 0,Iv m.h,Sl r s xc,Iv m.d,Iv 0,nS,nS]):=p▸UU.o.set 1 (Iv m.c);have sV:Hid (o.heap.size=Z.heap.size+1):=by rw[<-p,uj];exact sU.o
 have SB:=ua (ujD (c:=vc) (E:=Ih m.a) ((QT b0).ev.q aa.o) oM bl.o.d);obtain⟨aq,ap,ao⟩:=OV.o.x;obtain⟨aw,av,au⟩:=UV.o.x;generalize al:m.a.length=ln at *;clear b8 b0;go_wp2_with fail;clear p uz up ul oz op ol aq ap ao aw av au;refine SB.o.mono ?_;rintro e B ⟨ta,T,rfl,ho,k5⟩;have a2:=DB m.a;have be:=RS m.a;rw[al]at a2 be;show _;rw[<-a2]at ho ⊢;rw[be]at ho;have cg:Hid (∀(i:Nat) (d:Bo),(yZ m.a)[i]?=some d->d.e=1->0<=d.f/\d.f<g.nb):=λi d hd hk=>urh bl.o hd hk
 have cf:Hid (∀k z,Tel g il I (yZ m.a) k z->PP t il I fU mO ⟨0,m.c,0,m.h,rg m.j 256,m.d,k,yZ m.a,z⟩):=λk z h=>a0.o _ (.ok ae.o.symm h)
 have b6:(yZ m.a).length<=1000000:=by rw[a2];have:=Ss (Ih m.a) ln;omega
 generalize yZ m.a=L at *;have bp:=ua ho;have K5:=ua k5;have U5:=ua (UV.o.on k5);obtain⟨uz,up,ul⟩:=U5.o.x;obtain⟨n,bi⟩:=nm L.length;have HN:=ua bi;rw[bi]at b6 ⊢;have a1:Hid (Sh g il I L B Z.heap.size m.c m.h m.d (Sl r s xc) ta n T (Iv 0) (B.setCell (Ad Z.heap.size 7) (Sl ta n T))):=⟨0,0,[],nS,wP,rfl,U5.o.set 7 _,(Ce.d wF).on (zP (C:=λx=>x=Z.heap.size) rfl) (λb h e=>oG UV.o.x.2.2 K5.o.size),zP rfl⟩;clear ho k5 bi al a2 be SB;go_wp2;go_loopw [18] (λiv wr=>Sh g il I L B Z.heap.size m.c m.h m.d (Sl r s xc) ta n T iv wr) (λiv _=>n-(intOf iv).toNat)
 ·exact a1.o
 clear a1 uz up ul;obtain⟨i,k,z,tv,hi,rfl,hB,hI,hK⟩:=hrel;have a7:=ua hB;have ab:=ua hI;have P:=ua hK;obtain⟨uz,up,ul⟩:=hB.x;have ah:Hid (Z.heap.size<B.heap.size):=U5.o.x.2.2;by_cases c5:i<n
 ·have hlt':(i:Int)<(n:Int):=oM;obtain⟨d,hd⟩:∃d,L[i]?=some d:=⟨_,zG (oH HN.o)⟩;have HD:=ua hd;obtain⟨O,rfl,a3,bh⟩:=SC bp.o hd;have hnc':∀j,j<5->wr.cell? (Ad O (i*5+j))=(Ck d)[j]?:=λj hj=>(zI (a:=(Ad O (i*5+j))) (hK.d O a3.2 (λe=>oG a3.1 sV.o))).trans (bh j hj)
  have n0:=hnc' 0 oM;have n1:=hnc' 1 oM;have n2:=hnc' 2 oM;simp only[Ck,List.getElem?_cons_zero,List.getElem?_cons_succ,Cc]at n0 n1 n2;have cx:=ua bh;have bo:=ua a3;clear hB hI hK bh hnc' hd a3;by_cases hk:d.e=1
  rotate_left
  ·have hk':(d.e==1)=false:=(by simp[hk]);have bb:Hid (Sh g il I L B Z.heap.size m.c m.h m.d (Sl r s xc) (Sm O 0) n T (Iv ((i:Int)+1)) wr):=⟨i+1,k,z,tv,oM,sM,a7.o,ab.o.skip HD.o hk,P.o⟩;clear hk;go_wp2;go_roundw
   ·exact bb.o
   simp[intOf];omega
  obtain⟨q0,q1⟩:=cg.o i d HD.o hk;have hk':(d.e==1)=true:=by simp[hk]
  have c0:=ab.o.le;have bn:=ua hk;obtain⟨j,hj⟩:∃j:Nat,d.f=(j:Int):=⟨d.f.toNat,oM⟩;have ak:j<g.nb:=oM;have HJ:Hid (d.f.toNat=j):=by rw[hj];rfl
  rw[hj]at n1;clear hk hj q0 q1;by_cases cp:k<20
  rotate_left
  ·have h20':¬(k:Int)+1<=20:=oM;have bb:Hid (Sh g il I L B Z.heap.size m.c m.h m.d (Sl r s xc) (Sm O 0) n T (Iv ((i:Int)+1)) (wr.setCell (Ad Z.heap.size 6) (Iv ((k:Int)+1)))):=⟨i+1,k+1,z,tv,oM,sM,a7.o.set 6 _,(ab.o.more HD.o bn.o oM).on (zP (C:=λx=>x=Z.heap.size) rfl) (λb h e=>oH ah.o),P.o.c (zP rfl)⟩;go_wp2;go_roundw
   ·exact bb.o
   simp[intOf];omega
  have h20':(k:Int)+1<=20:=oM;generalize p:wr.setCell (Ad Z.heap.size 6) (Iv ((k:Int)+1))=V6;have kV:wA (λx=>x=Z.heap.size) wr V6:=p▸zP rfl;have G:=ua (P.o.c kV);have ay:Hid (wJ V6 Z.heap.size #[Iv 0,Iv m.c,Iv 0,Iv m.h,Sl r s xc,Iv m.d,Iv ((k:Int)+1),Sl (Sm O 0) n T,tv]):=p▸a7.o.set 6 _;have TV:=ua (ab.o.on kV (λb h e=>oH ah.o));have a6:Hid (Bw A V6):=by
   have a:=uf aa.o K5.o;exact⟨G.o.os.trans a.os,G.o.g.trans a.tape,G.o.f.trans a.output,wN a.size G.o.h,λb hb=>(G.o.d b (oH a.size) (λe=>oH S.o)).trans (a.block b hb)⟩
  obtain⟨cv,cw,bj,an,rfl,b7,af⟩:=Wc (G3.o.q a6.o).c ak;have c6:=(HV.o.ln j ak).1;obtain⟨bx,bw,bu⟩:=(bm.o.on a6.o).x;obtain⟨vz,vp,vl⟩:=ay.o.x;have y0:=(zI (a:=(Ad O (i*5+1))) (kV.d O (ud n0) (λe=>oG bo.o.1 sV.o))).trans n1;have y2:=(zI (a:=(Ad O (i*5+2))) (kV.d O (ud n0) (λe=>oG bo.o.1 sV.o))).trans n2;have RN:=ua (DC (ic:=ic) (q:=d.a) (mc:=an) (a9.o.q (uf (uf B3.o a6.o) (wI V6).drew)) az.o hn (af.q (wI V6).drew) oM);have hjn':(j:Int)<(g.nb:Int):=oM;obtain⟨oa,oc,cr⟩:=TV.o.y.a;subst cr;have ck:=ua TV.o.c;obtain⟨zl,ca⟩:=nm z.length;have ad:Hid (∀y H bk,V.Ans I (g.d j).f il (g.d j).nl d.a y->Hr B.heap.size H bk (z++y)->Ce g il I L B.heap.size (i+1) (k+1) (z++y) bk H):=λy H bk D hr=>ab.o.one HD.o bn.o cp (by rw[HJ.o];exact D) (jO D oM oM) hr
  have cc:Hid (∀y,V.Ans I (g.d j).f il (g.d j).nl d.a y->z.length+y.length<=16777216):=λy D=>by have:=jO D oM oM;have:=ck.o.2;omega
  rw[ca]at vz ay TV;generalize (g.d j).nl=a5 at *;have cn:Hid (∀(W7:Wl) (yv:Vl) (y:LI),V.Ans I (g.d j).f il a5 d.a y->V.Val V6.drew.heap.size W7.heap.size W7 yv y->Below V6.drew.heap.size V6.drew W7->∃a8 c8 H,Hid ((Builtin.append_ #[22,22] 22 #[Sl oa zl oc,yv]).run prog W7=.ok (Sl a8 (z.length+y.length) c8) H)/\Hid (wJ W7 Z.heap.size #[Iv 0,Iv m.c,Iv 0,Iv m.h,Sl r s xc,Iv m.d,Iv ((k:Int)+1),Sl (Sm O 0) n T,Sl oa zl oc])/\Hid (wJ H Z.heap.size #[Iv 0,Iv m.c,Iv 0,Iv m.h,Sl r s xc,Iv m.d,Iv ((k:Int)+1),Sl (Sm O 0) n T,Sl oa zl oc]) /\
    Hid (Sh g il I L B Z.heap.size m.c m.h m.d (Sl r s xc) (Sm O 0) n T (Iv ((i:Int)+1)) (H.setCell (Ad Z.heap.size 8) (Sl a8 (z.length+y.length) c8)))):=λW7 yv y D J k7=>by
   have v:=uf (wI V6).drew k7;have br:∀x,x<B.heap.size->W7.heap[x]?=V6.heap[x]?:=λx Q=>v.block x (wX Q G.o.h)
   obtain⟨a8,c8,H,b9,t8,k8⟩:=(TV.o.y.on (wA.i v (λ_ q _=>q)) (λ_ _ q=>q)).app J (cc.o y D);have bt:∀x,x<B.heap.size->H.heap[x]?=V6.heap[x]?:=λx Q=>(k8.d x (wX Q (wN G.o.h v.size)) oM).trans (br x Q)
   have K8:wA (λx=>x=Z.heap.size) B H:=⟨k8.os.trans (v.os.trans G.o.os),k8.g.trans (v.tape.trans G.o.g),k8.f.trans (v.output.trans G.o.f),wN G.o.h (wN v.size k8.h),λx Q hn=>(bt x Q).trans (G.o.d x Q hn)⟩;have B8:=ay.o.a (bt _ ah.o);have T8:=ad.o y H _ D t8;rw[wK]at b9 T8;exact⟨a8,c8,H,b9,ay.o.a (br _ ah.o),B8,⟨i+1,k+1,z++y,Sl a8 (z.length+y.length) c8,oM,sM,B8.set 8 _,T8.on (zP (C:=λx=>x=Z.heap.size) rfl) (λb h e=>oH ah.o),K8.c (zP rfl)⟩⟩
  clear af n1 n2 ca;go_upto_region 32 with fail;clear p uz up ul n0;go_region_law (first
   |(refine yp DM rfl #[.tmp 147,.tmp 152,.tmp 162] #[22,3,22] rfl (ys:=#[Sl (Sm ib 0) il ic,Iv d.a,Sl bj a5 an]) (by simp[Act.eval,Act.put]) (RN.o.mono ?_);rintro e W7 ⟨yv,y,rfl,D,J,k7⟩;obtain⟨a8,c8,H,ci,B7,B8,a1⟩:=cn.o W7 yv y D J k7;obtain⟨z7,p7,l7⟩:=B7.o.x;obtain⟨z8,p8,l8⟩:=B8.o.x;obtain⟨ya,yc,cu,_⟩:=J;subst cu;clear D k7;refine⟨_,rfl,?_⟩)
   |(refine Pn rfl (.tmp 146) (.tmp 163) rfl (by simp[Act.eval,Act.put]) (by simp[Act.eval,Act.put]) ci.o ?_))
  all_goals go_wp2
  all_goals go_roundw
  all_goals first|exact a1.o|(simp[intOf];omega)
 obtain rfl:i=n:=oM;have hlt':¬(i:Int)<(i:Int):=oM;have ai:=ua (cf.o k z (by have:=ab.o.a;rw[Jo (oH HN.o)]at this;exact this));have aj:=ua ab.o.y.k;have ax:=ua (uf aa.o K5.o);have R5:=ua (((R3.o.on ax.o).a (P.o.d _ (oG ax.o.size R3.o.x.2.2) oM)));obtain⟨r7,q7,n7⟩:=R5.o.x;unfold rz at r7;obtain⟨db,dc,am⟩:=ab.o.y.a;subst am;have cm:Hid (wA (λx=>x=Z.heap.size\/x=w.heap.size) A wr):=(wA.i ax.o (λ_ q _=>q)).c (P.o.l (λ_ q=>.inl q));have BW:Hid (Bw w wr):=by
  have a:=uf B3.o ax.o;exact⟨P.o.os.trans a.os,P.o.g.trans a.tape,P.o.f.trans a.output,wN a.size P.o.h,λb hb=>(P.o.d b (oH a.size) (λe=>oM)).trans (a.block b hb)⟩
 have ch:Hid (wC (λb=>Z.heap.size+1<=b/\b<B.heap.size) wr (Sl ta L.length T) 5 L.length (L.flatMap Ck)):=uA (bp.o.on (λb q=>P.o.d b q.2 (λe=>oG q.1 sV.o))) (λb q=>⟨by have:=q.1;have:=sV.o;omega,q.2⟩);obtain⟨ln,al⟩:=nm L.length;obtain rfl:i=ln:=HN.o.symm.trans al;clear hB hI hK al;go_wp2;refine wL (by simp[results,f4,go_sem, *];rfl) rfl ⟨_,_,rfl,ai.o,HN.o▸DN (R:=⟨0,m.c,0,m.h,rg m.j 256,m.d,k,L,z⟩) (zb:=Z.heap.size) (W6:=B) (N:=Z.heap.size+1) SX.o rfl cm.o ?_ ch.o aj.o (Jb _) S3.o K3.o.size (oH S.o) ah.o P.o.h oM,?_⟩
 ·repeat with_reducible first|exact BW.o|refine uy ?_ wF|refine uy ?_ oM
 repeat with_reducible first|exact zM|refine wA.c ?_ (zP (.inl rfl))|refine wA.c ?_ (zP (.inr rfl))
end
end
end Go.Proofs.YtoihadcablknpaaGreatDoor
