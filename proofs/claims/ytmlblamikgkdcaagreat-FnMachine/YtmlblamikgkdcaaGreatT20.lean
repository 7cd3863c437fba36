import Derived.Test.YtmlblamikgkdcaaGreatT18
import Derived.Test.YtmlblamikgkdcaaGreatT17
set_option linter.unusedVariables false
set_option linter.unusedSimpArgs false
set_option linter.defProp false
set_option maxHeartbeats 40000000
set_option maxRecDepth 100000
namespace Go.Proofs.YtmlblamikgkdcaaGreat
open Go.RowKit
open Go.Proofs.Tryz
section
open M (OpD ug Gr)
def VF(s:ByteArray)(i:Nat):Int:=((s.data.toList.getD i 0).toNat:Int)
def Ui(E:Nat->Bool):ByteArray:=⟨#[101,120,112,101,99,116,101,100,32]⟩++M.setT (rg E 256).length (lf (rg E 256))
def unJ w s:∃a c W,(convert 9 22 (.string s)).run prog w=.ok (Sl a s.size c) W/\Ints (λb=>b=w.heap.size) .u8 W a s.size (VF s)/\Bw w W:=by
 have f:=Vj (P:=prog) w 9 22 5 s underlying9 underlying22 underlying5;refine⟨_,_,_,f,.inr ⟨w.heap.size,0,rfl,rfl,λi d=>?_⟩,?_⟩
 .rw[Bp];exact Lib.bytesWorld_cell w 5 s i d
 refine⟨?_,?_,?_,by rw[Vk];omega,λk e=>Vm w 5 s k e⟩;all_goals rfl
def IK args w:(callFunc 29 args).run prog w=.ok (.enter 29 args) w:=by simp[callFunc,func29,f29,go_sem]
def usH args w:(callFunc 30 args).run prog w=.ok (.enter 30 args) w:=by simp[callFunc,func30,f30,go_sem]
def VG(b a lb d:Int)(g:Oa)(h xc:Nat)(th c:Int)(na:Oa)(e nc:Nat)(f:Vl):Vl:=.agg #[Iv b,Iv a,Iv lb,Iv d,Sl g h xc,Iv th,Iv c,Sl na e nc,f]
structure IM(t:Tx)(il:Nat)(I:Nat->Int)(fU mO:Int)(cd at_ lb fa:Int)(xa:Oa)(xn:Nat)(th:Int)(na:Oa)(nn nc:Nat)(w w':Wl)(g:Gr)(m:zC):Prop where
 b:Uj fU mO
 j:il<=4000
 p:PV t g
 a:Vp g 0 0
 e:Ends (Jq g) (Me g) il I fU mO s0 m
 c:cd=m.r
 k:cd=0\/cd=1\/cd=2
 o:Ty g.nb m
 f:fa=(m.i:Int)/\th=(m.d:Int)
 x:Fm (zF w w') w' xa xn m.t
 l:cd=2->at_=(m.c:Int)/\lb=m.s
 n:cd=0->at_=(m.c:Int)/\nn=(jz m.a).length/\zB (zF w w') w' (Sl na nn nc) 5 nn ((jz m.a).flatMap Fi)
def AN(t:Tx)(il:Nat)(I:Nat->Int)(fU mO:Int)(w:Wl)(e:Ending)(w':Wl):Prop :=
 ∃a b lb c f h xc th i na d nc j l k,e=Rt (VG a b lb c f h xc th i na d nc (Sl j l k))/\Bw w w'/\(a=0\/a=1\/a=2->∃g m,IM t il I fU mO a b lb c f h th na d nc w w' g m)
def up4{t c a g}(h:Kr t c a g)(b:c≠0):¬(c=0\/c=1\/c=2):=by
 rcases h with⟨h,_⟩|h<;>omega
def up5{g c a}(h:Vp g c a)(b:c≠0):¬(c=0\/c=1\/c=2):=by
 rcases h with⟨h,_⟩|h<;>omega
def Xe(a:Wl)(c:Nat)(ps d th:Int)(h:Vl)(f:Oa)(n g:Nat)(e:Vl)(wr:Wl):Prop :=
 ∃i k z b,i<=n/\k<=i/\z<=20000*k/\z<=400000/\e=Iv ((i:Nat):Int)/\zG wr c #[Iv 0,Iv ps,Iv 0,Iv d,h,Iv th,Iv ((k:Nat):Int),Sl f n g,b]/\Bo a.heap.size z b wr/\zA (λx=>x=c) a wr
section
variable {Q:Np} {t:Tx} {ga ia:Oa} {gc il ic:Nat} {I:Nat->Int} {fU mO:Int} {w:Wl}
def rz:Array Value:=#[Iv 0,Iv 0,Iv 0,Iv 0,nS,Iv 0,Iv 0,nS,nS]
def Se{c a:Int}{W:Wl}(b:¬(c=0\/c=1\/c=2))(k:Bw w W):AN t il I fU mO w (Rt (.agg #[Iv c,Iv a,Iv 0,Iv 0,nS,Iv 0,Iv 0,nS,nS])) W:=⟨_,_,_,_,_,_,_,_,_,_,_,_,_,_,_,rfl,k,λh=>aB h b⟩
def up6(hT:Ei (Of w) w ga t)(hI:Ints (Of w) .u8 w ia il I)(S:Cz il I)(hn:il<=1048576) :
  Cs 5 #[Sl ga t.n gc,Sl ia il ic,Iv fU,Iv mO] w (AN t il I fU mO w):=by
 generalize hX:w.alloc (Oc #[Iv 0,Iv 0,Iv 0,Iv 0,nS,Iv 0,Iv 0,nS,nS] 28)=X;have BX:Hid (Bw w X):=hX▸Bi;have RX:Hid (zG X w.heap.size rz):=hX▸Eb _;have HT:=ua (hT.h BX.o);have HI:=ua (hI.h BX.o);have ao:=ua S;have a0:=ua hI;clear hT hI S;go_enter func5,ntmps5;go_upto_region 1 with fail;clear hX;by_cases hB:Uj fU mO
 rotate_left
 .have aa:Hid (¬((4:Int)=0\/(4:Int)=1\/(4:Int)=2)):=by show ¬_;decide
  let⟨z,pz,lz⟩:=RX.o.x;unfold rz at z;have hq:fU<0\/(¬fU<0/\50000<fU)\/(¬fU<0/\¬50000<fU/\mO<0)\/(¬fU<0/\¬50000<fU/\¬mO<0/\1000<mO):=by unfold Uj at hB;omega
  clear hB;rcases hq with h1|⟨h1,h2⟩|⟨h1,h2,h3⟩|⟨h1,h2,h3,h4⟩;all_goals
   go_wp2;refine zL (by simp[results,f5,go_sem, *]) rfl (Se (a:=0) aa.o ?_);repeat with_reducible first|exact BX.o|refine uD ?_ zD
 obtain⟨b1,b2,b3,b4⟩:=hB;have HB:Hid (Uj fU mO):=⟨b1,b2,b3,b4⟩;have h1:¬fU<0:=oM;have h2:¬50000<fU:=oM;have h3:¬mO<0:=oM;have h4:¬1000<mO:=oM;go_wp2_with fail;refine(ukq _ t ga gc X HT.o).mono ?_;rintro e W1 ⟨bj,ab,g,ra,rc,la,lc,hP,rfl,hG,k1⟩;have B1:=ua (uf BX.o k1.q);have R1:=ua (RX.o.on k1.q);have I1:=ua (HI.o.h k1.q);have HP:=ua hP;generalize hY:W1.alloc (Oc #[Sl ra g.nr rc,Sl la g.nb lc] 34)=Y;have KY:Hid (Bw W1 Y):=hY▸Bi;have GY:Hid (zG Y W1.heap.size #[Sl ra g.nr rc,Sl la g.nb lc]):=hY▸Eb _;have GX:=ua (hG.h KY.o);have RY:=ua (R1.o.on KY.o);have BY:=ua (uf B1.o KY.o);have IY:=ua (I1.o.h KY.o);clear hP hG k1 R1 I1 HT HI RX BX;by_cases hc:bj=0
 rotate_left
 .have aa:=ua (up4 HP.o hc);have hc':(bj==0)=false:=by simp[hc]
  let⟨z,pz,lz⟩:=RY.o.x;unfold rz at z;clear hc;go_wp2;refine zL (by simp[results,f5,go_sem, *]) rfl (Se (a:=ab) aa.o ?_);repeat with_reducible first|exact BY.o|refine uD ?_ zD
 subst hc;obtain⟨D,rfl⟩:=unK HP.o;have b9:=ua D;have HV:=ua D.a;let⟨gz,gp,gl⟩:=GY.o.x;clear D;go_wp2_with fail;clear gz gp gl hY;refine(ulf _ ra la rc lc g Y GX.o (VJ HV.o)).mono ?_;rintro e W2 ⟨⟨c,nd,hA,rfl⟩,k2⟩;have R2:=ua (RY.o.on k2);have B2:=ua (uf BY.o k2);have G2:=ua (GX.o.h k2);have GB:=ua (GY.o.on k2);have I2:=ua (IY.o.h k2);have HA:=ua hA;have s2:Hid (W1.heap.size<W2.heap.size):=GB.o.x.2.2;clear hA k2 RY BY GX GY IY;by_cases hc:c=0
 rotate_left
 .have aa:=ua (up5 HA.o hc);have hc':(c==0)=false:=by simp[hc]
  let⟨z,pz,lz⟩:=R2.o.x;unfold rz at z;clear hc;go_wp2;refine zL (by simp[results,f5,go_sem, *]) rfl (Se (a:=nd) aa.o ?_);repeat with_reducible first|exact B2.o|refine uD ?_ zD
 subst hc;obtain rfl:=up7 HA.o;by_cases cu:4000<il
 .have aa:Hid (¬((7:Int)=0\/(7:Int)=1\/(7:Int)=2)):=by show ¬_;decide
  have h4':(4000:Int)<(il:Int):=oM;let⟨z,pz,lz⟩:=R2.o.x;unfold rz at z;go_wp2;refine zL (by simp[results,f5,go_sem, *]) rfl (Se (a:=4000) aa.o ?_);repeat with_reducible first|exact B2.o|refine uD ?_ zD
 have h4':¬(4000:Int)<(il:Int):=oM;let⟨m,hE⟩:=ZN (n:=Jq g) (R:=Me g) (il:=il) (I:=I) (fU:=fU) (mO:=mO) fU.toNat s0 b1 (by show(fU-0).toNat<=_;omega);have HE:=ua hE;let⟨gz,gp,gl⟩:=GB.o.x;clear hE;go_wp2_with fail;clear gz gp gl;refine(X2 (Of W2) g ra la ia rc lc il ic I fU mO m W2 HV.o.a G2.o.j (I2.o.g (λb q=>Ba q B2.o.size)) ao.o hn b1 b2 b3 b4 (λ_ h=>h) (Jq g) (Me g) (λb=>usZ rfl rfl) HE.o).mono ?_;rintro e B ⟨⟨G,ps,lb,fa,u,v,xc,st,th,va,vn,vc,rfl,hO⟩,bn⟩;have k3:=hO.q;have K3:=ua k3;have HO:=ua hO;have a2:=ua bn;have R3:=ua (R2.o.on k3);have B3:=ua (uf B2.o k3);have G3:=ua (G2.o.h k3);have be:=ua (GB.o.on k3);have I3:=ua (I2.o.h k3);have S3:=ua B2.o.size;have lw:=ua R2.o.x.2.2;generalize hZ:B.alloc (Oc #[Iv G,Iv ps,Iv lb,Iv fa,Sl u v xc,Iv st,Iv th,Sl va vn vc] 44)=Z;have kZ:Bw B Z:=hZ▸Bi;have OZ:Hid (zG Z B.heap.size #[Iv G,Iv ps,Iv lb,Iv fa,Sl u v xc,Iv st,Iv th,Sl va vn vc]):=hZ▸Eb _;have RZ:=ua (R3.o.on kZ);have KZ:=ua kZ;have sZ:Hid (Z.heap.size=B.heap.size+1):=by rw[<-hZ];show _=_;simp
 have bq:=hO.e;have az:=ua hO.r;clear k3 hO bn kZ R2 B2 I2 G2 GB;by_cases c3:G=3
 .have aa:Hid (¬((3:Int)=0\/(3:Int)=1\/(3:Int)=2)):=by show ¬_;decide
  subst c3;let⟨z,pz,lz⟩:=RZ.o.x;unfold rz at z;let⟨y,py,ly⟩:=OZ.o.x;have BZ:=ua (uf B3.o KZ.o);clear bq;go_wp2;refine zL (by simp[results,f5,go_sem, *]) rfl (Se (a:=0) aa.o ?_);repeat with_reducible first|exact BZ.o|refine uD ?_ zD
 have c3':(G==3)=false:=by simp[c3]
 generalize hU:Z.alloc (Oc #[Iv G,Iv 0,Iv 0,Iv fa,Sl u v xc,Iv th,Iv 0,nS,nS] 28)=U;have kU:Bw Z U:=hU▸Bi;have KU:=ua (uf KZ.o kU);have sU:Hid (U.heap.size=Z.heap.size+1):=by rw[<-hU];show _=_;simp
 have UU:Hid (zG U Z.heap.size #[Iv G,Iv 0,Iv 0,Iv fa,Sl u v xc,Iv th,Iv 0,nS,nS]):=hU▸Eb _;have OU:=ua (OZ.o.on kU);have RU:=ua (RZ.o.on kU);have SX:Hid (∀F,zA (λx=>x=Z.heap.size\/x=w.heap.size) B F->Fm (zF W2 B) F u v m.t):=λF k=>(((HO.o.i c3).2.2).on (λb q=>k.d b q.2 (λe=>e.elim (λe=>oG q.2 sZ.o) (λe=>oG q.1 lw.o))));have WN:Hid (∀ab lb na nn nc F,zA (λx=>x=Z.heap.size\/x=w.heap.size) B F->(G=2->ab=(m.c:Int)/\lb=m.s)->(G=0->ab=(m.c:Int)/\nn=(jz m.a).length/\zB (zF w F) F (Sl na nn nc) 5 nn ((jz m.a).flatMap Fi))->IM t il I fU mO G ab lb fa u v th na nn nc w F g m):=λab lb na nn nc F k h1 h2 =>
  ⟨HB.o,oM,b9.o,HA.o,HE.o,az.o,by have:=HO.o.e;omega,a2.o,⟨(HO.o.i c3).1,(HO.o.i c3).2.1⟩,(SX.o F k).g (λb q=>⟨zP S3.o q.1,Ba q.2 k.l⟩),h1,h2⟩
 let⟨e1,e2,_⟩:=HO.o.i c3;subst e1 e2;let⟨y,py,ly⟩:=OZ.o.x;let⟨uz,up,ul⟩:=UU.o.x;let⟨oz,op,ol⟩:=OU.o.x;have HU:=ua hU;clear kU bq hU;go_upto_region 15 with fail;rw[HU.o];clear HU hZ y py ly;by_cases c1:G=1
 .subst c1;generalize o:U.setCell (Ad Z.heap.size 1) (Iv m.i)=p;have C:Hid (zA (λx=>x=Z.heap.size\/x=w.heap.size) B p):=o▸(zA.j KU.o (λ_ q _=>q)).c (Dh (.inl rfl));have lU:w.heap.size<Z.heap.size:=oG R3.o.x.2.2 sZ.o;have OV:=ua (o▸OU.o.i Z.heap.size 1 (Iv m.i) (oH sZ.o));have UV:Hid (zG p Z.heap.size #[Iv 1,Iv m.i,Iv 0,Iv m.i,Sl u v xc,Iv m.d,Iv 0,nS,nS]):=o▸UU.o.set 1 (Iv m.i);have RV:=ua (o▸RU.o.i Z.heap.size 1 (Iv m.i) oM);have sV:Hid (p.heap.size=Z.heap.size+1):=by rw[<-o,uh];exact sU.o
  have BV:Hid (Bw w p):=o▸uD (uf B3.o KU.o) oM;let⟨aj,ai,ah⟩:=OV.o.x;let⟨am,al,ak⟩:=UV.o.x;have CX:=ua (ZS m.t);let⟨xi,ck⟩:=nm (lf (rg m.t 256));let⟨sx,ad⟩:=nm (M.setT (rg m.t 256).length (lf (rg m.t 256)));have c4:sx.size<=1200:=ad▸M.cP CX.o;let⟨xl,a7⟩:=nm (Ui m.t).size;have c5:xl<=2000:=by rw[<-a7];unfold Ui;rw[ad,Dq];show 9+sx.size<=_;omega
  have cb:Hid (∀W,∃a c W',(convert 9 22 (.string (⟨#[101,120,112,101,99,116,101,100,32]⟩++sx))).run prog W=.ok (Sl a xl c) W'/\Ints (λb=>b=W.heap.size) .u8 W' a xl (VF (Ui m.t))/\Bw W W'):=λW=>by
   have:=unJ W (Ui m.t);rw[a7]at this;unfold Ui at this;rw[ad]at this;unfold Ui;rw[ad];exact this
  have bz:Hid (Cs 30 #[Sl u v xc] p.drew (xf sx p.drew)):=by
   have P:=SX.o p C.o;have:=xH (zF W2 B) u v xc (lf (rg m.t 256)) p.drew (P.2.1.h (zH p).drew) (P.1▸CX.o);rw[P.1,ad]at this;rw[P.1];exact this
  have c6:¬9223372036854775807<9+sx.size:=oM;clear ck ad a7;go_upto_region 17 with fail;clear o uz up ul oz op ol;go_region_law (first
   |(refine uF usH rfl #[.tmp 89] #[25] rfl (ys:=#[Sl u v xc]) (by simp[Act.eval,Act.put]) (bz.o.mono ?_);rintro e O ⟨rfl,k5⟩;have K5:=ua (uf (zH p).drew k5);let⟨ba,bc,W6,cw,bo,kb⟩:=cb.o O;have K6:=ua (uf K5.o kb);have b0:=ua bo;let⟨o5,p5,l5⟩:=(OV.o.on K5.o).x;let⟨o6,p6,l6⟩:=(OV.o.on K6.o).x;clear k5 bo kb;refine⟨_,rfl,?_⟩)
   |(refine uF IK rfl #[.tmp 85,.tmp 87,.tmp 92] #[22,3,22] rfl (ys:=#[Sl ia il ic,Iv (m.i:Int),Sl ba xl bc]) (by simp[Act.eval,Act.put]) ((IP (a0.o.h (uf BV.o K6.o)) ao.o oM _ b0.o oM).mono ?_);rintro e W7 ⟨ta,tn,N,rfl,_,D⟩;have A:=ua (uf K6.o D.2.q);let⟨u7,p7,l7⟩:=(UV.o.on A.o).x;let⟨r7,q7,n7⟩:=(RV.o.on A.o).x;unfold rz at r7;clear D;refine⟨_,rfl,?_⟩))
  all_goals
   clear am al ak aj ai ah;go_wp2;refine zL (by simp[results,f5,go_sem, *];rfl) rfl ⟨_,_,_,_,_,_,_,_,_,_,_,_,_,_,_,rfl,?_,λ_=>⟨g,m,WN.o _ _ _ _ _ _ (C.o.c ((zA.j A.o (λ_ q _=>q)).c ?_)) (λe=>aB e dC) (λe=>aB e dC)⟩⟩
   .have a4:=uf BV.o A.o;repeat with_reducible first|exact a4|refine uD ?_ zD|refine uD ?_ oM
   repeat with_reducible first|exact Cc|refine zA.c ?_ (Dh (.inl rfl))|refine zA.c ?_ (Dh (.inr rfl))
 have c1':(G==1)=false:=by simp[c1]
 have lU:w.heap.size<Z.heap.size:=oG R3.o.x.2.2 sZ.o;have lZ:Hid (B.heap.size<=Z.heap.size):=by have:=sZ.o;show _<=_;omega
 by_cases c2:G=2
 .subst c2;obtain⟨rfl,rfl⟩:=HO.o.d rfl;let⟨t0,t1⟩:=a2.o.d az.o.symm;obtain⟨j,T⟩:∃j:Nat,m.s=(j:Int):=⟨m.s.toNat,oM⟩;have ae:j<g.nb:=oM;have HJ:Hid (m.s.toNat=j):=by rw[T];rfl
  have b5:=ua T.symm;rw[T]at oz OU;generalize o:(U.setCell (Ad Z.heap.size 1) (Iv m.c)).setCell (Ad Z.heap.size 2) (Iv j)=p;have V:Hid (Bw B p):=o▸uD (uD KU.o lZ.o) lZ.o;have OV:=ua (o▸(OU.o.i Z.heap.size 1 (Iv m.c) (oH sZ.o)).i Z.heap.size 2 (Iv j) (oH sZ.o));have UV:Hid (zG p Z.heap.size #[Iv 2,Iv m.c,Iv j,Iv m.i,Sl u v xc,Iv m.d,Iv 0,nS,nS]):=o▸(UU.o.set 1 (Iv m.c)).set 2 (Iv j);have sV:Hid (p.heap.size=Z.heap.size+1):=by rw[<-o,uh,uh];exact sU.o
  have BV:Hid (Bw w p):=uf B3.o V.o;obtain⟨cn,co,a9,ag,rfl,bt,ac⟩:=VK (G3.o.h V.o).e ae;have cr:=ua ac;have bs:=(HV.o.ln j ae).1;let⟨aj,ai,ah⟩:=OV.o.x;let⟨am,al,ak⟩:=UV.o.x;let⟨bm,bl,bk⟩:=(be.o.on V.o).x;have RN:=ua (IP (M:=ic) (mc:=ag) (a0.o.h (uf BV.o (zH p).drew)) ao.o oM (m.c:Int) (ac.h (zH p).drew) oM);have hjn':(j:Int)<(g.nb:Int):=oM;generalize (g.d j).nl=bb at *;clear T t0 t1 ac;go_upto_region 22 with fail;clear o uz up ul oz op ol;go_region_law (
   (refine uF IK rfl #[.tmp 105,.tmp 107,.tmp 114] #[22,3,22] rfl (ys:=#[Sl ia il ic,Iv (m.c:Int),Sl a9 bb ag]) (by simp[Act.eval,Act.put]) (RN.o.mono ?_);rintro e W7 ⟨ta,tn,N,rfl,_,D⟩;have A:=ua (uf (zH p).drew D.2.q);let⟨u7,p7,l7⟩:=(UV.o.on A.o).x;let⟨r7,q7,n7⟩:=((R3.o.on V.o).on A.o).x;unfold rz at r7;clear D;refine⟨_,rfl,?_⟩))
  all_goals
   clear am al ak aj ai ah bm bl bk bt;go_wp2;refine zL (by simp[results,f5,go_sem, *];rfl) rfl ⟨_,_,_,_,_,_,_,_,_,_,_,_,_,_,_,rfl,?_,λ_=>⟨g,m,WN.o _ _ _ _ _ _ ((zA.j (uf V.o A.o) (λ_ q _=>q)).c ?_) (λ_=>⟨rfl,b5.o⟩) (λe=>aB e dC)⟩⟩
   .have a4:=uf BV.o A.o;repeat with_reducible first|exact a4|refine uD ?_ zD|refine uD ?_ oM
   repeat with_reducible first|exact Cc|refine zA.c ?_ (Dh (.inl rfl))|refine zA.c ?_ (Dh (.inr rfl))
 have c2':(G==2)=false:=by simp[c2]
 obtain rfl:G=0:=oH HO.o.e;obtain⟨rfl,cj,da,bp⟩:=HO.o.ok rfl;subst cj;obtain rfl:=HO.o.lz dC;let⟨bu,cy⟩:=a2.o.ok az.o.symm;have bd:=ua bu.a;generalize o:U.setCell (Ad Z.heap.size 1) (Iv m.c)=p;have V:Hid (Bw B p):=o▸uD KU.o lZ.o;have OV:=ua (o▸OU.o.i Z.heap.size 1 (Iv m.c) (oH sZ.o));have UV:Hid (zG p Z.heap.size #[Iv 0,Iv m.c,Iv 0,Iv m.i,Sl u v xc,Iv m.d,Iv 0,nS,nS]):=o▸UU.o.set 1 (Iv m.c);have sV:Hid (p.heap.size=Z.heap.size+1):=by rw[<-o,uh];exact sU.o
 have SB:=ua (ulq (c:=vc) (E:=Jz m.a) ((ZE bp).ev.h V.o) oM bd.o.d);let⟨aj,ai,ah⟩:=OV.o.x;let⟨am,al,ak⟩:=UV.o.x;generalize br:m.a.length=ln at *;clear bu bp;go_wp2_with fail;clear o uz up ul oz op ol aj ai ah am al ak;refine SB.o.mono ?_;rintro e O ⟨ta,N,rfl,ho,k5⟩;have au:=AQ m.a;have a3:=VH m.a;rw[br]at au a3;show _;rw[<-au]at ho ⊢;rw[a3]at ho;have b7:Hid (∀(i:Nat) (d:Ka),(jz m.a)[i]?=some d->d.e=1->0<=d.f/\d.f<g.nb):=λi d hd hk=>usJ bd.o hd hk;have bs:(jz m.a).length<=1000000:=by rw[au];have:=CM (Jz m.a) ln;omega
 generalize cv:jz m.a=L at *;have bg:=ua ho;have K5:=ua k5;have U5:=ua (UV.o.on k5);let⟨uz,up,ul⟩:=U5.o.x;let⟨n,a6⟩:=nm L.length;have HN:=ua a6;rw[a6]at bs ⊢;have ap:Hid (Xe O Z.heap.size m.c m.i m.d (Sl u v xc) ta n N (Iv 0) (O.setCell (Ad Z.heap.size 7) (Sl ta n N))):=⟨0,0,0,nS,zK,zD,zK,zK,rfl,U5.o.set 7 _,.nil,Dh rfl⟩;clear ho k5 a6 br au a3 SB;go_wp2;go_loopw [18] (λiv wr=>Xe O Z.heap.size m.c m.i m.d (Sl u v xc) ta n N iv wr) (λiv _=>n-(intOf iv).toNat)
 .exact ap.o
 clear ap uz up ul;obtain⟨i,k,z,tv,hi,cx,cm,bx,rfl,hB,hI,hK⟩:=hrel;have ay:=ua hB;have aq:=ua hI;have H:=ua hK;let⟨uz,up,ul⟩:=hB.x;have af:Hid (Z.heap.size<O.heap.size):=U5.o.x.2.2;by_cases cz:i<n
 .have hlt':(i:Int)<(n:Int):=oM;obtain⟨d,hd⟩:∃d,L[i]?=some d:=⟨_,Bb (oH HN.o)⟩;have HD:=ua hd;obtain⟨J,rfl,av,a5⟩:=IN bg.o hd;have hnc':∀j,j<5->wr.cell? (Ad J (i*5+j))=(Fi d)[j]?:=λj T=>(Bd (a:=(Ad J (i*5+j))) (hK.d J av.2 (λe=>oG av.1 sV.o))).trans (a5 j T);have n0:=hnc' 0 oM;have n1:=hnc' 1 oM;have n2:=hnc' 2 oM;simp only[Fi,List.getElem?_cons_zero,List.getElem?_cons_succ,Dy]at n0 n1 n2;have cq:=ua a5;have bf:=ua av;clear hB hI hK a5 hnc' hd av;by_cases hk:d.e=1
  rotate_left
  .have hk':(d.e==1)=false:=(by simp[hk]);have a1:Hid (Xe O Z.heap.size m.c m.i m.d (Sl u v xc) (Sm J 0) n N (Iv ((i:Int)+1)) wr):=⟨i+1,k,z,tv,oM,oM,cm,bx,sM,ay.o,aq.o,H.o⟩;clear hk;go_wp2;go_roundw
   .exact a1.o
   simp[intOf];omega
  let⟨q0,q1⟩:=b7.o i d HD.o hk;have hk':(d.e==1)=true:=by simp[hk]
  have cp:=ua hk;obtain⟨j,T⟩:∃j:Nat,d.f=(j:Int):=⟨d.f.toNat,oM⟩;have ae:j<g.nb:=oM;have HJ:Hid (d.f.toNat=j):=by rw[T];rfl
  rw[T]at n1;clear hk T q0 q1;by_cases ct:k<20
  rotate_left
  .have h20':¬(k:Int)+1<=20:=oM;have a1:Hid (Xe O Z.heap.size m.c m.i m.d (Sl u v xc) (Sm J 0) n N (Iv ((i:Int)+1)) (wr.setCell (Ad Z.heap.size 6) (Iv ((k:Int)+1)))):=⟨i+1,k+1,z,tv,oM,oM,oM,bx,sM,ay.o.set 6 _,aq.o.on (λb h _=>Bn (λe=>by have:=af.o;have e':b=Z.heap.size:=e;omega)),H.o.c (Dh rfl)⟩;go_wp2;go_roundw
   .exact a1.o
   simp[intOf];omega
  have h20':(k:Int)+1<=20:=oM;generalize o:wr.setCell (Ad Z.heap.size 6) (Iv ((k:Int)+1))=V6;have kV:zA (λx=>x=Z.heap.size) wr V6:=o▸Dh rfl;have C:=ua (H.o.c kV);have ax:Hid (zG V6 Z.heap.size #[Iv 0,Iv m.c,Iv 0,Iv m.i,Sl u v xc,Iv m.d,Iv ((k:Int)+1),Sl (Sm J 0) n N,tv]):=o▸ay.o.set 6 _;have TV:=ua (aq.o.on (λb h S=>kV.d b S (λe=>oH af.o)));have aw:Hid (Bw B V6):=by
   have a:=uf V.o K5.o;exact⟨C.o.os.trans a.os,C.o.g.trans a.tape,C.o.f.trans a.output,zP a.size C.o.l,λb S=>(C.o.d b (oH a.size) (λe=>oH sZ.o)).trans (a.block b S)⟩
  obtain⟨cn,co,a9,ag,rfl,bt,ac⟩:=VK (G3.o.h aw.o).e ae;have c0:=(HV.o.ln j ae).1;let⟨bm,bl,bk⟩:=(be.o.on aw.o).x;let⟨vz,vp,vl⟩:=ax.o.x;have y0:=(Bd (a:=(Ad J (i*5+1))) (kV.d J (ud n0) (λe=>oG bf.o.1 sV.o))).trans n1;have y2:=(Bd (a:=(Ad J (i*5+2))) (kV.d J (ud n0) (λe=>oG bf.o.1 sV.o))).trans n2;have RN:=ua (IP (M:=ic) (mc:=ag) (a0.o.h (uf (uf B3.o aw.o) (zH V6).drew)) ao.o oM d.a (ac.h (zH V6).drew) oM);have hjn':(j:Int)<(g.nb:Int):=oM;let⟨oa,oc,cf⟩:=TV.o.a;subst cf;generalize (g.d j).nl=bb at *;have ce:Hid (∀(W7:Wl) (ya:Oa) (Q yc:Nat),Q<=20000->uaA V6.drew Q (Sl ya Q yc) W7->∃a8 c8 W8,Hid ((Builtin.append_ #[22,22] 22 #[Sl oa z oc,Sl ya Q yc]).run prog W7=.ok (Sl a8 (z+Q) c8) W8)/\Hid (zG W7 Z.heap.size #[Iv 0,Iv m.c,Iv 0,Iv m.i,Sl u v xc,Iv m.d,Iv ((k:Int)+1),Sl (Sm J 0) n N,Sl oa z oc])/\Hid (zG W8 Z.heap.size #[Iv 0,Iv m.c,Iv 0,Iv m.i,Sl u v xc,Iv m.d,Iv ((k:Int)+1),Sl (Sm J 0) n N,Sl oa z oc])/\Hid (Xe O Z.heap.size m.c m.i m.d (Sl u v xc) (Sm J 0) n N (Iv ((i:Int)+1)) (W8.setCell (Ad Z.heap.size 8) (Sl a8 (z+Q) c8)))):=λW7 ya Q yc bw D=>by
   have A:=uf (zH V6).drew D.2.q;have bh:∀x,x<O.heap.size->W7.heap[x]?=V6.heap[x]?:=λx P=>A.block x (Ba P C.o.l);let⟨cs,ch⟩:=D.1.e;let⟨a8,c8,W8,cg,t8,k8⟩:=(TV.o.on (λb _ S=>A.block b S)).c 22 (zP C.o.l A.size) ch oM;have bi:∀x,x<O.heap.size->W8.heap[x]?=V6.heap[x]?:=λx P=>(k8.d x (Ba P (zP C.o.l A.size)) oM).trans (bh x P);have K8:zA (λx=>x=Z.heap.size) O W8:=⟨k8.os.trans (A.os.trans C.o.os),k8.g.trans (A.tape.trans C.o.g),k8.f.trans (A.output.trans C.o.f),zP C.o.l (zP A.size k8.l),λx P hn=>(bi x P).trans (C.o.d x P hn)⟩;have B8:=ax.o.a (bi _ af.o);exact⟨a8,c8,W8,cg,ax.o.a (bh _ af.o),B8,⟨i+1,k+1,z+Q,Sl a8 (z+Q) c8,oM,oM,oM,oM,sM,B8.set 8 _,t8.on (λb h _=>Bn (λe=>by have:=af.o;have e':b=Z.heap.size:=e;omega)),K8.c (Dh rfl)⟩⟩
  clear ac n1 n2;go_upto_region 32 with fail;clear o uz up ul n0;go_region_law (first
   |(refine uF IK rfl #[.tmp 147,.tmp 152,.tmp 162] #[22,3,22] rfl (ys:=#[Sl ia il ic,Iv d.a,Sl a9 bb ag]) (by simp[Act.eval,Act.put]) (RN.o.mono ?_);rintro e W7 ⟨ya,Q,yc,rfl,bw,D⟩;let⟨a8,c8,W8,ca,B7,B8,ap⟩:=ce.o W7 ya Q yc bw D;let⟨z7,p7,l7⟩:=B7.o.x;let⟨z8,p8,l8⟩:=B8.o.x;clear D;refine⟨_,rfl,?_⟩)
   |(refine Xm rfl (.tmp 146) (.tmp 163) rfl (by simp[Act.eval,Act.put]) (by simp[Act.eval,Act.put]) ca.o ?_))
  all_goals go_wp2
  all_goals go_roundw
  all_goals first|exact ap.o|(simp[intOf];omega)
 obtain rfl:i=n:=oM;have hlt':¬(i:Int)<(i:Int):=oM;have an:=ua (uf V.o K5.o);have R5:=ua (((R3.o.on an.o).a (H.o.d _ (oG an.o.size R3.o.x.2.2) oM)));let⟨r7,q7,n7⟩:=R5.o.x;unfold rz at r7;let⟨c7,c9,ci⟩:=aq.o.a;subst ci;have cc:Hid (zA (λx=>x=Z.heap.size\/x=w.heap.size) B wr):=(zA.j an.o (λ_ q _=>q)).c (H.o.h (λ_ q=>.inl q));have BW:Hid (Bw w wr):=by
  have a:=uf B3.o an.o;exact⟨H.o.os.trans a.os,H.o.g.trans a.tape,H.o.f.trans a.output,zP a.size H.o.l,λb S=>(H.o.d b (oH a.size) (λe=>oM)).trans (a.block b S)⟩
 have b8:Hid (∀F,zA (λx=>x=Z.heap.size\/x=w.heap.size) wr F->zB (zF w F) F (Sl ta i N) 5 i (L.flatMap Fi)):=λF kF=>by
  rw[<-HN.o];exact uA (bg.o.on (λb q=>(kF.d b (Ba q.2 H.o.l) (λe=>oG q.1 sV.o)).trans (H.o.d b q.2 (λe=>oG q.1 sV.o)))) (λb q=>⟨by have:=q.1;have:=sV.o;omega,Ba q.2 (zP H.o.l kF.l)⟩)
 have b6:Hid (i=L.length):=HN.o.symm;clear hB hI hK;go_wp2;have KF:Hid (∀F,zA (λx=>x=Z.heap.size\/x=w.heap.size) wr F->IM t il I fU mO 0 m.c 0 m.i u v m.d ta i N w F g m):=λF kF=>WN.o _ _ _ _ _ _ (cc.o.c kF) (λe=>aB e dC) (λ_=>⟨rfl,b6.o,b8.o F kF⟩);refine zL (by simp[results,f5,go_sem, *];rfl) rfl ⟨_,_,_,_,_,_,_,_,_,_,_,_,_,_,_,rfl,?_,λ_=>⟨g,m,KF.o _ ?_⟩⟩
 .repeat with_reducible first|exact BW.o|refine uD ?_ zD|refine uD ?_ oM
 repeat with_reducible first|exact Cc|refine zA.c ?_ (Dh (.inl rfl))|refine zA.c ?_ (Dh (.inr rfl))
end
end
end Go.Proofs.YtmlblamikgkdcaaGreat
