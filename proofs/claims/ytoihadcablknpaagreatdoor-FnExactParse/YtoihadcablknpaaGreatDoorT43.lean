import Derived.Test.YtoihadcablknpaaGreatDoorT37
import Derived.Test.YtoihadcablknpaaGreatDoorT42
set_option linter.unusedVariables false
set_option linter.unusedSimpArgs false
set_option linter.defProp false
set_option maxHeartbeats 40000000
set_option maxRecDepth 100000
namespace Go.Proofs.YtoihadcablknpaaGreatDoor
open Go.RowKit
open Go.Proofs.Tryz
section
open M (OpD uh Gr)
section
variable {t:Tx} {ga:Oa} {gc:Nat} {W:Wl} {P:Ew}
def RG(t:Tx)(c a:Int):Prop:=c≠0/\∃g,Dd t c a g\/(Dd t 0 0 g/\Ans g c a)
structure RcN(t:Tx)(W:Wl)(P:Ew):Prop where
 ok:∀g ra rc la lc W',Dd t 0 0 g->Ans g 0 0->zC (Of W') W' ra la g->Kf W W'->P (Rt (.tuple #[.agg #[Sl ra g.nr rc,Sl la g.nb lc],.nilIface])) W'
 bad:∀C xs c a W',Flt C xs c a->RG t c a->Kf W W'->P (Rt (.tuple #[.agg #[nS,nS],.iface C (.agg xs)])) W'
def uet(hT:wB (Lo W) .u8 W ga t.n t.T)(hc:t.n<=gc)(aa:RcN t W P):Cs 49 #[Sl ga t.n gc] W P:=by
 have A:=ua aa;generalize N:W.alloc (Oc #[nS,nS] 37)=X;have y:Hid (Kf W X):=N▸wU;have B:Hid (wJ X W.heap.size #[nS,nS]):=N▸Cm;have V:=ua ((hT.q y.u).g (Q':=Lo X) (λb q=>wX q y.h));go_enter func49,ntmps49;go_wp2_with fail;refine y0 V hc λp L g ra rc la lc W1 hP hG Q=>?_
 have R1:=ua (B.on Q.u);have Z:=ua (y.c Q);have l:=ua hP;generalize O:W1.alloc (Oc #[Sl ra g.nr rc,Sl la g.nb lc] 37)=Y;have m:Hid (Kf W1 Y):=O▸wU;have E:Hid (wJ Y W1.heap.size #[Sl ra g.nr rc,Sl la g.nb lc]):=O▸Cm;have D:=ua (hG.q m.u);have J:=ua (R1.on m.u);have G:=ua (Z.c m);obtain⟨z,pz,lz⟩:=J.x;obtain⟨gz,gp,gl⟩:=E.x;by_cases f:p=0
 rotate_left
 ·have h0':(p==0)=false:=by simp[f]
  have w:=ua (A.bad _ _ p L · (.text p L) ⟨f,g,.inl l⟩);go_wp2;refine wL (by simp[results,f49,go_sem, *]) rfl (w _ ?_);repeat with_reducible first|exact G.o|refine Hk ?_ wF
 subst f;obtain⟨r,rfl⟩:=qZ l;have HV:=ua r;have S:=ua (UH _ ra la rc lc g Y D.d (qD r) (λ_=>ume ra la g rc lc r.r2 r.l2));go_wp2_with fail;refine S.mono ?_;rintro e W2 ⟨⟨c,a,hA,rfl⟩,j⟩;have H:=ua (G.c (wA.i j (λ_ q _=>q)));have s:=ua hA;have C:=ua (D.q j);have F:=ua (wN m.h j.size);have I:=ua (J.on j);obtain⟨z,pz,lz⟩:=I.x;obtain⟨gz,gp,gl⟩:=(E.on j).x;by_cases f:c=0
 rotate_left
 ·have h0':(c==0)=false:=by simp[f]
  have w:=ua (A.bad _ _ c a · (.check c a) ⟨f,g,.inr ⟨l,s⟩⟩);go_wp2;refine wL (by simp[results,f49,go_sem, *]) rfl (w _ ?_);repeat with_reducible first|exact H.o|refine Hk ?_ wF
 subst f;obtain rfl:=RT s;have OK:=ua (λW'=>A.ok g ra rc la lc W' l s);have lw:=I.x.2.2;have NL:¬Gd X W1 W.heap.size:=λq=>q.2.elim (λq=>oH B.x.2.2) (λ⟨_,o,v,q⟩=>by
  rw[B.o.x.1 o]at q;match o,q with
  |0,q=>cases q
  |1,q=>cases q
  |o+2,q=>simp at q)
 have U:Hid (∀W',wA (λx=>x=W.heap.size) W2 W'->zC (Of W') W' ra la g):=λW' k=>by
  have st:wQ (Gd X W1) W2 W':=λb q=>k.d b (wX q.1 F) (λe=>NL (e▸q))
  have R:∀b,Gd X W1 b->Of W' b:=λb q=>wX q.1 (wN F k.h)
  exact⟨(C.a.on st).g R,(C.c.on st).g R⟩
 go_wp2;refine wL (by simp[results,f49,go_sem, *]) rfl (OK _ (U _ ?_) ?_)
 ·repeat with_reducible first|exact zM|refine wA.c ?_ (zP rfl)
 repeat with_reducible first|exact H.o|refine Hk ?_ wF
end
end
section
open M (OpD uh Gr)
section
variable {g:Gr} {ra la:Oa} {rc lc ib il ic:Nat} {I:Nat->Int} {fU mO:Int} {m:wD} {W:Wl} {P:Ew}
structure RM(m:wD)(W:Wl)(P:Ew):Prop where
 ok:∀cd ps lb fa xa xn xc st th va vn vc W',Ds (wM W W') m cd ps lb fa xa xn th va vn W W'->cd≠3->P (Rt (.tuple #[.agg #[Iv cd,Iv ps,Iv lb,Iv fa,Sl xa xn xc,Iv st,Iv th,Sl va vn vc],.nilIface])) W'
 out:∀W',m.i=3->Kf W W'->P (Rt (.tuple #[.agg #[Iv 0,Iv 0,Iv 0,Iv 0,nS,Iv 0,Iv 0,nS],.iface 121 (.agg #[Iv 3])])) W'
def uf9(H:M.Valid g)(hG:zC (Of W) W ra la g)(hI:wB (Of W) .u8 W (Sm ib 0) il I)(hB:Fe il I)(af:il<=4000)(A:Jl fU mO)(hE:Ends (Hw g) (Kj g) il I fU mO s0 m)(ac:m.i=0\/m.i=1\/m.i=2\/m.i=3)(ae:RM m W P) :
  Cs 50 #[.agg #[Sl ra g.nr rc,Sl la g.nb lc],Sl (Sm ib 0) il ic,Iv fU,Iv mO] W P:=by
 have R:=ua ae;generalize J:W.alloc (Oc #[Sl ra g.nr rc,Sl la g.nb lc] 37)=X;have O:Hid (Kf W X):=J▸wU;have GX:Hid (wJ X W.heap.size #[Sl ra g.nr rc,Sl la g.nb lc]):=J▸Cm;have sX:Hid (X.heap.size=W.heap.size+1):=by rw[<-J];show _=_;simp
 generalize U:X.alloc (Oc #[Iv 0,Iv 0,Iv 0,Iv 0,nS,Iv 0,Iv 0,nS] 44)=Y;have Q:Hid (Kf X Y):=U▸wU;have RY:Hid (wJ Y X.heap.size #[Iv 0,Iv 0,Iv 0,Iv 0,nS,Iv 0,Iv 0,nS]):=U▸Cm;have N:=ua (O.c Q);obtain⟨gz,gp,gl⟩:=(GX.on Q.u).x;have CP:=ua (XS _ ra la rc lc g H (qD H) Y (hG.q N.u));have HI:=ua hI;have aa:=ua hB;have HE:=ua hE;have ab:=ua ac;have p:=ua A;have S:=ua (XP H.a);go_enter func50,ntmps50;go_wp2_with fail;refine CP.mono ?_;rintro e W1 ⟨a,c,rfl,hA,V⟩;have r:=ua (N.c (wA.i V (λ_ q _=>q)));have T:=ua (RY.on V);have RN:=ua (N4 (wM Y W1) (Of W) a (Hw g) c (Kj g) (Sm ib 0) il ic I fU mO m W1 hA ⟨p.1,p.2.1,p.2.2.1,p.2.2.2,λi hi=>S.2 i hi⟩ (oH S.1) (HI.q r.u) aa oM HE ab (λy q=>q.2) (λy q=>wX q r.h));have lY:Hid (X.heap.size<W1.heap.size):=T.x.2.2;generalize Hw g=pn at *;go_wp2_with fail;refine RN.mono ?_;rintro e W2 ⟨n,ps,lb,s,D,E,xc,st,th,B,C,vc,rfl,t⟩;have L:=t.u;have R2:=ua (T.on L);have G:=ua t;have K2:=ua (r.c (wA.i L (λ_ q _=>q)));generalize w:W2.alloc (Oc #[Iv n,Iv ps,Iv lb,Iv s,Sl D E xc,Iv st,Iv th,Sl B C vc] 44)=Z;have o:Hid (Kf W2 Z):=w▸wU;have OZ:Hid (wJ Z W2.heap.size #[Iv n,Iv ps,Iv lb,Iv s,Sl D E xc,Iv st,Iv th,Sl B C vc]):=w▸Cm;have RZ:=ua (R2.on o.u);have l:=ua (K2.c o);have HZ:=ua w;have S1:=ua (show W.heap.size<=W1.heap.size from r.h);obtain⟨z,pz,lz⟩:=RZ.x;obtain⟨y,py,ly⟩:=OZ.x;have lX:=O.h;have ad:¬W2.heap.size=X.heap.size:=oG lY.o t.u.size;have hne':¬X.heap.size=W2.heap.size:=λe=>ad e.symm
 clear t L w;go_upto_region 5 with fail;rw[HZ.o];by_cases c3:n=3
 ·have HN:=ua (R.o.out · (G.o.i▸c3));subst c3;go_wp2;go_region;all_goals go_wp2
  all_goals
   clear y py ly;refine wL (v:=.tuple #[.agg #[Iv 0,Iv 0,Iv 0,Iv 0,nS,Iv 0,Iv 0,nS],.iface 121 (.agg #[Iv 3])]) ?_ rfl (HN.o _ ?_)
   ·simp[results,f50,go_sem,z,pz]
   have hk:=l.o.c (wA.j (λ_=>False) Z);repeat with_reducible first|exact hk|exact l.o|refine Hk ?_ lX|refine wA.c ?_ (Bz _)
 have c3':(n==3)=false:=by simp[c3]
 have c4':(n==4)=false:=by have:=G.e;simp;omega
 have HC:=ua c3;have KF:Hid (∀F,wA (λx=>x=X.heap.size) Z F->Ds (wM W F) m n ps lb s D E th B C W F):=λF k=>G.o.mv (λb q=>(k.d b (wX q.2 o.o.h) (λe=>oG q.1 lY.o)).trans (o.o.d b q.2 id)) (λb q=>⟨wN S1.o q.1,wX q.2 (wN o.o.h k.h)⟩) ⟨k.os.trans l.o.os,k.g.trans l.o.g,k.f.trans l.o.f,wN l.o.h k.h,λb A=>(k.d b (wX A l.o.h) (λe=>oH sX.o)).trans (l.o.d b A id)⟩
 go_wp2;refine wL (v:=.tuple #[.agg #[Iv n,Iv ps,Iv lb,Iv s,Sl D E xc,Iv st,Iv th,Sl B C vc],.nilIface]) (by simp[results,f50,go_sem,z]) rfl (R.o.ok _ _ _ _ _ _ _ _ _ _ _ _ _ (KF.o _ ?_) HC.o);repeat with_reducible first|exact zM|refine wA.c ?_ (zP rfl)
end
end
section
open M (OpD uh Gr)
def uvd{W2 W W6 k F:Wl}{r na:Oa}{t xc nc N:Nat}{p:Vl}{R:kO}{E:Nat->Bool}(A:Dw (wM W2 W) W r t E)(o:R.j=rg E 256)(B:Bw W F)(n:wA (λx=>W.heap.size<=x/\x<N) k F)
  (w:wC (λb=>N<=b/\b<W6.heap.size) k (Sl na R.a.length nc) 5 R.a.length (R.a.flatMap Ck)) (z:V.Val W6.heap.size k.heap.size k p R.text) (u:W2.heap.size<=W.heap.size) (C:W.heap.size<=N) (D:N<=W6.heap.size) (v:W6.heap.size<=k.heap.size) :
  Cj W2.heap.size F (.agg #[Iv R.i,Iv R.f,Iv R.label,Iv R.h,Sl r t xc,Iv R.d,Iv R.b,Sl na R.a.length nc,p]) R:=by
 obtain⟨l,s,y⟩:=A.q B;rw[<-o]at l s;subst l;refine⟨W.heap.size,W6.heap.size,r,xc,na,nc,p,u,oM,wN v n.h,rfl,s,y,uA (w.on (λb q=>n.d b oM (λe=>oM))) (λb q=>⟨oM,q.2⟩),?_⟩;obtain⟨a,c,e,h⟩:=z.m n (λg G _ e=>oM);exact⟨a,c,e,λl=>let ⟨g,o,e2,e3,e4⟩:=h l;⟨g,o,e2,wX e3 n.h,e4⟩⟩
def RunR.b{g il I m R}(h:RunR g il I m R)(e:m.i=2):∃z,V.Ans I (g.d m.label.toNat).f il (g.d m.label.toNat).nl m.c z/\R=⟨2,m.c,m.label,m.h,rg m.j 256,m.d,0,[],z⟩:=by
 cases h with
 |out h=>omega
 |fail h=>omega
 |ok h=>omega
 |@label z h a=>exact⟨z,a,Eq.refl _⟩
def RunR.d{g il I m R}(h:RunR g il I m R)(e:m.i=0):∃(k:Nat) (z:LI),Tel g il I (yZ m.a) k z/\R=⟨0,m.c,0,m.h,rg m.j 256,m.d,k,yZ m.a,z⟩:=by
 cases h with
 |out h=>omega
 |fail h=>omega
 |label h=>omega
 |@ok k z h b=>exact⟨k,z,b,Eq.refl _⟩
def RunR.a{g il I m R}(h:RunR g il I m R)(c:m.i=1):∃z,V.Ans I (Kb (Ie m.j)) il (Ie m.j).size m.h z/\R=⟨1,m.h,0,m.h,rg m.j 256,m.d,0,[],z⟩:=by
 cases h with
 |out h=>omega
 |ok h=>omega
 |label h=>omega
 |@fail z h b=>exact⟨z,b,Eq.refl _⟩
def QQ{g p q a}(h:So g p q a):∀(i:Nat) (d:Bo),(yZ a)[i]?=some d->d.e=1->0<=d.f/\d.f<g:=λi d k b=>by
 obtain⟨j,l,rfl⟩:=Dc.1 (Be k);have c:=(ED _ l).1;have e:Ih a j=a[j]:=qG c;have:=(h.f a[j] (Gb c)).2.2.2.2;unfold Lx at b ⊢;rw[e]at b ⊢;exact this b
def Tl(R:kO)(W2 W:Wl)(zb:Nat)(wc:Wl):Prop:=∃(a b c d e f:Int) (k:Oa) (l xc:Nat) (na:Oa) (g nc:Nat) (h:Oa) (j i:Nat),
 wJ wc zb #[Iv a,Iv b,Iv c,Iv d,Sl k l xc,Iv e,Iv f,Sl na g nc,Sl h j i]/\wJ wc (W.heap.size+1+1) Eh /\
 ∀F,wA (λx=>x=W.heap.size+1+1) wc F->Cj W2.heap.size F (.agg #[Iv a,Iv b,Iv c,Iv d,Sl k l xc,Iv e,Iv f,Sl na g nc,Sl h j i]) R/\Bw W F
def CL{W2 W W6 i wc:Wl}{u na s:Oa}{v xc nc t N zb:Nat}{c a l f th m:Int}{L:List Bo}{z:LI}{R:kO}{E:Nat->Bool}(G:Dw (wM W2 W) W u v E)(B:R=⟨c,a,l,f,rg E 256,th,m,L,z⟩)(j:Bw W i)(r:wA (λx=>x=zb) i wc)
  (H:wJ wc zb #[Iv c,Iv a,Iv l,Iv f,Sl u v xc,Iv th,Iv m,Sl na L.length nc,Sl s z.length t]) (p:wJ i (W.heap.size+1+1) Eh) (C:wC (λb=>N<=b/\b<W6.heap.size) i (Sl na L.length nc) 5 L.length (L.flatMap Ck)) (D:V.Val W6.heap.size i.heap.size i (Sl s z.length t) z) (w:W2.heap.size<=W.heap.size) (n:W.heap.size+1+1<zb) (I:zb<N) (y:N<=W6.heap.size) (A:W6.heap.size<=i.heap.size):Tl R W2 W zb wc:=by
 have o:∀F,wA (λx=>x=W.heap.size+1+1) wc F->wA (λx=>W.heap.size<=x/\x<N) i F:=λF k=>(r.l (λx e=>⟨oM,oM⟩)).c (k.l (λx e=>⟨oM,oM⟩))
 have q:∀F,wA (λx=>W.heap.size<=x/\x<N) i F->Bw W F:=λF k=>⟨k.os.trans j.os,k.g.trans j.tape,k.f.trans j.output,wN j.size k.h,λb n=>(k.d b (wX n j.size) (λe=>oM)).trans (j.block b n)⟩
 refine⟨_,_,_,_,_,_,_,_,_,_,_,_,_,_,_,H,p.a (r.d _ p.x.2.2 oM),λF k=>⟨?_,q F (o F k)⟩⟩;rw[B];exact uvd (R:=⟨c,a,l,f,rg E 256,th,m,L,z⟩) G (Eq.refl _) (q F (o F k)) (o F k) C D w oM y A
def CM args w:(callFunc 77 args).run prog w=.ok (.enter 77 args) w:=by simp[callFunc,func77,f77,go_sem]
def uoO n S:0<(M.setT n S).size:=by
 unfold M.setT;split
 ·exact Nat.zero_lt_one
 split
 ·rw[Ft];exact wX Nat.zero_lt_one (Nat.le_add_left _ _)
 rw[Ft];exact wX Nat.zero_lt_one (Nat.le_add_left _ _)
def ulU{Q w v s}(h:Cv Q w v s):∃a c,v=Sl a s.size c/\wB Q .u8 w a s.size (Kb s):=by
 rcases h.r with⟨rfl,b,_⟩|⟨g,cap,rfl,f,_,_,e,_⟩
 ·exact⟨none,0,by rw[b],.inl b⟩
 refine⟨_,cap,rfl,   .inr ⟨g,0,rfl,f,λi d=>?_⟩⟩;rw[zL,e i (by rw[NY];exact d)];have hi':i<s.data.toList.length:=d;simp[bv,Kb,zG hi',Cx]
def CN:List UInt8:=[101,120,112,101,99,116,101,100,32]
def Pr:Array Value:=#[Bv 101,Bv 120,Bv 112,Bv 101,Bv 99,Bv 116,Bv 101,Bv 100,Bv 32]
def uoP{w b}(h:∀j,w.cell? (Ad b j)=Pr[j]?):wB (λ_=>True) .u8 w (Sm b 0) 9 (Ky CN):=.inr ⟨b,0,rfl,trivial,λi a=>by
 rw[zL,h i];match i,a with
 |0,_=>rfl
 |1,_=>rfl
 |2,_=>rfl
 |3,_=>rfl
 |4,_=>rfl
 |5,_=>rfl
 |6,_=>rfl
 |7,_=>rfl
 |8,_=>rfl⟩
def CO{W b c}n k(h:wJ W b c):∃W',(convert 22 22 (Sl (Sm b 0) n k)).run prog W=.ok (Sl (Sm b 0) n k) W'/\wA (λx=>x=b) W W'/\∀j,W'.cell? (Ad b j)=c[j]?:=by
 obtain⟨t,h⟩:=h;have a:W.shape? b=some (t,c.size):=by unfold World.shape?;rw[h]
 refine⟨W.freeze (Ad b c.size) 1,by simp[convert,go_sem,run_underlying underlying22,run_underlying underlying5,markStringish,a],⟨rfl,rfl,rfl,by simp[World.freeze],λx _ d=>?_⟩,λj=>?_⟩
 ·have hx':¬b=x:=λe=>d e.symm
  simp[World.freeze,Om,hx']
 simp[World.cell?,World.freeze,Om,h]
def ulV{Q C κ w w' a n S}(h:wB Q κ w a n S)(k:wA C w w')(d:∀b,Q b->¬C b):wB Q κ w' a n S:=h.imp id λ⟨b,o,e,q,f⟩=>⟨b,o,e,q,λi c=>(k.p (p:=(Ad b (o+i))) (ud (f i c)) (d b q)).trans (f i c)⟩
def qX{C w W W'}(h:Bw w W)(k:wA C W W')(c:∀b,b<w.heap.size->¬C b):Bw w W' :=
 ⟨k.os.trans h.os,k.g.trans h.tape,k.f.trans h.output,wN h.size k.h,λb a=>(k.d b (wX a h.size) (c b a)).trans (h.block b a)⟩
def uve{Q w n xc S a}(f:wB Q .i64 w a n S)(h:∀b,Q b->b<w.heap.size)(d:M.bL n S) :
  Cs 77 #[nS,Sl a n xc] w (λe w'=>∃sa sc,e=Rt (Sl sa (M.setT n S).size sc)/\wB (λb=>w.heap.size<=b) .u8 w' sa (M.setT n S).size (Kb (M.setT n S))/\Bw w w'):=by
 refine(zg (λ_=>False) Q a n xc S nS ByteArray.empty w (Cv.nil w) f (λb q=>⟨id,h b q⟩) d dC).mono ?_;rintro e w' ⟨v,rfl,Q',c,j,k⟩;rw[ByteArray.empty_append]at c;obtain⟨sa,sc,rfl,i⟩:=ulU c;exact⟨sa,sc,rfl,i.g (λb q=>(j b q).elim False.elim id),k.u⟩
def uvf{Q w ib il ic lb sc I q sa s z}(k:V.Tx w ib 0 il I)(n:∀i,0<=I i/\I i<=255)(u:il<=4000)(o:il<=ic)(t:V.Tab w)(g:0<s.size)(c:s.size<=1200)(p:∀j,w.cell? (Ad lb j)=Pr[j]?)(r:wB Q .u8 w sa s.size (Kb s))(m:V.Ans I (Kb (⟨#[101,120,112,101,99,116,101,100,32]⟩++s)) il (⟨#[101,120,112,101,99,116,101,100,32]⟩++s:ByteArray).size q z) :
  Cs 76 #[Sl (Sm ib 0) il ic,Iv q,Sl (Sm w.heap.size 0) 2 2] (w.alloc (Oc #[Sl (Sm lb 0) 9 9,Sl sa s.size sc] 22)) (λe w'=>∃b,e=Rt b/\V.Val (w.heap.size+1) w'.heap.size w' b z/\Bw w w'):=by
 have b1:=uk w (Oc #[Sl (Sm lb 0) 9 9,Sl sa s.size sc] 22);have f:=(um w #[Sl (Sm lb 0) 9 9,Sl sa s.size sc] 22).x.1;have e:CN++s.data.toList=(⟨#[101,120,112,101,99,116,101,100,32]⟩++s:ByteArray).data.toList:=by rw[ByteArray.data_append,Array.toList_append];rfl
 have:=ZI (l:=CN) (l2:=s.data.toList) (q:=q) (pc:=2) (ic:=ic) (k.q b1) n oM o (t.on b1) dC g (by show 9+s.size<=_;omega) wF (f 0) (f 1) ((uoP p).q b1) (r.q b1);rw[e]at this;refine this.mono ?_;rintro e w' ⟨b,v,rfl,c,d,h⟩;obtain rfl:=c.a m;refine⟨b,rfl,?_,uf b1 h⟩;rw[zV]at d;exact d
section
variable {g:Gr} {ra la:Oa} {rc lc ib il ic:Nat} {I:Nat->Int} {m:wD} {W2 W:Wl} {R:kO} {cd ps lb fa st th:Int} {xa va:Oa} {xn xc vn vc:Nat} {P:Ew}
def utE(J:M.Valid g)(hG:zC (Of W) W ra la g)(hI:V.Tx W ib 0 il I)(hb:∀i,0<=I i/\I i<=255)(a4:il<=4000)(hc:il<=ic)(ht:V.Tab W)(hO:Ds (wM W2 W) m cd ps lb fa xa xn th va vn W2 W)(c3:cd≠3)(a1:Mj g.nb m)(hR:RunR g il I m R)(bb:∀v W',Cj W2.heap.size W' v R->Bw W W'->P (Rt (.tuple #[v,.nilIface])) W') :
  Cs 51 #[.agg #[Sl ra g.nr rc,Sl la g.nb lc],Sl (Sm ib 0) il ic,.agg #[Iv cd,Iv ps,Iv lb,Iv fa,Sl xa xn xc,Iv st,Iv th,Sl va vn vc]] W P:=by
 have NX:=ua bb;clear bb;generalize hT:((W.alloc (Oc #[Sl ra g.nr rc,Sl la g.nb lc] 37)).alloc (Oc #[Iv cd,Iv ps,Iv lb,Iv fa,Sl xa xn xc,Iv st,Iv th,Sl va vn vc] 44)).alloc (Oc #[Iv 0,Iv 0,Iv 0,Iv 0,nS,Iv 0,Iv 0,nS,nS] 26)=T;have kT:Bw W T:=hT▸uf (uf (wG _) (wG _)) (wG _);have sT:Hid (T.heap.size=W.heap.size+3):=by rw[<-hT];show _=_;simp
 have GT:Hid (wJ T W.heap.size #[Sl ra g.nr rc,Sl la g.nb lc]):=hT▸(Cm.al _).al _;have OT:Hid (wJ T (W.heap.size+1) #[Iv cd,Iv ps,Iv lb,Iv fa,Sl xa xn xc,Iv st,Iv th,Sl va vn vc]):=hT▸(uV _ _ _ _ sM).al _;have RT:Hid (wJ T (W.heap.size+1+1) Eh):=hT▸uV _ _ _ _ sM;generalize hU:T.alloc (Oc #[Iv cd,Iv ps,Iv lb,Iv fa,Sl xa xn xc,Iv th,Iv 0,nS,nS] 26)=U;have kU:Bw T U:=hU▸wG _;have X:Hid (wJ U T.heap.size #[Iv cd,Iv ps,Iv lb,Iv fa,Sl xa xn xc,Iv th,Iv 0,nS,nS]):=hU▸Cm;have sU:Hid (U.heap.size=T.heap.size+1):=by rw[<-hU];show _=_;simp
 have KU:=ua (uf kT kU);have GU:=ua (GT.o.on kU);have OU:=ua (OT.o.on kU);have RU:=ua (RT.o.on kU);have HG:=ua hG;have HI:=ua hI;have aj:=ua hb;have am:=ua ht;have HV:=ua J;have HO:=ua hO;have aw:=ua a1;have ad:=ua hR;have be:=ua c3;have HU:=ua hU;have S2:=ua hO.u.size;obtain⟨tz,tp,tl⟩:=OT.o.x;obtain⟨uz,up,ul⟩:=X.o.x;obtain⟨oz,op,ol⟩:=OU.o.x;obtain⟨gz,gp,gl⟩:=GU.o.x;obtain⟨e1,e2,ba⟩:=hO.h c3;subst e1 e2;have HX:=ua ba;have HK:=ua hO.e;have O:=ua hO.i;have ce:T.heap.size≠W.heap.size+1:=oH sT.o;clear hG hI hb ht J hO a1 hR c3 ba kU kT hU;go_enter func51,ntmps51;go_upto_region 1 with fail;go_cut [8] (λv wc=>v=.pointer (Sm T.heap.size 0)/\U=wc)
 case first =>
  go_wp2;go_meet;exact⟨rfl,HU.o.symm▸rfl⟩
 case rest =>
 obtain⟨rfl,rfl⟩:=hcut;clear HU hT tz tp tl;have cg:W.heap.size<T.heap.size:=oH sT.o
 apply_assumption
 refine wp_seq_k ?_;intro K hK;go_cut [] (λwc=>Tl R W2 W T.heap.size wc)
 case rest =>
  clear uz up ul oz op ol gz gp gl;obtain⟨i0,i1,i2,i3,i5,i6,b7,b9,b8,na,nn,nc,f,tn,n,hz,hr,hF⟩:=hcut;have HF:=ua hF;obtain⟨z,pz,lz⟩:=hz.x;obtain⟨r,pr,lr⟩:=hr.x;unfold Eh at r;clear hz hr hF;go_wp2;refine wL (v:=.tuple #[.agg #[Iv i0,Iv i1,Iv i2,Iv i3,Sl b7 b9 b8,Iv i5,Iv i6,Sl na nn nc,Sl f tn n],.nilIface]) ?_ rfl (have k:=HF.o _ ?_;NX.o _ _ k.1 k.2)
  ·simp[results,f51,go_sem,r,pr]
  repeat with_reducible first|exact zM|refine wA.c ?_ (zP rfl)
 case first =>
  by_cases c2:cd=2
  ·subst c2;obtain⟨rfl,rfl⟩:=HO.o.d rfl;obtain⟨t0,t1⟩:=aw.o.d O.o.symm;obtain⟨z,D,aa⟩:=ad.o.b O.o.symm;have ab:=ua aa;clear O HK aa ad;obtain⟨j,hj⟩:∃j:Nat,m.label=(j:Int):=⟨m.label.toNat,oM⟩;have a5:j<g.nb:=oM;rw[show m.label.toNat=j by rw[hj];rfl]at D;have HA:=ua D;rw[hj]at uz oz X OU ab;obtain⟨ch,ci,bc,bd,rfl,bo,a6⟩:=Wc (HG.o.q KU.o).c a5;have ai:=HV.o.ln j a5;generalize a2:U.drew.alloc (Oc #[Sl bc (g.d j).nl bd] 22)=V7;have ac:Bw U V7:=a2▸uf (wI U).drew (wG _);have ay:=ua ac;have p7:V7.cell? (Ad U.heap.size 0)=some (Sl bc (g.d j).nl bd):=a2▸(uV U.drew _ _ U.heap.size rfl).x.1 0;have DG:=ua (HH (ic:=ic) (q:=(m.c:Int)) (pc:=1) (HI.o.q (uf KU.o ac)) aj.o oM hc (am.o.on (uf KU.o ac)) ai.2.2.1 (oH ai.1) p7 (a6.q ac) (λi hi=>jN (ai.2.1 i hi)));have hjn':(j:Int)<(g.nb:Int):=oM;obtain⟨o7,bu,br⟩:=(OU.o.on ac).x;obtain⟨b4,b2,bz⟩:=(X.o.on ac).x;clear a6 ac D t0 t1 hj ai;generalize (g.d j).nl=cj at *;go_upto_region 13 with fail;go_region_law (
    (refine yp DD rfl #[.tmp 67,.tmp 69,.tmp 77] #[22,3,73] rfl (ys:=#[Sl (Sm ib 0) il ic,Iv (m.c:Int),Sl (Sm U.heap.size 0) 1 1]) (by simp[Act.eval,Act.put]) (DG.o.mono ?_);rintro e s ⟨tv,z',rfl,D,F,y⟩;obtain rfl:=D.a HA.o;have an:=ua F;have A:=ua (uf ay.o y);have L7:=ua y.size;obtain⟨u7,p8,l8⟩:=(X.o.on A.o).x;obtain⟨f,n,af,_⟩:=F;subst af;clear D y;refine⟨_,rfl,?_⟩))
   all_goals
    clear uz up ul oz op ol gz gp gl o7 bu br b4 b2 bz bo p7;go_wp2;go_meet;exact CL (W6:=V7) (N:=T.heap.size+1) HX.o ab.o (uf KU.o A.o) (zP rfl) ((X.o.on A.o).set 8 _) (RU.o.on A.o) (.inl ⟨rfl,rfl,rfl⟩) an.o S2.o (oH sT.o) oM (oG sU.o ay.o.size) L7.o
  have c2':(cd==2)=false:=by simp[c2]
  by_cases c0:cd=0
  ·subst c0;obtain⟨rfl,bp,cn,a3⟩:=HO.o.ok rfl;subst bp;obtain rfl:=HO.o.lz dC;obtain⟨a7,bl⟩:=aw.o.ok O.o.symm;have ag:=ua a7.a;obtain⟨kk,zz,a9,aa⟩:=ad.o.d O.o.symm;have ab:=ua aa;have bh:=ua a9;have au:=ua (upd _ va m.a.length vc (Ih m.a) U (((QT a3).ev).q KU.o) oM ag.o.d);have bg:=ua (QQ ag.o);have ap:=DB m.a;have a0:=(upf ag.o.d).trans (RS m.a);have bn:(yZ m.a).length<=1000000:=(by rw[ap];have:=Ss (Ih m.a) m.a.length;omega);rw[a0,<-ap]at au;generalize m.a.length=ln at *;generalize yZ m.a=L at *;clear O HK a7 a3 a9 ap a0 bl aa ad ag;go_wp2_with fail;refine au.o.mono ?_;rintro e o ⟨f,n,rfl,E⟩;have S:=ua E.u;have sU':=sU.o;generalize hY:o.setCell (Ad T.heap.size 7) (Sl f L.length n)=Y;have kY:wA (λx=>x=T.heap.size) o Y:=hY▸zP rfl;have PY:Hid (wJ Y T.heap.size #[Iv 0,Iv m.c,Iv 0,Iv m.h,Sl xa xn xc,Iv m.d,Iv 0,Sl f L.length n,nS]):=hY▸(X.o.on E.u).set 7 _;have ah:Hid (Bw W Y):=hY▸uy (uf KU.o E.u) oM;have GY:=ua ((GU.o.on E.u).a (kY.d _ (GU.o.on E.u).x.2.2 oM));have RY:=ua ((RU.o.on E.u).a (kY.d _ (RU.o.on E.u).x.2.2 (oH sT.o)));have av:Hid (wC (λb=>T.heap.size+1<=b/\b<Y.heap.size) Y (Sl f L.length n) 5 L.length (L.flatMap Ck)):=uA (E.lt.on (λb q=>kY.d b q.2 oM)) (λb q=>⟨oM,wX q.2 kY.h⟩);have TL:=ua (utZ (ra:=ra) (rc:=rc) (lc:=lc) (ic:=ic) HV.o (HG.o.q ah.o).c (HI.o.q ah.o) aj.o a4 hc (am.o.on ah.o) av.o rfl bn bg.o);have SY:=ua (show T.heap.size+1<=Y.heap.size by have:=kY.h;have:=E.u.size;omega);obtain⟨q5,b6,b5⟩:=(X.o.on E.u).x;obtain⟨y5,cb,ca⟩:=PY.o.x;obtain⟨g5,bj,bi⟩:=GY.o.x;obtain⟨nn,ao⟩:=nm L.length;have cc:=ua ao;rw[ao]at TL y5 hY ⊢;clear E kY ao sU' uz up ul oz op ol gz gp gl;go_wp2_with fail;clear hY q5 b6 b5 y5 cb ca g5 bj bi;refine TL.o.mono ?_;rintro e s ⟨k',tv,z',rfl,a8,F,y⟩;obtain⟨rfl,rfl⟩:=a8.a bh.o;have an:=ua F;have A:=ua y;obtain⟨u7,p8,l8⟩:=(PY.o.on y).x;obtain⟨ck,cm,af,_⟩:=F;subst af;have bf:=ua (yx av.o oM y);clear a8 y;go_wp2;go_meet;exact CL (W6:=Y) (N:=T.heap.size+1) HX.o ab.o (uf ah.o A.o) ((wA.b (C:=λx=>x=T.heap.size) s (Ad T.heap.size 6) _ rfl).c (wA.b _ (Ad T.heap.size 8) _ rfl)) (((PY.o.on A.o).set 6 _).set 8 _) (RY.o.on A.o) bf.o an.o S2.o (oH sT.o) oM SY.o A.o.size
  obtain rfl:cd=1:=oG HK.o be.o;obtain rfl:=HO.o.lz dC;obtain⟨z,D,aa⟩:=ad.o.a O.o.symm;have ab:=ua aa;have CX:=qC m.j;obtain⟨h0,aq,_⟩:=HX.o;unfold Ie at D;obtain⟨l,hl⟩:=nm (rg m.j 256);rw[hl]at h0 aq CX D;obtain⟨sx,ae⟩:=nm (M.setT l.length (lf l));have sp:=ae▸uoO l.length (lf l);have sl:=ae▸M.eF CX;rw[ae]at D;have HA:=ua D;clear hl;clear O HK aa ad D c0;generalize J:U.setCell (Ad T.heap.size 1) (Iv m.h)=Y;have bm:W.heap.size+1≠T.heap.size:=oH sT.o;have OV:=ua (J▸OU.o.h T.heap.size 1 (Iv m.h) bm);have Z:Hid (wJ Y T.heap.size #[Iv 1,Iv m.h,Iv 0,Iv m.h,Sl xa xn xc,Iv m.d,Iv 0,nS,nS]):=J▸X.o.set 1 (Iv m.h);have RV:=ua (J▸RU.o.h T.heap.size 1 (Iv m.h) (oH sT.o));have BV:Hid (Bw W Y):=J▸uy KU.o oM;have sV:Hid (Y.heap.size=T.heap.size+1):=by rw[<-J,uj];exact sU.o
  obtain⟨bw,bt,bq⟩:=OV.o.x;obtain⟨b3,b0,bx⟩:=Z.o.x;have AS:Hid (∀H,Bw Y H->Cs 77 #[nS,Sl xa xn xc] H (λe w'=>∃sa sc,e=Rt (Sl sa sx.size sc)/\wB (λb=>H.heap.size<=b) .u8 w' sa sx.size (Kb sx)/\Bw H w')):=λH kx=>by
   have kk:=uf BV.o kx;have:=uve (xc:=xc) (aq.q kk) (λb q=>wX q.2 kk.size) (h0▸CX);rw[h0,ae]at this;rw[h0];exact this
  have DG:=ua (λ(Q:Np) (H:Wl) (lb:Nat) (sa:Oa) (sc:Nat) (kx:Bw Y H) hb G=>uvf (Q:=Q) (w:=H) (lb:=lb) (sa:=sa) (sc:=sc) (ic:=ic) (HI.o.q (uf BV.o kx)) aj.o a4 hc (am.o.on (uf BV.o kx)) sp sl hb G HA.o);generalize Kb sx=sf at *;clear ae;generalize sx.size=sn at *;generalize az:(Oc Pr 5)=L9;have KD:Hid (Bw Y Y.drew):=(wI Y).drew;have BL:Hid (∀W:Wl,wJ (W.alloc L9) W.heap.size Pr):=λW=>az▸Cm
  have KL:Hid (Bw Y (Y.alloc L9).drew):=(uk Y L9).drew;have BA:Hid (wJ (Y.alloc L9).drew Y.heap.size Pr):=BL.o Y;obtain⟨WA,cf,kA,lA⟩:=CO 9 9 BA.o;have KA:=ua (qX KL.o kA (λb hb e=>oM));have LA:=ua lA;obtain⟨oA,pA,mA⟩:=(OV.o.on KA.o).x;have YA:=ua kA.h;have YL:Hid (Y.heap.size<(Y.alloc L9).drew.heap.size):=BA.o.x.2.2;unfold Pr at az;have ak:Hid (∀(o s:Wl) (f:Oa) (n:Nat),Bw Y o->V.Val (o.heap.size+1) s.heap.size s (Sl f z.length n) z->Bw o s->Tl R W2 W T.heap.size (s.setCell (Ad T.heap.size 8) (Sl f z.length n))):=λo s f n B F y=>by
   have A:=uf B y;obtain⟨a,c,e,h⟩:=F;exact CL (W6:=o) (N:=T.heap.size+1) HX.o ab.o (uf BV.o A) (zP rfl) ((Z.o.on A).set 8 _) (RV.o.on A) (.inl ⟨rfl,rfl,rfl⟩) ⟨a,c,e,λh0=>let ⟨g,e1,e2,e3⟩:=h h0;⟨g,e1,Nat.le_of_succ_le e2,e3⟩⟩ S2.o (oH sT.o) oM (oG sV.o B.size) y.size
  clear aq h0 CX HA HX ab sp sl kA lA;go_upto_region 11 with fail;clear J uz up ul oz op ol gz gp gl;go_region_law (first
   |(refine yp CM rfl #[.const nS,.tmp 60] #[22,23] rfl (ys:=#[nS,Sl xa xn xc]) (by simp[Act.eval,Act.put]) ((AS.o WA KA.o).mono ?_);rintro e o ⟨sa,sc,rfl,G,B⟩;have t:=ua (uf KA.o B);have DQ:=ua (DG.o _ o Y.heap.size sa sc t.o (λj=>(B.cell (p:=(Ad Y.heap.size j)) (wX YL.o YA.o)).trans (LA.o j)) G);have HQ:=ua (λs f n=>ak.o o s f n t.o);obtain⟨o5,p5,l5⟩:=(OV.o.on t.o).x;obtain⟨r5,x5,m5⟩:=(Z.o.on t.o).x;clear G B;refine⟨_,rfl,?_⟩)
   |(refine yp CM rfl #[.const nS,.tmp 60] #[22,23] rfl (ys:=#[nS,Sl xa xn xc]) (by simp[Act.eval,Act.put]) ((AS.o (Y.alloc L9).drew KL.o).mono ?_);rintro e o ⟨sa,sc,rfl,G,B⟩;have S:=ua (uf KL.o B);obtain⟨W6,bk,kB,lB⟩:=CO 9 9 (BA.o.on B);have t:=ua (qX S.o kB (λb hb e=>oM));have DQ:=ua (DG.o _ W6 Y.heap.size sa sc t.o lB (ulV G kB (λb q e=>oH YL.o)));have HQ:=ua (λs f n=>ak.o W6 s f n t.o);obtain⟨o5,p5,l5⟩:=(OV.o.on S.o).x;obtain⟨r5,x5,m5⟩:=(Z.o.on S.o).x;obtain⟨o6,p6,l6⟩:=(OV.o.on t.o).x;obtain⟨r6,x6,m6⟩:=(Z.o.on t.o).x;clear G B kB lB;refine⟨_,rfl,?_⟩)
   |(refine yp CM rfl #[.const nS,.tmp 60] #[22,23] rfl (ys:=#[nS,Sl xa xn xc]) (by simp[Act.eval,Act.put]) ((AS.o Y.drew KD.o).mono ?_);rintro e o ⟨sa,sc,rfl,G,B⟩;have S:=ua (uf KD.o B);obtain⟨W6,bk,kB,lB⟩:=CO 9 9 (BL.o o);have ax:=ua (qX (uk o L9) kB (λb hb e=>oM));have t:=ua (uf S.o ax.o);have DQ:=ua (DG.o _ W6 o.heap.size sa sc t.o lB (G.q ax.o));have HQ:=ua (λs f n=>ak.o W6 s f n t.o);obtain⟨o5,p5,l5⟩:=(OV.o.on S.o).x;obtain⟨r5,x5,m5⟩:=(Z.o.on S.o).x;obtain⟨o6,p6,l6⟩:=(OV.o.on t.o).x;obtain⟨r6,x6,m6⟩:=(Z.o.on t.o).x;clear G B kB lB;refine⟨_,rfl,?_⟩)
   |(refine yp DD rfl #[.tmp 54,.tmp 56,.tmp 62] #[22,3,73] rfl (ys:=#[Sl (Sm ib 0) il ic,Iv (m.h:Int),Sl (Sm _ 0) 2 2]) (by simp[Act.eval,Act.put]) (DQ.o.mono ?_);rintro e s ⟨tv,rfl,F,y⟩;obtain⟨f,n,af,_⟩:=id F;subst af;have HE:=ua (HQ.o s f n F y);obtain⟨u7,p8,l8⟩:=(Z.o.on (uf t.o y)).x;clear F y;refine⟨_,rfl,?_⟩))
  all_goals
   clear bw bt bq b3 b0 bx o5 p5 l5 r5 x5 m5 oA pA mA;go_wp2;go_meet;exact HE.o
end
end
section
open M (OpD uh Gr)
def Cj.m{lo n w w' v R C}(h:Cj lo w v R)(k:wA C w w')(j:∀b,lo<=b->¬C b)(l:n<=lo):Cj n w' v R:=by
 obtain⟨p,q,A,xc,na,nc,z,B,r,s,t,i,u,x,y⟩:=h;have st:∀b,b<w.heap.size->lo<=b->w'.heap[b]?=w.heap[b]?:=λb f l=>k.d b f (j b l)
 refine⟨p,q,A,xc,na,nc,z,oM,r,wN s k.h,t,(i.on (λb e=>st b oM e.1)).g (λb e=>⟨oM,e.2⟩),u.of i (λb e f=>st b f e.1),x.on (λb e=>st b oM oM),?_⟩;obtain⟨a,c,e,h⟩:=y.m k (λg D _=>j g oM);exact⟨a,c,e,λo=>let ⟨g,e1,e2,e3,e4⟩:=h o;⟨g,e1,e2,wX e3 k.h,e4⟩⟩
def Cj.a{lo w v R}(h:Cj lo w v R):∃e xc na nc g k,v=.agg #[Iv R.i,Iv R.f,Iv R.label,Iv R.h,Sl e R.j.length xc,Iv R.d,Iv R.b,Sl na R.a.length nc,Sl g R.text.length k]:=by
 obtain⟨p,q,e,xc,na,nc,l,_,_,_,h,_,_,_,a,c,rfl,_⟩:=h;exact⟨e,xc,na,nc,a,c,h⟩
section
variable {t:Tx} {il:Nat} {I:Nat->Int} {fU mO:Int} {R:kO} {g:Gr} {β a:Int}
def PP.bad(h:PP t il I fU mO R)(l:Jl fU mO)(k:RG t β a):R=Ga β a:=by
 obtain⟨e,m,k⟩:=k;have j:∀{g:Gr},Dd t 0 0 g->Ans g 0 0->False:=λb d=>by
  rcases k with k|⟨k,f⟩
  ·exact e (xN k b).1
  obtain⟨_,_,rfl⟩:=xN k b;exact e (f.a d).1
 cases h with
 |bounds h=>exact absurd l h
 |text _ b i =>
  rcases k with k|⟨k,_⟩
  ·obtain⟨rfl,rfl,_⟩:=xN k b;rfl
  exact aB (xN b k).1 i
 |check _ b d i =>
  rcases k with k|⟨k,f⟩
  ·exact aB (xN k b).1 e
  obtain⟨_,_,rfl⟩:=xN k b;obtain⟨rfl,rfl⟩:=f.a d;rfl
 |input _ b d=>exact(j b d).elim
 |run _ b d=>exact(j b d).elim
def PP.d(h:PP t il I fU mO R)(p:Jl fU mO)(e:Dd t 0 0 g)(n:Ans g 0 0):(4000<il/\R=Ga 7 4000)\/(il<=4000/\∃m,Ends (Hw g) (Kj g) il I fU mO s0 m/\(m.i=0\/m.i=1\/m.i=2\/m.i=3)/\Mj g.nb m/\RunR g il I m R):=by
 cases h with
 |bounds h=>exact absurd p h
 |text _ b β=>exact absurd (xN b e).1 β
 |check _ b o β=>obtain⟨_,_,rfl⟩:=xN b e;exact absurd (o.a n).1 β
 |input _ _ _ h=>exact .inl ⟨h,rfl⟩
 |run _ b _ h f j k l=>obtain⟨_,_,rfl⟩:=xN b e;exact .inr ⟨h,_,f,j,k,l⟩
def PP.o(h:PP t il I fU mO R)(a:¬Jl fU mO):R=Ga 4 0:=by
 cases h with
 |bounds h=>rfl
 |text h|check h|input h|run h=>exact absurd h a
def RunR.c{m:wD}(h:RunR g il I m R)(a:m.i=3):R=Ga 3 0:=by
 cases h with
 |out h=>rfl
 |ok h|label h|fail h=>omega
end
section
variable {t:Tx} {ga:Oa} {gc ib il ic:Nat} {I:Nat->Int} {fU mO:Int} {R:kO} {W:Wl} {P:Ew}
structure RrN(R:kO)(W:Wl)(P:Ew):Prop where
 ok:∀v W',Cj W.heap.size W' v R->Kf W W'->P (Rt (.tuple #[v,.nilIface])) W'
 bad:∀st C xs c a W',Flt C xs c a->R=Ga c a->Kf W W'->P (Rt (.tuple #[.agg Eh,.iface 104 (.agg #[.string st,.iface C (.agg xs)])])) W'
def uhR(hT:wB (Lo W) .u8 W ga t.n t.T)(hc:t.n<=gc)(hI:V.Tx W ib 0 il I)(hb:∀i,0<=I i/\I i<=255)(aj:il<=ic)(am:il<=1048576)(ak:V.Tab W)(hP:PP t il I fU mO R)(al:RrN R W P) :
  Cs 18 #[Sl ga t.n gc,Sl (Sm ib 0) il ic,Iv fU,Iv mO] W P:=by
 have B:=ua al;generalize hX:W.alloc (Oc #[Iv 0,Iv 0,Iv 0,Iv 0,nS,Iv 0,Iv 0,nS,nS] 26)=X;have A:Hid (Kf W X):=hX▸wU;have E:Hid (wJ X W.heap.size Eh):=hX▸Cm;have HT:=ua ((hT.q A.u).g (Q':=Lo X) (λb q=>wX q A.h));have HI:=ua hI;have HB:=ua hb;have af:=ua ak;have Q:=ua hP;have WB:=ua (LA fU mO X);go_enter func18,ntmps18;go_wp2_with fail;refine WB.mono ?_;rintro e X' ⟨rfl,hx⟩;subst X';by_cases H:Jl fU mO
 rotate_left
 ·have hd:decide (0<=fU/\fU<=50000/\0<=mO/\mO<=1000)=false:=Gv H;have o:=ua (λF k=>B.o.bad ⟨#[98,101,103,105,110,110,105,110,103]⟩ 102 #[Iv fU,Iv mO] 4 0 F (.bounds fU mO) (Q.o.o H) k);rw[hd];obtain⟨z,D,lz⟩:=E.x;unfold Eh at z o;go_wp2;refine wL (by simp[results,f18,go_sem,z]) rfl (o.o _ ?_);repeat with_reducible first|exact A.o|refine Hk ?_ wF
 have hd:decide (0<=fU/\fU<=50000/\0<=mO/\mO<=1000)=true:=Gi H;rw[hd];have L:=ua H;go_wp2_with fail;refine uet HT hc ⟨λg ra rc la lc W1 hp ha hG s=>?_,λC xs c a W1 hF hN s=>?_⟩
 rotate_left
 ·have o:=ua (λF k=>B.bad ⟨#[114,101,97,100,105,110,103,32,116,104,101,32,103,114,97,109,109,97,114]⟩ C xs c a F hF (Q.bad L hN) k);have S:=ua (A.c s);obtain⟨z,D,lz⟩:=(E.on s.u).x;unfold Eh at z o;go_wp2;refine wL (by simp[results,f18,go_sem,z,lz]) rfl (o.o _ ?_);repeat with_reducible first|exact S.o|refine Hk ?_ wF|refine wA.c ?_ wU
 have PG:=ua (Q.d L hp ha);obtain⟨hv,_⟩:=qZ hp;have HV:=ua hv;generalize hY:W1.alloc (Oc #[Sl ra g.nr rc,Sl la g.nb lc] 37)=Y;have r:Hid (Kf W1 Y):=hY▸wU;have S:=ua (A.c s);have GY:Hid (wJ Y W1.heap.size #[Sl ra g.nr rc,Sl la g.nb lc]):=hY▸Cm;have sY:Hid (Y.heap.size=W1.heap.size+1):=by rw[<-hY];show _=_;simp
 have RY:=ua ((E.on s.u).on r.u);have l1:=ua ((E.on s.u).x.2.2);have N:Hid (zC (Of Y) Y ra la g):=⟨((hG.q r.u).a).g (λb q=>wX q r.h),((hG.q r.u).c).g (λb q=>wX q r.h)⟩;obtain⟨z,D,lz⟩:=RY.x;obtain⟨gz,gp,gl⟩:=GY.x;have w:=ua (S.c r);rcases PG.o with⟨h4,hR⟩|⟨h4,m,hE,ai,ah,hR⟩
 ·have h4':(4000:Int)<(il:Int):=oM;have o:=ua (λF k=>B.bad ⟨#[116,97,107,105,110,103,32,116,104,101,32,105,110,112,117,116]⟩ 108 #[Iv il] 7 4000 F (.input il) hR k);unfold Eh at z o;go_wp2;refine wL (by simp[results,f18,go_sem,z]) rfl (o.o _ ?_);repeat with_reducible first|exact w.o|refine Hk ?_ wF
 have h4':¬(4000:Int)<(il:Int):=oM;have ac:=ua hR;have ag:=ua ah;have O:=ua (HI.q w.u);have ae:Hid (wB (Of Y) .u8 Y (Sm ib 0) il I):=by
  by_cases h0:il=0
  ·exact .inl h0
  exact .inr ⟨ib,0,rfl,O.lt oM,O⟩
 have RN:=ua (λ(P':Ew) (n:RM m Y P')=>uf9 (rc:=rc) (lc:=lc) (ic:=ic) HV N ae (λi _=>HB i) h4 L hE ai n);unfold Eh at z;go_wp2_with fail;refine RN _ ⟨λcd ps lb fa xa xn xc st th va vn vc W2 hO c3=>?_,λW2 hm J=>?_⟩
 rotate_left
 ·have o:=ua (λF k=>B.bad ⟨#[114,117,110,110,105,110,103]⟩ 121 #[Iv 3] 3 0 F (.run 3) (ac.c hm) k);have y:=ua (w.c J);obtain⟨z,D,lz⟩:=(RY.on J.u).x;unfold Eh at z o;go_wp2;refine wL (by simp[results,f18,go_sem,z,lz]) rfl (o.o _ ?_);repeat with_reducible first|exact y.o|refine Hk ?_ wF|refine wA.c ?_ wU
 generalize hZ:W2.alloc (Oc #[Iv cd,Iv ps,Iv lb,Iv fa,Sl xa xn xc,Iv st,Iv th,Sl va vn vc] 44)=Z;have KZ:Hid (Kf W2 Z):=hZ▸wU;have J:Kf Y W2:=wA.i hO.u (λ_ q _=>q);have p:=ua (J.c KZ);have y:=ua (w.c p);have OZ:Hid (wJ Z W2.heap.size #[Iv cd,Iv ps,Iv lb,Iv fa,Sl xa xn xc,Iv st,Iv th,Sl va vn vc]):=hZ▸Cm;have RZ:=ua (RY.on p.u);obtain⟨z,D,lz⟩:=RZ.x;obtain⟨oz,op,ol⟩:=OZ.x;obtain⟨gz,gp,gl⟩:=(GY.on p.u).x;have ad:Hid (zC (Of Z) Z ra la g):=⟨((N.q p.u).a).g (λb q=>wX q p.h),((N.q p.u).c).g (λb q=>wX q p.h)⟩;have HO:Hid (Ds (wM Y Z) m cd ps lb fa xa xn th va vn Y Z):=hO.mv (λb q=>KZ.o.d b q.2 id) (λb q=>⟨q.1,wX q.2 KZ.o.h⟩) p.o.u;have RO:=ua (λ(P':Ew) n=>utE (P:=P') (rc:=rc) (lc:=lc) (ic:=ic) (st:=st) (xc:=xc) (vc:=vc) HV ad (O.q p.u) HB h4 aj (af.on y.u) HO c3 ag ac n);go_wp2_with fail;refine RO _ λv G hM k3=>?_
 have HM:=ua hM;obtain⟨aa,ab,na,nc,ta,tc,hv⟩:=hM.a;have o:=ua (λF=>B.ok v F);subst hv;generalize R.j.length=xl at *;generalize R.a.length=nl at *;generalize R.text.length=tl at *;generalize R.i=r0 at *;generalize R.f=r1 at *;generalize R.label=r2 at *;generalize R.h=r3 at *;generalize R.d=r5 at *;generalize R.b=r6 at *;generalize hV:G.alloc (Oc #[Iv r0,Iv r1,Iv r2,Iv r3,Sl aa xl ab,Iv r5,Iv r6,Sl na nl nc,Sl ta tl tc] 26)=V;have U:Hid (Kf G V):=hV▸wU;have VV:Hid (wJ V G.heap.size #[Iv r0,Iv r1,Iv r2,Iv r3,Sl aa xl ab,Iv r5,Iv r6,Sl na nl nc,Sl ta tl tc]):=hV▸Cm;obtain⟨z,D,lz⟩:=((RZ.on k3).on U.u).x;obtain⟨vz,vp,vl⟩:=VV.x;have K4:=ua ((y.c (wA.i k3 (λ_ q _=>q))).c U);have HF:Hid (∀F,wA (λx=>x=W.heap.size) V F->Cj W.heap.size F (.agg #[Iv r0,Iv r1,Iv r2,Iv r3,Sl aa xl ab,Iv r5,Iv r6,Sl na nl nc,Sl ta tl tc]) R):=λF k=>HM.m ((U.l (λ_ q=>q.elim)).c k) (λb hb e=>oG sY l1) w.h
 have an:G.heap.size≠W.heap.size:=by have:=k3.size;have:=y.h;have:=RZ.x.2.2;omega
 unfold Eh at z;go_wp2;refine wL (by simp[results,f18,go_sem,z]) rfl (o.o _ (HF.o _ ?_) ?_)
 ·repeat with_reducible first|exact zM|refine wA.c ?_ (zP rfl)
 repeat with_reducible first|exact K4.o|refine Hk ?_ wF
def uoQ(hT:wB (Lo W) .u8 W ga t.n t.T)(hc:t.n<=gc)(hI:V.Tx W ib 0 il I)(hb:∀i,0<=I i/\I i<=255)(aa:il<=ic)(ab:il<=1048576)(ac:V.Tab W)(Z:Dm W)(hP:PP t il I fU mO R)(ad:∀v W',Cj W.heap.size W' v R->Kf W W'->P (Rt v) W') :
  Cs 6 #[Sl ga t.n gc,Sl (Sm ib 0) il ic,Iv fU,Iv mO] W P:=by
 have Y:=ua ad;generalize hX:W.alloc (Oc #[Iv 0,Iv 0,Iv 0,Iv 0,nS,Iv 0,Iv 0,nS,nS] 26)=X;have o:Hid (Kf W X):=hX▸wU;have A:Hid (wJ X W.heap.size Eh):=hX▸Cm;have U:=ua (Z.on (o.d _ (ud Z) id));have RR:=ua (λ(P':Ew) n=>uhR (P:=P') (gc:=gc) (ic:=ic) ((hT.q o.u).g (Q':=Lo X) (λb q=>wX q o.h)) hc (hI.q o.u) hb aa ab (ac.on o.u) hP n);have lX:Hid (W.heap.size<X.heap.size):=A.x.2.2;go_enter func6,ntmps6;go_wp2_with fail;refine RR _ ⟨λv W1 hM p=>?_,λst C xs c a W1 hF hR p=>?_⟩
 ·have HM:=ua hM;obtain⟨O,Q,na,nc,J,L,hv⟩:=hM.a;have r:=ua (λF=>Y v F);subst hv;generalize R.j.length=S at *;generalize R.a.length=B at *;generalize R.text.length=N at *;generalize R.i=D at *;generalize R.f=r1 at *;generalize R.label=r2 at *;generalize R.h=E at *;generalize R.d=G at *;generalize R.b=H at *;generalize hV:W1.alloc (Oc #[Iv D,Iv r1,Iv r2,Iv E,Sl O S Q,Iv G,Iv H,Sl na B nc,Sl J N L] 26)=V;have y:Hid (Kf W1 V):=hV▸wU;have VV:Hid (wJ V W1.heap.size #[Iv D,Iv r1,Iv r2,Iv E,Sl O S Q,Iv G,Iv H,Sl na B nc,Sl J N L]):=hV▸Cm;obtain⟨z,pz,lz⟩:=((A.on p.u).on y.u).x;obtain⟨vz,vp,vl⟩:=VV.x;have s:=ua ((o.c p).c y);have HF:Hid (∀F,wA (λx=>x=W.heap.size) V F->Cj W.heap.size F (.agg #[Iv D,Iv r1,Iv r2,Iv E,Sl O S Q,Iv G,Iv H,Sl na B nc,Sl J N L]) R):=λF k=>HM.o.m ((y.o.l (λ_ q=>q.elim)).c k) (λb hb e=>oH lX.o) o.o.h
  have ae:W1.heap.size≠W.heap.size:=oG p.h lX.o;unfold Eh at z;go_wp2;refine wL (by simp[results,f6,go_sem,z]) rfl (r.o _ (HF.o _ ?_) ?_)
  ·repeat with_reducible first|exact zM|refine wA.c ?_ (zP rfl)
  repeat with_reducible first|exact s.o|refine Hk ?_ wF
 have HR:=ua hR;have RV:=ua ((A.on p.u).al (Oc Eh 26));have s:=ua ((o.c p).c (wA.a _ _ (Oc Eh 26)));have RF:=ua (VI (w:=W1.alloc (Oc Eh 26)) (st:=st) hF (U.on ((p.c wU).d _ (ud U) id)));unfold Eh at RF ⊢;go_wp2_with fail;refine RF.mono ?_;rintro e W2 ⟨rfl,k2⟩;have K5:=ua (s.c k2);obtain⟨z,pz,lz⟩:=(RV.on k2.u).x;have r:=ua (λF (k:Kf W F)=>Y (Jf c a) F (by rw[HR.o];exact SA c a k.h) k);unfold Eh at z;unfold Jf at r ⊢;go_wp2;refine wL (by simp[results,f6,go_sem,z]) rfl (r.o _ ?_);repeat with_reducible first|exact K5.o|refine Hk ?_ wF
end
end
end Go.Proofs.YtoihadcablknpaaGreatDoor
