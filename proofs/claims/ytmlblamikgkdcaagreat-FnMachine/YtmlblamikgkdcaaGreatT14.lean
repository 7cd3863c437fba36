import Derived.Test.YtmlblamikgkdcaaGreatT10
import Derived.Test.YtmlblamikgkdcaaGreatT08
set_option linter.unusedVariables false
set_option linter.unusedSimpArgs false
set_option linter.defProp false
set_option maxHeartbeats 40000000
set_option maxRecDepth 100000
namespace Go.Proofs.YtmlblamikgkdcaaGreat
open Go.RowKit
open Go.Proofs.Tryz
open M (OpD ug Gr uw EX ins uT uag lk)
def Yg(m:Nat)(d:uw):Prop:=d.e=6\/d.e=8->∃n:Nat,n<m/\d.to=(n:Int)
def H0 m t(c:t.a m):∀p d,d∈uT (λn=>(n:Int)) t p->Yg m d:=by
 have e:∀k a z:Int,k≠6->k≠8->Yg m (ins k a z):=λk a z i j q=>by
  rcases q with q|q
  .exact aB q i
  exact aB q j
 induction t with
 |empty=>intro p d b;simp[uT]at b
 |set n S=>intro p d b;simp[uT]at b;subst b;intro q;rcases q with q|q<;>simp at q
 |ref n|thr l n=>intro p d b;simp[uT]at b;subst b;exact λ_=>⟨n,c,rfl⟩
 |seq x y g h =>
  intro p d b;rw[uT]at b;rcases By.1 b with q|q
  .exact g c.1 _ d q
  exact h c.2 _ d q
 |alt x y g h =>
  intro p d b;rw[uT]at b;rcases Dm.1 b with rfl|q
  .exact e _ _ _ dC dC
  rcases By.1 q with q|q
  .exact g c.1 _ d q
  rcases Dm.1 q with rfl|q
  .exact e _ _ _ dC dC
  exact h c.2 _ d q
 |star x f =>
  intro p d b;rw[uT]at b;rcases Dm.1 b with rfl|q
  .exact e _ _ _ dC dC
  rcases By.1 q with q|q
  .exact f c _ d q
  simp at q;subst q;exact e _ _ _ dC dC
 |not x f =>
  intro p d b;rw[uT]at b;rcases Dm.1 b with rfl|q
  .exact e _ _ _ dC dC
  rcases By.1 q with q|q
  .exact f c _ d q
  simp at q;subst q;exact e _ _ _ dC dC
def vZ(g:Gr)(k:Nat):List uw:=M.bG (λn=>(n:Int)) (Hl g) (Io g) (jo g) k
def jO g k:(vZ g k).length=PL g k:=M.dI _ _ _ _ _ _
def qu g k(h:0<(nd g k).bl):vZ g (k+1)=vZ g k++M.nodeC (λn=>(n:Int)) (Hl g k) (Io g k) (PL g k):=by
 have e:jo g k=true:=by simp[jo,h]
 unfold vZ;rw[M.bG,Zp e,show(M.bG (λn=>(n:Int)) (Hl g) (Io g) (jo g) k).length=PL g k from jO g k]
def DD g k(h:¬0<(nd g k).bl):vZ g (k+1)=vZ g k:=by
 have e:¬jo g k=true:=by simp[jo,h]
 unfold vZ;rw[M.bG,Zn e]
def LV g p:(Hl g p).e=9\/(Hl g p).e=10:=by
 unfold Hl;split
 .exact .inl rfl
 exact .inr rfl
def H1{g}(c:M.Valid g)k(n:k<=g.nr+g.nb):∀d,d∈vZ g k->Yg (g.nr+g.nb) d:=by
 have f:∀k a z:Int,k≠6->k≠8->Yg (g.nr+g.nb) (ins k a z):=λk a z j l q=>by
  rcases q with q|q
  .exact aB q j
  exact aB q l
 induction k with
 |zero =>
  intro d b;have hd':d=ins 6 0 ((0:Nat):Int)\/d=ins 12 0 0:=by simpa[vZ,M.bG] using b
  rcases hd' with rfl|rfl
  .exact λ_=>⟨0,by have:=c.r1;omega,rfl⟩
  exact f _ _ _ dC dC
 |succ k i =>
  intro d b;by_cases h:0<(nd g k).bl
  .rw[qu g k h]at b;rcases By.1 b with q|q
   .exact i oM d q
   unfold M.nodeC at q;rcases Dm.1 q with rfl|q
   .intro r;rcases LV g k with e|e<;>rw[e]at r<;>rcases r with r|r<;>cases r
   rcases By.1 q with q|q
   .have m:M.bC g.nr g.nb (nd g k).bl (nd g k).e:=(je c.a (show k<g.nr+g.nb by omega)).elim (λq=>oM) id;exact H0 _ _ (M.eM m.1) _ d q
   simp at q;rcases q with rfl|rfl<;>exact f _ _ _ dC dC
  rw[DD g k h]at b;exact i oM d b
def vT(g:Gr)(k:Nat):List Int:=(List.range k).map (Ee g)
def DE g k:vT g (k+1)=vT g k++[Ee g k]:=by
 unfold vT;rw[List.range_succ,Dt];rfl
def kQ g k:(vT g k).length=k:=by simp[vT]
def H2 g{k n}(h:n<k):(vT g k)[n]?=some (Ee g n):=by simp[vT,h]
def fG(g:Gr)(z:Int):Int:=Ee g z.toNat
def H3 g k:(vZ g k).map (lk (fG g))=xh g k:=by
 unfold vZ xh;rw[M.eL _ _ _ _ _ (LV g)];rfl
structure H4(w w':Wl)(v:Vl)(L:List IC)(P S:Np):Prop where
 k:zB P w' v 4 L.length (uQ L)
 m:Cb S w' L
 i:∀b j,S b->w'.frozen? (Ad b j)=false
 p:∀b,P b->zF w w' b/\¬S b
 s:∀b,S b->zF w w' b
 g:(Ja L).Nodup
def H5(g:Gr)(w:Wl)(e:Ending)(w':Wl):Prop :=
 (∃a n c L P S,e=Rt (.tuple #[Sl a n c,Iv 0])/\n=L.length/\L.map IC.d=xh g (g.nr+g.nb)/\H4 w w' (Sl a n c) L P S)/\Bw w w'
def LW(w0:Wl)(b:Nat)(u0 u1:Vl)(g:Gr)(n a:Nat)(c:Vl)(wr:Wl):Prop :=
 ∃(k:Nat) (L:List IC),k<=n/\c=Iv (k:Int)/\L.map IC.d=vZ g (a+k)/\CS w0 b u0 u1 L [] (vT g (a+k)) wr
def H6 w u0 u1 t:CS w w.heap.size u0 u1 [] [] [] (w.alloc (Oc #[u0,u1,nS,nS] t)):=by
 refine⟨λ_=>False,λ_=>False,λ_=>False,nS,nS,cN w.heap.size rfl rfl,cN w.heap.size rfl rfl,cN w.heap.size rfl rfl,cN w.heap.size rfl rfl,λj=>?_,.inl ⟨rfl,rfl,rfl⟩,.inl ⟨rfl,rfl,rfl⟩,λx a=>by simp at a,λb j q=>q.elim,λb q=>q.elim,λb q=>q.elim,λb q=>q.elim,⟨zD,sM⟩,by simp[Ja],zO w⟩;exact qU w t w.heap.size j zD sM
def H7 Q ra la rc lc g w(hG:zV Q w ra la g)(hs:vS g)(hv:M.Valid g) :
  Cs 9 #[.agg #[Sl ra g.nr rc,Sl la g.nb lc]] w (H5 g w):=by
 have HG:=ua hG;have u:=ua hv;go_enter func9,ntmps9;go_wp2_with fail;refine(D8 Q ra la rc lc g _ (HG.h (zO w)).a hs u).mono ?_;rintro e W1 ⟨rfl,D⟩;have W:=ue (a:=(Ad w.heap.size 0)) (v:=Sl ra g.nr rc) (cN w.heap.size rfl rfl) D;have g1:=ue (a:=(Ad w.heap.size 1)) (v:=Sl la g.nb lc) (cN w.heap.size rfl rfl) D;have B1:=ua (uf (zO w) D);have a5:=ud W;have h1:=u.r2;have h2:=u.l2;have aj:=ua (HG.h B1);have G0:=ua W;have G1:=ua g1;have C0:Hid (CS W1 W1.heap.size (Sl ra g.nr rc) (Sl la g.nb lc) [] [] [] (W1.alloc (Oc #[Sl ra g.nr rc,Sl la g.nb lc,nS,nS] 99))):=H6 W1 _ _ 99;go_wp2_with fail;refine(Vv W1 W1.heap.size _ _ [] [] _ 6 0 0 C0 sM).mono ?_;rintro e W2 ⟨rfl,C2⟩;go_wp2_with fail;refine(Vv W1 W1.heap.size _ _ ([]++[ic 6 0 0]) [] _ 12 0 0 C2 sM).mono ?_;rintro e W3 ⟨rfl,C3⟩;replace W:=ue G0 C3.q;replace g1:=ue G1 C3.q;have a6:=ud W;have az:=ZU u.a;have ak:=ua az;go_wp2;go_loopw [21] (λH wr=>LW W1 W1.heap.size (Sl ra g.nr rc) (Sl la g.nb lc) g g.nr 0 H wr) (λH _=>g.nr-(intOf H).toNat)
 .exact⟨0,[ic 6 0 0,ic 12 0 0],zK,rfl,rfl,C3⟩
 obtain⟨k,L,hk,rfl,I,C⟩:=hrel;rw[Bp]at I C;have E:=ua I;have t:Hid (CS W1 W1.heap.size (Sl ra g.nr rc) (Sl la g.nb lc) L [] (vT g k) wr):=C;have A:Hid (L.length=PL g k):=by show _=_;rw[<-jO,<-I,Bl]
 have ay:=ak k oM;have y0:=ue G0 C.q;have y1:=ue G1 C.q;have a2:=ud y0;by_cases y:k<g.nr
 .rcases aj.c with q|⟨b,off,rfl,hq,X⟩
  .omega
  let⟨⟨⟨na,nc,G,Z⟩,⟨ba,bc,o,D⟩⟩,⟨ae,af,U,Y⟩⟩:=X k y;obtain⟨rfl,rfl⟩:ba=ae/\bc=af:=by rw[U]at o;simp at o;exact⟨o.1.symm,o.2.symm⟩
  have HB:Hid (zM Q W1 ba (g.a k).bl (g.a k).e):=D;have aa:Hid ((g.a k).bl<=bc):=Y;replace G:=ue G t.q;replace o:=ue o t.q;have lb:=ud G;have J:Hid (M.bC g.nr g.nb (g.a k).bl (g.a k).e):=u.rb k y;have B:0<(nd g k).bl:=by
   rw[vY g y];by_cases q:(g.a k).bl=0
   .have:=J.2.2;rw[q,M.dep]at this;omega
   omega
  have ad:=qu g k B;have N:Hid (Ee g k=(PL g k:Int)):=by show _=_;rw[Ux,Zp B]
  have T:=BV u.a (show k<g.nr+g.nb by omega);rw[vY g y]at T;have ab:Hid ((g.a k).bl<=2000):=T;have ac:Hid (vZ g (k+1)=vZ g k++M.nodeC (λn=>(n:Int)) (ins 9 (k:Int) 0) (M.bR g.nr (g.a k).bl (g.a k).e) L.length):=by
   show _=_;rw[ad,A.o];unfold Hl Io;rw[Zp y,vY g y]
  have hk':(k:Int)<(g.nr:Int):=oM;go_wp2_with fail;refine(MB W1 W1.heap.size Q (Sm b off) la ba rc lc (g.a k).bl bc g h1 h2 (g.a k).e ab.o aa.o J.o HB.o L (vT g k) 9 (k:Int) _ (t.o.h (zO wr)) (oH A.o) (by rw[kQ];omega)).mono ?_;rintro e W5 ⟨⟨v5,rfl⟩,K,R,hc⟩;have HM:=ua R;have C5:=ua hc;go_wp2;go_roundw
  .refine⟨k+1,L++K,oM,by go_num,?_,?_⟩
   .rw[Bp,ac.o,Dt,E.o,HM.o]
   rw[Bp,DE,N.o,<-A.o];exact C5
  simp[intOf];omega
 obtain rfl:k=g.nr:=oM;go_wp2;go_loopw [35] (λH wr=>LW W1 W1.heap.size (Sl ra g.nr rc) (Sl la g.nb lc) g g.nb g.nr H wr) (λH _=>g.nb-(intOf H).toNat)
 .exact⟨0,L,zK,rfl,by rw[Dy];exact E,by rw[Dy];exact t⟩
 obtain⟨k,L,hk,rfl,I,C⟩:=hrel;have E:Hid (L.map IC.d=vZ g (g.nr+k)):=I;have t:Hid (CS W1 W1.heap.size (Sl ra g.nr rc) (Sl la g.nb lc) L [] (vT g (g.nr+k)) wr):=C;have A:Hid (L.length=PL g (g.nr+k)):=by show _=_;rw[<-jO,<-I,Bl]
 have ay:=ak (g.nr+k) oM;have y0:=ue G0 C.q;have y1:=ue G1 C.q;have a2:=ud y0;by_cases y:k<g.nb
 .rcases aj.e with q|⟨b,off,rfl,hq,X⟩
  .omega
  let⟨⟨⟨na,nc,G,Z⟩,V,⟨ba,bc,o,D⟩⟩,⟨ae,af,U,Y⟩⟩:=X k y;obtain⟨rfl,rfl⟩:ba=ae/\bc=af:=by rw[U]at o;simp at o;exact⟨o.1.symm,o.2.symm⟩
  have HB:Hid (zM Q W1 ba (g.d k).bl (g.d k).e):=D;have aa:Hid ((g.d k).bl<=bc):=Y;replace G:=ue G t.q;replace o:=ue o t.q;replace V:=ue V t.q;have lb:=ud G;have hk':(k:Int)<(g.nb:Int):=oM;cases O:(g.d k).j with
  |true =>
   rw[O]at V;have J:Hid (M.bC g.nr g.nb (g.d k).bl (g.d k).e):=u.lb k y O;have B:0<(nd g (g.nr+k)).bl:=by
    rw[yZ];by_cases q:(g.d k).bl=0
    .have:=J.2.2;rw[q,M.dep]at this;omega
    omega
   have ad:=qu g (g.nr+k) B;have N:Hid (Ee g (g.nr+k)=(PL g (g.nr+k):Int)):=(by show _=_;rw[Ux,Zp B]);have T:=BV u.a (show g.nr+k<g.nr+g.nb by omega);rw[yZ]at T;have ab:Hid ((g.d k).bl<=2000):=T;have ac:Hid (vZ g (g.nr+(k+1))=vZ g (g.nr+k)++M.nodeC (λn=>(n:Int)) (ins 10 (k:Int) 0) (M.bR g.nr (g.d k).bl (g.d k).e) L.length):=by
    show vZ g (g.nr+k+1)=_;rw[ad,A.o];unfold Hl Io;rw[Zn oM,yZ,show g.nr+k-g.nr=k by omega]
   go_wp2_with fail;refine(MB W1 W1.heap.size Q ra (Sm b off) ba rc lc (g.d k).bl bc g h1 h2 (g.d k).e ab.o aa.o J.o HB.o L (vT g (g.nr+k)) 10 (k:Int) _ (t.o.h (zO wr)) (oH A.o) (by rw[kQ];omega)).mono ?_;rintro e W5 ⟨⟨v5,rfl⟩,K,R,hc⟩;have HM:=ua R;have C5:=ua hc;go_wp2;go_roundw
   .refine⟨k+1,L++K,oM,by go_num,?_,?_⟩
    .rw[ac.o,Dt,E.o,HM.o]
    show CS _ _ _ _ _ _ (vT g (g.nr+k+1)) _;rw[DE,N.o,<-A.o];exact C5
   simp[intOf];omega
  |false =>
   rw[O]at V;have B:¬0<(nd g (g.nr+k)).bl:=(by rw[yZ,u.o.lz k y O];omega);have ao:Hid (vZ g (g.nr+(k+1))=vZ g (g.nr+k)):=DD g (g.nr+k) B;have N:Hid (Ee g (g.nr+k) = -1):=(by show _=_;rw[Ux,Zn B]);let⟨P,F,S,vp,vf,l⟩:=t.h (uk wr (Oc #[Sl na (g.d k).nl nc,Bf,Sl ba (g.d k).bl bc] 69));obtain⟨fa,fc,rfl⟩:=uj l.d;rw[kQ]at l;have HP:=ua l;have f3:=l.f;have a1:=l.c.2;clear X Z D Y U B hq O l;have XB:Hid (CP W1 W1.heap.size (Sl ra g.nr rc) (Sl (Sm b off) g.nb lc) L [] (vT g (g.nr+k)) ((wr.alloc (Oc #[Sl na (g.d k).nl nc,Bf,Sl ba (g.d k).bl bc] 69)).alloc (Oc #[Iv (-1)] 3)) P F S vp (Sl fa (g.nr+k) fc)):=HP.o.h Bi;have XS:=MA (wr.alloc (Oc #[Sl na (g.d k).nl nc,Bf,Sl ba (g.d k).bl bc] 69)) (-1);rw[Ck]at XS;have aq:=XS;clear XS;go_wp2_with (at_builtin;refine jM rfl _ _ 25 25 rfl rfl rfl jE XB.d aq (by rw[kQ];omega) ?_;intro v' W4 ai ah a0;have am:=XB.s ai ah;have ag:=ah.d W1.heap.size XB.c.2 (λq=>(XB.rf W1.heap.size q).2.2.1 rfl);have r2:W4.cell? (Ad W1.heap.size 3)=some (Sl fa (g.nr+k) fc):=(Bd (a:=(Ad W1.heap.size 3)) ag).trans XB.f;have r3:W4.frozen? (Ad W1.heap.size 3)=false:=(Dp (a:=(Ad W1.heap.size 3)) ag).trans (XB.r 3);obtain⟨a4,c4,rfl⟩:=uj ai;have C4:Hid (CS W1 W1.heap.size (Sl ra g.nr rc) (Sl (Sm b off) g.nb lc) L [] (vT g (g.nr+k)++[-1]) (W4.setCell (Ad W1.heap.size 3) (Sl a4 ((vT g (g.nr+k)).length+1) c4))):=am;have a7:W1.heap.size<W4.heap.size:=ud r2;clear ai ah a0 am ag);go_roundw
   .refine⟨k+1,L,oM,by go_num,?_,?_⟩
    .rw[ao.o];exact E.o
    show CS _ _ _ _ _ _ (vT g (g.nr+k+1)) _;rw[DE,N.o];exact C4
   simp[intOf];omega
 obtain rfl:k=g.nb:=oM;have ap:Hid (∀(i:Nat) (x:IC),L[i]?=some x->x.d.e=6\/x.d.e=8->∃n:Nat,x.d.to=(n:Int)/\(vT g (g.nr+g.nb))[n]?=some (fG g x.d.to)):=λi x hx av=>by
  have R:x.d∈vZ g (g.nr+g.nb):=by rw[<-E.o];exact Gj.2 ⟨x,Cn hx,rfl⟩
  let⟨n,Z,he⟩:=H1 u.o (g.nr+g.nb) zD x.d R av;refine⟨n,he,?_⟩;rw[he,H2 g Z];rfl
 have aw:0<L.length:=by
  have h3:=A.o;have h4:(vZ g 0).length<=(vZ g (g.nr+g.nb)).length:=by
   have:∀j,(vZ g 0).length<=(vZ g j).length:=by
    intro j;induction j with
    |zero=>exact zD
    |succ j ih =>
     by_cases q:0<(nd g j).bl
     .rw[qu g j q,zJ];omega
     rw[DD g j q];exact ih
   exact this _
  rw[jO,jO]at h4;have h5:PL g 0=2:=rfl;omega
 go_wp2_with fail;refine(J4 W1 W1.heap.size _ _ L (vT g (g.nr+g.nb)) (fG g) _ t.o aw (oH A.o) (by rw[kQ];omega) ap.o).mono ?_;rintro e W6 ⟨⟨v6,rfl⟩,au⟩;obtain⟨P,F,S,vp,vf,l⟩:=au;obtain⟨pa,pc,rfl⟩:=uj l.k;have HP:=ua l;have p2:=l.p;have a1:=l.c.2;go_wp2;refine zL (by simp[results,f9,go_sem];rfl) rfl ?_;have l:=HP;have an:=l.m;have al:=l.g;rw[Dl]at an al;have a3:=B1.size;have ax:zB P W6 (Sl pa L.length pc) 4 (L.map (Jp (fG g))).length (uQ (L.map (Jp (fG g)))):=by
  have:=l.k;rw[Bl]at this ⊢;exact this
 refine⟨⟨pa,_,pc,L.map (Jp (fG g)),P,S,rfl,(Bl _).symm,?_,ax,an,l.i,?_,?_,al⟩,uf B1 l.q⟩
 .rw[<-H3,<-E.o,List.map_map,List.map_map];rfl
 .intro z hz;have:=l.rp z hz;exact⟨⟨oM,this.2.1⟩,this.2.2.2.2⟩
 intro z hz;have:=l.rs z hz;exact⟨oM,this.2.1⟩
def bytesOf(s:ByteArray):List Int:=s.data.toList.map λb=>(b.toNat:Int)
def OS s:(bytesOf s).length=s.size:=by unfold bytesOf;rw[Bl,Ph];rfl
def OT(z:LI)(w w':Wl)(v:Vl):Prop:=∃na nc,v=Sl na z.length nc/\Ints (zF w w') .u8 w' na z.length (lf z)/\Kf w w'
def T1 w s:(convert 9 22 (.string s)).run prog w=.ok (Sl (Sm w.heap.size 0) s.size (grownCap w s.size 0 5)) (Lib.bytesWorld w 5 s) :=
 Vj (P:=prog) w 9 22 5 s underlying9 underlying22 underlying5
def T2 w s:OT (bytesOf s) w (Lib.bytesWorld w 5 s) (Sl (Sm w.heap.size 0) s.size (grownCap w s.size 0 5)):=by
 have c:=Vk w 5 s;refine⟨_,_,by rw[OS],.inr ⟨w.heap.size,0,rfl,⟨zD,oM⟩,λj a=>?_⟩,⟨rfl,rfl,rfl,oM,λk b _=>Vm w 5 s k b⟩⟩;rw[OS]at a;rw[Bp,Lib.bytesWorld_cell w 5 s j a];have hj':j<s.data.toList.length:=by rw[Ph];exact a
 simp only[lf,bytesOf,El,Ev];rw[Bb hj'];rfl
def OU{ops:Array Oper}{rest o a b w}(i:o.guard=none)x(j:o.op=.convert 9 22 x){s}(k:a.eval x=.string s)(h:∀na nc w',Ints (zF w w') .u8 w' na (bytesOf s).length (lf (bytesOf s))->Kf w w'->wpList prog ops b rest (a.put o.dst (Sl na (bytesOf s).length nc)) w'):wpList prog ops b (o::rest) a w:=by
 refine wpList_plain i λK g=>?_;let⟨na,nc,e,d,f⟩:=T2 w s;have c:=T1 w s;rw[e]at c;unfold Oper.wp execOp;simp only[j,Nl,Nm,Pf,k,c];exact g _ _ (h na nc _ d f)
def xJ(u:Nat):List UInt8:=if h:u<10 then [UInt8.ofNat (48+u)] else xJ (u / 10)++[UInt8.ofNat (48+u%10)]
termination_by u
decreasing_by omega
def ES{u}(h:u<10):xJ u = [UInt8.ofNat (48+u)]:=by rw[xJ,dif_pos h]
def OV(u:Nat)(h:u<10)w:Cs 82 #[Iv u] w λe w'=>e=Rt (.string ⟨(xJ u).toArray⟩)/\w'=w:=by
 rw[ES h];have a:(u:Int)<10:=oM;go_enter func82,ntmps82;obtain rfl|rfl|rfl|rfl|rfl|rfl|rfl|rfl|rfl|rfl:u=0\/u=1\/u=2\/u=3\/u=4\/u=5\/u=6\/u=7\/u=8\/u=9:=oM;all_goals
  go_wp2;go_ret;exact⟨rfl,rfl⟩
def T3(a b:List UInt8):(⟨a.toArray⟩:ByteArray)++(⟨b.toArray⟩:ByteArray)=⟨(a++b).toArray⟩:=by
 apply ByteArray.ext;simp
def Wg u:(xJ u).length<=u+1:=by
 induction u using Nat.strongRecOn with
 |_ u a =>
  by_cases h:u<10
  .rw[ES h];simp
  have:=a (u / 10) oM;rw[xJ,dif_neg h];simp;omega
def ET(u:Nat)(m:u<=8388608)w:Cs 82 #[Iv u] w λe w'=>e=Rt (.string ⟨(xJ u).toArray⟩)/\w'=w:=by
 induction u using Nat.strongRecOn generalizing w with
 |_ u c =>
  by_cases h:u<10
  .exact OV u h w
  have j:Int.tdiv (u:Int) 10=((u / 10:Nat):Int):=by rw[Int.tdiv_eq_ediv_of_nonneg oM];omega
  have k:Int.tmod (u:Int) 10=((u%10:Nat):Int):=by rw[Yc oM];omega
  have i:¬((u:Int)<10):=oM;have d:=c (u / 10) oM oM;have f:=OV (u%10) oM;have b:xJ u=xJ (u / 10)++xJ (u%10):=by
   rw[ES (show u%10<10 by omega)]
   conv=>lhs;rw[xJ,dif_neg h]
  have a:=T3 (xJ (u / 10)) (xJ (u%10));rw[b,<-a];have g:=Wg (u / 10);have l2:=Wg (u%10);have l:¬(9223372036854775807<(⟨(xJ (u / 10)).toArray⟩:ByteArray).size+(⟨(xJ (u%10)).toArray⟩:ByteArray).size):=by
   show ¬(9223372036854775807<(xJ (u / 10)).length+(xJ (u%10)).length);omega
  clear a b c g l2;generalize n:(⟨(xJ (u / 10)).toArray⟩:ByteArray)=x at *;generalize o:(⟨(xJ (u%10)).toArray⟩:ByteArray)=y at *;go_enter func82,ntmps82;go_wp2_with fail;refine(d _).mono ?_;rintro e w1 ⟨rfl,rfl⟩;go_wp2_with fail;refine(f _).mono ?_;rintro e p ⟨rfl,rfl⟩;go_wp2;go_ret;exact⟨rfl,rfl⟩
def T4(i:Nat)(g:i<=1048576)w:Cs 121 #[Iv (i:Int)] w λe w'=>∃v,e=Rt v/\OT [((115+i%8:Nat):Int)] w w' v:=by
 let⟨q,f⟩:=nm (i%8);have hq':(i:Int)%8=(q:Int):=oM;have h:q<8:=oM;rw[f];go_enter func121,ntmps121;rcases(show q=0\/q=1\/q=2\/q=3\/q=4\/q=5\/q=6\/q=7 by omega) with rfl|rfl|rfl|rfl|rfl|rfl|rfl|rfl;all_goals
  go_wp2_with (refine OU rfl _ rfl rfl ?_;intro na nc w' a b;have c:Hid (Ints (zF w w') .u8 w' na 1 (lf _)):=a;have d:Hid (Kf w w'):=b;clear a b);go_ret;exact⟨_,rfl,na,nc,rfl,c,d⟩
def Kl(k n c:Nat)(b:List OpD):List OpD:=if k=0/\c%3=1/\1<n then uM 4 b (uv 2 1) else b
def Ld(k c:Nat)(b:List OpD):List OpD:=if k=0/\c%4=1 then uM 4 b (Bq 7 (uL [0,255])) else b
def Mf(k m c:Nat)(b:List OpD):List OpD:=if k=0/\c%5=1/\0<m then uM 4 (uM 5 (uL (vB 97)) (uv 3 0)) b else b
def vD(t:Tp)(n m a:Nat):Nat->List NL×Nat
 |0=>([],a)
 |k+1 =>
  let p:=vD t n m a k
  let b:=yo t k n m 5 false p.2
  (p.1++[⟨[((115+k%8:Nat):Int)],true,Mf k m (t.v b.2) (Ld k (t.v b.2) (Kl k n (t.v b.2) b.1))⟩],t.n b.2)
def O7 args w:(callFunc 121 args).run prog w=.ok (.enter 121 args) w:=by
 simp[callFunc,func121,f121,go_sem]
def qx args w:(callFunc 54 args).run prog w=.ok (.enter 54 args) w:=by
 simp[callFunc,func54,f54,go_sem]
def NP(t:Tp)(R c:Nat)(a:Wl)(n m e:Nat)(f:Vl)(wr:Wl):Prop :=
 ∃(k:Nat) (G:Nat->Nat) (rs:List GC) (g:Vl),k<=n/\f=Iv (k:Int)/\Ay c a G wr g nS rs []/\rs.map (·.d)=(vD t n m e k).1/\Ch t R wr (vD t n m e k).2/\zA (λb=>b=R\/b=c) a wr
def NQ{t e R i n o j wr W2 W4 G B A v rs ls}(D:R<e)(E:e<j.heap.size)(h:Ay e j G W2 B A rs ls)(w:n≠3)(z:zA (λb=>b=R\/b=e) j wr)(k:zA (λb=>b=R) wr W2)(g4:zT (Tg G W2 n) W2 W4)(u:Ch t R W2 i) :
  Ch t R (W4.setCell (Ad e o) v) i/\zA (λb=>b=R\/b=e) j (W4.setCell (Ad e o) v):=by
 have r:∀b,Tg G W2 n b->j.heap.size<=b:=λb q=>h.gr.a b (by rw[q.2];exact w);have kk:zA (λb=>b=R\/b=e) j W2:=z.c (k.h (λb q=>.inl q));refine⟨(u.y g4.m (λb q=>oH (r b q))).y (Dh (C:=λb=>b=e) rfl) (λb q=>oM),?_⟩;have x:zA (λb=>b=R\/b=e) j W4:=⟨g4.os.trans kk.os,g4.g.trans kk.g,g4.f.trans kk.f,zP kk.l g4.l,λb p s=>(g4.d b (Ba p kk.l) (λq=>oH (r b q))).trans (kk.d b p s)⟩;exact x.c (Dh (.inr rfl))
def qy t n m a k:(vD t n m a k).1.length=k:=by
 induction k with
 |zero=>rfl
 |succ k b=>rw[vD];simp[b]
def O8{t R c b W n m g k h rs p z E D na ba nc bc v}(o:k<n)(q:rs.map (·.d)=p)(f:vD t n m g (k+1)=(p++[⟨z,true,E⟩],h))(j:E=D)(i:∃a,Ay c b a W v nS (rs++[⟨⟨z,true,D⟩,na,nc,ba,bc⟩]) [])(e:Ch t R W h/\zA (λx=>x=R\/x=c) b W):NP t R c b n m g (Iv ((k+1:Nat):Int)) W:=by
 obtain⟨a,l⟩:=i;refine⟨k+1,a,_,v,o,rfl,l,?_,?_,e.2⟩
 .rw[f,Dt,q,j];rfl
 rw[f];exact e.1
structure Lb(lb:Nat)(w:Wl)(v0:Vl)(hs:Bool)(v2:Vl):Prop where
 c0:w.cell? (Ad lb 0)=some v0
 c1:w.cell? (Ad lb 1)=some (.bool hs)
 c2:w.cell? (Ad lb 2)=some v2
 f1:w.frozen? (Ad lb 1)=false
 f2:w.frozen? (Ad lb 2)=false
def Lb.y{lb w w' e v2 c C}(h:Lb lb w e c v2)(k:zA C w w')(f:¬C lb):Lb lb w' e c v2:=by
 have b:=k.d lb (ud h.c0) f;exact⟨(Bd (a:=(Ad lb 0)) b).trans h.c0,(Bd (a:=(Ad lb 1)) b).trans h.c1,(Bd (a:=(Ad lb 2)) b).trans h.c2,(Dp (a:=(Ad lb 1)) b).trans h.f1,(Dp (a:=(Ad lb 2)) b).trans h.f2⟩
def Lb.a{lb w b v2 c}(h:Lb lb w b c v2)x:Lb lb (w.setCell (Ad lb 1) (.bool x)) b x v2 :=
 ⟨(La sM).trans h.c0,Jm (by rw[h.c1];rfl),(La sM).trans h.c2,by rw[Et];exact h.f1,by rw[Et];exact h.f2⟩
def Lb.c{lb w b v2 a}(h:Lb lb w b a v2)x:Lb lb (w.setCell (Ad lb 2) x) b a x :=
 ⟨(La sM).trans h.c0,(La sM).trans h.c1,Jm (by rw[h.c2];rfl),by rw[Et];exact h.f1,by rw[Et];exact h.f2⟩
def DT{C w W}(h:zA C w W){b o v}(i:w.heap.size<=b):zA C w (W.setCell (Ad b o) v) :=
 ⟨h.os,h.g,h.f,by rw[uh];exact h.l,λx c a=>(Bn (λe=>by have e':x=b:=e;omega)).trans (h.d x c a)⟩
def zE.set{t R i w W}(h:zE t R i w W){b o v}(a:w.heap.size<=b)(c:R<b):zE t R i w (W.setCell (Ad b o) v) :=
 ⟨h.1.y (Dh (C:=λx=>x=b) rfl) (λx e=>oM),DT h.2 a⟩
def O9(w:Wl)(b:Vl){t}:Lb w.heap.size (w.alloc (Oc #[b,Bf,nS] t)) b false nS:=by
 have a:=Eo w (Oc #[b,Bf,nS] t);refine⟨?_,?_,?_,?_,?_⟩
 .simp only[World.cell?,a];rfl
 .simp only[World.cell?,a];rfl
 .simp only[World.cell?,a];rfl
 .simp only[World.frozen?,a];rfl
 simp only[World.frozen?,a];rfl
def Ny(k:Nat):List Int:=if k=0 then [101,49] else if k=1 then [101,114,114] else [109,105,100,95,50]
def Rh(t:Tp)(n i:Nat):(Bool×List OpD)×Nat :=
 if t.v i%8<6 then
  if t.v i%8<2 then ((true,Bq 6 (uM 4 (Bq 7 (uL (yg t (t.n i)).1)) (uL [0,255]))),(yg t (t.n i)).2)
  else if t.v i%8=2 then ((true,uv 0 0),t.n i)
  else if t.v i%8=3 then ((true,uL [0,255]),t.n i)
  else ((true,(yo t n n 0 3 false (t.n i)).1),(yo t n n 0 3 false (t.n i)).2)
 else ((false,[]),t.n i)
def vy(t:Tp)(n a:Nat):Nat->List NL×Nat
 |0=>([],a)
 |k+1=>((vy t n a k).1++[⟨Ny k,(Rh t n (vy t n a k).2).1.1,(Rh t n (vy t n a k).2).1.2⟩],(Rh t n (vy t n a k).2).2)
def qz t n a k:(vy t n a k).1.length=k:=by
 induction k with
 |zero=>rfl
 |succ k b=>rw[vy];simp[b]
def jp(a:List OpD)(i:Nat):Bool:=a.any λo=>decide (o.e=3)&&decide (o.f=(i:Int))
def P0 b i:M.bQ b.length (df b) i↔jp b i=true:=by
 unfold jp;rw[List.any_eq_true];constructor
 .rintro⟨j,a,c,d⟩;rw[Px (Bb a)]at c d;exact⟨b[j],Gi a,by simp[c,d]⟩
 rintro⟨o,e,h⟩;obtain⟨j,a,rfl⟩:=List.getElem_of_mem e;simp at h;exact⟨j,a,by rw[Px (Bb a)];exact h.1,by rw[Px (Bb a)];exact h.2⟩
def Tm(rs:List NL)(i:Nat)(x:NL):NL:=if x.j then x else if rs.any (λr=>jp r.bd i) then ⟨x.nm,false,[]⟩ else ⟨x.nm,true,uv 0 0⟩
def vM(rs:List NL)(ls:List NL)(k:Nat):List NL:=ls.mapIdx λi x=>if i<k then Tm rs i x else x
def vG(t:Tp)(i:Nat):(List NL×List NL)×Nat :=
 let n:=1+t.v i%4
 let m:=t.v (t.n i)%4
 let p:=vD t n m (t.n (t.n i)) n
 let q:=vy t n p.2 m
 ((p.1,vM p.1 q.1 m),q.2)
def DU(t:Tp)(R:Nat)(g:(List NL×List NL)×Nat)(w:Wl)(e:Ending)(w':Wl):Prop :=
 ∃b a G rs ls,e=Rt (.agg #[b,a])/\Cp w G w' b a rs ls/\rs.map (·.d)=g.1.1/\ls.map (·.d)=g.1.2/\zE t R g.2 w w'
def P1{t R i lb wr f h j d a n v2 l na ba bc z D}(s:zE t R i wr a)(p:Lb lb d n l v2)(r:Ints (zF f h) .u8 d na z.length (lf z))(k:zA (λb=>b=R) d a)(u:zQ (zF d a) a (Sl ba D.length bc) D)(v:lb=h.heap.size)(w:j.heap.size=lb+1)(x:j.heap.size<=d.heap.size)(o:wr.heap.size<=lb)(A:R<wr.heap.size)(B:wr.heap.size<=f.heap.size) :
  Lb lb (a.setCell (Ad lb 2) (Sl ba D.length bc)) n l (Sl ba D.length bc)/\zQ (zF j (a.setCell (Ad lb 2) (Sl ba D.length bc))) (a.setCell (Ad lb 2) (Sl ba D.length bc)) (Sl ba D.length bc) D/\zE t R i wr (a.setCell (Ad lb 2) (Sl ba D.length bc))/\Ints (zF f h) .u8 (a.setCell (Ad lb 2) (Sl ba D.length bc)) na z.length (lf z):=by
 refine⟨(p.y k (λe=>oM)).c _,(u.on (λb q=>Bn (λe=>by have e':b=lb:=e;have:=q.1;omega))).g (λb q=>⟨by have:=q.1;omega,by rw[uh];exact q.2⟩),s.set o oM,?_⟩;exact(r.m k (λb q e=>oH q.1)).m (Dh (C:=λb=>b=lb) rfl) (λb q e=>oH q.2)
def Yq{R w X Y C}(h:zA (λb=>b=R) w X)(k:zA C X Y)(i:∀b,C b->b=R\/w.heap.size<=b):zA (λb=>b=R) w Y :=
 ⟨k.os.trans h.os,k.g.trans h.g,k.f.trans h.f,zP h.l k.l,λb a c=>(k.d b (Ba a h.l) (λq=>by
  rcases i b q with e|e
  .exact c e
  omega)).trans (h.d b a c)⟩
def Ay.g{b w0 w G k rs ls g n c i j x y u}(h:Ay b w0 G w k (Sl (Sm g 0) n c) rs ls)(r:ls[i]?=some x)(o:j<3)(s:Ef y=(Ef x).set j u)(f:Tg G w 1 g)(p:Ints (Tg G w 2) .u8 w y.na y.d.nm.length (lf y.d.nm))(m:zQ (Tg G w (5+2*i)) w (Sl y.ba y.d.bd.length y.bc) y.d.bd) :
  Ay b w0 G (w.setCell (Ad g (i*3+j)) u) k (Sl (Sm g 0) n c) rs (ls.set i y):=by
 have q:b≠g:=λe=>by have l:=f.2;rw[<-e,h.tg]at l;omega
 have hb':(w.setCell (Ad g (i*3+j)) u).heap[b]?=w.heap[b]?:=Bn q;exact⟨(Bd (a:=(Ad b 0)) hb').trans h.c0,(Bd (a:=(Ad b 1)) hb').trans h.c1,(Dp (a:=(Ad b 0)) hb').trans h.f0,(Dp (a:=(Ad b 1)) hb').trans h.f1,h.gr.g r o s f p m,h.tg,by rw[uh];exact h.lt,by rw[uh];exact h.le⟩
def Ay.m{b w0 w G k rs ls g n c i j x y u}(h:Ay b w0 G w (Sl (Sm g 0) n c) k rs ls)(s:rs[i]?=some x)(p:j<2)(t:Fu y=(Fu x).set j u)(f:Tg G w 0 g)(q:Ints (Tg G w 2) .u8 w y.na y.d.nm.length (lf y.d.nm))(o:zQ (Tg G w (4+2*i)) w (Sl y.ba y.d.bd.length y.bc) y.d.bd) :
  Ay b w0 G (w.setCell (Ad g (i*2+j)) u) (Sl (Sm g 0) n c) k (rs.set i y) ls:=by
 have r:b≠g:=λe=>by have l:=f.2;rw[<-e,h.tg]at l;omega
 have hb':(w.setCell (Ad g (i*2+j)) u).heap[b]?=w.heap[b]?:=Bn r;exact⟨(Bd (a:=(Ad b 0)) hb').trans h.c0,(Bd (a:=(Ad b 1)) hb').trans h.c1,(Dp (a:=(Ad b 0)) hb').trans h.f0,(Dp (a:=(Ad b 1)) hb').trans h.f1,h.gr.m s p t f q o,h.tg,by rw[uh];exact h.lt,by rw[uh];exact h.le⟩
def Ay.b{c w0 w w' G e d v rs ls D}(h:Ay c w0 G w e d rs ls)(k:Kf w w')(f:zQ (zF w w') w' v D)a:Ay c w0 (vV G w a) w' e d rs ls/\zQ (Tg (vV G w a) w' a) w' v D :=
 ⟨h.h k (λ_ q=>q.elim) a,f.g (λb q=>Yp q)⟩
def FF(a:Nat)(w0 w W1:Wl)(g f:Vl)(rs:List GC)(c:List NL)(e:Vl)(wr:Wl):Prop :=
 ∃(k:Nat) (G:Nat->Nat) (ls:List GC),k<=c.length/\e=Iv (k:Int)/\Ay a w0 G wr g f rs ls/\ls.map (·.d)=vM (rs.map (·.d)) c k/\zA (λb=>w0.heap.size<=b/\b<w.heap.size) W1 wr/\G (a+1)=3
def Wp(a:Nat)(w0 w W1:Wl)(f e:Vl)(rs:List GC)(L:List NL)(k:Nat)(z:LI)(c:Vl)(wr:Wl):Prop :=
 ∃(j:Nat) (G:Nat->Nat) (ls:List GC) (x:GC),j<=rs.length/\c=Iv (j:Int)/\Ay a w0 G wr f e rs ls/\ls[k]?=some x/\x.d=(if ((rs.map (·.d)).take j).any (λr=>jp r.bd k) then ⟨z,false,[]⟩ else ⟨z,true,uv 0 0⟩)/\ls.map (·.d)=L.set k x.d/\zA (λb=>w0.heap.size<=b/\b<w.heap.size) W1 wr/\G (a+1)=3
def Fy(rb:Nat)(w:Wl):Prop:=w.cell? (Ad rb 0)=some nS/\w.cell? (Ad rb 1)=some nS/\w.frozen? (Ad rb 0)=false/\w.frozen? (Ad rb 1)=false
def Fy.y{rb w w' C}(h:Fy rb w)(k:zA C w w')(c:¬C rb):Fy rb w':=by
 have b:=k.d rb (ud h.1) c;exact⟨(Bd (a:=(Ad rb 0)) b).trans h.1,(Bd (a:=(Ad rb 1)) b).trans h.2.1,(Dp (a:=(Ad rb 0)) b).trans h.2.2.1,(Dp (a:=(Ad rb 1)) b).trans h.2.2.2⟩
def Za(w:Wl){t}:Fy w.heap.size (w.alloc (Oc #[nS,nS] t)):=by
 have h:=NO w (t:=t);exact⟨h.c0,h.c1,h.f0,h.f1⟩
def PT{g rb w0 w G f d u0 u1 rs ls}(h:Ay g w0 G w f d rs ls)(j:G rb=3):Cp w0 G ((w.setCell (Ad rb 0) u0).setCell (Ad rb 1) u1) f d rs ls :=
 h.gr.on (by rw[uh,uh];exact zD) (λb i k=>by
  have c:b≠rb:=λe=>k (e▸j);rw[Bn c,Bn c]) (λb i=>rfl) h.gr.a
def jW rs ls k:(vM rs ls k).length=ls.length:=by unfold vM;simp
def V7{rs ls k x}(h:(vM rs ls k)[k]?=some x):vM rs ls (k+1)=(vM rs ls k).set k (Tm rs k x):=by
 have b:k<ls.length:=by have:=(Bz.1 h).1;rwa [jW]at this
 have c:ls[k]?=some x:=by
  unfold vM at h;rw[Vh]at h;cases e:ls[k]? with
  |none=>rw[e]at h;cases h
  |some y=>rw[e]at h;simp at h;rw[h]
 apply Oy;intro j;by_cases e:j=k
 .subst e;rw[Ie (by rw[jW];exact b)];unfold vM;rw[Vh,c];simp
 rw[Oz oM];unfold vM;rw[Vh,Vh];cases ls[j]? with
 |none=>rfl
 |some y =>
  simp only[Option.map_some];by_cases a:j<k
  .rw[Zp oM,Zp a]
  rw[Zn oM,Zn a]
def V8 rs ls:vM rs ls 0=ls:=by
 apply Oy;intro j;unfold vM;rw[Vh];cases ls[j]?<;>simp
def PU{w0 w G d c rs ls}(h:Cp w0 G w d c rs ls)(e:w0.heap.size<=w.heap.size){t}:Ay w.heap.size w0 (vV G w 3) (w.alloc (Oc #[d,c] t)) d c rs ls:=by
 have b:=Eo w (Oc #[d,c] t);refine⟨?_,?_,?_,?_,h.h (Gh (λ_=>False) _) (λ_ q=>q.elim) 3 e,jS zD,sM,sO⟩
 .simp only[World.cell?,b];rfl
 .simp only[World.cell?,b];rfl
 .simp only[World.frozen?,b];rfl
 simp only[World.frozen?,b];rfl
def V9{α:Type}{l:List α}{k:Nat}{x:α}(h:l[k]?=some x):l.set k x=l:=by
 apply Oy;intro j;by_cases e:j=k
 .subst e;rw[Ie (Bz.1 h).1,h]
 rw[Oz oM]
def W0(w0:Wl)(g f:Vl)(rs:List GC)(c:List NL)(w:Wl)(e:Ending)(w':Wl):Prop :=
 ∃h a,e=Rt (.agg #[g,f])/\Cp w0 h w' g f rs a/\a.map (·.d)=vM (rs.map (·.d)) c c.length/\zA (λb=>w0.heap.size<=b) w w'
def W3 w0 w G ra la rc lc rs ls(h:Cp w0 G w (Sl ra rs.length rc) (Sl la ls.length lc) rs ls)(hz:w0.heap.size<=w.heap.size)(hr:rs.length<=1000)(hl:ls.length<=1000)(hb:∀x∈rs,x.d.bd.length<=1048576) :
  Cs 123 #[.agg #[Sl ra rs.length rc,Sl la ls.length lc]] w (W0 w0 (Sl ra rs.length rc) (Sl la ls.length lc) rs (ls.map (·.d)) w):=by
 have HB:Hid (∀x∈rs,x.d.bd.length<=1048576):=hb;obtain⟨o,ai⟩:∃l,ls.map (·.d)=l:=⟨_,rfl⟩;have a3:ls.length=o.length:=by rw[<-ai,Bl]
 have an:Hid (Ay w.heap.size w0 (vV G w 3) (w.alloc (Oc #[Sl ra rs.length rc,Sl la ls.length lc] 34)) (Sl ra rs.length rc) (Sl la ls.length lc) rs ls):=PU h hz;have bi:Hid (Ay w.heap.size w0 (vV (vV G w 3) (w.alloc (Oc #[Sl ra rs.length rc,Sl la ls.length lc] 34)) 3) ((w.alloc (Oc #[Sl ra rs.length rc,Sl la ls.length lc] 34)).alloc (Oc #[nS,nS] 34)) (Sl ra rs.length rc) (Sl la ls.length lc) rs ls):=an.o.h (Gh (λ_=>False) _) (λ_ q=>q.elim) 3;have bp:Hid (Fy (w.heap.size+1) ((w.alloc (Oc #[Sl ra rs.length rc,Sl la ls.length lc] 34)).alloc (Oc #[nS,nS] 34))):=by
  show Fy _ _;have:=Za (w.alloc (Oc #[Sl ra rs.length rc,Sl la ls.length lc] 34)) (t:=34);simpa using this
 have ao:Hid (ls.map (·.d)=o):=ai;have HZ:Hid (w0.heap.size<=w.heap.size):=hz;have bh:Hid (0<ls.length->∃g,la=some (Ad g 0)/\g<w.heap.size/\w0.heap.size<=g):=λhp=>by
  let⟨g,c,e,hq,_⟩:=h.e.f hp;exact⟨g,by injection e,hq.1,h.a g (by rw[hq.2];omega)⟩
 have bl:Hid (Kf w ((w.alloc (Oc #[Sl ra rs.length rc,Sl la ls.length lc] 34)).alloc (Oc #[nS,nS] 34))):=zY.c zY;have cb:((w.alloc (Oc #[Sl ra rs.length rc,Sl la ls.length lc] 34)).alloc (Oc #[nS,nS] 34)).heap.size=w.heap.size+2:=sM;have bg:Hid (vV (vV G w 3) (w.alloc (Oc #[Sl ra rs.length rc,Sl la ls.length lc] 34)) 3 (w.heap.size+1)=3):=jS sM;clear h hb ai an hz;generalize hm:ls.length=m at *;generalize hn:rs.length=n at *;have P:Hid (rs.length=n):=hn;have X:Hid (o.length=m):=a3.symm;rw[ao.o];clear hm hn a3;go_enter func123,ntmps123;go_wp2_with fail;generalize (w.alloc (Oc #[Sl ra n rc,Sl la m lc] 34)).alloc (Oc #[nS,nS] 34)=W1 at *;go_loopw [3] (λiv wr=>FF w.heap.size w0 w W1 (Sl ra n rc) (Sl la m lc) rs o iv wr) (λiv _=>m-(intOf iv).toNat)
 .exact⟨0,_,ls,zK,rfl,bi.o,by rw[V8];exact ao.o,Cc,bg.o⟩
 obtain⟨k,A,p,hk,rfl,z,aj,J,aa⟩:=hrel;have c0:=z.c0;have c1:=z.c1;have cd:=J.l;have E:Hid (Ay w.heap.size w0 A wr (Sl ra n rc) (Sl la m lc) rs p):=z;have O:Hid (p.map (·.d)=vM (rs.map (·.d)) o k):=aj;have N:Hid (zA (λb=>w0.heap.size<=b/\b<w.heap.size) W1 wr):=J;have a4:p.length=o.length:=by rw[<-Bl (f:=(·.d)),aj,jW]
 rw[X.o]at hk a4;clear z aj J;by_cases ca:k<m
 .have hlt':(k:Int)<(m:Int):=oM;have W:p[k]?=some p[k]:=Bb oM;obtain⟨x,a8⟩:∃y,p[k]=y:=⟨_,rfl⟩;rw[a8]at W;have H:Hid (p[k]?=some x):=W;have HT:Hid (vM (rs.map (·.d)) o (k+1)=(vM (rs.map (·.d)) o k).set k (Tm (rs.map (·.d)) k x.d)):=V7 (by rw[<-O.o,Ev,W];rfl);let⟨g,c,e,ah,bu,x0,x1,x2,br,aq⟩:=E.o.gr.f W;obtain rfl:la=some (Ad g 0):=by injection e
  have am:Hid (Tg A wr 1 g):=ah;have C:g<w.heap.size/\w0.heap.size<=g:=by
   let⟨g',Z,h1,h2⟩:=bh.o oM;cases Z;exact⟨h1,h2⟩
  have b6:=ah.1;clear a8 W e ah bu a4;by_cases hh:x.d.j=true
  .rw[hh]at x1;have D:Hid (FF w.heap.size w0 w W1 (Sl ra n rc) (Sl (Sm g 0) m lc) rs o (Iv ((k+1:Nat):Int)) wr):=⟨k+1,A,p,by have:=X.o;omega,rfl,E.o,by rw[HT.o,Tm,Zp hh,<-O.o,V9 (by rw[Ev,H.o];rfl)],N.o,aa⟩;go_wp2;go_roundw;all_goals first|exact D.o|(simp[intOf];omega)
  have hh':x.d.j=false:=by simpa using hh
  rw[hh']at x1;have ad:Hid (Ay w.heap.size w0 A (wr.setCell (Ad g (k*3+1)) Bt) (Sl ra n rc) (Sl (Sm g 0) m lc) rs (p.set k ⟨⟨x.d.nm,true,x.d.bd⟩,x.na,x.nc,x.ba,x.bc⟩)):=E.o.g H.o oM (by simp[Ef]) am.o (E.o.gr.ln x (Cn H.o)) (E.o.gr.lb k x H.o);have bm:Hid (zA (λb=>w0.heap.size<=b/\b<w.heap.size) W1 (wr.setCell (Ad g (k*3+1)) Bt)):=N.o.c (Dh ⟨C.2,C.1⟩);have bs:(wr.setCell (Ad g (k*3+1)) Bt).frozen? (Ad g (k*3+2))=false:=by rw[Et];exact aq
  have b5:w.heap.size<wr.heap.size:=ud c0;have bo:Hid (wr.heap.size=(wr.setCell (Ad g (k*3+1)) Bt).heap.size):=(uh _ _ _).symm;go_wp2_with fail;generalize bt:wr.setCell (Ad g (k*3+1)) Bt=Q at *;have a1:=ad.o.c1;have al:(p.set k ⟨⟨x.d.nm,true,x.d.bd⟩,x.na,x.nc,x.ba,x.bc⟩)[k]?=some ⟨⟨x.d.nm,true,x.d.bd⟩,x.na,x.nc,x.ba,x.bc⟩:=Ie (Bz.1 H.o).1;let⟨g',c',Z,bw,_,y0,y1,y2,b3,b4⟩:=ad.o.gr.f al;obtain rfl:g=g':=by injection Z with e1;injection e1 with e1;injection e1 with e1
  have Y:Hid ((p.set k ⟨⟨x.d.nm,true,x.d.bd⟩,x.na,x.nc,x.ba,x.bc⟩)[k]?=some ⟨⟨x.d.nm,true,x.d.bd⟩,x.na,x.nc,x.ba,x.bc⟩):=al;clear al Z bw y0 y1 x0 x1 x2 br aq bs c0 c1 bt;have a9:(p.set k ⟨⟨x.d.nm,true,x.d.bd⟩,x.na,x.nc,x.ba,x.bc⟩).map (·.d)=(vM (rs.map (·.d)) o k).set k ⟨x.d.nm,true,x.d.bd⟩:=by rw[Pd,O.o]
  have bq:Hid ((p.set k ⟨⟨x.d.nm,true,x.d.bd⟩,x.na,x.nc,x.ba,x.bc⟩).map (·.d)=(vM (rs.map (·.d)) o k).set k ⟨x.d.nm,true,x.d.bd⟩):=a9;have HG3':Hid (A (w.heap.size+1)=3):=aa;have cc:wr.heap.size=Q.heap.size:=bo.o;clear a9 aa O H E N am;generalize b9:p.set k ⟨⟨x.d.nm,true,x.d.bd⟩,x.na,x.nc,x.ba,x.bc⟩=b0 at *;go_cut [3] from 5 to 54 (λv wc=>v=Iv k/\Wp w.heap.size w0 w W1 (Sl ra n rc) (Sl (Sm g 0) m lc) rs (vM (rs.map (·.d)) o k) k x.d.nm (Iv 0) wc)
  .go_region_law
    (refine uF qx rfl _ _ rfl (ys:=#[Iv 0,Iv 0]) (by simp[Act.eval]) ((vU 0 0 Q.drew).mono ?_);rintro e W2 ⟨ba,bc,rfl,aw,a2⟩;have k2:Kf Q W2:=Cj.c a2;have hb2':zQ (zF Q W2) W2 (Sl ba (uv 0 0).length bc) (uv 0 0):=aw;let⟨R,av⟩:=ad.o.b k2 hb2' (5+2*k);have z1:=R.c1;have zl:=ud z1;let⟨g2,c2,e2,ay,_,_,_,s2,_,q2⟩:=R.gr.f Y.o;obtain rfl:g=g2:=(by injection e2 with e1;injection e1 with e1;injection e1 with e1);have bf:Hid (Wp w.heap.size w0 w W1 (Sl ra n rc) (Sl (Sm g 0) m lc) rs (vM (rs.map (·.d)) o k) k x.d.nm (Iv 0) (W2.setCell (Ad g (k*3+2)) (Sl ba (uv 0 0).length bc))):=⟨0,vV A Q (5+2*k),b0.set k ⟨⟨x.d.nm,true,uv 0 0⟩,x.na,x.nc,ba,bc⟩,⟨⟨x.d.nm,true,uv 0 0⟩,x.na,x.nc,ba,bc⟩,zK,rfl,R.g Y.o oM (by simp[Ef]) ay (R.gr.ln ⟨⟨x.d.nm,true,x.d.bd⟩,x.na,x.nc,x.ba,x.bc⟩ (Cn Y.o)) av,Ie (Bz.1 Y.o).1,sM,by rw[Pd,bq.o,List.set_set],(bm.o.c (k2.h (λ_ q=>q.elim))).c (Dh ⟨C.2,C.1⟩),by rw[uR oM];exact HG3'.o⟩;clear aw a2 k2 hb2' R av e2 ay;refine⟨_,rfl,?_⟩)
   all_goals go_wp2_with fail
   all_goals go_meet
   all_goals exact⟨rfl,bf⟩
  obtain⟨rfl,a0⟩:=hcut;have bj:=ua a0;clear a0;go_wp2_with fail;go_loopw [4] (λjv wx=>Wp w.heap.size w0 w W1 (Sl ra n rc) (Sl (Sm g 0) m lc) rs (vM (rs.map (·.d)) o k) k x.d.nm jv wx) (λjv _=>n-(intOf jv).toNat)
  .exact bj
  obtain⟨j,F,L,y,hj,rfl,z,hy,bb,a5,J,ax⟩:=hrel;rw[P.o]at hj;have c0:=z.c0;have c1:=z.c1;have B:Hid (Ay w.heap.size w0 F wr (Sl ra n rc) (Sl (Sm g 0) m lc) rs L):=z;have I:Hid (L[k]?=some y):=hy;have ag:Hid (y.d=(if ((rs.map (·.d)).take j).any (λr=>jp r.bd k) then ⟨x.d.nm,false,[]⟩ else ⟨x.d.nm,true,uv 0 0⟩)):=bb;have af:Hid (L.map (·.d)=(vM (rs.map (·.d)) o k).set k y.d):=a5;have ae:Hid (zA (λb=>w0.heap.size<=b/\b<w.heap.size) W1 wr):=J;have ac:Hid (F (w.heap.size+1)=3):=ax;clear z hy bb a5 J ax;by_cases b8:j<n
  .have hjn':(j:Int)<(n:Int):=oM;obtain⟨s,U⟩:∃y,rs[j]?=some y:=⟨_,Bb (oH P.o)⟩;have ap:Hid ((rs.map (·.d)).take (j+1)=(rs.map (·.d)).take j++[s.d]):=by
    rw[Jl,Ev,U];rfl
   let⟨g0,b2,e0,_,_,_,r1,_,_⟩:=B.gr.k U;obtain rfl:ra=some (Ad g0 0):=(by injection e0);have a6:=(B.gr.rb j s U).e;have bz:=HB s (Cn U);have bn:=ua a6;clear U e0 a6;go_wp2_with fail;refine(qr _ s.ba s.d.bd.length s.bc k (df s.d.bd) wr bn bz).mono ?_;rintro e w5 ⟨⟨r,rfl,T⟩,rfl⟩;rw[P0]at T;cases r with
   |false =>
    have V:jp s.d.bd k=false:=by
     cases ht:jp s.d.bd k with
     |false=>rfl
     |true=>exact absurd (T.2 ht) sM
    have D:Hid (Wp w.heap.size w0 w W1 (Sl (Sm g0 0) n rc) (Sl (Sm g 0) m lc) rs (vM (rs.map (·.d)) o k) k x.d.nm (Iv ((j+1:Nat):Int)) wr):=⟨j+1,F,L,y,by have:=P.o;omega,rfl,B.o,I.o,by rw[ap.o,List.any_append,ag.o];simp[V],af.o,ae.o,ac.o⟩;clear T V;go_wp2;go_roundw;all_goals first|exact D|(simp[intOf];omega)
   |true =>
    have V:jp s.d.bd k=true:=T.1 rfl;let⟨g5,c5,e5,S,_,_,s1,s2,q1,q2⟩:=B.gr.f I;obtain rfl:g=g5:=(by injection e5 with e1;injection e1 with e1;injection e1 with e1);have b7:=S.1;have ak:=B.g (y:=⟨⟨y.d.nm,false,y.d.bd⟩,y.na,y.nc,y.ba,y.bc⟩) (u:=Bf) I (show 1<3 by omega) (by simp[Ef]) S (B.gr.ln y (Cn I)) (B.gr.lb k y I);have ab:(L.set k ⟨⟨y.d.nm,false,y.d.bd⟩,y.na,y.nc,y.ba,y.bc⟩)[k]?=some ⟨⟨y.d.nm,false,y.d.bd⟩,y.na,y.nc,y.ba,y.bc⟩:=Ie (Bz.1 I.o).1;have az:Tg F (wr.setCell (Ad g (k*3+1)) Bf) 1 g:=⟨by rw[uh];exact S.1,S.2⟩;have a7:=ak.g (y:=⟨⟨y.d.nm,false,[]⟩,y.na,y.nc,none,0⟩) (u:=nS) ab (show 2<3 by omega) (by simp[Ef]) az (ak.gr.ln ⟨⟨y.d.nm,false,y.d.bd⟩,y.na,y.nc,y.ba,y.bc⟩ (Cn ab)) (DR);have be:y.d.nm=x.d.nm:=by rw[ag.o];split<;>rfl
    have D:Hid (Wp w.heap.size w0 w W1 (Sl (Sm g0 0) n rc) (Sl (Sm g 0) m lc) rs (vM (rs.map (·.d)) o k) k x.d.nm (Iv ((j+1:Nat):Int)) ((wr.setCell (Ad g (k*3+1)) Bf).setCell (Ad g (k*3+2)) nS)):=⟨j+1,F,_,_,by have:=P.o;omega,rfl,a7,Ie (Bz.1 ab).1,by rw[ap.o,List.any_append];simp[V,be],by rw[Pd,Pd,af.o,List.set_set,List.set_set],(ae.o.c (Dh ⟨C.2,C.1⟩)).c (Dh ⟨C.2,C.1⟩),ac.o⟩;clear T V ak a7 ab az S e5 be;go_wp2;go_roundw;all_goals first|exact D|(simp[intOf];omega)
  obtain rfl:j=n:=oM;have au:(rs.map (·.d)).take j=rs.map (·.d):=Kg (by rw[Bl,P.o];exact zD);have D:Hid (FF w.heap.size w0 w W1 (Sl ra j rc) (Sl (Sm g 0) m lc) rs o (Iv ((k+1:Nat):Int)) wr):=⟨k+1,F,L,by have:=X.o;omega,rfl,B.o,by rw[HT.o,af.o,ag.o,au,Tm,hh'];rfl,ae.o,ac.o⟩;clear au;go_wp2;go_roundw;all_goals first|exact D|(simp[intOf];omega)
 obtain rfl:k=m:=oM;have bx:=bp.y N (λq=>oM);obtain⟨t0,t1,g0,g1⟩:=bx;have HO:Hid (Cp w0 A ((wr.setCell (Ad (w.heap.size+1) 0) (Sl ra n rc)).setCell (Ad (w.heap.size+1) 1) (Sl la k lc)) (Sl ra n rc) (Sl la k lc) rs p):=PT E.o aa;have bk:Hid (zA (λb=>w0.heap.size<=b) w ((wr.setCell (Ad (w.heap.size+1) 0) (Sl ra n rc)).setCell (Ad (w.heap.size+1) 1) (Sl la k lc))):=DT (DT ((bl.o.h (λ_ q=>q.elim)).c (N.o.h (λ_ q=>q.1))) oM) oM;go_wp2;refine zL (v:=.agg #[Sl ra n rc,Sl la k lc]) ?_ rfl ?_
 .simp[results,f123,go_sem, *]
 exact⟨A,p,rfl,HO,by rw[X.o];exact O,bk⟩
section
open M (OpD ug Gr)
def Pu(l:List NL)(i:Nat):NL:=l.getD i default
def qV(l:List NL)(i:Nat)(D:List OpD):List NL:=l.set i ⟨(Pu l i).nm,(Pu l i).j,D⟩
def Tr(t:Tp)(i:Nat)(rs ls:List NL):(List NL×List NL)×Nat :=
 let k:=t.v i%5
 let a:=t.v (t.n i)%rs.length
 let b:=t.v (t.n (t.n i))%rs.length
 let j:=t.n (t.n (t.n i))
 let x:=(Pu rs a).bd
 if k=0 then ((qV rs a (uM 5 x (uv 2 (b:Int))),ls),j)
 else if k=1 then ((qV rs a (uM 4 (Bq 7 (uv 2 (b:Int))) x),ls),j)
 else if k=2 then ((qV rs a (Bq 6 x),ls),j)
 else if k=3/\0<ls.length then
  let m:=b%ls.length
  ((qV rs a (uM 5 x (uv 3 (m:Int))),ls.set m ⟨(Pu ls m).nm,true,uM 4 (uv 0 0) (uv 2 (a:Int))⟩),j)
 else ((qV rs a (uM 4 (Bq 6 (uL (vB 97))) (uv 2 (b:Int))),ls),j)
def OL(t:Tp)(R:Nat)(w0:Wl)(a:Nat->Nat)(g:(List NL×List NL)×Nat)(w:Wl)(e:Ending)(w':Wl):Prop :=
 ∃f c G rs ls,e=Rt (.agg #[f,c])/\Cp w0 G w' f c rs ls/\rs.map (·.d)=g.1.1/\ls.map (·.d)=g.1.2/\Ch t R w' g.2/\zA (λb=>b=R\/(w0.heap.size<=b/\¬(b<w.heap.size/\a b=3))) w w'/\∀b,b<w.heap.size->a b=3->G b=3
def EM{l:List GC}{i:Nat}{x:GC}(h:l[i]?=some x):Pu (l.map (·.d)) i=x.d:=by
 unfold Pu;rw[El,Ev,h];rfl
structure Fj(t:Tp)(R:Nat)(w0 w:Wl)(G0:Nat->Nat)(gb:Nat)(G:Nat->Nat)(W:Wl)(rv lv:Vl)(rs ls:List GC)(i:Nat):Prop where
 gv:Ay gb w0 G W rv lv rs ls
 tw:Fy (gb+1) W
 tg:G (gb+1)=3
 rd:Ch t R W i
 kp:zA (λb=>b=R\/(w0.heap.size<=b/\¬(b<w.heap.size/\G0 b=3))) w W
 og:∀b,b<w.heap.size->G0 b=3->G b=3
 gw:w.heap.size<=gb
def Fj.on{t R w0 w d a G W V m g rs ls i j}(h:Fj t R w0 w d a G W m g rs ls i)(k:zE t R j W V)(n:R<w0.heap.size/\w0.heap.size<=a):Fj t R w0 w d a (vV G W 3) V m g rs ls j :=
 ⟨h.gv.h k.2 (λb e=>⟨oM,oM⟩) 3,h.tw.y k.2 (λe=>oM),by rw[uR (ud h.tw.1)];exact h.tg,k.1,h.kp.c (k.2.h (λb e=>.inl e)),λb f q=>by rw[uR (Ba f h.kp.l)];exact h.og b f q,h.gw⟩
variable {t:Tp} {R gb i g E H F:Nat} {w0 w W V:Wl} {G0 G:Nat->Nat} {rv lv:Vl} {rs ls:List GC} {x:GC} {ba:Oa} {bc:Nat} {D:List OpD}
def Fj.n{o:Nat}{v:Vl}(h:Fj t R w0 w G0 gb G W rv lv rs ls i)(A:R<w0.heap.size/\w0.heap.size<=gb)(k:zE t R i W V)(f:G g≠3){d:Nat->Nat}{s r:List GC}(m:∀b,b<W.heap.size->d b=G b)(u:Ay gb w0 d (V.setCell (Ad g o) v) rv lv s r) :
  Fj t R w0 w G0 gb d (V.setCell (Ad g o) v) rv lv s r i:=by
 have B:w0.heap.size<=g:=h.gv.gr.a g f;have x:¬(g<w.heap.size/\G0 g=3):=λq=>f (h.og g q.1 q.2);have z:gb+1≠g:=λe=>f (e▸h.tg);have j:zA (λb=>b=g) V (V.setCell (Ad g o) v):=Dh rfl;exact⟨u,(h.tw.y k.2 (λe=>oM)).y j z,(m _ (ud h.tw.1)).trans h.tg,k.1.y j (λb e=>oM),(h.kp.c (k.2.h (λ_ e=>.inl e))).c (j.h (λb e=>.inr ⟨oM,e▸x⟩)),λb p q=>(m b (Ba p h.kp.l)).trans (h.og b p q),h.gw⟩
def Fj.a(h:Fj t R w0 w G0 gb G W (Sl (Sm g 0) E H) lv rs ls i)(u:R<w0.heap.size/\w0.heap.size<=gb)(k:zE t R i W V)(o:zQ (zF W V) V (Sl ba D.length bc) D)(r:rs[F]?=some x)(f:Tg G W 0 g) :
  ∃s,Fj t R w0 w G0 gb s (V.setCell (Ad g (F*2+1)) (Sl ba D.length bc)) (Sl (Sm g 0) E H) lv (rs.set F ⟨⟨x.d.nm,x.d.j,D⟩,x.na,x.nc,ba,bc⟩) ls i:=by
 have p:=h.gv.h k.2 (λb e=>⟨oM,oM⟩) (4+2*F);have v:=k.2.l;exact⟨_,h.n u k (by rw[f.2];omega) (λb o=>uR o) (p.m r oM (by simp[Fu]) ⟨by have:=f.1;omega,by rw[uR f.1];exact f.2⟩ (p.gr.rn x (Cn r)) (o.g (λb q=>Yp q)))⟩
def Fj.s(h:Fj t R w0 w G0 gb G W rv (Sl (Sm g 0) E H) rs ls i)(u:R<w0.heap.size/\w0.heap.size<=gb)(k:zE t R i W V)(m:zQ (zF W V) V (Sl ba D.length bc) D)(p:ls[F]?=some x)(f:Tg G W 1 g) :
  ∃r,Fj t R w0 w G0 gb r (V.setCell (Ad g (F*3+2)) (Sl ba D.length bc)) rv (Sl (Sm g 0) E H) rs (ls.set F ⟨⟨x.d.nm,x.d.j,D⟩,x.na,x.nc,ba,bc⟩) i:=by
 have o:=h.gv.h k.2 (λb e=>⟨oM,oM⟩) (5+2*F);have v:=k.2.l;exact⟨_,h.n u k (by rw[f.2];omega) (λb m=>uR m) (o.g p oM (by simp[Ef]) ⟨by have:=f.1;omega,by rw[uR f.1];exact f.2⟩ (o.gr.ln x (Cn p)) (m.g (λb q=>Yp q)))⟩
def Fj.j(h:Fj t R w0 w G0 gb G W rv (Sl (Sm g 0) E H) rs ls i)(l:R<w0.heap.size/\w0.heap.size<=gb)(f:ls[F]?=some x)(k:Tg G W 1 g) :
  Fj t R w0 w G0 gb G (W.setCell (Ad g (F*3+1)) Bt) rv (Sl (Sm g 0) E H) rs (ls.set F ⟨⟨x.d.nm,true,x.d.bd⟩,x.na,x.nc,x.ba,x.bc⟩) i :=
 h.n l (zE.e h.rd) (by rw[k.2];omega) (λb m=>rfl) (h.gv.g f oM (by simp[Ef]) k (h.gv.gr.ln x (Cn f)) (h.gv.gr.lb F x f))
def Fj.c(h:Fj t R w0 w G0 gb G W (Sl (Sm g 0) E H) lv rs ls i)(q:R<w0.heap.size/\w0.heap.size<=gb)(m:rs[F]?=some x)(d:Dr t R i W V):V.cell? (Ad gb 0)=some (Sl (Sm g 0) E H)/\gb<V.heap.size/\V.cell? (Ad g (F*2+1))=some (Sl x.ba x.d.bd.length x.bc)/\V.frozen? (Ad g (F*2+1))=false:=by
 have f:=h.gv.h d.1.2 (λb e=>⟨oM,oM⟩) 3;let⟨l,_,j,_,_,_,o,_,p⟩:=f.gr.k m;obtain rfl:g=l:=by injection j with e1;injection e1 with e1;injection e1 with e1
 exact⟨f.c0,f.lt,o,p⟩
def Fj.d(h:Fj t R w0 w G0 gb G W rv (Sl (Sm g 0) E H) rs ls i)(q:R<w0.heap.size/\w0.heap.size<=gb)(m:ls[F]?=some x)(d:Dr t R i W V):V.cell? (Ad gb 1)=some (Sl (Sm g 0) E H)/\gb<V.heap.size/\V.cell? (Ad g (F*3+2))=some (Sl x.ba x.d.bd.length x.bc)/\V.frozen? (Ad g (F*3+2))=false:=by
 have j:=h.gv.h d.1.2 (λb e=>⟨oM,oM⟩) 3;let⟨l,_,k,_,_,_,_,o,_,p⟩:=j.gr.f m;obtain rfl:g=l:=by injection k with e1;injection e1 with e1;injection e1 with e1
 exact⟨j.c1,j.lt,o,p⟩
def Fj.ob(h:Fj t R w0 w G0 gb G W rv lv rs ls i)(k:R<w0.heap.size)(l:rs[F]?=some x)(c:0<x.d.bd.length/\xx x.d.bd.length (df x.d.bd)):Ob R W x.ba x.d.bd :=
 ⟨(h.gv.gr.rb F x l).e.g (λb q e=>by have f:=h.gv.a k;have j:=q.2;rw[e,f]at j;omega),c.2,c.1⟩
def Fj.l{t R w0 w j a G W g f rs ls i}{p:(List NL×List NL)×Nat}(h:Fj t R w0 w j a G W g f rs ls i)(n:R<w0.heap.size/\w0.heap.size<=a)(m:((rs.map (·.d),ls.map (·.d)),i)=p):OL t R w0 j p w (Rt (.agg #[g,f])) ((W.setCell (Ad (a+1) 0) g).setCell (Ad (a+1) 1) f):=by
 subst m;have k:zA (λb=>b=a+1) W ((W.setCell (Ad (a+1) 0) g).setCell (Ad (a+1) 1) f):=(zA.b (C:=λb=>b=a+1) W (Ad (a+1) 0) g rfl).c (zA.b (C:=λb=>b=a+1) _ (Ad (a+1) 1) f rfl);exact⟨g,f,G,rs,ls,rfl,PT h.gv h.tg,rfl,rfl,h.rd.y k (λb e=>oM),h.kp.c (k.h (λb e=>.inr ⟨oM,λq=>by have:=h.gw;omega⟩)),h.og⟩
def R9{t R w0 w G f d rs ls i}(h:Cp w0 G w f d rs ls)(p:w0.heap.size<=w.heap.size)(o:Ch t R w i)(r:R<w0.heap.size):∃j,Fj t R w0 w G w.heap.size j ((w.alloc (Oc #[f,d] 34)).alloc (Oc #[nS,nS] 34)) f d rs ls i:=by
 have l:=PU h p (t:=34);have m:=l.h (Gh (λ_=>False) (Oc #[nS,nS] 34)) (λ_ e=>e.elim) 3;have k:(w.alloc (Oc #[f,d] 34)).heap.size=w.heap.size+1:=sM;have g:=Za (w.alloc (Oc #[f,d] 34)) (t:=34);rw[k]at g;have kk:Kf w ((w.alloc (Oc #[f,d] 34)).alloc (Oc #[nS,nS] 34)):=zY.c zY;exact⟨_,m,g,jS oM,o.y kk (λ_ e=>e.elim),kk.h (λ_ e=>e.elim),λb E q=>by rw[uR sO];exact(uR E).trans q,zD⟩
def Wc args w:(callFunc 51 args).run prog w=.ok (.enter 51 args) w:=by
 simp[callFunc,func51,f51,go_sem]
def EN args w:(callFunc 120 args).run prog w=.ok (.enter 120 args) w:=by
 simp[callFunc,func120,f120,go_sem]
def S1 args w:(callFunc 52 args).run prog w=.ok (.enter 52 args) w:=by
 simp[callFunc,func52,f52,go_sem]
def S2 args w:(callFunc 53 args).run prog w=.ok (.enter 53 args) w:=by
 simp[callFunc,func53,f53,go_sem]
def OM args w:(callFunc 15 args).run prog w=.ok (.enter 15 args) w:=by
 simp[callFunc,func15,f15,go_sem]
end
def R8 t R i w0 w G ra la rc lc rs ls(h:Cp w0 G w (Sl ra rs.length rc) (Sl la ls.length lc) rs ls)(hz:w0.heap.size<=w.heap.size)(hr:Ch t R w i)(ai:R<w0.heap.size)(am:0<rs.length)(a9:rs.length<=1000)(a8:ls.length<=1000)(ax:∀x∈rs,0<x.d.bd.length/\xx x.d.bd.length (df x.d.bd))(p:(List NL×List NL)×Nat)(y:Tr t i (rs.map (·.d)) (ls.map (·.d))=p) :
  Cs 61 #[.agg #[Sl ra rs.length rc,Sl la ls.length lc],.pointer (Sm R 0)] w (OL t R w0 G p w):=by
 let⟨G1,hS⟩:=R9 h hz hr ai;have aq:=ua ax;have bu:=t.a i;have bw:=t.a (t.n i);have bx:=t.a (t.n (t.n i));unfold Tr at y;dsimp only at y;rw[Bl,Bl]at y;let⟨n,hn⟩:=nm rs.length;let⟨m,hm⟩:=nm ls.length;have HN:=ua hn;have HM:=ua hm;rw[hn]at am a9;rw[hm]at a8;rw[hn,hm]at y hS ⊢;have r:=ua (And.intro ai hz);have bq:¬(n:Int)=0:=oM;have br:¬n=0:=oM;clear h hr ax hn hm;go_enter func61,ntmps61;go_wp2_with fail;generalize (w.alloc (Oc #[Sl ra n rc,Sl la m lc] 34)).alloc (Oc #[nS,nS] 34)=W1 at *;refine Le (Mg hS.rd) λW2 d u=>?_;have ad:=ua (hS.on d.1 r.o);clear hS d u;generalize t.n i=i1 at *;generalize t.v i=ki at *;let⟨q,hq⟩:=nm (ki%5);have hq':(ki:Int)%5=(q:Int):=oM;have bt:q<5:=oM;rw[hq]at y;have au:=ua λ(P:Ew)=>Le (t:=t) (R:=R) (i:=i1) (w0:=W2) (w:=W2.drew) (P:=P);have av:=ua λ(w0:Wl) (P:Ew)=>Le (t:=t) (R:=R) (i:=t.n i1) (w0:=w0) (w:=w0.drew) (P:=P);generalize vV G1 W1 3=G2 at *;clear hq;generalize t.v i1=k1 at *;generalize t.n i1=i2 at *;let⟨a,S⟩:=nm (k1%n);rw[S]at y;have bj:a<n:=S▸If k1 am;have ha':(k1:Int)%(n:Int)=(a:Int):=by rw[<-S];omega
 have bk:(k1:Int).tmod (n:Int)=(a:Int):=by rw[Yc oM];exact ha'
 clear S;generalize t.v i2=k2 at *;generalize t.n i2=i3 at *;let⟨b,S⟩:=nm (k2%n);rw[S]at y;have bl:b<n:=S▸If k2 am;have hb':(k2:Int)%(n:Int)=(b:Int):=by rw[<-S];omega
 have bm:(k2:Int).tmod (n:Int)=(b:Int):=by rw[Yc oM];exact hb'
 clear S;have c0:=ad.o.gv.c0;go_wp2_with fail;simp only[hq'];go_cut [6] from 10 to 110 (λv wc=>v=Iv a/\Dr t R i2 W2 wc)
 case first =>
  go_region_law
   (refine uF OM rfl _ _ rfl (ys:=#[.pointer (Sm R 0)]) (by simp[Act.eval,Act.put]) (au.o _ ((Mg ad.o.rd).q Cj) λU d u=>⟨_,rfl,?_⟩);have zu:=(ad.o.gv.h d.1.2 (λb e=>⟨oM,oM⟩) 3).c0;have bi:=ud zu)
  all_goals go_wp2_with fail
  all_goals go_meet
  all_goals exact⟨rfl,d⟩
 obtain⟨rfl,d⟩:=hcut;have ae:=ua (ad.o.on d.1 r.o);obtain⟨W3,hw⟩:∃x,x=wc:=⟨_,rfl⟩;subst hw;clear c0 d ad au;have c0:=ae.o.gv.c0;go_wp2_with fail;go_cut [7] from 10 to 110 (λv wc=>v=Iv b/\Dr t R i3 W3 wc)
 case first =>
  go_region_law
   (refine uF OM rfl _ _ rfl (ys:=#[.pointer (Sm R 0)]) (by simp[Act.eval,Act.put]) (av.o _ _ ((Mg ae.o.rd).q Cj) λU d u=>⟨_,rfl,?_⟩);have zu:=(ae.o.gv.h d.1.2 (λb e=>⟨oM,oM⟩) 3).c0;have bi:=ud zu)
  all_goals go_wp2_with fail
  all_goals go_meet
  all_goals exact⟨rfl,d⟩
 obtain⟨rfl,d⟩:=hcut;have z:=ua (ae.o.on d.1 r.o);obtain⟨W4,hw⟩:∃x,x=wc:=⟨_,rfl⟩;subst hw;clear c0 d ae av;generalize vV (vV G2 W2 3) W3 3=az at *;obtain⟨E,ab⟩:∃x,rs[a]?=some x:=⟨_,Bb (oH HN.o)⟩;have A:=ua ab;let⟨g,cg,eg,aa,_,r0,r1,bg,bh⟩:=z.o.gv.gr.k ab;obtain rfl:ra=some (Ad g 0):=by injection eg
 have X:=ua aa;have HX:=ua (z.o.ob ai ab (aq.o E (Cn ab)));have c0:=z.o.gv.c0;have Q:=z.o.gv.c1;have a6:=aa.1;have hal':(a:Int)<(n:Int):=oM;rw[EM ab]at y;have ac:Hid (∀D ba bc,(rs.set a ⟨⟨E.d.nm,E.d.j,D⟩,E.na,E.nc,ba,bc⟩).map (·.d)=qV (rs.map (·.d)) a D):=λD ba bc=>by rw[Pd];unfold qV;rw[EM A.o]
 have d:=Mg z.o.rd;clear eg aa ab r0 bg;go_upto_if 32 with fail;go_cut [5] from 10 to 110 (λv wc=>v=Iv q/\∃G2 ao an,Fj t R w0 w G w.heap.size G2 wc (Sl (Sm g 0) n rc) (Sl la m lc) ao an i3/\((ao.map (·.d),an.map (·.d)),i3)=p)
 case first =>
  by_cases q0:q=0
  .rw[Zp q0]at y;subst q0 y;go_wp2_with fail;go_region_law
    (first
     |(refine uF qx rfl _ _ rfl (ys:=#[Iv 2,Iv (b:Int)]) (by simp[Act.eval,Act.put]) (jT 2 (b:Int) (d.q Cj) λV Q V1 B u1 h1=>⟨_,rfl,?_⟩);have ⟨z1,zl1,s1,sf1⟩:=z.o.c r.o A.o B)
     |(refine uF Wc rfl _ _ rfl (ys:=#[Iv 5,Sl E.ba E.d.bd.length E.bc,Sl V (uv 2 (b:Int)).length Q]) (by simp[Act.eval,Act.put]) (uid 5 B (B.ob HX.o) (h1.ob B oM) λY Z V2 C F=>⟨_,rfl,?_⟩);have ⟨z2,zl2,s2,sf2⟩:=z.o.c r.o A.o C;have L:=ua (z.o.a r.o C.1 F A.o X.o);clear F))
   all_goals go_wp2_with fail
   all_goals go_meet
   all_goals (let⟨J,N⟩:=L.o;exact⟨by first|rfl|rw[O],J,_,_,N,by rw[ac.o]⟩)
  have q0':¬(q:Int)=0:=oM;rw[Zn q0]at y;by_cases q1:q=1
  .rw[Zp q1]at y;subst q1 y;go_wp2_with fail;go_region_law
    (first
     |(refine uF qx rfl _ _ rfl (ys:=#[Iv 2,Iv (b:Int)]) (by simp[Act.eval,Act.put]) (jT 2 (b:Int) (d.q Cj) λV Q V1 B u1 h1=>⟨_,rfl,?_⟩);have ⟨z1,zl1,s1,sf1⟩:=z.o.c r.o A.o B)
     |(refine uF EN rfl _ _ rfl (ys:=#[Iv 7,Sl V (uv 2 (b:Int)).length Q]) (by simp[Act.eval,Act.put]) (Km 7 B h1 oM λY Z V2 C u2 h2=>⟨_,rfl,?_⟩);have ⟨z2,zl2,s2,sf2⟩:=z.o.c r.o A.o C)
     |(refine uF Wc rfl _ _ rfl (ys:=#[Iv 4,Sl Y (Bq 7 (uv 2 (b:Int))).length Z,Sl E.ba E.d.bd.length E.bc]) (by simp[Act.eval,Act.put]) (uid 4 C (h2.ob C oM) (C.ob HX.o) λa3 c3 V3 W F=>⟨_,rfl,?_⟩);have ⟨z3,zl3,s3,sf3⟩:=z.o.c r.o A.o W;have L:=ua (z.o.a r.o W.1 F A.o X.o);clear F))
   all_goals go_wp2_with fail
   all_goals go_meet
   all_goals (let⟨J,N⟩:=L.o;exact⟨by first|rfl|rw[O],J,_,_,N,by rw[ac.o]⟩)
  have q1':¬(q:Int)=1:=oM;rw[Zn q1]at y;by_cases q2:q=2
  .rw[Zp q2]at y;subst q2 y;go_wp2_with fail;go_region_law
    (first
     |(refine uF EN rfl _ _ rfl (ys:=#[Iv 6,Sl E.ba E.d.bd.length E.bc]) (by simp[Act.eval,Act.put]) (P7 6 (d.q Cj) ((d.q Cj).ob HX.o) λV Q V1 B F=>⟨_,rfl,?_⟩);have ⟨z1,zl1,s1,sf1⟩:=z.o.c r.o A.o B;have L:=ua (z.o.a r.o B.1 F A.o X.o);clear F))
   all_goals go_wp2_with fail
   all_goals go_meet
   all_goals (let⟨J,N⟩:=L.o;exact⟨by first|rfl|rw[O],J,_,_,N,by rw[ac.o]⟩)
  have q2':¬(q:Int)=2:=oM;rw[Zn q2]at y;by_cases O:q=3/\0<m
  .rw[Zp O]at y;obtain⟨bf,aj⟩:=O;subst bf;have q3'':(0:Int)<(m:Int):=oM;let⟨o,ho⟩:=nm (b%m);rw[ho]at y;have bs:o<m:=ho▸If b aj;have ho':(b:Int)%(m:Int)=(o:Int):=(by rw[<-ho];omega);have hol':(o:Int)<(m:Int):=oM;have bp:¬(m:Int)=0:=oM;obtain⟨H,ah⟩:∃x,ls[o]?=some x:=⟨_,Bb (oH HM.o)⟩;let⟨gl,cl,el,ag,_,_,l1,l2,bb,be⟩:=z.o.gv.gr.f ah;obtain rfl:la=some (Ad gl 0):=(by injection el);have T:=ua (z.o.j r.o ah ag);have af:=ua (Ie (a:=(⟨⟨H.d.nm,true,H.d.bd⟩,H.na,H.nc,H.ba,H.bc⟩:GC)) (Bz.1 ah).1);have ap:Hid (Tg az (W4.setCell (Ad gl (o*3+1)) Bt) 1 gl):=⟨by rw[uh];exact ag.1,ag.2⟩;have bo:=ag.1;let⟨ay,al⟩:=nm (ls.set o ⟨⟨H.d.nm,true,H.d.bd⟩,H.na,H.nc,H.ba,H.bc⟩);have a0:Hid (∀x,(ay.set o x).map (·.d)=(ls.map (·.d)).set o x.d):=λx=>by rw[<-al,List.set_set,Pd]
   rw[al]at T af;rw[EM ah]at y;clear ag el ah ho al;go_upto_region 14 with fail;generalize W4.setCell (Ad gl (o*3+1)) Bt=W5 at *;have m1:=T.o.gv.c1;have a7:=ap.o.1;have dl:=Mg T.o.rd;clear c0 Q r1 bh l1 l2 bb be a6 X HX d;go_cut [9] from 10 to 110 (λv wc=>v=Iv o/\∃G2 a3 c3,Fj t R w0 w G w.heap.size G2 wc (Sl (Sm g 0) n rc) (Sl (Sm gl 0) m lc) rs (ay.set o ⟨⟨H.d.nm,true,uM 4 (uv 0 0) (uv 2 (a:Int))⟩,H.na,H.nc,a3,c3⟩) i3)
   case first =>
    go_region_law
     (first
      |(refine uF qx rfl _ _ rfl (ys:=#[Iv 0,Iv 0]) (by simp[Act.eval]) (jT 0 0 (dl.q Cj) λV Q V1 B u1 h1=>⟨_,rfl,?_⟩);have ⟨z1,zl1,s1,sf1⟩:=T.o.d r.o af.o B)
      |(refine uF qx rfl _ _ rfl (ys:=#[Iv 2,Iv (a:Int)]) (by simp[Act.eval,Act.put]) (jT 2 (a:Int) B λY Z V2 C u2 h2=>⟨_,rfl,?_⟩);have ⟨z2,zl2,s2,sf2⟩:=T.o.d r.o af.o C)
      |(refine uF Wc rfl _ _ rfl (ys:=#[Iv 4,Sl V (uv 0 0).length Q,Sl Y (uv 2 (a:Int)).length Z]) (by simp[Act.eval,Act.put]) (uid 4 C ((u2 h1).ob C oM) (h2.ob C oM) λa3 c3 V3 W F=>⟨_,rfl,?_⟩);have ⟨z3,zl3,s3,sf3⟩:=T.o.d r.o af.o W;have L:=ua (T.o.s r.o W.1 F af.o ap.o);clear F))
    all_goals go_wp2_with fail
    all_goals go_meet
    all_goals (let⟨J,N⟩:=L.o;exact⟨rfl,J,_,_,N⟩)
   obtain⟨rfl,G6,a3,c3,I⟩:=hcut;obtain⟨W6,hw⟩:∃x,x=wc:=⟨_,rfl⟩;subst hw;have ak:=ua I;let⟨g7,_,e7,aa,_,_,_,_,_⟩:=I.gv.gr.k A.o;obtain rfl:g=g7:=(by injection e7 with e1;injection e1 with e1;injection e1 with e1);have X:=ua aa;have HX:=ua (I.ob ai A.o (aq.o E (Cn A.o)));have n0:=I.gv.c0;have n1:=I.gv.c1;have bn:=aa.1;have d:=Mg I.rd;subst y;clear I e7 aa m1 a7 T dl;go_wp2_with fail;go_region_law
    (first
     |(refine uF qx rfl _ _ rfl (ys:=#[Iv 3,Iv (o:Int)]) (by simp[Act.eval,Act.put]) (jT 3 (o:Int) (d.q Cj) λV Q V1 B u1 h1=>⟨_,rfl,?_⟩);have ⟨z1,zl1,s1,sf1⟩:=ak.o.c r.o A.o B)
     |(refine uF Wc rfl _ _ rfl (ys:=#[Iv 5,Sl E.ba E.d.bd.length E.bc,Sl V (uv 3 (o:Int)).length Q]) (by simp[Act.eval,Act.put]) (uid 5 B (B.ob HX.o) (h1.ob B oM) λY Z V2 C F=>⟨_,rfl,?_⟩);have ⟨z2,zl2,s2,sf2⟩:=ak.o.c r.o A.o C;have L:=ua (ak.o.a r.o C.1 F A.o X.o);clear F))
   all_goals go_wp2_with fail
   all_goals go_meet
   all_goals (let⟨J,N⟩:=L.o;exact⟨rfl,J,_,_,N,by rw[ac.o,a0.o]⟩)
  rw[Zn O]at y;subst y;have aj:(q:Int)=3->¬(0:Int)<(m:Int):=λe k=>O ⟨oM,oM⟩;clear O;by_cases O:(q:Int)=3;all_goals try have q3'':=aj O
  all_goals clear aj
  all_goals go_wp2_with fail
  all_goals
   go_region_law
    (first
     |(refine uF S2 rfl _ _ rfl (ys:=#[Iv 97]) (by simp[Act.eval]) (NY 97 (d.q Cj) λV1 B u1 hI=>⟨_,rfl,?_⟩);have ⟨z1,zl1,s1,sf1⟩:=z.o.c r.o A.o B)
     |(refine uF S1 rfl _ _ rfl (ys:=#[Sl (Sm W4.drew.heap.size 0) 2 2]) (by simp[Act.eval,Act.put]) (Js (s:=vB 97) B hI (by simp[vB]) λY Z V2 C u2 h2=>⟨_,rfl,?_⟩);have ⟨z2,zl2,s2,sf2⟩:=z.o.c r.o A.o C)
     |(refine uF EN rfl _ _ rfl (ys:=#[Iv 6,Sl Y (uL (vB 97)).length Z]) (by simp[Act.eval,Act.put]) (Km 6 C h2 oM λa3 c3 V3 W u3 h3=>⟨_,rfl,?_⟩);have ⟨z3,zl3,s3,sf3⟩:=z.o.c r.o A.o W)
     |(refine uF qx rfl _ _ rfl (ys:=#[Iv 2,Iv (b:Int)]) (by simp[Act.eval,Act.put]) (jT 2 (b:Int) W λa4 c4 V4 d4 u4 h4=>⟨_,rfl,?_⟩);have ⟨z4,zl4,s4,sf4⟩:=z.o.c r.o A.o d4)
     |(refine uF Wc rfl _ _ rfl (ys:=#[Iv 4,Sl a3 (Bq 6 (uL (vB 97))).length c3,Sl a4 (uv 2 (b:Int)).length c4]) (by simp[Act.eval,Act.put]) (uid 4 d4 ((u4 h3).ob d4 oM) (h4.ob d4 oM) λa5 c5 V5 d5 F=>⟨_,rfl,?_⟩);have ⟨z5,zl5,s5,sf5⟩:=z.o.c r.o A.o d5;have L:=ua (z.o.a r.o d5.1 F A.o X.o);clear F))
   all_goals go_wp2_with fail
   all_goals go_meet
   all_goals (let⟨J,N⟩:=L.o;exact⟨by first|rfl|rw[O],J,_,_,N,by rw[ac.o]⟩)
 obtain⟨rfl,G6,ao,an,I,aw⟩:=hcut;obtain⟨W6,hw⟩:∃x,x=wc:=⟨_,rfl⟩;subst hw;have d0:=I.gv.c0;have B:=I.gv.c1;let⟨t0,t1,bz,b0⟩:=I.tw;have HF:=ua (I.l r.o aw);clear I aw;go_wp2;refine zL (v:=.agg #[Sl (Sm g 0) n rc,Sl la m lc]) ?_ rfl ?_
 .simp[results,f61,go_sem, *]
 exact HF.o
def Jt(W:Wl)(cs:Av):Wl:=(W.alloc (Oc cs 5)).freeze (Ad W.heap.size cs.size) 1
def Q3 W cs k c:(convert 22 22 (Sl (Sm W.heap.size 0) k c)).run prog (W.alloc (Oc cs 5))=.ok (Sl (Sm W.heap.size 0) k c) (Jt W cs):=by
 have a:(W.alloc (Oc cs 5)).shape? W.heap.size=some (5,cs.size):=by
  simp[World.shape?,World.alloc,-World.alloc_eq]
 simp[convert,run_underlying underlying22,run_underlying underlying5,markStringish,a,Jt,Result.andThen]
def Q4 W cs j(b:j<W.heap.size):(Jt W cs).heap[j]?=W.heap[j]?:=by
 have a:W.heap.size≠j:=oM;simp[Jt,World.freeze,World.alloc,-World.alloc_eq,Vf,Array.getElem?_push,a,Ne.symm a]
def OG W cs:(Jt W cs).heap[W.heap.size]?=some (.cells cs 5 (cs.size,cs.size+1)):=by
 simp[Jt,World.freeze,World.alloc,-World.alloc_eq];rw[Array.getElem_modify_self];simp
def OH W cs:(Jt W cs).heap.size=W.heap.size+1:=by
 simp[Jt,World.freeze,World.alloc,-World.alloc_eq]
def Q5 W cs:Kf W (Jt W cs):=⟨rfl,rfl,rfl,by rw[OH];omega,λb a _=>Q4 W cs b a⟩
def OI W cs j:(Jt W cs).cell? (Ad W.heap.size j)=cs[j]?:=by
 simp only[World.cell?,OG];simp
def Q6 W cs j(a:j<cs.size):(Jt W cs).frozen? (Ad W.heap.size j)=false:=by
 simp only[World.frozen?,OG];simp;omega
def Q7{ops:Array Oper}{rest o a b W cs k c}(e:o.guard=none)x(f:o.op=.convert 22 22 x)(i:a.eval x=Sl (Sm W.heap.size 0) k c)(h:∀w',w'=Jt W cs->wpList prog ops b rest (a.put o.dst (Sl (Sm W.heap.size 0) k c)) w'):wpList prog ops b (o::rest) a (W.alloc (Oc cs 5)):=by
 refine wpList_plain e λK d=>?_;have g:=Q3 W cs k c;unfold Oper.wp execOp;simp only[f,Nl,Nm,Pf,i,g];exact d _ _ (h _ rfl)
def NR(t:Tp)(R c:Nat)(a:Wl)(n m e:Nat)(h:Vl)(rs:List GC)(f:Vl)(wr:Wl):Prop :=
 ∃(k:Nat) (G:Nat->Nat) (ls:List GC) (g:Vl),k<=m/\f=Iv (k:Int)/\Ay c a G wr h g rs ls/\ls.map (·.d)=(vy t n e k).1/\Ch t R wr (vy t n e k).2/\zA (λb=>b=R\/b=c) a wr
def P2{t R c b W n m e k h rs ls}{q:(Bool×List OpD)×Nat}{na ba nc bc v}(o:k<m)(l:ls.map (·.d)=(vy t n e k).1)(g:Rh t n (vy t n e k).2=q)(i:∃a,Ay c b a W h v rs (ls++[⟨⟨Ny k,q.1.1,q.1.2⟩,na,nc,ba,bc⟩]))(f:Ch t R W q.2/\zA (λx=>x=R\/x=c) b W):NR t R c b n m e h rs (Iv ((k+1:Nat):Int)) W:=by
 obtain⟨a,j⟩:=i;refine⟨k+1,a,_,v,o,rfl,j,?_,?_,f.2⟩
 .rw[vy,Dt,l,g];rfl
 rw[vy,g];exact f.1
def DV(k:Nat):ByteArray:=if k=0 then ⟨#[101,49]⟩ else if k=1 then ⟨#[101,114,114]⟩ else ⟨#[109,105,100,95,50]⟩
def NT k:bytesOf (DV k)=Ny k:=by
 unfold DV Ny;split
 .rfl
 split
 .rfl
 rfl
def P3(w:Wl)(k:Nat)(b:k<3){t}:(w.alloc (Oc #[.string ⟨#[101,49]⟩,.string ⟨#[101,114,114]⟩,.string ⟨#[109,105,100,95,50]⟩] t)).cell? (Ad w.heap.size k)=some (.string (DV k)):=by
 have a:=Eo w (Oc #[.string ⟨#[101,49]⟩,.string ⟨#[101,114,114]⟩,.string ⟨#[109,105,100,95,50]⟩] t);simp only[World.cell?,a];match k,b with
 |0,_=>rfl
 |1,_=>rfl
 |2,_=>rfl
def DW{p:Prop}[Decidable p]{b}(e:decide p=b)(h:¬p):Bf=.bool b:=by rw[<-e,Ix h]
def NU{n b}k m c(h:Ep n b):Ep (n+2) (Kl k m c b):=by
 unfold Kl;split
 .exact yt 4 h (xK 2 1)
 exact h.h oM
def NV{n b}k c(h:Ep n b):Ep (n+3) (Ld k c b):=by
 unfold Ld;split
 .exact yt 4 h (Pw 7 (qC sM))
 exact h.h oM
def NW{n b}k m c(h:Ep n b):Ep (n+4) (Mf k m c b):=by
 unfold Mf;split
 .exact(yt 4 (yt 5 (qC (s:=vB 97) (by simp[vB])) (xK 3 0)) h).h oM
 exact h.h oM
def P4{b}k m c(h:0<b.length):0<(Kl k m c b).length:=by
 unfold Kl;split
 .simp[uM];omega
 exact h
def P5{b}k c(h:0<b.length):0<(Ld k c b).length:=by
 unfold Ld;split
 .simp[uM];omega
 exact h
def DX t n m a:∀(k:Nat) (x:NL),x∈(vD t n m a k).1->Ep 300 x.bd
 |0,x,h=>by cases h
 |k+1,x,h=>by
  rw[vD]at h;rcases By.1 h with q|q
  .exact DX t n m a k x q
  obtain rfl:=Bu.1 q;exact(NW _ _ _ (NV _ _ (NU _ _ _ ((kH t k n m 5 false _).h (DP oM))))).h oM
def P6:vJ 32 69 3 56:=⟨underlying32,⟨_,DK,rfl⟩,oM⟩
def jq t R i w(h:Ch t R w i)(g:(List NL×List NL)×Nat)(aq:vG t i=g) :
  Cs 59 #[.pointer (Sm R 0)] w (DU t R g w):=by
 have hv:=t.a i;have db:=t.a (t.n i);have cc:=h.lt;go_enter func59,ntmps59;go_wp2_with fail;refine(uE t R i _ (h.y (Gh (λ_=>False) _) (λ_ q=>q.elim))).mono ?_;rintro e w1 ⟨rfl,bk⟩;go_wp2_with fail;refine(uE t R (t.n i) _ bk.1).mono ?_;rintro e J ⟨rfl,ch⟩;have X:=bk.c ch;have HR:=ua X;have cb:=X.1.lt;clear bk ch X h;unfold vG at aq;dsimp only at aq;generalize t.v i=kn at *;generalize t.v (t.n i)=km at *;generalize t.n (t.n i)=P at *;let⟨n,hn⟩:=nm (1+kn%4);have hn':1+(kn:Int)%4=(n:Int):=oM;have dt:n<=4:=oM;let⟨m,hm⟩:=nm (km%4);have hm':(km:Int)%4=(m:Int):=oM;have ds:m<=3:=oM;rw[hn,hm]at aq;have bs:=ua aq;clear hn hm hv db aq;go_wp2_with fail;generalize ah:J.alloc (Oc #[nS,nS] 34)=H at *;have cd:J.heap.size<H.heap.size:=by rw[<-ah];simp
 have cn:Hid (Ay J.heap.size H (λ_=>3) H nS nS [] []):=by
  show Ay _ _ _ _ _ _ _ _;rw[<-ah];exact NO J
 have cu:Hid (Ch t R H P):=by
  show Ch t R H P;rw[<-ah];exact HR.o.1.y (Gh (λ_=>False) _) (λ_ q=>q.elim)
 have co:Hid (zA (λb=>b=R) w H):=by
  show zA _ w H;rw[<-ah];exact((zA.a _ w _).c HR.o.2).c zY
 have ak:Hid (R<H.heap.size/\R≠J.heap.size):=⟨oM,oM⟩;have du:w.heap.size<J.heap.size:=by have:=HR.o.2.l;simp at this;omega
 have cy:Hid (Fy w.heap.size H):=by
  show Fy _ H;rw[<-ah];exact((Za w).y HR.o.2 (λe=>oM)).y (Gh (λ_=>False) _) (λe=>e)
 clear ah;go_loopw [6] (λiv wr=>NP t R J.heap.size H n m P iv wr) (λiv _=>n-(intOf iv).toNat)
 .exact⟨0,_,[],_,zK,rfl,cn.o,rfl,cu.o,Cc⟩
 obtain⟨k,G,rs,rv,hk,rfl,hg,bl,ae,ai⟩:=hrel;have HG:Hid (Ay J.heap.size H G wr rv nS rs []):=hg;have a1:Hid (rs.map (·.d)=(vD t n m P k).1):=bl;have ac:Hid (Ch t R wr (vD t n m P k).2):=ae;have be:Hid (zA (λb=>b=R\/b=J.heap.size) H wr):=ai;have dq:=ae.lt;have bx:Hid (rs.length=k):=by
  show rs.length=k;rw[<-Bl (f:=(·.d)),bl];exact qy t n m P k
 clear hg bl ae ai;by_cases a8:k<n
 .have hlt':(k:Int)<(n:Int):=oM;let⟨I,T⟩:=nm (vD t n m P k);let⟨b,hb⟩:=nm (yo t k n m 5 false I.2);have cw:Hid (vD t n m P (k+1)=(I.1++[⟨[((115+k%8:Nat):Int)],true,Mf k m (t.v b.2) (Ld k (t.v b.2) (Kl k n (t.v b.2) b.1))⟩],t.n b.2)):=by
   show vD t n m P (k+1)=_;rw[vD,T,hb]
  have al:Hid (rs.map (·.d)=I.1):=T▸a1.o;go_wp2_with fail;refine MY k n m 5 5 rfl false ⟨oM,oM,oM,oM⟩ (Mg (T▸ac.o)) λa0 c0 w3 d u h=>?_;rw[hb]at d h ⊢;go_wp2_with fail;refine Le d λw4 d u=>?_;replace h:=u h;have vc:=t.a b.2;clear u hb T a1;generalize t.v b.2=c at *;generalize t.n b.2=i2 at *;generalize b.1=D0 at *;let⟨q1,A⟩:=nm (decide (k=0/\c%3=1/\1<n));have ax:=ua A;clear A;go_upto_region 9 with fail;go_cut [42] from 20 to 83 (λv wc=>v=.bool q1/\w4=wc)
  case first =>
   rcases Nn k with rfl|q0
   .by_cases q1:(c:Int)%3=1<;>by_cases q2:(1:Int)<(n:Int)
    all_goals
     go_wp2_with fail;go_meet;refine⟨Bj _ ?_,rfl⟩;rw[<-ax.o];first|(simp;omega)|(rw[Ni];simp;omega)
   have q0':¬(k:Int)=0:=oM;have q0'':((k:Int)==0)=false:=sO;go_wp2_with fail;go_meet;exact⟨DW ax.o oM,rfl⟩
  obtain⟨rfl,O⟩:=hcut;subst O;let⟨D1,U⟩:=nm (Kl k n c D0);have am:=ua U;clear U;go_upto_if 42 with fail;go_cut [7] from 20 to 83 (λv wc=>∃a c',v=Sl a D1.length c'/\Hv wr wc a c' D1 202/\Dr t R i2 wr wc)
  case first =>
   cases q1 with
   |true =>
    have q:=of_decide_eq_true ax.o;rw[Kl,Zp q]at am;obtain rfl:=am.o;clear q;go_wp2_with fail;refine jT 2 1 d λa c V d u L=>?_;go_wp2_with fail;refine Jr 4 d (u h) L oM λa c S d u h=>?_;go_wp2_with fail;go_meet;exact⟨_,_,rfl,h.m oM,d⟩
   |false =>
    have q:=of_decide_eq_false ax.o;rw[Kl,Zn q]at am;obtain rfl:=am.o;clear q;go_wp2_with fail;go_meet;exact⟨_,_,rfl,h.m oM,d⟩
  obtain⟨di,dk,rfl,h,d⟩:=hcut;obtain⟨dg,O⟩:∃x,x=wc:=⟨_,rfl⟩;subst O;let⟨q2,A⟩:=nm (decide (k=0/\c%4=1));have ay:=ua A;clear A;go_upto_region 11 with fail;go_cut [52] from 20 to 83 (λv wc=>v=.bool q2/\dg=wc)
  case first =>
   rcases Nn k with rfl|q0
   .by_cases q1:(c:Int)%4=1;all_goals
     go_wp2_with fail;go_meet;refine⟨Bj _ ?_,rfl⟩;rw[<-ay.o];first|(simp;omega)|(rw[Ni];simp;omega)
   have q0':¬(k:Int)=0:=oM;have q0'':((k:Int)==0)=false:=sO;go_wp2_with fail;go_meet;exact⟨DW ay.o oM,rfl⟩
  obtain⟨rfl,O⟩:=hcut;subst O;let⟨D2,U⟩:=nm (Ld k c D1);have an:=ua U;clear U;go_upto_if 52 with fail;go_cut [7] from 20 to 83 (λv wc=>∃a c',v=Sl a D2.length c'/\Hv wr wc a c' D2 205/\Dr t R i2 wr wc)
  case first =>
   cases q2 with
   |true =>
    have q:=of_decide_eq_true ay.o;rw[Ld,Zp q]at an;obtain rfl:=an.o;clear q;go_wp2_with fail;refine DY 0 255 d λa c V d u L=>?_;replace h:=u h;go_wp2_with fail;refine Km 7 d L oM λa c V d u L=>?_;go_wp2_with fail;refine Jr 4 d (u h) L oM λa c S d u h=>?_;go_wp2_with fail;go_meet;exact⟨_,_,rfl,h.m oM,d⟩
   |false =>
    have q:=of_decide_eq_false ay.o;rw[Ld,Zn q]at an;obtain rfl:=an.o;clear q;go_wp2_with fail;go_meet;exact⟨_,_,rfl,h.m oM,d⟩
  obtain⟨dj,dm,rfl,h,d⟩:=hcut;obtain⟨dh,O⟩:∃x,x=wc:=⟨_,rfl⟩;subst O;let⟨q3,A⟩:=nm (decide (k=0/\c%5=1/\0<m));have az:=ua A;clear A;go_upto_region 13 with fail;go_cut [68] from 20 to 83 (λv wc=>v=.bool q3/\dh=wc)
  case first =>
   rcases Nn k with rfl|q0
   .by_cases q1:(c:Int)%5=1<;>by_cases q2:(0:Int)<(m:Int)
    all_goals
     go_wp2_with fail;go_meet;refine⟨Bj _ ?_,rfl⟩;rw[<-az.o];first|(simp;omega)|(rw[Ni];simp;omega)
   have q0':¬(k:Int)=0:=oM;have q0'':((k:Int)==0)=false:=sO;go_wp2_with fail;go_meet;exact⟨DW az.o oM,rfl⟩
  obtain⟨rfl,O⟩:=hcut;subst O;let⟨D3,U⟩:=nm (Mf k m c D2);have ao:=ua U;clear U;go_upto_if 68 with fail;go_cut [7] from 20 to 83 (λv wc=>∃a c',v=Sl a D3.length c'/\Hv wr wc a c' D3 209/\Dr t R i2 wr wc)
  case first =>
   cases q3 with
   |true =>
    have q:=of_decide_eq_true az.o;rw[Mf,Zp q]at ao;obtain rfl:=ao.o;clear q;go_wp2_with fail;refine NY 97 d λV d u hI=>?_;replace h:=u h;go_wp2_with fail;refine Js (s:=[97,97]) d hI sM λa c V d u L=>?_;replace h:=u h;go_wp2_with fail;refine jT 3 0 d λa c V d u h3=>?_;replace h:=u h;go_wp2_with fail;refine Jr 5 d (u L) h3 oM λa c V d u L=>?_;go_wp2_with fail;refine Jr 4 d L (u h) oM λa c S d u h=>?_;go_wp2_with fail;go_meet;exact⟨_,_,rfl,h.m oM,d⟩
   |false =>
    have q:=of_decide_eq_false az.o;rw[Mf,Zn q]at ao;obtain rfl:=ao.o;clear q;go_wp2_with fail;go_meet;exact⟨_,_,rfl,h.m oM,d⟩
  obtain⟨a2,a3,rfl,h,d⟩:=hcut;obtain⟨cj,O⟩:∃x,x=wc:=⟨_,rfl⟩;subst O;have z4:=HG.o.h d.1.2 (λx e=>by subst e;exact ak.o) 3;have d0:=z4.c0;have d1:=z4.c1;have e0:=z4.f0;have e1:=z4.f1;clear z4;go_wp2_with fail;go_region_law
   (first
    |(refine uF O7 rfl _ _ rfl (ys:=#[Iv (k:Int)]) (by simp[Act.eval,Act.put]) ((T4 k oM cj.drew).mono ?_);rintro e W5 ⟨v,rfl,na,nc,rfl,cg,ce⟩;have bt:=ua (Cj.c ce);have z0:=(HG.o.h (d.1.2.c (bt.o.h (λ_ q=>q.elim))) (λx e=>by subst e;exact ak.o) 3).c0;have zl:=ud z0;have aj:=ua cg;clear cg ce;refine⟨_,rfl,?_⟩)
    |(have ka:=bt.o.c (Gh _ (Oc #[Sl na 1 nc,Sl a2 D3.length a3] 104));let⟨G2,ab,au,ap⟩:=NN (z:=[((115+k%8:Nat):Int)]) (N:=zF cj W5) (4+2*rs.length) ak.o HG.o (d.1.2.c (ka.h (λ_ q=>q.elim))) (aj.o.h (zO W5)) (h.bd.h ka) (λx q=>⟨by have:=d.1.2.l;have:=q.1;omega,by have:=q.2;simp;omega⟩) (λx q=>⟨q.1,by have:=ka.l;have:=q.2;omega⟩) (λx q q'=>oG q.1 q'.2);refine jN rfl (.tmp 76) (.tmp 81) 31 31 rfl (v:=rv) (y:=Sl (Sm W5.heap.size 0) 1 1) (by simp[Act.eval,Act.put]) (by simp[Act.eval,Act.put]) CW (n:=rs.length) (cs:=rs.flatMap Fu) (news:=Fu ⟨⟨[((115+k%8:Nat):Int)],true,D3⟩,na,nc,a2,a3⟩) ab.gr.c (NK (x:=⟨⟨[((115+k%8:Nat):Int)],true,D3⟩,na,nc,a2,a3⟩) (Eo W5 _)) (oH bx.o) ?_;intro v6 W6 ad W bm;obtain⟨a6,c6,rfl⟩:=uj ad;let⟨z1,_,z2,_⟩:=xI ab oM W;have HE:=ua (O5 (x:=⟨⟨[((115+k%8:Nat):Int)],true,D3⟩,na,nc,a2,a3⟩) ab au ap ad W);have HF:=ua (NQ (o:=0) (v:=Sl a6 (rs.length+1) c6) cb cd ab oM be.o (d.1.2.c (ka.h (λ_ q=>q.elim))) W (d.1.1.y ka (λ_ q=>q.elim)));clear ad W bm ab au ap ka))
  all_goals go_wp2
  all_goals go_roundw
  all_goals first
   |exact O8 a8 al.o cw.o (by rw[am.o,an.o,ao.o]) HE.o HF.o
   |(simp[intOf];omega)
 obtain rfl:k=n:=oM;let⟨I,T⟩:=nm (vD t k m P k);have al:Hid (rs.map (·.d)=I.1):=T▸a1.o;have cr:Hid (Ch t R wr I.2):=T▸ac.o;have a9:Hid (((I.1,vM I.1 (vy t k I.2 m).1 m),(vy t k I.2 m).2)=g):=T▸bs.o;have cv:Hid (∀x∈rs,x.d.bd.length<=1048576):=λx U=>zP (DX t k m P k x.d (by rw[T,<-al.o];exact Gj.2 ⟨x,U,rfl⟩)).1 oM;clear T a1 ac bs a8;obtain⟨wa,dc⟩:∃x,x=wr:=⟨_,rfl⟩;subst dc;have dy:=be.o.l;go_wp2_with fail;simp only[hm'];go_loopw [9] (λiv wr=>NR t R J.heap.size H k m I.2 rv rs iv wr) (λiv _=>m-(intOf iv).toNat)
 .exact⟨0,G,[],_,zK,rfl,HG.o,rfl,cr.o,be.o⟩
 obtain⟨j,G1,ls,lv,hj,rfl,hg,bj,ae,ai⟩:=hrel;have aa:Hid (Ay J.heap.size H G1 wr rv lv rs ls):=hg;have b0:Hid (ls.map (·.d)=(vy t k I.2 j).1):=bj;have ac:Hid (Ch t R wr (vy t k I.2 j).2):=ae;have bb:Hid (zA (λb=>b=R\/b=J.heap.size) H wr):=ai;have c4:=ae.lt;have dz:=ai.l;have bz:Hid (ls.length=j):=by
  show ls.length=j;rw[<-Bl (f:=(·.d)),bj];exact qz t k I.2 j
 clear hg bj ae ai;by_cases a8:j<m
 .have hlt':(j:Int)<(m:Int):=oM;have c5:j<3:=oM;let⟨q,A⟩:=nm (Rh t k (vy t k I.2 j).2);have HQ:=ua A;let⟨i1,bi⟩:=nm ((vy t k I.2 j).2);rw[bi]at A;have b7:Hid (Ch t R wr i1):=bi▸ac.o;have c7:=P3 wr j c5 (t:=9);have d2:=t.a i1;clear bi ac;go_upto_region 20 with fail;generalize b8:wr.alloc (Oc #[.string ⟨#[101,49]⟩,.string ⟨#[101,114,114]⟩,.string ⟨#[109,105,100,95,50]⟩] 9)=Y at *;have bp:Hid (Kf wr Y):=b8▸zY;clear b8;go_wp2_with (refine OU rfl _ rfl rfl ?_;intro na nc E h1 L;rw[NT]at h1;rw[NT];have HN:Hid (Ints (zF Y E) .u8 E na (Ny j).length (lf (Ny j))):=h1;have bq:Hid (Kf Y E):=L;clear h1 L);generalize hz:Ny j=z at *;have c3:=ua hz;clear hz c7;generalize a4:E.alloc (Oc #[Sl na z.length nc,Bf,nS] 69)=Z at *;have bw:Hid (Lb E.heap.size Z (Sl na z.length nc) false nS):=a4▸O9 E _;have br:Hid (Kf E Z):=a4▸zY;have c9:Z.heap.size=E.heap.size+1:=by rw[<-a4];simp
  clear a4;have c8:=bp.o.l;have dv:=bq.o.l;have bg:zE t R i1 wr Z:=(((zE.e b7.o).d bp.o).d bq.o).d br.o;refine(uE t R i1 Z bg.1).mono ?_;rintro e A4 ⟨rfl,X⟩;have b6:Hid (zE t R (t.n i1) wr A4):=bg.c X;have aw:Hid (Lb E.heap.size A4 (Sl na z.length nc) false nS):=bw.o.y X.2 (λe=>oM);have b5:Hid (Ints (zF Y E) .u8 A4 na z.length (lf z)):=(HN.o.m br.o (λ_ _ x=>x)).m X.2 (λb x e=>oH x.1);have dw:=X.2.l;clear X bg bw b7;unfold Rh at A;generalize t.v i1=kc at *;generalize t.n i1=i2 at *;obtain⟨c,hc⟩:∃c:Nat,kc%8=c:=⟨_,rfl⟩;have hc':(kc:Int)%8=(c:Int):=oM;have dr:c<8:=oM;rw[hc]at A;clear hc;go_upto_if 100 with fail;go_cut [12] from 84 to 132 (λv wc=>v=Iv c/\∃ba bc,Lb E.heap.size wc (Sl na z.length nc) q.1.1 (Sl ba q.1.2.length bc)/\zQ (zF Z wc) wc (Sl ba q.1.2.length bc) q.1.2/\zE t R q.2 wr wc/\Ints (zF Y E) .u8 wc na z.length (lf z))
  .by_cases b1:(c:Int)<6
   .rw[Zp oM]at A;have l1:=aw.o.c1;have de:=aw.o.f1;have bu:=ua (aw.o.a true);have af:=ua (b6.o.set (b:=E.heap.size) (o:=1) (v:=Bt) oM oM);have aj:=ua (b5.o.m (zA.b (C:=λb=>b=E.heap.size) A4 (Ad E.heap.size 1) Bt rfl) (λb x e=>oH x.2));have da:=(uh A4 (Ad E.heap.size 1) Bt).symm;go_upto_if 103 with fail;generalize A4.setCell (Ad E.heap.size 1) Bt=V at *;clear l1 de;have FL:=ua λ(i:Nat) (w:Wl) (d:Dr t R i V w)=>bu.o.y d.1.2 (λe=>oM);have FI:=ua λ(a:Oa) (c:Nat) (D:List OpD) (i n:Nat) (w:Wl) (d:Dr t R i V w) (h:Hv V w a c D n)=>P1 (af.o.c d.1) bu.o aj.o d.1.2 h.bd rfl c9 oM oM c4 c8;have d:=Mg af.o.1;by_cases b2:(c:Int)<2
    .rw[Zp oM]at A;let⟨s,hs⟩:=nm (yg t i2);have HS:=ua hs;have dd:s.1.length<=4:=hs▸vI t i2;rw[hs]at A;clear hs;subst A;go_wp2_with fail;refine Mh d λa c S d u h=>?_;rw[HS.o]at d h ⊢;go_wp2_with fail;refine Js d h dd λa c S d u h=>?_;go_wp2_with fail;refine Km 7 d h oM λa c S d u h=>?_;go_wp2_with fail;refine DY 0 255 d λa c S d u L=>?_;go_wp2_with fail;refine Jr 4 d (u h) L oM λa c S d u h=>?_;go_wp2_with fail;refine Km 6 d h oM λa c S d u h=>?_;have l2:=(FL.o _ _ d).c2;have bn:=(FL.o _ _ d).f2;go_wp2_with fail;go_meet;exact⟨rfl,_,_,FI.o _ _ _ _ _ _ d h⟩
    rw[Zn oM]at A;by_cases b3:(c:Int)=2
    .rw[Zp oM]at A;subst A;go_wp2_with fail;refine jT 0 0 d λa c S d u h=>?_;have l2:=(FL.o _ _ d).c2;have bn:=(FL.o _ _ d).f2;go_wp2_with fail;go_meet;exact⟨by first|rfl|rw[b3],_,_,FI.o _ _ _ _ _ _ d h⟩
    rw[Zn oM]at A;by_cases b4:(c:Int)=3
    .rw[Zp oM]at A;subst A;go_wp2_with fail;refine DY 0 255 d λa c S d u h=>?_;have l2:=(FL.o _ _ d).c2;have bn:=(FL.o _ _ d).f2;go_wp2_with fail;go_meet;exact⟨by first|rfl|rw[b4],_,_,FI.o _ _ _ _ _ _ d h⟩
    rw[Zn oM]at A;subst A;go_wp2_with fail;refine MY k k 0 3 3 rfl false ⟨oM,oM,oM,oM⟩ d λa c S d u h=>?_;have l2:=(FL.o _ _ d).c2;have bn:=(FL.o _ _ d).f2;go_wp2_with fail;go_meet;exact⟨rfl,_,_,FI.o _ _ _ _ _ _ d h⟩
   rw[Zn oM]at A;subst A;go_wp2_with fail;go_meet;exact⟨rfl,none,0,aw.o,DR,b6.o,b5.o⟩
  obtain⟨rfl,ba,bc,ag,b9,a5,ca⟩:=hcut;obtain⟨F,O⟩:∃x,x=wc:=⟨_,rfl⟩;subst O;have cm:Hid (zQ (zF Z F) F (Sl ba q.1.2.length bc) q.1.2):=b9;have af:Hid (zE t R q.2 wr F):=a5;have aj:Hid (Ints (zF Y E) .u8 F na z.length (lf z)):=ca;have gv:=aa.o.h a5.2 (λx e=>by subst e;exact ak.o) 3;have g0:=gv.c0;have g1:=gv.c1;have dn:=gv.f0;have dp:=gv.f1;have l0:=ag.c0;have l1:=ag.c1;have l2:=ag.c2;have da:=a5.2.l;have dx:E.heap.size<F.heap.size:=ud ag.c0;have cx:Hid (∀b,zF Y E b->b<F.heap.size):=λb x=>by have h1:=x.2;have L:E.heap.size<F.heap.size:=ud ag.c0;omega
  clear ag b9 a5 ca gv;have HM:Hid (∃G',Ay J.heap.size H G' (F.alloc (Oc #[Sl na z.length nc,.bool q.1.1,Sl ba q.1.2.length bc] 69)) rv lv rs ls/\Ints (Tg G' (F.alloc (Oc #[Sl na z.length nc,.bool q.1.1,Sl ba q.1.2.length bc] 69)) 2) .u8 (F.alloc (Oc #[Sl na z.length nc,.bool q.1.1,Sl ba q.1.2.length bc] 69)) na z.length (lf z)/\zQ (Tg G' (F.alloc (Oc #[Sl na z.length nc,.bool q.1.1,Sl ba q.1.2.length bc] 69)) (5+2*ls.length)) (F.alloc (Oc #[Sl na z.length nc,.bool q.1.1,Sl ba q.1.2.length bc] 69)) (Sl ba q.1.2.length bc) q.1.2):=NN (N:=zF Y E) (B:=zF Z F) (5+2*ls.length) ak.o aa.o (af.o.2.c zY) (aj.o.h (zO F)) ((cm.o.h (C:=λ_=>False) zY (λx e=>e.elim))) (λx y=>⟨by have:=y.1;omega,by have:=cx.o x y;simp;omega⟩) (λx y=>⟨by have:=y.1;omega,by have:=y.2;simp;omega⟩) (λx y y'=>oG y.2 y'.1);let⟨G2,ab,au,ap⟩:=HM.o;have av:Hid (Ay J.heap.size H G2 (F.alloc (Oc #[Sl na z.length nc,.bool q.1.1,Sl ba q.1.2.length bc] 69)) rv lv rs ls):=ab;have cq:Hid (Ints (Tg G2 (F.alloc (Oc #[Sl na z.length nc,.bool q.1.1,Sl ba q.1.2.length bc] 69)) 2) .u8 (F.alloc (Oc #[Sl na z.length nc,.bool q.1.1,Sl ba q.1.2.length bc] 69)) na z.length (lf z)):=au;have ck:Hid (zQ (Tg G2 (F.alloc (Oc #[Sl na z.length nc,.bool q.1.1,Sl ba q.1.2.length bc] 69)) (5+2*ls.length)) (F.alloc (Oc #[Sl na z.length nc,.bool q.1.1,Sl ba q.1.2.length bc] 69)) (Sl ba q.1.2.length bc) q.1.2):=ap;clear ab au ap HM;go_wp2_with (at_builtin;refine jM rfl _ _ 32 32 rfl rfl rfl P6 (v:=lv) (Q:=Tg G2 (F.alloc (Oc #[Sl na z.length nc,.bool q.1.1,Sl ba q.1.2.length bc] 69)) 1) (n:=ls.length) (cs:=ls.flatMap Ef) (news:=Ef ⟨⟨z,q.1.1,q.1.2⟩,na,nc,ba,bc⟩) av.o.gr.e (NM (x:=⟨⟨z,q.1.1,q.1.2⟩,na,nc,ba,bc⟩) (Eo F _)) (oH bz.o) ?_;intro v6 W6 ad W bm;obtain⟨a6,c6,rfl⟩:=uj ad;let⟨_,z1,_,z2⟩:=xI av.o oM W;have HE:Hid (∃G',Ay J.heap.size H G' (W6.setCell (Ad J.heap.size 1) (Sl a6 (ls.length+1) c6)) rv (Sl a6 (ls.length+1) c6) rs (ls++[⟨⟨z,q.1.1,q.1.2⟩,na,nc,ba,bc⟩])):=O6 (x:=⟨⟨z,q.1.1,q.1.2⟩,na,nc,ba,bc⟩) av.o cq.o ck.o ad W;have HF:Hid (Ch t R (W6.setCell (Ad J.heap.size 1) (Sl a6 (ls.length+1) c6)) q.2/\zA (λx=>x=R\/x=J.heap.size) H (W6.setCell (Ad J.heap.size 1) (Sl a6 (ls.length+1) c6))):=NQ cb cd av.o oM bb.o (af.o.2.c zY) W (af.o.1.y (Gh (λ_=>False) _) (λ_ x=>x.elim));clear ad W bm);go_roundw;all_goals first
   |exact P2 a8 b0.o HQ.o (by rw[c3.o];exact HE.o) HF.o
   |(simp[intOf];omega)
 obtain rfl:j=m:=oM;obtain⟨ra,rc,rfl⟩:=uj aa.o.gr.c;obtain⟨la,lc,rfl⟩:=uj aa.o.gr.e;have g0:=aa.o.c0;have g1:=aa.o.c1;have ci:Fy w.heap.size wr:=cy.o.y bb.o (λx=>by rcases x with x|x<;>omega);have cz:Hid (Fy w.heap.size wr):=ci;clear ci;go_wp2_with fail;refine(W3 H wr G1 ra la rc lc rs ls aa.o.gr aa.o.le (oH bx.o) (oH bz.o) cv.o).mono ?_;rintro e w9 ⟨G9,bo,rfl,bh,cf,a7⟩;let⟨t0,t1,f0,f1⟩:=cz.o.y a7 (λx=>oM);have cp:Hid (bo.map (·.d)=vM I.1 (vy t k I.2 j).1 j):=by
  show _=_;rw[cf,al.o,b0.o,qz]
 have bf:G9 w.heap.size=3:=bh.r oM;have HO:Hid (Cp w G9 ((w9.setCell (Ad w.heap.size 0) (Sl ra rs.length rc)).setCell (Ad w.heap.size 1) (Sl la ls.length lc)) (Sl ra rs.length rc) (Sl la ls.length lc) rs bo):=((bh.set bf).set bf).p oM;have ct:Hid (zE t R (vy t k I.2 j).2 w ((w9.setCell (Ad w.heap.size 0) (Sl ra rs.length rc)).setCell (Ad w.heap.size 1) (Sl la ls.length lc))):=by
  refine zE.set (zE.set ⟨ac.o.y a7 (λb x=>oM),Yq (Yq co.o bb.o (λb x=>?_)) a7 (λb x=>.inr oM)⟩ zD cc) zD cc;rcases x with x|x
  .exact .inl x
  exact .inr oM
 clear bh cf a7 bf;go_wp2;refine zL (v:=.agg #[Sl ra rs.length rc,Sl la ls.length lc]) ?_ rfl ?_
 .simp[results,f59,go_sem, *]
 refine⟨_,_,G9,rs,bo,rfl,HO.o,?_,?_,?_⟩
 .rw[<-a9.o];exact al.o
 .rw[<-a9.o];exact cp.o
 rw[<-a9.o];exact ct.o
end Go.Proofs.YtmlblamikgkdcaaGreat
