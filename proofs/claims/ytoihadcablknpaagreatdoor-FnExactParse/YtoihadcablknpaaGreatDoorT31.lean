import Derived.Test.YtoihadcablknpaaGreatDoorT26
import Derived.Test.YtoihadcablknpaaGreatDoorT23
import Derived.Test.YtoihadcablknpaaGreatDoorT30
set_option linter.unusedVariables false
set_option linter.unusedSimpArgs false
set_option linter.defProp false
set_option maxHeartbeats 40000000
set_option maxRecDepth 100000
namespace Go.Proofs.YtoihadcablknpaaGreatDoor
open Go.RowKit
open Go.Proofs.Tryz
open M (OpD uh Gr uw EX ins uJ jW lk)
def Te(m:Nat)(d:uw):Prop:=d.e=6\/d.e=8->∃n:Nat,n<m/\d.to=(n:Int)
theorem WD m t(c:t.a m):∀p d,d∈uJ (fun n=>(n:Int)) t p->Te m d:=by
 have e:∀k a z:Int,k≠6->k≠8->Te m (ins k a z):=fun k a z i j q=>by
  rcases q with q | q
  ·exact aB q i
  ·exact aB q j
 induction t with
 |empty=>intro p d b;simp[uJ]at b
 |set n S=>intro p d b;simp[uJ]at b;subst b;intro q;rcases q with q | q<;>simp at q
 |ref n | thr l n=>intro p d b;simp[uJ]at b;subst b;exact fun _=>⟨n,c,rfl⟩
 |seq x y g h =>
  intro p d b;rw[uJ]at b;rcases Bh.1 b with q | q
  ·exact g c.1 _ d q
  ·exact h c.2 _ d q
 |alt x y g h =>
  intro p d b;rw[uJ]at b;rcases Bx.1 b with rfl | q
  ·exact e _ _ _ dC dC
  ·rcases Bh.1 q with q | q
   ·exact g c.1 _ d q
   ·rcases Bx.1 q with rfl | q
    ·exact e _ _ _ dC dC
    ·exact h c.2 _ d q
 |star x f =>
  intro p d b;rw[uJ]at b;rcases Bx.1 b with rfl | q
  ·exact e _ _ _ dC dC
  ·rcases Bh.1 q with q | q
   ·exact f c _ d q
   ·simp at q;subst q;exact e _ _ _ dC dC
 |not x f =>
  intro p d b;rw[uJ]at b;rcases Bx.1 b with rfl | q
  ·exact e _ _ _ dC dC
  ·rcases Bh.1 q with q | q
   ·exact f c _ d q
   ·simp at q;subst q;exact e _ _ _ dC dC
def vT(g:Gr)(k:Nat):List uw:=M.bK (fun n=>(n:Int)) (Gt g) (If g) (kP g) k
theorem jg g k:(vT g k).length=PL g k:=M.eR _ _ _ _ _ _
theorem jA g k(h:0<(nd g k).bl):vT g (k+1)=vT g k++M.nodeC (fun n=>(n:Int)) (Gt g k) (If g k) (PL g k):=by
 have e:kP g k=true:=by simp[kP,h]
 unfold vT;rw[M.bK,Zp e,show (M.bK (fun n=>(n:Int)) (Gt g) (If g) (kP g) k).length=PL g k from jg g k]
theorem Xj g k(h:¬0<(nd g k).bl):vT g (k+1)=vT g k:=by
 have e:¬kP g k=true:=by simp[kP,h]
 unfold vT;rw[M.bK,Zn e]
theorem FK g p:(Gt g p).e=9\/(Gt g p).e=10:=by
 unfold Gt;split
 ·exact .inl rfl
 ·exact .inr rfl
theorem WE{g}(c:M.Valid g)k(n:k<=g.nr+g.nb):∀d,d∈vT g k->Te (g.nr+g.nb) d:=by
 have f:∀k a z:Int,k≠6->k≠8->Te (g.nr+g.nb) (ins k a z):=fun k a z j l q=>by
  rcases q with q | q
  ·exact aB q j
  ·exact aB q l
 induction k with
 |zero =>
  intro d b;have hd':d=ins 6 0 ((0:Nat):Int)\/d=ins 12 0 0:=by simpa[vT,M.bK] using b
  rcases hd' with rfl | rfl
  ·exact fun _=>⟨0,by have:=c.r1;omega,rfl⟩
  ·exact f _ _ _ dC dC
 |succ k i =>
  intro d b;by_cases h:0<(nd g k).bl
  ·rw[jA g k h]at b
   rcases Bh.1 b with q | q
   ·exact i oM d q
   ·unfold M.nodeC at q
    rcases Bx.1 q with rfl | q
    ·intro r
     rcases FK g k with e | e<;>rw[e]at r<;>rcases r with r | r<;>cases r
    ·rcases Bh.1 q with q | q
     ·have m:M.bF g.nr g.nb (nd g k).bl (nd g k).e:=(jP c.a (show k<g.nr+g.nb by omega)).elim (fun q=>oM) id
      exact WD _ _ (M.iN m.1) _ d q
     ·simp at q
      rcases q with rfl | rfl<;>exact f _ _ _ dC dC
  ·rw[Xj g k h]at b
   exact i oM d b
def vN(g:Gr)(k:Nat):List Int:=(List.range k).map (Cw g)
theorem qi g k:vN g (k+1)=vN g k++[Cw g k]:=by
 unfold vN;rw[List.range_succ,Cl];rfl
theorem kg g k:(vN g k).length=k:=by simp[vN]
theorem WG g{k n}(h:n<k):(vN g k)[n]? = some (Cw g n):=by simp[vN,h]
def fG(g:Gr)(z:Int):Int:=Cw g z.toNat
theorem WH g k:(vT g k).map (lk (fG g))=yP g k:=by
 unfold vT yP;rw[M.iM _ _ _ _ _ (FK g)];rfl
structure WJ(w w':Wl)(v:Vl)(L:List IC)(P S:Np):Prop where
 r:wC P w' v 4 L.length (uY L)
 h:zW S w' L
 g:∀b j,S b->w'.frozen? (Ad b j)=false
 p:∀b,P b->wM w w' b/\¬S b
 s:∀b,S b->wM w w' b
 i:(Io L).Nodup
def WK(g:Gr)(w:Wl)(e:Ending)(w':Wl):Prop :=
 ((M.Valid g/\∃a n c L P S,e=Rt (.tuple #[Sl a n c,Iv 0])/\n=L.length/\L.map IC.d=yP g (g.nr+g.nb)/\WJ w w' (Sl a n c) L P S)\/(¬M.Valid g/\e=Rt (.tuple #[nS,Iv 4])))/\Bw w w'
def FL(w0:Wl)(b:Nat)(u0 u1:Vl)(g:Gr)(n a:Nat)(c:Vl)(wr:Wl):Prop :=
 ∃(k:Nat) (L:List IC),k<=n/\c=Iv (k:Int)/\L.map IC.d=vT g (a+k)/\CS w0 b u0 u1 L [] (vN g (a+k)) wr
theorem WM w u0 u1 t:CS w w.heap.size u0 u1 [] [] [] (w.alloc (Oc #[u0,u1,nS,nS] t)):=by
 refine⟨fun _=>False,fun _=>False,fun _=>False,nS,nS,cN w.heap.size rfl rfl,cN w.heap.size rfl rfl,cN w.heap.size rfl rfl,cN w.heap.size rfl rfl,fun j=>?_,.inl ⟨rfl,rfl,rfl⟩,.inl ⟨rfl,rfl,rfl⟩,fun x a=>by simp at a,fun b j q=>q.elim,fun b q=>q.elim,fun b q=>q.elim,fun b q=>q.elim,⟨wF,sM⟩,by simp[Io],wG w⟩
 exact qk w t w.heap.size j wF sM
theorem WN Q ra la rc lc g w(hG:zC Q w ra la g)(hs:yg g) :
  Cs 72 #[.agg #[Sl ra g.nr rc,Sl la g.nb lc]] w (WK g w):=by
 have HG:=ua hG;have HS:=ua hs;go_enter func72,ntmps72;go_wp2_with fail;refine (jy Q ra la rc lc g _ (HG.q (wG w)).d HS).mono ?_;rintro e W1 ⟨⟨r,rfl,hr⟩,E⟩;have Y:=ue (a:=(Ad w.heap.size 0)) (v:=Sl ra g.nr rc) (cN w.heap.size rfl rfl) E;have g1:=ue (a:=(Ad w.heap.size 1)) (v:=Sl la g.nb lc) (cN w.heap.size rfl rfl) E;have V:=ua (uf (wG w) E);have a6:=ud Y;cases r with
 |false =>
  have t:Hid (¬M.Valid g):=fun q=>aB (hr.2 q) dC
  go_wp2;refine wL (by simp[results,f72,go_sem];rfl) rfl ?_
  exact⟨.inr ⟨t,rfl⟩,V⟩
 |true =>
  have t:=ua (hr.1 rfl);clear hr;have h1:=t.r2;have h2:=t.l2;have ak:=ua (HG.q V);have G0:=ua Y;have G1:=ua g1;have C0:Hid (CS W1 W1.heap.size (Sl ra g.nr rc) (Sl la g.nb lc) [] [] [] (W1.alloc (Oc #[Sl ra g.nr rc,Sl la g.nb lc,nS,nS] 199))):=WM W1 _ _ 199;go_wp2_with fail;refine (Qv W1 W1.heap.size _ _ [] [] _ 6 0 0 C0 sM).mono ?_;rintro e W2 ⟨rfl,C2⟩;go_wp2_with fail;refine (Qv W1 W1.heap.size _ _ ([]++[ic 6 0 0]) [] _ 12 0 0 C2 sM).mono ?_;rintro e W3 ⟨rfl,C3⟩;replace Y:=ue G0 C3.u;replace g1:=ue G1 C3.u;have a7:=ud Y;have a0:=SD t.a;have al:=ua a0;go_wp2;go_loopw [21] (fun I wr=>FL W1 W1.heap.size (Sl ra g.nr rc) (Sl la g.nb lc) g g.nr 0 I wr) (fun I _=>g.nr-(intOf I).toNat)
  case atStart=>exact⟨0,[ic 6 0 0,ic 12 0 0],wP,rfl,rfl,C3⟩
  case round =>
   obtain⟨k,L,hk,rfl,J,D⟩:=hrel;rw[zL]at J D;have G:=ua J;have y:Hid (CS W1 W1.heap.size (Sl ra g.nr rc) (Sl la g.nb lc) L [] (vN g k) wr):=D;have B:Hid (L.length=PL g k):=by show _=_;rw[<-jg,<-J,zN]
   have az:=al k oM;have y0:=ue G0 D.u;have y1:=ue G1 D.u;have a3:=ud y0;by_cases A:k<g.nr
   ·rcases ak.a with q | ⟨b,off,rfl,hq,Z⟩
    ·omega
    obtain⟨⟨⟨na,nc,H,hn⟩,⟨ba,bc,o,E⟩⟩,⟨af,ag,W,aa⟩⟩:=Z k A;obtain⟨rfl,rfl⟩:ba=af/\bc=ag:=by rw[W]at o;simp at o;exact⟨o.1.symm,o.2.symm⟩
    have HB:Hid (wT Q W1 ba (g.a k).bl (g.a k).e):=E;have ab:Hid ((g.a k).bl<=bc):=aa;replace H:=ue H y.u;replace o:=ue o y.u;have lb:=ud H;have N:Hid (M.bF g.nr g.nb (g.a k).bl (g.a k).e):=t.rb k A;have C:0<(nd g k).bl:=by
     rw[vJ g A];by_cases q:(g.a k).bl=0
     ·have:=N.2.2
      rw[q,M.dep]at this;omega
     ·omega
    have ae:=jA g k C;have O:Hid (Cw g k=(PL g k:Int)):=by show _=_;rw[Px,Zp C]
    have U:=DF t.a (show k<g.nr+g.nb by omega)
    rw[vJ g A]at U;have ac:Hid ((g.a k).bl<=2000):=U;have ad:Hid (vT g (k+1)=vT g k++M.nodeC (fun n=>(n:Int)) (ins 9 (k:Int) 0) (M.cD g.nr (g.a k).bl (g.a k).e) L.length):=by
     show _=_;rw[ae,B.o];unfold Gt If;rw[Zp A,vJ g A]
    have hk':(k:Int)<(g.nr:Int):=oM;go_wp2_with fail;refine (FQ W1 W1.heap.size Q (Sm b off) la ba rc lc (g.a k).bl bc g h1 h2 (g.a k).e ac.o ab.o N.o HB.o L (vN g k) 9 (k:Int) _ (y.o.q (wG wr)) (oH B.o) (by rw[kg];omega)).mono ?_
    rintro e W5 ⟨⟨v5,rfl⟩,K,T,hc⟩;have HM:=ua T;have C5:=ua hc;go_wp2;go_roundw
    case rel =>
     refine⟨k+1,L++K,oM,by go_num,?_,?_⟩
     ·rw[zL,ad.o,Cl,G.o,HM.o]
     ·rw[zL,qi,O.o,<-B.o];exact C5
    case measure=>simp[intOf];omega
   ·obtain rfl:k=g.nr:=oM
    go_wp2;go_loopw [35] (fun I wr=>FL W1 W1.heap.size (Sl ra g.nr rc) (Sl la g.nb lc) g g.nb g.nr I wr) (fun I _=>g.nb-(intOf I).toNat)
    case atStart=>exact⟨0,L,wP,rfl,by rw[Cc];exact G,by rw[Cc];exact y⟩
    case round =>
     obtain⟨k,L,hk,rfl,J,D⟩:=hrel;have G:Hid (L.map IC.d=vT g (g.nr+k)):=J;have y:Hid (CS W1 W1.heap.size (Sl ra g.nr rc) (Sl la g.nb lc) L [] (vN g (g.nr+k)) wr):=D;have B:Hid (L.length=PL g (g.nr+k)):=by show _=_;rw[<-jg,<-J,zN]
     have az:=al (g.nr+k) oM;have y0:=ue G0 D.u;have y1:=ue G1 D.u;have a3:=ud y0;by_cases A:k<g.nb
     ·rcases ak.c with q | ⟨b,off,rfl,hq,Z⟩
      ·omega
      obtain⟨⟨⟨na,nc,H,hn⟩,X,⟨ba,bc,o,E⟩⟩,⟨af,ag,W,aa⟩⟩:=Z k A;obtain⟨rfl,rfl⟩:ba=af/\bc=ag:=by rw[W]at o;simp at o;exact⟨o.1.symm,o.2.symm⟩
      have HB:Hid (wT Q W1 ba (g.d k).bl (g.d k).e):=E;have ab:Hid ((g.d k).bl<=bc):=aa;replace H:=ue H y.u;replace o:=ue o y.u;replace X:=ue X y.u;have lb:=ud H;have hk':(k:Int)<(g.nb:Int):=oM;cases R:(g.d k).h with
      |true =>
       rw[R]at X;have N:Hid (M.bF g.nr g.nb (g.d k).bl (g.d k).e):=t.lb k A R;have C:0<(nd g (g.nr+k)).bl:=by
        rw[yo];by_cases q:(g.d k).bl=0
        ·have:=N.2.2
         rw[q,M.dep]at this;omega
        ·omega
       have ae:=jA g (g.nr+k) C;have O:Hid (Cw g (g.nr+k)=(PL g (g.nr+k):Int)):=by show _=_;rw[Px,Zp C]
       have U:=DF t.a (show g.nr+k<g.nr+g.nb by omega)
       rw[yo]at U;have ac:Hid ((g.d k).bl<=2000):=U;have ad:Hid (vT g (g.nr+(k+1))=vT g (g.nr+k)++M.nodeC (fun n=>(n:Int)) (ins 10 (k:Int) 0) (M.cD g.nr (g.d k).bl (g.d k).e) L.length):=by
        show vT g (g.nr+k+1)=_;rw[ae,B.o];unfold Gt If;rw[Zn oM,yo,show g.nr+k-g.nr=k by omega]
       go_wp2_with fail;refine (FQ W1 W1.heap.size Q ra (Sm b off) ba rc lc (g.d k).bl bc g h1 h2 (g.d k).e ac.o ab.o N.o HB.o L (vN g (g.nr+k)) 10 (k:Int) _ (y.o.q (wG wr)) (oH B.o) (by rw[kg];omega)).mono ?_
       rintro e W5 ⟨⟨v5,rfl⟩,K,T,hc⟩;have HM:=ua T;have C5:=ua hc;go_wp2;go_roundw
       case rel =>
        refine⟨k+1,L++K,oM,by go_num,?_,?_⟩
        ·rw[ad.o,Cl,G.o,HM.o]
        ·show CS _ _ _ _ _ _ (vN g (g.nr+k+1)) _
         rw[qi,O.o,<-B.o];exact C5
       case measure=>simp[intOf];omega
      |false =>
       rw[R]at X;have C:¬0<(nd g (g.nr+k)).bl:=by rw[yo,t.o.lz k A R];omega
       have ap:Hid (vT g (g.nr+(k+1))=vT g (g.nr+k)):=Xj g (g.nr+k) C;have O:Hid (Cw g (g.nr+k) = -1):=by show _=_;rw[Px,Zn C]
       obtain⟨P,F,S,vp,vf,l⟩:=y.q (uk wr (Oc #[Sl na (g.d k).nl nc,Bf,Sl ba (g.d k).bl bc] 50));obtain⟨fa,fc,rfl⟩:=uq l.c;rw[kg]at l;have HP:Hid (CP W1 W1.heap.size (Sl ra g.nr rc) (Sl (Sm b off) g.nb lc) L [] (vN g (g.nr+k)) (wr.alloc (Oc #[Sl na (g.d k).nl nc,Bf,Sl ba (g.d k).bl bc] 50)) P F S vp (Sl fa (g.nr+k) fc)):=l;have f3:=l.f;have a2:=l.a.2;clear Z hn E aa W C hq R l;have XB:Hid (CP W1 W1.heap.size (Sl ra g.nr rc) (Sl (Sm b off) g.nb lc) L [] (vN g (g.nr+k)) ((wr.alloc (Oc #[Sl na (g.d k).nl nc,Bf,Sl ba (g.d k).bl bc] 50)).alloc (Oc #[Iv (-1)] 3)) P F S vp (Sl fa (g.nr+k) fc)):=HP.o.q (wG _);have XS:=FP (wr.alloc (Oc #[Sl na (g.d k).nl nc,Bf,Sl ba (g.d k).bl bc] 50)) (-1);rw[zV]at XS;have au:=XS;clear XS;go_wp2_with (at_builtin;refine Qo rfl _ _ 23 23 rfl rfl rfl jz XB.c au (by rw[kg];omega) (fun _=>Nat.one_pos) ?_;intro v' W4 aj ai a1;have an:=XB.m aj ai;have ah:=ai.d W1.heap.size XB.a.2 (fun q=>(XB.rf W1.heap.size q).2.2.1 rfl);have r2:W4.cell? (Ad W1.heap.size 3)=some (Sl fa (g.nr+k) fc):=(zI (a:=(Ad W1.heap.size 3)) ah).trans XB.f;have r3:W4.frozen? (Ad W1.heap.size 3)=false:=(Ec (a:=(Ad W1.heap.size 3)) ah).trans (XB.s 3);obtain⟨a4,c4,rfl⟩:=uq aj;have C4:Hid (CS W1 W1.heap.size (Sl ra g.nr rc) (Sl (Sm b off) g.nb lc) L [] (vN g (g.nr+k)++[-1]) (W4.setCell (Ad W1.heap.size 3) (Sl a4 ((vN g (g.nr+k)).length+1) c4))):=an;have a8:W1.heap.size<W4.heap.size:=ud r2;clear aj ai a1 an ah)
       go_roundw
       case rel =>
        refine⟨k+1,L,oM,by go_num,?_,?_⟩
        ·rw[ap.o];exact G.o
        ·show CS _ _ _ _ _ _ (vN g (g.nr+k+1)) _
         rw[qi,O.o];exact C4
       case measure=>simp[intOf];omega
     ·obtain rfl:k=g.nb:=oM
      have aq:Hid (∀(i:Nat) (x:IC),L[i]? = some x->x.d.e=6\/x.d.e=8->∃n:Nat,x.d.to=(n:Int)/\(vN g (g.nr+g.nb))[n]? = some (fG g x.d.to)):=fun i x hx aw=>by
       have T:x.d∈vT g (g.nr+g.nb):=by rw[<-G.o];exact Dc.2 ⟨x,Be hx,rfl⟩
       obtain⟨n,hn,he⟩:=WE t.o (g.nr+g.nb) wF x.d T aw;refine⟨n,he,?_⟩;rw[he,WG g hn];rfl
      have ax:0<L.length:=by
       have h3:=B.o;have h4:(vT g 0).length<=(vT g (g.nr+g.nb)).length:=by
        have:∀j,(vT g 0).length<=(vT g j).length:=by
         intro j;induction j with
         |zero=>exact wF
         |succ j ih =>
          by_cases q:0<(nd g j).bl
          ·rw[jA g j q,wK];omega
          ·rw[Xj g j q];exact ih
        exact this _
       rw[jg,jg]at h4;have h5:PL g 0=2:=rfl;omega
      go_wp2_with fail;refine (XH W1 W1.heap.size _ _ L (vN g (g.nr+g.nb)) (fG g) _ y.o ax (oH B.o) (by rw[kg];omega) aq.o).mono ?_
      rintro e W6 ⟨⟨v6,rfl⟩,av⟩;obtain⟨P,F,S,vp,vf,l⟩:=av;obtain⟨pa,pc,rfl⟩:=uq l.r;have HP:=ua l;have p2:=l.p;have a2:=l.a.2;go_wp2;refine wL (by simp[results,f72,go_sem];rfl) rfl ?_
      have l:=HP;have ao:=l.h;have am:=l.i;rw[Ca]at ao am;have a5:=V.size;have ay:wC P W6 (Sl pa L.length pc) 4 (L.map (Jg (fG g))).length (uY (L.map (Jg (fG g)))):=by
       have:=l.r;rw[zN]at this ⊢;exact this
      refine⟨.inl ⟨t,pa,_,pc,L.map (Jg (fG g)),P,S,rfl,(zN _).symm,?_,ay,ao,l.g,?_,?_,am⟩,uf V l.u⟩
      ·rw[<-WH,<-G.o,Md,Md]
       rfl
      ·intro z hz
       have:=l.rp z hz;exact⟨⟨oM,this.2.1⟩,this.2.2.2.2⟩
      ·intro z hz
       have:=l.rs z hz;exact⟨oM,this.2.1⟩
section
open M (OpD uh Gr uw EX ins uJ)
namespace M
def EX.b(m:Nat):EX->Prop
 | .empty=>True
 | .set n _=>n<=m
 | .ref _=>True
 | .thr _ _=>True
 | .seq x y=>x.b m/\y.b m
 | .alt x y=>x.b m/\y.b m
 | .star x=>x.b m
 | .not x=>x.b m
theorem eT{nr m o}(c:o.sl<=m){x y}(a:x.b m)(d:y.b m):(bB nr o x y).b m:=by
 unfold bB
 repeat' split
 all_goals first|exact c | exact⟨a,d⟩ | exact a | trivial
theorem iP{nr m}B n(e:∀i,i<n->(B i).sl<=m):∀p,p∈stk (bB nr) B n->p.2.b m:=by
 induction n with
 |zero=>intro p a;simp[stk]at a
 |succ n f =>
  have ih':=f (fun i g=>e i oM)
  have d:=e n oM;have c:=trivial;rw[stk];generalize stk (bB nr) B n=l at *;intro p a;unfold stp at a;split at a
  ·match l,ih',a with
   | [],_,a=>simp at a
   | [_],_,a=>simp at a
   | (s2,y)::(s1,x)::r,ih',a =>
    rcases Bx.1 a with rfl | a
    ·exact eT d (ih' (s1,x) sM) (ih' (s2,y) sM)
    ·exact ih' p (by simp[a])
  ·split at a
   ·match l,ih',a with
    | [],_,a=>simp at a
    | (s1,x)::r,ih',a =>
     rcases Bx.1 a with rfl | a
     ·exact eT d (ih' (s1,x) sM) c
     ·exact ih' p (by simp[a])
   ·rcases Bx.1 a with rfl | a
    ·exact eT d c c
    ·exact ih' p a
theorem iQ{nr m n B}(a:∀i,i<n->(B i).sl<=m):(cD nr n B).b m:=by
 unfold cD;have:=iP (nr:=nr) B n a;generalize stk (bB nr) B n=l at *;match l,this with
 | [],_=>trivial
 | (s,t)::r,h=>exact h (s,t) sM
theorem iO r m t(f:t.b m):∀p d,d∈uJ r t p->d.sl<=m:=by
 have e:∀k a z:Int,(ins k a z).sl<=m:=fun k a z=>wP
 induction t with
 |empty=>intro p d c;simp[uJ]at c
 |set n S=>intro p d c;simp[uJ]at c;subst c;exact f
 |ref n | thr l n=>intro p d c;simp[uJ]at c;subst c;exact e _ _ _
 |seq x y h i =>
  intro p d c;rw[uJ]at c;rcases Bh.1 c with q | q
  ·exact h f.1 _ d q
  ·exact i f.2 _ d q
 |alt x y h i =>
  intro p d c;rw[uJ]at c;rcases Bx.1 c with rfl | q
  ·exact e _ _ _
  ·rcases Bh.1 q with q | q
   ·exact h f.1 _ d q
   ·rcases Bx.1 q with rfl | q
    ·exact e _ _ _
    ·exact i f.2 _ d q
 |star x g =>
  intro p d c;rw[uJ]at c;rcases Bx.1 c with rfl | q
  ·exact e _ _ _
  ·rcases Bh.1 q with q | q
   ·exact g f _ d q
   ·simp at q;subst q;exact e _ _ _
 |not x g =>
  intro p d c;rw[uJ]at c;rcases Bx.1 c with rfl | q
  ·exact e _ _ _
  ·rcases Bh.1 q with q | q
   ·exact g f _ d q
   ·simp at q;subst q;exact e _ _ _
end M
theorem XK{g}(a:M.Sound g){p}(c:p<g.nr+g.nb):∀i,i<(nd g p).bl->M.bE g.nr g.nb ((nd g p).e i):=fun i b =>
 (jP a c).elim (fun q=>oM) (fun h=>h.1 i b)
theorem XL{nr c o}(h:M.bE nr c o):o.sl<=512:=by
 obtain⟨_,_,a,b,_⟩:=h;by_cases e:o.e=1
 ·have:=M.dR (a e)
  omega
 ·have:=b e
  omega
theorem XM{g}(f:M.Sound g)k(l:k<=g.nr+g.nb):∀d,d∈yP g k->d.sl<=512:=by
 have c:∀k a z:Int,(ins k a z).sl<=512:=fun k a z=>wP
 induction k with
 |zero =>
  intro d b;have hd':d=ins 6 0 (Cw g 0)\/d=ins 12 0 0:=by simpa[yP,M.bK] using b
  rcases hd' with rfl | rfl<;>exact c _ _ _
 |succ k e =>
  intro d b;by_cases h:0<(nd g k).bl
  ·rw[DH g k h]at b
   simp only[Bh,Aw]at b;rcases b with (((q | q) | q) | q) | q
   ·exact e oM d q
   ·subst q
    unfold Gt;split<;>exact c _ _ _
   ·exact M.iO _ _ _ (M.iQ (fun i j=>XL (XK f oM i j))) _ d q
   ·subst q;exact c _ _ _
   ·subst q;exact c _ _ _
  ·rw[SG g k h]at b
   exact e oM d b
def Kh(l:List uw)(i:Nat):uw:=(l[i]?).getD (ins 0 0 0)
theorem FU{L:List IC}{i:Nat}(h:i<L.length):Kh (L.map IC.d) i=L[i].d:=by simp[Kh,h]
theorem XN{Q:Np}{w:Wl}{g:Nat}{L:List IC}(k:∀j,j<(uY L).length->w.cell? (Ad g j)=(uY L)[j]?){i:Nat}(h:i<L.length) :
  w.cell? (Ad g (i*4))=some (Iv (Kh (L.map IC.d) i).e)/\w.cell? (Ad g (i*4+1))=some (Iv (Kh (L.map IC.d) i).f)/\w.cell? (Ad g (i*4+2))=some (Iv (Kh (L.map IC.d) i).to)/\w.cell? (Ad g (i*4+3))=some (.slice L[i].a (Kh (L.map IC.d) i).sl L[i].c):=by
 have n:=zG h;have m:=FR L;have b:∀j,j<4->w.cell? (Ad g (i*4+j))=(Il L[i])[j]?:=fun j l=>by
  rw[k _ (by rw[m];omega),Xl L i j _ n l]
 rw[FU h];exact⟨b 0 oM,b 1 oM,b 2 oM,b 3 oM⟩
theorem XO{P S Q w a c L}(own:wC P w (Sl a L.length c) 4 L.length (uY L))(q:zW S w L)(m:∀b,P b->Q b)(n:∀b,S b->Q b):En Q w a L.length (Kh (L.map IC.d)):=by
 rcases own with⟨_,e,_⟩|⟨g,cap,e,p,s,r,o,t⟩
 ·exact .inl e
 ·obtain rfl:a=some (Ad g 0):=by injection e
  refine .inr ⟨g,0,rfl,m g p,fun i f=>?_⟩
  obtain⟨h,j,k,l⟩:=XN (Q:=Q) o f;rw[zL];refine⟨h,j,k,_,_,l,?_⟩;rw[FU f];exact (q L[i] (Gb f)).g n
def Hw(g:Gr):Nat:=PL g (g.nr+g.nb)
def Kj(g:Gr):Nat->uw:=Kh (yP g (g.nr+g.nb))
theorem XP{g}(a:M.Sound g):Hw g<=5000/\∀i,i<Hw g->(Kj g i).sl<=512:=by
 refine⟨SD a _ wF,fun i c=>?_⟩
 have b:i<(yP g (g.nr+g.nb)).length:=by rw[ju];exact c
 have e:Kj g i=(yP g (g.nr+g.nb))[i]:=by simp[Kj,Kh,b]
 rw[e];exact XM a _ wF _ (Gb b)
def XR(g:Gr)(w:Wl)(e:Ending)(w':Wl):Prop:=∃a c,e=Rt (.tuple #[Sl a (Hw g) c,Iv 0])/\En (wM w w') w' a (Hw g) (Kj g)/\Bw w w'
theorem XS Q ra la rc lc g(l:M.Valid g)(m:yg g)w(k:zC Q w ra la g):Cs 72 #[.agg #[Sl ra g.nr rc,Sl la g.nb lc]] w (XR g w):=by
 refine (WN Q ra la rc lc g w k m).mono ?_;rintro e W ⟨⟨_,a,n,c,L,P,S,rfl,i,f,h⟩|⟨q,_⟩,d⟩
 ·have j:n=Hw g:=by rw[i];unfold Hw;rw[<-ju,<-f,zN]
  refine⟨a,c,by rw[j],?_,d⟩
  subst i;have:=XO (Q:=wM w W) h.r h.h (fun b d=>⟨(h.p b d).1.1,(h.p b d).1.2⟩) (fun b d=>⟨(h.s b d).1,(h.s b d).2⟩)
  rw[f,j]at this;exact this
 ·exact aB l q
end
open M (TX)
def bv(s:ByteArray):List Value:=s.data.toList.map (λb=>Bv (b.toNat:Int))
def yn s t:bv (s++t)=bv s++bv t:=by simp[bv,ByteArray.data_append]
def NY s:(bv s).length=s.size:=by rw[bv,zN,Ku];rfl
structure Cv(Q:Np)(w:Wl)(v:Vl)(s:ByteArray):Prop where
 r:wC Q w v 1 s.size (bv s)
 lt:∀b,Q b->b<w.heap.size
def Cv.nil w:Cv (λ_=>False) w nS ByteArray.empty:=⟨.inl ⟨rfl,rfl,rfl⟩,λ_ h=>h.elim⟩
def Cv.q{Q w w' v s}(h:Cv Q w v s)(k:Bw w w'):Cv Q w' v s :=
 ⟨yx h.r oM k,λb a=>wX (h.lt b a) k.size⟩
def Cv.a{Q w v s}(h:Cv Q w v s):∃a c,v=Sl a s.size c:=by
 rcases h.r with⟨rfl,e,_⟩|⟨g,cap,rfl,_⟩
 ·exact⟨none,0,by rw[e]⟩
 exact⟨_,_,rfl⟩
def zR(Q:Np)(w0 w:Wl)(v:Vl)(s:ByteArray):Prop:=∃Q':Nat->Prop,Cv Q' w v s/\(∀b,Q' b->Q b\/w0.heap.size<=b)/\wA Q w0 w
def zR.d{Q w v s}(h:Cv Q w v s):zR Q w w v s:=⟨Q,h,λb a=>.inl a,zM⟩
def zR.q{Q w0 w w' v s}(h:zR Q w0 w v s)(k:Bw w w'):zR Q w0 w' v s:=by
 obtain⟨Q',a,b,d⟩:=h;exact⟨Q',a.q k,b,d.c (wA.i k (λk e _=>e))⟩
def zR.a{Q w0 w v s}(h:zR Q w0 w v s):∃a c,v=Sl a s.size c:=by
 obtain⟨Q',b,d,e⟩:=h;exact b.a
def zR.m{Q w0 w v s}(h:zR Q w0 w v s):wA Q w0 w:=by
 obtain⟨Q',b,c,a⟩:=h;exact a
def NZ{Q Q' w0 w w'}(h:wA Q w0 w)(e:∀b,Q' b->Q b\/w0.heap.size<=b)(k:wA Q' w w'):wA Q w0 w' :=
 ⟨k.os.trans h.os,k.g.trans h.g,k.f.trans h.f,wN h.h k.h,λb a c=>(k.d b (wX a h.h) (λq=>by
  rcases e b q with q|q
  ·exact c q
  omega)).trans (h.d b a c)⟩
def BJ(Q:Np)(s t:ByteArray)(w:Wl)(e:Ending)(w':Wl):Prop:=∃v,e=Rt v/\zR Q w w' v (s++t)
def zR.b{f args Q w0 w v s t}(h:zR Q w0 w v s)(m:∀Q',Cv Q' w v s->(∀b,Q' b->Q b\/w0.heap.size<=b)->Cs f args w (BJ Q' s t w)) :
  Cs f args w (λe w'=>∃a c r,e=Rt (Sl a r.size c)/\Hid (r=s++t)/\Hid (r.size=s.size+t.size)/\Hid (zR Q w0 w' (Sl a r.size c) r)):=by
 obtain⟨Q',k,d,g⟩:=h;refine(m Q' k d).mono ?_;rintro e w' ⟨p,rfl,j,i,n,o⟩;obtain⟨a,c,rfl⟩:=i.a;exact⟨a,c,s++t,rfl,rfl,Ft,j,i,λb l=>by
  rcases n b l with q|q
  ·exact d b q
  exact .inr (wN g.h q),NZ g d o⟩
def wS.m{Q w w'}(h:wS Q w w'):wA Q w w':=⟨h.os,h.g,h.f,h.h,h.d⟩
def yv{Q:Np}{w w' v s t}(l:∀b,Q b->b<w.heap.size)(h:wC (λb=>Q b\/w.heap.size<=b) w' v 1 (s.size+t.size) (bv s++bv t))(g:wS (λb=>Q b) w w')(m:0<t.size) :
  Cv (λb=>(Q b\/w.heap.size<=b)/\b<w'.heap.size) w' v (s++t):=by
 refine⟨?_,λb i=>i.2⟩;rw[Ft,yn];rcases h with⟨_,e,_⟩|⟨x,cap,e,j,c,d,f,a⟩
 ·omega
 refine .inr ⟨x,cap,e,⟨j,?_⟩,c,d,f,a⟩;obtain⟨u,k⟩:=Dt.1 (a 0 oM).1;exact ud k
def OA{Q w0 w w' v s t Q'}(f:Cv Q' w v s)(a:∀b,Q' b->Q b\/w0.heap.size<=b)(c:wA Q w0 w){e}(j:wC (λb=>Q' b\/w.heap.size<=b) w' e 1 (s.size+t.size) (bv s++bv t))(d:wS (λb=>Q' b) w w')(i:0<t.size):zR Q w0 w' e (s++t) :=
 ⟨_,yv f.lt j d i,λb g=>by
  rcases g.1 with q|q
  ·exact a b q
  exact .inr (wN c.h q),NZ c a d.m⟩
def Mr{ops:Array Oper}{rest:List Oper}{o:Oper}{a:Act}{f:Exit->Act->World->Prop}{w:Wl}(p:o.guard=none)(s x:Operand)(e:TypeId)(q:o.op=.call { callee:=.builtin .append,args:=#[s,x],argTypes:=#[22,e] })
  {Q:Np} {w0:Wl} {v y:Vl} {r t:ByteArray} (z:a.eval s=v) (B:a.eval x=y) (u:zR Q w0 w v r) (A:Src prog 1 e y t.size (bv t) w) (k m:Nat) (E:r.size<=k) (G:t.size<=m) (F:k+m<=16777216) (j:0<t.size)
  (h:∀w' b c d,Hid (b=r++t)->Hid (b.size<=k+m)->Hid (zR Q w0 w' (Sl c b.size d) b)->wpList prog ops f rest (a.put o.dst (Sl c b.size d)) w'):wpList prog ops f (o::rest) a w:=by
 obtain⟨Q',g,l,n⟩:=u;refine Qo p s x 22 e q z B qg g.r A oM (λ_=>j) ?_;intro I w' C D H;have i:=OA g l n C D j;obtain⟨c,d,rfl⟩:=i.a;exact h w' (r++t) c d rfl (show _<=_ by rw[Ft];omega) i
def OD{ops:Array Oper}{o:Oper}{a:Act}{w:Wl}{K:Act->World->Prop}{j:Exit->Act->World->Prop}{E:Prop}(p:o.guard=none)(s x:Operand)(e:TypeId)(q:o.op=.call { callee:=.builtin .append,args:=#[s,x],argTypes:=#[22,e] })
  {Q:Np} {w0:Wl} {v y:Vl} {r t:ByteArray} (z:a.eval s=v) (B:a.eval x=y) (u:zR Q w0 w v r) (A:Src prog 1 e y t.size (bv t) w) (k m:Nat) (F:r.size<=k) (H:t.size<=m) (G:k+m<=16777216) (i:0<t.size)
  (h:∀w' b c d,Hid (b=r++t)->Hid (b.size<=k+m)->Hid (zR Q w0 w' (Sl c b.size d) b)->K (a.put o.dst (Sl c b.size d)) w'):if Region.wanted o (yielded ops a.tmps)=true then Oper.wp prog o a w K j else E:=by
 obtain⟨Q',f,l,n⟩:=u;refine Qp p s x 22 e q z B qg f.r A oM (λ_=>i) ?_;intro J w' C D I;have g:=OA f l n C D i;obtain⟨c,d,rfl⟩:=g.a;exact h w' (r++t) c d rfl (show _<=_ by rw[Ft];omega) g
def za w s:Src prog 1 9 (.string s) s.size (bv s) w:=by
 have e:bv s=Go.byteCells s:=by simp[bv,Go.byteCells]
 rw[e];exact Src.ofString w underlying9 s
def zb{w g n c s}(d:n=s.size)(h:∀j u,(bv s)[j]?=some u->w.cell? (Ad g j)=some u):Src prog 1 22 (Sl (Sm g 0) n c) s.size (bv s) w:=by
 subst d;refine Gj _ underlying22 (Ad g 0) s.size c _ (by rw[NY];omega) (λj u a=>?_) (λu a=>?_)
 ·have e:((Ad g 0):Addr).add j=(Ad g j):=by
   by_cases b:j=0
   ·subst b;simp[Addr.add]
   simp[Addr.add,b]
  rw[e];exact h j u a
 obtain⟨z,_,rfl⟩:=Dc.1 a;rfl
def Vj(w:Wl)(s:ByteArray)(n c:Nat)(d:n=s.size){cs:Av}(b:cs.toList=bv s):Src prog 1 22 (Sl (Sm w.heap.size 0) n c) s.size (bv s) (w.alloc (Oc cs 5)):=by
 refine zb d (λj u a=>cN w.heap.size rfl ?_);rw[<-b]at a;simpa using a
section
open M (OpD uh Gr uw EX ins uJ emit_len nodeC)
variable {K:EC} {m:Nat}
def ZP(i:K.Ok)(t:∀j,j<m->K.l j)(T:TR):K.e m T:=by
 induction T with
 |lf o =>
  intro b off c p l h d g A s W P f a;have k:o.e=0\/o.e=1\/o.e=2\/o.e=3:=by have:=a.2.1;have:=a.2.2.1;have r:=a.1;unfold M.ar at r;split at r<;>(try split at r)<;>omega
  rcases k with q|q|q|q
  ·exact ZM i o q b off c p l h d g A s W P f a
  ·exact ZN i o q b off c p l h d g A s W P f a
  ·exact ZV i t o q b off c p l h d g A s W P f a
  exact ZY i t o q b off c p l h d g A s W P f a
 |un o x n =>
  intro b off c p l h d g A s W P f a;have k:o.e=6\/o.e=7:=by have:=a.1;unfold M.ar at this;split at this<;>(try split at this)<;>omega
  rcases k with q|q
  ·exact ZX i o q x n b off c p l h d g A s W P f a
  exact A0 i o q x n b off c p l h d g A s W P f a
 |bn o x y n u =>
  intro b off c p l h d g A s W P f a;have k:o.e=4\/o.e=5:=by have:=a.1;unfold M.ar at this;split at this<;>(try split at this)<;>omega
  rcases k with q|q
  ·exact ZJ i o q x y n u b off c p l h d g A s W P f a
  exact ZL i o q x y n u b off c p l h d g A s W P f a
structure EC.Pg(K:EC):Prop where
 d:Ax K.n K.R 0 [ins 6 0 (Cw K.g 0),ins 12 0 0]
 a:∀k,k<K.g.nr+K.g.nb->0<(nd K.g k).bl->Ax K.n K.R (PL K.g k) (nodeC (Cw K.g) (Gt K.g k) (If K.g k) (PL K.g k))
def ZQ{s:wD}{l:List Cp}{f:Cp}(h:s.st=l++[f])(c:f.e=2)(il:Nat)(I:Nat->Int){mO:Int}:s.q (ins 7 0 0) il I mO={ s with f:=f.to,st:=l }:=by
 have d:s.s 2=true:=by unfold wD.s;rw[h,Ot];simp[c]
 have a:qB s.st=f.to:=by unfold qB;rw[h,Ot]
 have b:s.st.dropLast=l:=by simp[h]
 unfold wD.q;simp[ins,d,wD.r,b,a]
def ZR(hK:K.Ok)(hP:K.Pg)(hE:∀j,j<m->∀T,K.e j T):K.l m:=by
 intro k q kv pv dv nv A s p W P hk aw bf av a0 al bp bi ax ay he hs hw hA hm hR;subst bf bi;rw[Px,Zp aw]at av;have hL:=hP.a k hk aw;obtain⟨hq,hr⟩:=Ax.h hL;have ak:=Ax.a hL;have HL:=ua ak.left;have ab:=ak.b;rw[emit_len]at ab;have ae:=ua ab.h;have af:=ua ab.a.h;obtain⟨E,aj⟩:=nm (if k<K.g.nr then (0:Int) else 1);obtain⟨t,ai⟩:=nm (if k<K.g.nr then (k:Int) else ((k-K.g.nr:Nat):Int));have ha:∀s:wD,s.q (Gt K.g k) K.il K.I K.a=s.k E t:=λs=>by
  rw[<-aj,<-ai];unfold Gt;by_cases h:k<K.g.nr
  ·rw[Zp h,Zp h,Zp h];rfl
  rw[Zn h,Zn h,Zn h];rfl
 have X:=ua hK;have Y:=ua hR;have bq:=hw.lt;have bh:=hK.a.r2;have bg:=hK.a.l2;obtain⟨xa,xn,xc,cd,lb,ps,U⟩:=hw;have HW:Hid (K.Wd A p W):=⟨xa,xn,xc,cd,lb,ps,U⟩;obtain⟨y,py,ly⟩:=U.e.x;unfold EC.wd at y;have ap:=ua hk;have ad:=ua aj;have ac:=ua ai;have HA:=ua hA;have a3:=ua ha;have HS:=ua hs;have ao:=ua av;have HE:=ua he;have HD:=ua ax;have bd:=ua ay;have aq:=ua a0;have a9:=ua al.1;have be:=ua al.2;have a8:=ua hE;have HM:=ua hm;have a2:M.bF K.g.nr K.g.nb (nd K.g k).bl (nd K.g k).e:=(jP hK.a hk).elim (λq=>oM) id;have bj:=DF hK.a hk;obtain⟨T,t1,t2,t3,t4⟩:=Wt a2;have t5:If K.g k=T.a (M.bB K.g.nr):=t4 _;rw[t5]at HL ae af;have T1:=ua t1;have T2:=ua t2;have T3:=ua t3;clear U aj ai hR hL ak ab ha hA hs he ax ay a0 al hE hm a2 t1 t2 t3 t4 t5 hP;go_enter func41,ntmps41;go_upto_if 28 with fail;go_cut [] (λwc=>wJ wc W.heap.size #[Iv E,Iv t,Iv p.c]/\Kf W wc)
 ·by_cases h:k<K.g.nr
  ·have h':¬(K.g.nr:Int)<=(k:Int):=oM;obtain rfl:(0:Int)=E:=(by rw[<-ad.o,Zp h]);obtain rfl:(k:Int)=t:=(by rw[<-ac.o,Zp h]);go_wp2;go_meet;exact⟨Cm,wU⟩
  have h':(K.g.nr:Int)<=(k:Int):=oM;have h2:(k:Int)-(K.g.nr:Int)=((k-K.g.nr:Nat):Int):=oM;obtain rfl:(1:Int)=E:=by rw[<-ad.o,Zn h]
  obtain rfl:((k-K.g.nr:Nat):Int)=t:=by rw[<-ac.o,Zn h]
  go_wp2;go_meet;exact⟨Cm,wU⟩
 obtain⟨hB,kc⟩:=hcut;have B:=ua hB;have KC:=ua kc;have S:=ua (λP'=>yJ (P:=P') X (HW.m kc) HE HS ao hq);rw[hr,a3.o]at S;clear hB kc y py ly;go_wp2_with fail;refine S _ (λW1 w1 k1 e1 g1 l1=>?_) (λW1 w1 k1=>?_)
 rotate_left
 ·go_wp2;exact wL (by simp[results,f41,go_sem]) rfl (Y.o.b (p.c:Int) _ w1 ((vk KC.o).c k1))
 have am:W.heap.size≠K.b:=oM;have K1:=ua ((vk KC).c k1);have HB:=ua (jX k1 B am);obtain⟨N,G⟩:=nm (p.g.k E t);have E2:=ua (G▸e1);have G2:Hid (K.Sg N):=G▸⟨g1.e,g1.thr,by have:=HS.a;show(p.a++[_]).length<=p.b+1;rw[wK,Bs];omega,g1.st,g1.c⟩;have i1:N.st=p.st:=G▸rfl;have i2:N.a=s.a++[⟨E,t,p.c⟩]:=by rw[<-G,<-a9.o];rfl
 have i3:N.b=p.b+1:=G▸rfl;have i4:N.c=p.c:=G▸rfl;have i5:N.f=((PL K.g k+1:Nat):Int):=by rw[<-G];show p.f+1=_;rw[ao.o];rfl
 have W2:Hid (K.Wd A N W1):=G▸w1.d rfl rfl rfl rfl;have bn:=l1;clear e1 g1 G S;obtain⟨xa,xn,xc,cd,lb,ps,U⟩:=w1;have C:=ua (SI K.Q K.ra K.la K.rc K.lc K.g W1 (X.f.q U.u) bh bg k ap);obtain⟨y,py,ly⟩:=U.e.x;unfold EC.wd at y;clear U k1;go_wp2_with fail;refine C.mono ?_;rintro e V ⟨⟨ba,bc,rfl,hO,bk⟩,ah⟩;have KV:Hid (Kf W1 V):=wA.i ah (λ_ q _=>q);have w2:=W2.m KV;have aa:=hO.on (w':=K.w0) (λx J=>(w2.u.block x (X.q x J)).symm);rcases aa with h0|⟨bb,off,rfl,br,aa⟩
 ·omega
 have au:TA K.Q K.w0 bb T off:=by have:=My (off:=off) (i:=0) T3.o (λj hj=>by rw[zL];exact aa j (oH T1.o));simpa using this
 have D:=ua (a8.o (m-1) (oH HM.o) T bb off bc (PL K.g k+1) (nd K.g k).bl (p.c:Int) dv nv A N V · T1.o.symm T2.o (oH T1.o) (oH T1.o) au HL.o i5 (by rw[i4]) (by rw[i1];exact HD.o) (by unfold wD.l at *;rw[i1];exact bd.o) E2.o G2.o w2 (λx J=>wX (HA.o x J) (K1.o.c (vk KV.o)).h) (by rw[i3];have:=HM.o;omega));have KK:=ua (K1.c (vk KV));have a4:=ua (HB.on ah);clear hO aa ah w2 au y py ly;go_wp2_with fail;refine D _ ⟨λs' L B1 a n c' W3 f O r H=>?_,λs' z3 W3 f O H=>?_,λz3 W3 O H=>?_⟩
 ·have F:=ua f;have q1:=f.f;have S:=ua (λP'=>yJ (P:=P') X (O.g (B:=A) (λ_=>.inl)) f.e f.sg q1 ae.1);rw[ae.o.2]at S;have R1:=ua r;have K3:=ua (KK.c H);have a5:=ua (jX H a4 am);have az:=f.sg.a;have bt:=f.sg.st;have bm:=X.f1;unfold yI;clear O f r H q1;go_wp2_with fail;refine S _ (λW4 w4 k4 e4 g4 l4=>?_) (λW4 w4 k4=>?_)
  rotate_left
  ·have R:=ua (Y.b (p.c:Int) _ w4 (K3.c k4));clear w4;go_wp2;exact wL (by simp[results,f41,go_sem]) rfl R
  have g5:K.Sg (s'.g.k 2 0):=⟨g4.e,g4.thr,by show(s'.a++[_]).length<=s'.b+1;rw[wK,Bs];omega,g4.st,g4.c⟩;have ag:=ua (λP'=>yJ (P:=P') X (w4.d (s':=s'.g.k 2 0) rfl rfl rfl rfl) e4 g5 (q:=PL K.g k+1+(T.a (M.bB K.g.nr)).c+1) (by show s'.f+1=_;rw[F.o.f];rfl) af.1);rw[af.o.2]at ag;have K4:=ua (K3.c k4);have KB:=ua k4;clear w4 e4 g4 g5 S k4;go_wp2_with fail;refine ag _ (λW5 w5 k5 e5 g5 l5=>?_) (λW5 w5 k5=>?_)
  rotate_left
  ·have R:=ua (Y.b (p.c:Int) _ w5 (K4.c k5));clear w5;go_wp2;exact wL (by simp[results,f41,go_sem]) rfl R
  have i6:(s'.g.k 2 0).g.st=s.st++[⟨2,(q:Int),0,0⟩]:=F.st.trans (i1.trans aq);rw[ZQ i6 rfl]at e5;have E5:=ua e5;have Z:=ua g5;have W5':=ua w5;have K5:=ua (K4.c k5);have nb:Hid (∀x,x=K.b->¬B1 x):=λx J hb=>oG ((R1.e x hb).1) KK.h
  have R5:=ua ((R1.m KB nb).m k5 nb);obtain⟨z,pz,lz⟩:=(jX (KB.c k5) a5 am).x;have bo:L.length<=50000:=by rw[F.o.a,wK]at az;omega
  have an:=K5.h;have R6:=ua (HJ (w0:=W) W5 ⟨E,t,p.c⟩ an);have RA:Hid (∀(w:Wl) (P:Np) (v:Vl) (l:List Au) (o:Obj),Bp W w P v l->Bp W (w.alloc o) P v l):=λw P v l o h=>h.m (wA.a (λ_=>False) w o) (λ_ q=>q.elim)
  have NS:Hid (Nst K.g.nb s.c s'.c ([⟨E,t,p.c⟩]++L++[⟨2,0,s'.c⟩])):=by
   show Nst _ _ _ _;rw[<-be.o];refine .one (i4▸F.b) ?_;rw[<-ad.o,<-ac.o];have hk':=ap;by_cases h:k<K.g.nr
   ·simp[h]
   have e:k-K.g.nr<K.g.nb:=oM;simp only[h,if_false];exact .inr ⟨trivial,Int.natCast_nonneg _,Int.ofNat_lt.2 e⟩
  clear e5 g5 w5 ag az;go_wp2_with (first
   |(at_builtin;refine Tr (L:=[⟨E,t,p.c⟩]) (L2:=L) rfl _ _ rfl rfl rfl R6.o (R5.o.m (wA.a (λ_=>False) _ _) (λ_ q=>q.elim)) (by show 1+L.length<=16777216;omega) (wN an (wA.a (λ_=>False) _ _).h) ?_;intro W6 a6 n6 c6 R7 K6;have a1:=wN (wN an (wA.a (λ_=>False) _ _).h) K6.h)
   |(at_builtin;refine Tr (L:=[⟨E,t,p.c⟩]++L) (L2:=[⟨2,0,s'.c⟩]) rfl _ _ rfl rfl rfl (RA.o _ _ _ _ _ R7.o) (HJ (w0:=W) W6 ⟨2,0,s'.c⟩ a1) (by show([_]++L).length+1<=16777216;rw[wK,Bs];omega) (wN a1 (wA.a (λ_=>False) _ _).h) ?_;intro W7 a7 n7 c7 R8 K7))
  have ks:Kf W5 W7:=by
   have k6:=K6.o;have k7:=K7.o;have s6:=k6.h;have s7:=k7.h;simp only[zV]at s6 s7;exact⟨k7.os.trans k6.os,k7.g.trans k6.g,k7.f.trans k6.f,oM,λx J _=>by
    rw[k7.d x (by simp only[zV];omega) (λh=>by rcases h.1 with h|h;exact aB h oM;simp only[zV]at h;omega),Hj oM,k6.d x (by simp only[zV];omega) oM,Hj J]⟩
  refine wL (by simp[results,f41,go_sem];rfl) rfl (Y.o.ok { (s'.g.k 2 0).g with f:=(q:Int),st:=s.st } ([⟨E,t,p.c⟩]++L++[⟨2,0,s'.c⟩]) _ a7 n7 c7 W7 ⟨rfl,rfl,?_,E5.o,⟨Z.o.e,Z.o.thr,Z.o.a,Z.o.st,?_⟩,?_,?_⟩ ((W5'.o.f ks (λ_ q=>q.elim) (λ_ q=>q.elim) (λx J=>J.imp id (λh=>?_))).d rfl rfl rfl rfl) R8.o (K5.o.c (vk ks)))
  ·show s'.a++[_]=_;rw[F.o.a,i2];simp[wD.g]
  ·have:=Z.o.c;rw[i6]at this;rw[wK,Bs]at this;show(s.st.length:Int)<=_;omega
  ·have:=F.o.more;show s.b<=s'.b+1+1;omega
  ·exact NS.o
  rcases h.1 with h|h
  ·rcases h.1 with h|h
   ·omega
   simp only[zV]at h;omega
  have:=K6.o.h;simp only[zV]at h this;omega
 ·obtain⟨F',e1,h1⟩:=f.st;obtain⟨L',e2⟩:=f.a;have R:=ua (Y.o.fail s' (p.c:Int) W3 ⟨⟨⟨2,(q:Int),0,0⟩::F',by rw[e1,i1,aq.o,zU];rfl,λf hf=>(Bx.1 hf).elim (λe=>by rw[e]) (h1 f)⟩,⟨[⟨E,t,p.c⟩]++L',by rw[e2,i2,zU]⟩,f.e,f.sg,by have:=f.more;omega⟩ O (KK.o.c H));unfold yI;clear f O H e1 h1 e2;go_wp2;exact wL (by simp[results,f41,go_sem]) rfl R.o
 have R:=ua (Y.o.b (p.c:Int) _ O (KK.o.c H));unfold yI;clear O H;go_wp2;exact wL (by simp[results,f41,go_sem]) rfl R.o
def ZS(a:K.Ok)(b:K.Pg)(m:Nat):K.l m:=by
 induction m using Nat.strongRecOn with
 |_ m c=>exact ZR a b (λj e T=>ZP a (λi d=>c i oM) T)
end
open M (emit_len nodeC)
def zi{L pre l post}(h:L=pre++(l++post)):Ax L.length (Kh L) pre.length l:=λi x a=>by
 have b:=(zT.1 a).1;subst h;refine⟨sO,?_⟩;unfold Kh;rw[Di oM,Nat.add_sub_cancel_left,Cr b,a];rfl
def BK g k:∀d,∃post,yP g (k+d)=yP g k++post
 |0=>⟨[],sM⟩
 |d+1=>by
  obtain⟨p,e⟩:=BK g k d;by_cases h:0<(nd g (k+d)).bl
  ·exact⟨_,by rw[<-Eo,DH g _ h,e];simp only[zU];rfl⟩
  exact⟨p,by rw[<-Eo,SG g _ h];exact e⟩
def zj{K:EC}(d:K.n=Hw K.g)(b:K.R=Kj K.g):K.Pg:=by
 have a:∀{pre l post:List uw},yP K.g (K.g.nr+K.g.nb)=pre++(l++post)->Ax K.n K.R pre.length l:=λh=>by
  rw[d,b,Hw,<-ju];exact zi h
 constructor
 ·obtain⟨p,e⟩:=BK K.g 0 (K.g.nr+K.g.nb);rw[zL]at e;exact a (pre:=[]) e
 intro k f c;obtain⟨p,e⟩:=BK K.g (k+1) (K.g.nr+K.g.nb-(k+1));rw[show k+1+(K.g.nr+K.g.nb-(k+1))=K.g.nr+K.g.nb by omega,DH K.g k c]at e;have:=a (pre:=yP K.g k) (l:=nodeC (Cw K.g) (Gt K.g k) (If K.g k) (PL K.g k)) (post:=p) (by rw[e];unfold nodeC;simp);rwa [ju]at this
end Go.Proofs.YtoihadcablknpaaGreatDoor
