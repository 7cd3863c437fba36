import Derived.Test.YtimfigongapdnaaGreatT24
import Derived.Test.YtimfigongapdnaaGreatT16
set_option linter.unusedVariables false
set_option linter.unusedSimpArgs false
set_option maxHeartbeats 40000000
set_option maxRecDepth 100000
namespace Go.Proofs.YtimfigongapdnaaGreat
open Go.RowKit
open M (OpD ug Gr ur EX ins uH yu lk)
def ufq(m:Nat)(d:ur):Prop:=d.kind=6\/d.kind=8->∃n:Nat,n<m/\d.to=(n:Int)
theorem uoJ m t(c:t.Below m):∀p d,d∈uH (λn=>(n:Int)) t p->ufq m d:=by
 have e:∀k a z:Int,k≠6->k≠8->ufq m (ins k a z):=λk a z i j q=>by
  rcases q with q|q
  ·exact absurd q i
  exact absurd q j
 induction t with
 |empty=>intro p d b;simp[uH]at b
 |set n S=>intro p d b;simp[uH]at b;subst b;intro q;rcases q with q|q<;>simp at q
 |ref n=>intro p d b;simp[uH]at b;subst b;exact λ_=>⟨n,c,rfl⟩
 |thr l n=>intro p d b;simp[uH]at b;subst b;exact λ_=>⟨n,c,rfl⟩
 |seq x y g h =>
  intro p d b;rw[uH]at b;rcases List.mem_append.1 b with q|q
  ·exact g c.1 _ d q
  exact h c.2 _ d q
 |alt x y g h =>
  intro p d b;rw[uH]at b;rcases List.mem_cons.1 b with rfl|q
  ·exact e _ _ _ (by decide) (by decide)
  rcases List.mem_append.1 q with q|q
  ·exact g c.1 _ d q
  rcases List.mem_cons.1 q with rfl|q
  ·exact e _ _ _ (by decide) (by decide)
  exact h c.2 _ d q
 |star x f =>
  intro p d b;rw[uH]at b;rcases List.mem_cons.1 b with rfl|q
  ·exact e _ _ _ (by decide) (by decide)
  rcases List.mem_append.1 q with q|q
  ·exact f c _ d q
  simp at q;subst q;exact e _ _ _ (by decide) (by decide)
 |not x f =>
  intro p d b;rw[uH]at b;rcases List.mem_cons.1 b with rfl|q
  ·exact e _ _ _ (by decide) (by decide)
  rcases List.mem_append.1 q with q|q
  ·exact f c _ d q
  simp at q;subst q;exact e _ _ _ (by decide) (by decide)
def vV(g:Gr)(k:Nat):List ur:=M.progC (λn=>(n:Int)) (opG g) (trG g) (xQ g) k
theorem jh g k:(vV g k).length=PL g k:=M.progC_len _ _ _ _ _ _
theorem jF g k(h:0<(nd g k).bl):vV g (k+1)=vV g k++M.nodeC (λn=>(n:Int)) (opG g k) (trG g k) (PL g k):=by
 have e:xQ g k=true:=by simp[xQ,h]
 unfold vV;rw[M.progC,if_pos e,show(M.progC (λn=>(n:Int)) (opG g) (trG g) (xQ g) k).length=PL g k from jh g k]
theorem uaF g k(h:¬0<(nd g k).bl):vV g (k+1)=vV g k:=by
 have e:¬xQ g k=true:=by simp[xQ,h]
 unfold vV;rw[M.progC,if_neg e]
theorem uc4 g p:(opG g p).kind=9\/(opG g p).kind=10:=by
 unfold opG;split
 ·exact .inl rfl
 exact .inr rfl
theorem ulU{g}(c:M.Valid g)k(n:k<=g.nr+g.nb):∀d,d∈vV g k->ufq (g.nr+g.nb) d:=by
 have f:∀k a z:Int,k≠6->k≠8->ufq (g.nr+g.nb) (ins k a z):=λk a z j l q=>by
  rcases q with q|q
  ·exact absurd q j
  exact absurd q l
 induction k with
 |zero =>
  intro d b;have hd':d=ins 6 0 ((0:Nat):Int)\/d=ins 12 0 0:=by simpa[vV,M.progC] using b
  rcases hd' with rfl|rfl
  ·exact λ_=>⟨0,by have:=c.r1;omega,rfl⟩
  exact f _ _ _ (by decide) (by decide)
 |succ k i =>
  intro d b;by_cases h:0<(nd g k).bl
  ·rw[jF g k h]at b;rcases List.mem_append.1 b with q|q
   ·exact i (by omega) d q
   unfold M.nodeC at q;rcases List.mem_cons.1 q with rfl|q
   ·intro r;rcases uc4 g k with e|e<;>rw[e]at r<;>rcases r with r|r<;>cases r
   rcases List.mem_append.1 q with q|q
   ·have m:M.BodyOK g.nr g.nb (nd g k).bl (nd g k).body:=(xt c.sound (show k<g.nr+g.nb by omega)).elim (λq=>by omega) id;exact uoJ _ _ (M.tree_below m.1) _ d q
   simp at q;rcases q with rfl|rfl<;>exact f _ _ _ (by decide) (by decide)
  rw[uaF g k h]at b;exact i (by omega) d b
def vJ(g:Gr)(k:Nat):List Int:=(List.range k).map (plc g)
theorem qx g k:vJ g (k+1)=vJ g k++[plc g k]:=by
 unfold vJ;rw[List.range_succ,List.map_append];rfl
theorem xZ g k:(vJ g k).length=k:=by simp[vJ]
theorem uh4 g{k n}(h:n<k):(vJ g k)[n]?=some (plc g n):=by simp[vJ,h]
def fG(g:Gr)(z:Int):Int:=plc g z.toNat
theorem ukC g k:(vV g k).map (lk (fG g))=vO g k:=by
 unfold vV vO;rw[M.progC_link _ _ _ _ _ (uc4 g)];rfl
structure usw(w w':World)(v:Value)(L:List IC)(P S:Nat->Prop):Prop where
 own:OwnC P w' v 4 L.length (uG L)
 sets:SetsA S w' L
 softS:∀b j,S b->w'.frozen? ⟨b,j,none⟩=false
 p:∀b,P b->New w w' b/\¬S b
 s:∀b,S b->New w w' b
 nodup:(ubg L).Nodup
def uqX(g:Gr)(w:World)(e:Ending)(w':World):Prop :=
 ((M.Valid g/\∃a n c L P S,e=.returned (.tuple #[.slice a n c,.int .i64 0])/\n=L.length/\L.map IC.d=vO g (g.nr+g.nb)/\usw w w' (.slice a n c) L P S) \/
  (¬M.Valid g/\e=.returned (.tuple #[.slice none 0 0,.int .i64 4])))/\Below w.heap.size w w'
def crI(w0:World)(b:Nat)(u0 u1:Value)(g:Gr)(n a:Nat)(c:Value)(wr:World):Prop :=
 ∃(k:Nat) (L:List IC),k<=n/\c=.int .i64 (k:Int)/\L.map IC.d=vV g (a+k)/\CS w0 b u0 u1 L [] (vJ g (a+k)) wr
theorem ulV w u0 u1 t:CS w w.heap.size u0 u1 [] [] [] (w.alloc (.cells #[u0,u1,.slice none 0 0,.slice none 0 0] t)):=by
 refine⟨λ_=>False,λ_=>False,λ_=>False,.slice none 0 0,.slice none 0 0,cN w.heap.size rfl rfl,cN w.heap.size rfl rfl,cN w.heap.size rfl rfl,cN w.heap.size rfl rfl,λj=>?_,.inl ⟨rfl,rfl,rfl⟩,.inl ⟨rfl,rfl,rfl⟩,λx a=>by simp at a,λb j q=>q.elim,λb q=>q.elim,λb q=>q.elim,λb q=>q.elim,⟨Nat.le_refl _,by simp⟩,by simp[ubg],ui w _⟩;exact qf w _ t w.heap.size j (Nat.le_refl _) (by simp)
theorem ugx Q h la l lc g w(hG:GramX Q w h la g)(hs:vF g) :
  Calls Tryz.prog 8 #[.agg #[.slice h g.nr l,.slice la g.nb lc]] w (uqX g w):=by
 have HG:=ua hG;have HS:=ua hs;go_enter Tryz.func8,Tryz.ntmps8;go_wp2_with fail;refine(jD Q h la l lc g _ (HG.later (ui w _)).plain HS).mono ?_;rintro e W1 ⟨⟨r,rfl,hr⟩,B⟩;have X:=ue (a:=⟨w.heap.size,0,none⟩) (v:=.slice h g.nr l) (cN w.heap.size rfl rfl) B;have g1:=ue (a:=⟨w.heap.size,1,none⟩) (v:=.slice la g.nb lc) (cN w.heap.size rfl rfl) B;have U:=ua (uf (ui w _) B);have a5:=ud X;cases r with
 |false =>
  have o:Hid (¬M.Valid g):=λq=>absurd (hr.2 q) (by decide)
  go_wp2;refine bodyPost_ret (by simp[results,Tryz.f8,go_sem];rfl) rfl ?_;exact⟨.inr ⟨o,rfl⟩,U⟩
 |true =>
  have o:=ua (hr.1 rfl);clear hr;have h1:=o.r2;have h2:=o.l2;have aj:=ua (HG.later U);have G0:=ua X;have G1:=ua g1;have C0:Hid (CS W1 W1.heap.size (.slice h g.nr l) (.slice la g.nb lc) [] [] [] (W1.alloc (.cells #[.slice h g.nr l,.slice la g.nb lc,.slice none 0 0,.slice none 0 0] 83))):=ulV W1 _ _ 83;go_wp2_with fail;refine(ubd W1 W1.heap.size _ _ [] [] _ 6 0 0 C0 (by simp)).mono ?_;rintro e W2 ⟨rfl,C2⟩;go_wp2_with fail;refine(ubd W1 W1.heap.size _ _ ([]++[ic 6 0 0]) [] _ 12 0 0 C2 (by simp)).mono ?_;rintro e W3 ⟨rfl,C3⟩;replace X:=ue G0 C3.bel;replace g1:=ue G1 C3.bel;have a6:=ud X;have az:=ubO o.sound;have ak:=ua az;go_wp2;go_loopw [21] (λE wr=>crI W1 W1.heap.size (.slice h g.nr l) (.slice la g.nb lc) g g.nr 0 E wr) (λE _=>g.nr-(intOf E).toNat)
  case atStart=>exact⟨0,[ic 6 0 0,ic 12 0 0],Nat.zero_le _,rfl,rfl,C3⟩
  case round =>
   obtain⟨k,L,hk,rfl,G,A⟩:=hrel;rw[Nat.zero_add]at G A;have C:=ua G;have s:Hid (CS W1 W1.heap.size (.slice h g.nr l) (.slice la g.nb lc) L [] (vJ g k) wr):=A;have u:Hid (L.length=PL g k):=(by show _=_;rw[<-jh,<-G,List.length_map]);have ay:=ak k (by omega);have y0:=ue G0 A.bel;have y1:=ue G1 A.bel;have a2:=ud y0;by_cases t:k<g.nr
   ·rcases aj.rules with q|⟨b,off,rfl,hq,Y⟩
    ·omega
    obtain⟨⟨⟨R,T,D,hn⟩,⟨ba,bc,m,B⟩⟩,⟨ae,af,V,Z⟩⟩:=Y k t;obtain⟨rfl,rfl⟩:ba=ae/\bc=af:=(by rw[V]at m;simp at m;exact⟨m.1.symm,m.2.symm⟩);have HB:Hid (OpsA Q W1 ba (g.rule k).bl (g.rule k).body):=B;have aa:Hid ((g.rule k).bl<=bc):=Z;replace D:=ue D s.bel;replace m:=ue m s.bel;have lb:=ud D;have H:Hid (M.BodyOK g.nr g.nb (g.rule k).bl (g.rule k).body):=o.rb k t;have y:0<(nd g k).bl:=by
     rw[vT g t];by_cases q:(g.rule k).bl=0
     ·have:=H.2.2;rw[q,M.dep]at this;omega
     omega
    have ad:=jF g k y;have I:Hid (plc g k=(PL g k:Int)):=(by show _=_;rw[ud5,if_pos y]);have O:=uks o.sound (show k<g.nr+g.nb by omega);rw[vT g t]at O;have ab:Hid ((g.rule k).bl<=2000):=O;have ac:Hid (vV g (k+1)=vV g k++M.nodeC (λn=>(n:Int)) (ins 9 (k:Int) 0) (M.treeE g.nr (g.rule k).bl (g.rule k).body) L.length):=by
     show _=_;rw[ad,u.out];unfold opG trG;rw[if_pos t,vT g t]
    have hk':(k:Int)<(g.nr:Int):=(by omega);go_wp2_with fail;refine(ucl W1 W1.heap.size Q (some ⟨b,off,none⟩) la ba l lc (g.rule k).bl bc g h1 h2 (g.rule k).body ab.out aa.out H.out HB.out L (vJ g k) 9 (k:Int) _ (s.out.later (ui wr _)) (by have:=u.out;omega) (by rw[xZ];omega)).mono ?_;rintro e W5 ⟨⟨v5,rfl⟩,K,N,hc⟩;have HM:=ua N;have C5:=ua hc;go_wp2;go_roundw
    case rel =>
     refine⟨k+1,L++K,by omega,by go_num,?_,?_⟩
     ·rw[Nat.zero_add,ac.out,List.map_append,C.out,HM.out]
     rw[Nat.zero_add,qx,I.out,<-u.out];exact C5
    case measure=>simp[intOf];omega
   obtain rfl:k=g.nr:=(by omega);go_wp2;go_loopw [35] (λE wr=>crI W1 W1.heap.size (.slice h g.nr l) (.slice la g.nb lc) g g.nb g.nr E wr) (λE _=>g.nb-(intOf E).toNat)
   case atStart=>exact⟨0,L,Nat.zero_le _,rfl,by rw[Nat.add_zero];exact C,by rw[Nat.add_zero];exact s⟩
   case round =>
    obtain⟨k,L,hk,rfl,G,A⟩:=hrel;have C:Hid (L.map IC.d=vV g (g.nr+k)):=G;have s:Hid (CS W1 W1.heap.size (.slice h g.nr l) (.slice la g.nb lc) L [] (vJ g (g.nr+k)) wr):=A;have u:Hid (L.length=PL g (g.nr+k)):=(by show _=_;rw[<-jh,<-G,List.length_map]);have ay:=ak (g.nr+k) (by omega);have y0:=ue G0 A.bel;have y1:=ue G1 A.bel;have a2:=ud y0;by_cases t:k<g.nb
    ·rcases aj.labs with q|⟨b,off,rfl,hq,Y⟩
     ·omega
     obtain⟨⟨⟨R,T,D,hn⟩,W,⟨ba,bc,m,B⟩⟩,⟨ae,af,V,Z⟩⟩:=Y k t;obtain⟨rfl,rfl⟩:ba=ae/\bc=af:=(by rw[V]at m;simp at m;exact⟨m.1.symm,m.2.symm⟩);have HB:Hid (OpsA Q W1 ba (g.lab k).bl (g.lab k).body):=B;have aa:Hid ((g.lab k).bl<=bc):=Z;replace D:=ue D s.bel;replace m:=ue m s.bel;replace W:=ue W s.bel;have lb:=ud D;have hk':(k:Int)<(g.nb:Int):=(by omega);cases J:(g.lab k).has with
     |true =>
      rw[J]at W;have H:Hid (M.BodyOK g.nr g.nb (g.lab k).bl (g.lab k).body):=o.lb k t J;have y:0<(nd g (g.nr+k)).bl:=by
       rw[yR];by_cases q:(g.lab k).bl=0
       ·have:=H.2.2;rw[q,M.dep]at this;omega
       omega
      have ad:=jF g (g.nr+k) y;have I:Hid (plc g (g.nr+k)=(PL g (g.nr+k):Int)):=(by show _=_;rw[ud5,if_pos y]);have O:=uks o.sound (show g.nr+k<g.nr+g.nb by omega);rw[yR]at O;have ab:Hid ((g.lab k).bl<=2000):=O;have ac:Hid (vV g (g.nr+(k+1))=vV g (g.nr+k)++M.nodeC (λn=>(n:Int)) (ins 10 (k:Int) 0) (M.treeE g.nr (g.lab k).bl (g.lab k).body) L.length):=by
       show vV g (g.nr+k+1)=_;rw[ad,u.out];unfold opG trG;rw[if_neg (by omega),yR,show g.nr+k-g.nr=k by omega]
      go_wp2_with fail;refine(ucl W1 W1.heap.size Q h (some ⟨b,off,none⟩) ba l lc (g.lab k).bl bc g h1 h2 (g.lab k).body ab.out aa.out H.out HB.out L (vJ g (g.nr+k)) 10 (k:Int) _ (s.out.later (ui wr _)) (by have:=u.out;omega) (by rw[xZ];omega)).mono ?_;rintro e W5 ⟨⟨v5,rfl⟩,K,N,hc⟩;have HM:=ua N;have C5:=ua hc;go_wp2;go_roundw
      case rel =>
       refine⟨k+1,L++K,by omega,by go_num,?_,?_⟩
       ·rw[ac.out,List.map_append,C.out,HM.out]
       show CS _ _ _ _ _ _ (vJ g (g.nr+k+1)) _;rw[qx,I.out,<-u.out];exact C5
      case measure=>simp[intOf];omega
     |false =>
      rw[J]at W;have y:¬0<(nd g (g.nr+k)).bl:=(by rw[yR,o.out.lz k t J];omega);have ao:Hid (vV g (g.nr+(k+1))=vV g (g.nr+k)):=uaF g (g.nr+k) y;have I:Hid (plc g (g.nr+k) = -1):=(by show _=_;rw[ud5,if_neg y]);obtain⟨P,F,S,vp,vf,c⟩:=s.later (ui wr (.cells #[.slice R (g.lab k).nl T,.bool false,.slice ba (g.lab k).bl bc] 70));obtain⟨fa,fc,rfl⟩:=uk c.ownf;rw[xZ]at c;have HP:Hid (CP W1 W1.heap.size (.slice h g.nr l) (.slice (some ⟨b,off,none⟩) g.nb lc) L [] (vJ g (g.nr+k)) (wr.alloc (.cells #[.slice R (g.lab k).nl T,.bool false,.slice ba (g.lab k).bl bc] 70)) P F S vp (.slice fa (g.nr+k) fc)):=c;have f3:=c.f;have a1:=c.cb0.2;clear Y hn B Z V y hq J c;have XB:Hid (CP W1 W1.heap.size (.slice h g.nr l) (.slice (some ⟨b,off,none⟩) g.nb lc) L [] (vJ g (g.nr+k)) ((wr.alloc (.cells #[.slice R (g.lab k).nl T,.bool false,.slice ba (g.lab k).bl bc] 70)).alloc (.cells #[.int .i64 (-1)] 3)) P F S vp (.slice fa (g.nr+k) fc)):=HP.out.later (ui _ _);have XS:=ugA (wr.alloc (.cells #[.slice R (g.lab k).nl T,.bool false,.slice ba (g.lab k).bl bc] 70)) (-1);rw[World.size_alloc]at XS;have aq:=XS;clear XS;go_wp2_with (at_builtin;refine ukw rfl _ _ 36 36 rfl rfl rfl elem36 XB.ownf aq (by rw[xZ];omega) (λ_=>Nat.one_pos) ?_;intro v' W4 ai ah a0;have am:=XB.putF ai ah;have ag:=ah.block W1.heap.size XB.cb0.2 (λq=>(XB.rf W1.heap.size q).2.2.1 rfl);have r2:W4.cell? ⟨W1.heap.size,3,none⟩=some (.slice fa (g.nr+k) fc):=(World.cell?_of_block (a:=⟨W1.heap.size,3,none⟩) ag).trans XB.f;have r3:W4.frozen? ⟨W1.heap.size,3,none⟩=false:=(World.frozen?_of_block (a:=⟨W1.heap.size,3,none⟩) ag).trans (XB.soft 3);obtain⟨a4,c4,rfl⟩:=uk ai;have C4:Hid (CS W1 W1.heap.size (.slice h g.nr l) (.slice (some ⟨b,off,none⟩) g.nb lc) L [] (vJ g (g.nr+k)++[-1]) (W4.setCell ⟨W1.heap.size,3,none⟩ (.slice a4 ((vJ g (g.nr+k)).length+1) c4))):=am;have a7:W1.heap.size<W4.heap.size:=ud r2;clear ai ah a0 am ag);go_roundw
      case rel =>
       refine⟨k+1,L,by omega,by go_num,?_,?_⟩
       ·rw[ao.out];exact C.out
       show CS _ _ _ _ _ _ (vJ g (g.nr+k+1)) _;rw[qx,I.out];exact C4
      case measure=>simp[intOf];omega
    obtain rfl:k=g.nb:=(by omega);have ap:Hid (∀(i:Nat) (x:IC),L[i]?=some x->x.d.kind=6\/x.d.kind=8->∃n:Nat,x.d.to=(n:Int)/\(vJ g (g.nr+g.nb))[n]?=some (fG g x.d.to)):=λi x hx av=>by
     have N:x.d∈vV g (g.nr+g.nb):=(by rw[<-C.out];exact List.mem_map.2 ⟨x,List.mem_of_getElem? hx,rfl⟩);obtain⟨n,hn,he⟩:=ulU o.out (g.nr+g.nb) (Nat.le_refl _) x.d N av;refine⟨n,he,?_⟩;rw[he,uh4 g hn];rfl
    have aw:0<L.length:=by
     have h3:=u.out;have h4:(vV g 0).length<=(vV g (g.nr+g.nb)).length:=by
      have:∀j,(vV g 0).length<=(vV g j).length:=by
       intro j;induction j with
       |zero=>exact Nat.le_refl _
       |succ j ih =>
        by_cases q:0<(nd g j).bl
        ·rw[jF g j q,List.length_append];omega
        rw[uaF g j q];exact ih
      exact this _
     rw[jh,jh]at h4;have h5:PL g 0=2:=rfl;omega
    go_wp2_with fail;refine(ul2 W1 W1.heap.size _ _ L (vJ g (g.nr+g.nb)) (fG g) _ s.out aw (by have:=u.out;omega) (by rw[xZ];omega) ap.out).mono ?_;rintro e W6 ⟨⟨v6,rfl⟩,au⟩;obtain⟨P,F,S,vp,vf,c⟩:=au;obtain⟨pa,pc,rfl⟩:=uk c.own;have HP:=ua c;have p2:=c.p;have a1:=c.cb0.2;go_wp2;refine bodyPost_ret (by simp[results,Tryz.f8,go_sem];rfl) rfl ?_;have c:=HP;have an:=c.sets;have al:=c.nodup;rw[List.append_nil]at an al;have a3:=U.size;have ax:OwnC P W6 (.slice pa L.length pc) 4 (L.map (lkI (fG g))).length (uG (L.map (lkI (fG g)))):=by
     have:=c.own;rw[List.length_map]at this ⊢;exact this
    refine⟨.inl ⟨o,pa,_,pc,L.map (lkI (fG g)),P,S,rfl,(List.length_map _).symm,?_,ax,an,c.softS,?_,?_,al⟩,uf U c.bel⟩
    ·rw[<-ukC,<-C.out,List.map_map,List.map_map];rfl
    ·intro z hz;have:=c.rp z hz;exact⟨⟨by omega,this.2.1⟩,this.2.2.2.2⟩
    intro z hz;have:=c.rs z hz;exact⟨by omega,this.2.1⟩
def ubq(m:Nat->Bool)(lo k:Nat):Nat->Bool:=λb=>m b||(decide (lo<=b)&&decide (b<k))
theorem umI m lo:ubq m lo lo=m:=by
 funext b;unfold ubq;by_cases h:lo<=b
 ·simp[h,Nat.not_lt.2 h]
 simp[h]
def qE(t:Tx):Nat->Nat->(Nat->Bool)->Option ((Nat->Bool)×Nat)
 |0,_,_=>none
 |f+1,j,m =>
  if j<t.n/\t.T j=93 then some (m,j)
  else if (chr t j true).2=0 then none
  else if j+(chr t j true).2<t.n/\t.T (j+(chr t j true).2)=45 then
   (if (chr t (j+(chr t j true).2+1) true).2=0\/(chr t (j+(chr t j true).2+1) true).1<(chr t j true).1 then none
   else qE t f (j+(chr t j true).2+1+(chr t (j+(chr t j true).2+1) true).2) (ubq m (chr t j true).1.toNat ((chr t (j+(chr t j true).2+1) true).1.toNat+1)))
  else qE t f (j+(chr t j true).2) (ubq m (chr t j true).1.toNat ((chr t j true).1.toNat+1))
def urv(t:Tx)(i:Nat):Bool:=decide (i+1<t.n/\t.T (i+1)=94)
def ug7(t:Tx)(i:Nat):Nat:=if urv t i=true then i+2 else i+1
def umJ(neg:Bool):Option ((Nat->Bool)×Nat)->Option (List Int×Nat)
 |none=>none
 |some (m,j)=>some (rg (λb=>m b != neg) 256,j+1)
def ucM(t:Tx)(i:Nat):Option (List Int×Nat):=umJ (urv t i) (qE t (t.n+2-i) (ug7 t i) (λ_=>false))
theorem TxA.later{Q t a w w'}(h:TxA Q w a t)(k:Below w.heap.size w w'):TxA Q w' a t:=Ints.later h k
theorem umK l:vE l=uS .i64 (lf l) l.length:=by
 apply List.ext_getElem?;intro i;unfold vE uS lf;by_cases h:i<l.length
 ·simp[h]
 simp[h,Nat.not_lt.1 h]
def Mk256(w:World)(m:Nat->Bool)(wr:World):Prop:=wr.rowIs w.heap.size 4 256 (λi=>.bool (m i))/\Below w.heap.size w wr
theorem Mk256.drewN{w wr m}(h:Mk256 w m wr)k:Mk256 w m (wr.drewN k):=⟨h.1.of_block rfl,below_drewN h.2 k⟩
theorem Mk256.set{w wr m}(h:Mk256 w m wr)i v:Mk256 w (λb=>if b=i then v else m b) (wr.setCell ⟨w.heap.size,i,none⟩ (.bool v)):=by
 refine⟨(h.1.set i (.bool v)).congr λb _=>?_,h.2.setCell (Nat.le_refl _) _⟩;by_cases e:b=i<;>simp[e]
theorem Mk256.eq{w wr m a}(h:Mk256 w m wr)(e:m=a):Mk256 w a wr:=e▸h
theorem ukV m{lo k}(h:lo<=k):(λb=>if b=k then true else ubq m lo k b)=ubq m lo (k+1):=by
 funext b;unfold ubq;by_cases e:b=k
 ·subst e;simp[h]
 have:(b<k)=(b<k+1):=by simp;omega
 simp[e,this]
def ucN(m:Nat->Bool)(neg:Bool)(k:Nat):Nat->Bool:=λb=>if b<k then m b != neg else m b
theorem umL m neg:ucN m neg 0=m:=by funext b;simp[ucN]
theorem ukW m k:(λb=>if b=k then !(ucN m true k k) else ucN m true k b)=ucN m true (k+1):=by
 funext b;unfold ucN;by_cases e:b=k
 ·subst e;simp
 have:(b<k)=(b<k+1):=by simp;omega
 simp[e,this]
theorem upd{w wr m neg k L}(d:Mk256 w (ucN m neg k) wr)(g:neg=false->k=0)(c:rg (λb=>m b != neg) 256=L)(a:¬k<256\/neg=false) :
  Calls Tryz.prog 138 #[.slice (some ⟨w.heap.size,0,none⟩) 256 256] wr (ucb L wr):=by
 have h:=jW (some ⟨w.heap.size,0,none⟩) (λb=>m b != neg) wr ⟨w.heap.size,rfl,λi f=>by
  have e:ucN m neg k i=(m i != neg):=by
   unfold ucN;rcases a with a|a
   ·rw[if_pos (by omega)]
   rw[g a,if_neg (by omega),a];simp
  exact(d.1.cell f).trans (by rw[e])⟩
 rw[c]at h;exact h
theorem upe{w wr m L}(d:Mk256 w m wr)e W(i:ucb L wr e W):∃a c,e=.returned (.slice a L.length c)/\Ints (New w W) .i64 W a L.length (lf L)/\Keep (λ_=>False) w W:=by
 obtain⟨a,c,e,P,g,h,k⟩:=i;rw[umK]at g;have j:=d.2.size;exact⟨a,c,e,(yZ g).wide (λb f=>⟨by have:=(h b f).1;omega,(h b f).2⟩),Below.kept (d.2.trans (k.mono j))⟩
theorem ug8 Q t a c i w(hT:TxA Q w a t)(hi:i<t.n) :
  Calls Tryz.prog 101 #[.slice a t.n c,.int .i64 i] w (um8 .i64 (ucM t i) i w):=by
 have aq:=run_make_row' (P:=Tryz.prog) 31 4 (.bool false) 1 Tryz.underlying31 uhQ rfl .i64 .i64 256 (by omega) (by omega);simp only[show((256:Nat):Int)=256 from rfl]at aq;have a8:=t.le;have HT:=ua hT;have af:Hid (Mk256 w (λ_=>false) (w.alloc (.cells (madeCells #[.bool false] 256) 4))):=⟨World.rowIs_made w _ 256 4,(Below.refl _ w).alloc (Nat.le_refl _) _⟩;clear hT;obtain⟨neg,ac⟩:=nm (urv t i);obtain⟨y,ai⟩:∃r,ug7 t i=r:=⟨_,rfl⟩;have V:Hid (y=if neg=true then i+2 else i+1):=by show y=_;rw[<-ai,ug7,ac]
 have Z:Hid (neg=decide (i+1<t.n/\t.T (i+1)=94)):=ac▸rfl;have X:Hid (i<y/\y<=t.n/\y<=i+2):=by
  have h:=V.out;have h':=Z.out;show i<y/\_;by_cases e:neg=true
  ·rw[if_pos e]at h;rw[e]at h';have:=of_decide_eq_true h'.symm;omega
  rw[if_neg e]at h;omega
 obtain⟨r,hr⟩:=nm (qE t (t.n+2-i) y (λ_=>false));have HR:Hid (qE t (t.n+2-i) y (λ_=>false)=r):=hr;have x:Hid (ucM t i=umJ neg r):=by
  show ucM t i=_;unfold ucM;rw[ai,ac,hr]
 clear ac ai hr;rw[x.out];clear x;go_enter Tryz.func101,Tryz.ntmps101;go_upto_region 3 with fail;clear aq;generalize w.alloc (.cells (madeCells #[.bool false] 256) 4)=W1 at *;go_cut [8] from 16 to 115 (λv wc=>v=.bool neg/\W1=wc)
 case first =>
  by_cases z:i+1<t.n
  ·have h1':(i:Int)+1<t.n:=(by omega);obtain⟨b,off,rfl,_,s⟩:=(HT.later af.2).at z;have S:=s (i+1) z;have b0:=t.byt (i+1);clear s;go_wp2;go_meet
   case rel=>exact⟨by rw[Z.out];congr 1;rw[Bool.eq_iff_iff];simp[z],rfl⟩
  have h1':¬(i:Int)+1<t.n:=by omega
  go_wp2;go_meet
  case rel=>exact⟨by rw[Z.out];simp[z],rfl⟩
 case rest =>
  obtain⟨rfl,rfl⟩:=hcut;go_upto_if 30 with fail;go_cut [7] from 16 to 115 (λv wc=>v=.int .i64 (y:Int)/\W1=wc)
  case first =>
   cases neg with
   |true =>
    go_wp2;go_meet
    case rel=>exact⟨by rw[V.out];simp;omega,rfl⟩
   |false =>
    go_wp2;go_meet
    case rel=>exact⟨by rw[V.out];simp,rfl⟩
  case rest =>
   obtain⟨rfl,rfl⟩:=hcut;go_wp2;go_loopw [7] (λu wr=>∃(f j:Nat) (m:Nat->Bool),j<=t.n/\i<j/\t.n-j<f/\u=.int .i64 j/\Mk256 w m wr/\qE t f j m=r) (λu _=>t.n-(intOf u).toNat)
   case atStart=>exact⟨t.n+2-i,y,λ_=>false,X.out.2.1,X.out.1,by have:=X.out;omega,rfl,af.out,HR.out⟩
   case round =>
    obtain⟨f,j,m,hj,a4,hf,rfl,o,hs⟩:=hrel;obtain⟨f,rfl⟩:∃q,f=q+1:=⟨f-1,by omega⟩;have Y:=ua o;have A:=ua (HT.later o.2);have HS:=ua hs;clear o hs af HR V Z X;by_cases hq:j<t.n/\t.T j=93
    ·obtain⟨aj,au⟩:=hq;obtain⟨b,off,rfl,_,s⟩:=A.at aj;have S:=s j aj;rw[au]at S;have hq1':(j:Int)<t.n:=(by omega);have e:=HS;rw[qE,if_pos ⟨aj,au⟩]at e;obtain⟨L,hL⟩:∃L,rg (λb=>m b != neg) 256=L:=⟨_,rfl⟩;have al:Hid (umJ neg r=some (L,j+1)):=(by show _=_;rw[<-e,umJ,hL]);have HL:=ua hL;clear s HS e hL;go_wp2;go_loopw [15] (λu w'=>∃k:Nat,k<=256/\u=.int .i64 k/\Mk256 w (ucN m neg k) w'/\(neg=false->k=0)) (λu _=>256-(intOf u).toNat)
     case atStart=>exact⟨0,by omega,rfl,Y.eq (umL m neg).symm,λ_=>rfl⟩
     case round =>
      obtain⟨k,hk,rfl,o,R⟩:=hrel;have G:=ua o;have aa:Hid (∀v,Mk256 w (λb=>if b=k then v else ucN m neg k b) (wr.setCell ⟨w.heap.size,k,none⟩ (.bool v))):=λv=>o.set k v
      have ae:=ua (upd o R HL);have ad:Hid (∀e W,ucb L wr e W->∃H B,e=.returned (.slice H L.length B)/\Ints (New w W) .i64 W H L.length (lf L)/\Keep (λ_=>False) w W):=upe o;cases neg with
      |true =>
       by_cases D:k<256
       ·have hlt':(k:Int)<256:=(by omega);have B:=o.1.cell D;have f2:=o.1.frozen k;have ah:=ua ((aa _).eq (ukW m k));clear o R aa ae ad;generalize ucN m true k k=bv at *;go_wp2;go_roundw
        case rel=>exact⟨k+1,by omega,by go_num,ah,λq=>Bool.noConfusion q⟩
        case measure=>simp[intOf];omega
       have hlt':¬(k:Int)<256:=(by omega);clear o R aa;go_wp2_with fail;refine(ae (.inl D)).mono ?_;intro e W O;obtain⟨H,B,rfl,J,N⟩:=ad e W O;clear O;have HI:=ua J;have HK:=ua N;clear J N;go_wp2;go_ret2;rw[al.out];exact⟨HK,H,B,by congr 3,HI⟩
      |false =>
       obtain rfl:=R rfl;clear o R aa;go_wp2_with fail;refine(ae (by simp)).mono ?_;intro e W O;obtain⟨H,B,rfl,J,N⟩:=ad e W O;clear O;have HI:=ua J;have HK:=ua N;clear J N;go_wp2;go_ret2;rw[al.out];exact⟨HK,H,B,by congr 3,HI⟩
    have HQ:Hid (¬(j<t.n/\t.T j=93)):=hq;obtain⟨x1,x2,x3⟩:=jS t j true hj;have x:Hid (∀w,TxA Q w a t->Calls Tryz.prog 140 #[.slice a t.n c,.int .i64 j,.bool true] w (udr (chr t j true).1 ((chr t j true).2:Nat) w)):=λw h=>uaU Q t a c j true w h hj
    have ag:Hid ((if (chr t j true).2=0 then none
     else if j+(chr t j true).2<t.n/\t.T (j+(chr t j true).2)=45 then
      (if (chr t (j+(chr t j true).2+1) true).2=0\/(chr t (j+(chr t j true).2+1) true).1<(chr t j true).1 then none
      else qE t f (j+(chr t j true).2+1+(chr t (j+(chr t j true).2+1) true).2) (ubq m (chr t j true).1.toNat ((chr t (j+(chr t j true).2+1) true).1.toNat+1)))
     else qE t f (j+(chr t j true).2) (ubq m (chr t j true).1.toNat ((chr t j true).1.toNat+1)))=r):=by
     have:=HS;rw[qE,if_neg hq]at this;exact this
    clear HS hq;generalize chr t j true=p at *;obtain⟨pb,pn⟩:=p;simp only at x1 x2 x3 x ag;obtain⟨lo,rfl⟩:∃q:Nat,pb=(q:Int):=⟨pb.toNat,by omega⟩;by_cases hp:pn=0
    ·subst hp;have e:=ag;rw[if_pos rfl]at e;subst e;by_cases C:j<t.n
     ·have hjn':(j:Int)<t.n:=(by omega);obtain⟨b,off,rfl,_,s⟩:=A.at C;have S:=s j C;have y1:(t.T j==93)=false:=by simpa using λq=>HQ ⟨C,q⟩
      have b0:=t.byt j;clear s;go_wp2_with fail;refine(x wr A).mono ?_;rintro e W ⟨rfl,E,rfl⟩;go_wp2;go_ret2;exact⟨Below.kept (Y.drewN E).2,rfl⟩
     have hjn':¬(j:Int)<t.n:=(by omega);go_wp2_with fail;refine(x wr A).mono ?_;rintro e W ⟨rfl,E,rfl⟩;go_wp2;go_ret2;exact⟨Below.kept (Y.drewN E).2,rfl⟩
    have hp':¬(pn:Int)=0:=(by omega);have C:j<t.n:=(by omega);have hjn':(j:Int)<t.n:=(by omega);obtain⟨b,off,rfl,_,s⟩:=A.at C;have S:=s j C;have y1:(t.T j==93)=false:=by simpa using λq=>HQ ⟨C,q⟩
    have b0:=t.byt j;go_wp2_with fail;refine(x wr A).mono ?_;rintro e W ⟨rfl,E,rfl⟩;go_upto_region 12 with fail;have am:=ua (Y.drewN E);have ao:=ua (A.drew E);generalize wr.drewN E=W2 at *;obtain⟨g,ay⟩:=nm (j+pn);have hj1':(j:Int)+(pn:Int)=(g:Int):=(by omega);have an:Hid ((if g<t.n/\t.T g=45 then
     (if (chr t (g+1) true).2=0\/(chr t (g+1) true).1<(lo:Int) then none
     else qE t f (g+1+(chr t (g+1) true).2) (ubq m lo ((chr t (g+1) true).1.toNat+1)))
     else qE t f g (ubq m lo (lo+1)))=r):=by
     have:=ag;rw[if_neg hp,ay]at this;simp only[Int.toNat_natCast]at this;exact this
    rw[hj1'];have a6:j<g:=(by omega);have az:g<=t.n:=(by omega);obtain⟨d,hd⟩:=nm (decide (g<t.n/\t.T g=45));have U:=ua hd;go_cut [66] from 33 to 94 (λv wc=>v=.bool d/\W2=wc)
    case first =>
     by_cases z:g<t.n
     ·have h1':(g:Int)<t.n:=(by omega);obtain⟨b',a9,e,_,s⟩:=ao.at z;cases e;have S:=s g z;have b0:=t.byt g;go_wp2;go_meet
      case rel=>exact⟨by rw[<-U.out];congr 1;rw[Bool.eq_iff_iff];simp[z],rfl⟩
     have h1':¬(g:Int)<t.n:=(by omega);go_wp2;go_meet
     case rel=>exact⟨by rw[<-U.out];simp[z],rfl⟩
    case rest =>
     obtain⟨rfl,rfl⟩:=hcut;go_upto_if 66 with fail;go_cut [7,11] from 33 to 94 (λv7 a3 wc=>∃(I l:Nat),v7=.int .i64 (I:Int)/\a3=.int .i64 (l:Int)/\Mk256 w m wc/\g<=I/\I<=t.n/\lo<=l/\l<=255/\qE t f I (ubq m lo (l+1))=r)
     case first =>
      cases d with
      |false =>
       have e:=an;rw[if_neg (of_decide_eq_false U.out)]at e;have F:=ua e;go_wp2;go_meet
       case rel=>exact⟨g,lo,rfl,rfl,am,Nat.le_refl _,az,Nat.le_refl _,by omega,F⟩
      |true =>
       have ap:=of_decide_eq_true U;have a5:=ap.1;have e:=an;rw[if_pos ap]at e;have F:=ua e;obtain⟨z1,z2,z3⟩:=jS t (g+1) true (by omega);have x:Hid (∀w,TxA Q w (some ⟨b,off,none⟩) t->Calls Tryz.prog 140 #[.slice (some ⟨b,off,none⟩) t.n c,.int .i64 ((g:Int)+1),.bool true] w (udr (chr t (g+1) true).1 ((chr t (g+1) true).2:Nat) w)):=λw h=>by
        have:=uaU Q t (some ⟨b,off,none⟩) c (g+1) true w h (by omega);rwa [show(((g+1:Nat):Int))=(g:Int)+1 by omega]at this
       generalize chr t (g+1) true=p at *;obtain⟨qb,qn⟩:=p;simp only at z1 z2 z3 x F;obtain⟨l,rfl⟩:∃q:Nat,qb=(q:Int):=⟨qb.toNat,by omega⟩;go_wp2_with fail;refine(x _ ao).mono ?_;rintro e W ⟨rfl,m2,rfl⟩;have G:=ua (am.drewN m2);generalize W2.drewN m2=W3 at *;by_cases ak:qn=0
       ·subst ak;have e:=F;rw[if_pos (.inl rfl)]at e;subst e;go_wp2;go_ret2;exact⟨Below.kept G.2,rfl⟩
       have hqn':¬(qn:Int)=0:=(by omega);by_cases D:(l:Int)<lo
       ·have e:=F;rw[if_pos (.inr D)]at e;subst e;go_wp2;go_ret2;exact⟨Below.kept G.2,rfl⟩
       have e:=F;rw[if_neg (λq=>q.elim ak D),Int.toNat_natCast]at e;have av:=ua e;have y1:((qn:Int)==0)=false:=(by simpa using ak);have y2:decide ((l:Int)<(lo:Int))=false:=(by simpa using D);have y3:(lo:Int)<=l:=(by omega);go_wp2;go_meet
       case rel=>exact⟨g+1+qn,l,by congr 1;omega,rfl,G,by omega,z3,by omega,by omega,av⟩
     case rest =>
      obtain⟨I,l,rfl,rfl,ax,g1,g2,g3,g4,g5⟩:=hcut;have G:=ua ax;have HG:=ua g5;go_wp2;go_loopw [14] (λu w'=>∃k:Nat,lo<=k/\k<=l+1/\u=.int .i64 k/\Mk256 w (ubq m lo k) w') (λu _=>256-(intOf u).toNat)
      case atStart=>exact⟨lo,Nat.le_refl _,by omega,rfl,G.eq (umI m lo).symm⟩
      case round =>
       obtain⟨k,a0,a7,rfl,ab⟩:=hrel;by_cases D:k<=l
       ·have hlt':(k:Int)<=l:=(by omega);have a1:k<256:=(by omega);have hk256':(k:Int)<256:=(by omega);have B:=ab.1.cell a1;have f2:=ab.1.frozen k;have ah:=ua ((ab.set k true).eq (ukV m a0));generalize ubq m lo k k=bv at *;go_wp2;go_roundw
        case rel=>exact⟨k+1,by omega,by omega,by go_num,ah⟩
        case measure=>simp[intOf];omega
       have hlt':¬(k:Int)<=l:=(by omega);obtain rfl:k=l+1:=(by omega);have aw:=ua ab;go_wp2;go_roundw
       case rel=>exact⟨f,I,_,g2,by omega,by omega,rfl,aw,HG⟩
       case measure=>simp[intOf];omega
end Go.Proofs.YtimfigongapdnaaGreat
