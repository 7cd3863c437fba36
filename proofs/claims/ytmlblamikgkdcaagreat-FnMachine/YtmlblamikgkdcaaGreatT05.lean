import Derived.Test.YtmlblamikgkdcaaGreatT03
import Derived.Deep.RegionHeld3
import Derived.Deep.CutRange
set_option linter.unusedVariables false
set_option linter.unusedSimpArgs false
set_option linter.defProp false
set_option maxHeartbeats 40000000
set_option maxRecDepth 100000
namespace Go.Proofs.YtmlblamikgkdcaaGreat
open Go.RowKit
open Go.Proofs.Tryz
open M (OpD ug Gr)
def ye{P:Program}{ι:Type}(F:ι->World){id:Nat}{Q:Exit->Act->World->Prop}{a:Act}{w}{l:List Oper}(e:P.follows .mixedOrders=true)(c:Region.lexB .any l.toArray=true)(d:∃n,w.drew=F n)(h:wpQuiet P l.toArray (λw'=>∃n,w'=F n) (λb=>∀w',(∃n,w'=F n)->Q .normal b w') l a):(Code.region id l.toArray true).wp P Q a w :=
 wp_region_quiet (C:=λw'=>∃n,w'=F n) e c d (by simpa using h)
def Vb w:∃(ι:Type) (_:Nonempty ι) (F:ι->World),(∀n,Bw w (F n))/\∀W,Bw w W->∃n,W=F n :=
 ⟨{W:Wl // Bw w W},⟨⟨w,zH w⟩⟩,Subtype.val,λn=>n.2,λW h=>⟨⟨W,h⟩,rfl⟩⟩
structure A8(r:Bool)(P:Prop):Prop where
 u:r=true↔P
def A9(P:Prop):∃b:Bool,A8 b P:=by
 rcases Classical.em P with h|h
 .exact⟨true,⟨Qp h⟩⟩
 exact⟨false,⟨xU h⟩⟩
def B0{P:Prop}{ι:Type}{F:ι->World}{w}{f:FuncId}{args:Av}{n:ι}(g:Bw w (F n))(i:∀W,Bw w W->∃n,W=F n){r:Bool}(b:A8 r P)(h:Cs f args (F n) (Qq P (F n))):Cs f args (F n) λe j=>e=Rt (.bool r)/\∃m,j=F m :=
 h.mono λe W q=>by
  obtain⟨⟨c,rfl,a⟩,d⟩:=q;have:c=r:=by
   cases r<;>cases c<;>first|rfl|exact aB (b.u.2 (a.1 rfl)) dC|exact aB (a.2 (b.u.1 rfl)) dC
  exact⟨by rw[this],i W (uf g d)⟩
def KO(g:Gr)(i:Nat):Prop:=M.bU (g.a i).nl (g.a i).f/\M.bC g.nr g.nb (g.a i).bl (g.a i).e/\∀j,j<i->¬M.cR (g.a i) (g.a j)
def B1(g:Gr)(i:Nat):Prop:=(∃j,j<g.nr/\M.bQ (g.a j).bl (g.a j).e i)\/∃j,j<g.nb/\M.bQ (g.d j).bl (g.d j).e i
def KP(g:Gr)(i:Nat):Prop:=M.bU (g.d i).nl (g.d i).f/\(0<i->M.cU (g.d (i-1)) (g.d i)) /\
 ((g.d i).j=true->M.bC g.nr g.nb (g.d i).bl (g.d i).e)/\((g.d i).j=false->B1 g i/\(g.d i).bl=0)
def uln g:M.Valid g↔0<g.nr/\g.nr<=100/\g.nb<=100/\(∀i,i<g.nr->KO g i)/\(∀i,i<g.nb->KP g i)/\M.ops g<=2000:=by
 constructor
 .intro h;exact⟨h.r1,h.r2,h.l2,λi a=>⟨h.rn i a,h.rb i a,h.ru i a⟩,λi a=>⟨h.ln i a,h.la i a,h.lb i a,λq=>⟨h.lt i a q,h.lz i a q⟩⟩,h.ol⟩
 rintro⟨d,e,f,c,b,j⟩;exact { r1:=d,r2:=e,l2:=f,rn:=λi a=>(c i a).1,ru:=λi a=>(c i a).2.2,ln:=λi a=>(b i a).1,la:=λi a=>(b i a).2.1,rb:=λi a=>(c i a).2.1,lb:=λi a=>(b i a).2.2.1,lz:=λi a q=>((b i a).2.2.2 q).2,lt:=λi a q=>((b i a).2.2.2 q).1,ol:=j }
def CB f N:∀n,(∀i,i<n->f i<=N)->M.sum f n<=n*N
 |0,_=>zK
 |n+1,h=>by
  have a:=CB f N n (λi c=>h i oM);have b:=h n oM;rw[M.sum,Hp];omega
def utt(W1:Wl)(g:Gr)(o i:Vl)(wr:Wl):Prop :=
 ∃k:Nat,k<=g.nr/\o=Iv ((M.sum (λi=>(g.a i).bl) k:Nat):Int)/\i=Iv (k:Int)/\Bw W1 wr/\∀j,j<k->KO g j
def uxF(V:Wl)(g:Gr)(k:Nat)(j:Vl)(wr:Wl):Prop :=
 ∃m d:Nat,m<=k/\j=Iv (m:Int)/\wr=V.drewN d/\∀t,t<m->¬M.cR (g.a k) (g.a t)
def uv5(W1:Wl)(g:Gr)(o i:Vl)(wr:Wl):Prop :=
 ∃k:Nat,k<=g.nb/\o=Iv ((M.sum (λi=>(g.a i).bl) g.nr+M.sum (λi=>(g.d i).bl) k:Nat):Int)/\i=Iv (k:Int)/\Bw W1 wr/\∀j,j<k->KP g j
def B2(V:Wl)(n:Nat)(p:Np)(a:Prop)(t j:Vl)(wr:Wl):Prop :=
 ∃(m:Nat) (b:Bool),m<=n/\j=Iv (m:Int)/\t=.bool b/\wr=V/\(b=true↔a\/∃q,q<m/\p q)
def KQ{p:Np}{m:Nat}:(∃q,q<m+1/\p q)↔(∃q,q<m/\p q)\/p m:=by
 constructor
 .rintro⟨q,a,h⟩;by_cases e:q=m
  .subst e;exact .inr h
  exact .inl ⟨q,oM,h⟩
 rintro (⟨q,a,h⟩|h)
 .exact⟨q,oM,h⟩
 exact⟨m,oM,h⟩
def CC{p:Np}{P:Prop}{m:Nat}{r}(h:false=true↔P\/∃q,q<m/\p q)(k:r=true↔p m):r=true↔P\/∃q,q<m+1/\p q:=by
 rw[KQ,k];exact⟨λh=>.inr (.inr h),λq=>q.elim (λa=>aB (h.2 (.inl a)) dC) λq=>q.elim (λa=>aB (h.2 (.inr a)) dC) id⟩
def qS Q ra la rc lc g w(hG:Ca Q w ra la g)(hs:vS g) :
  Cs 55 #[.agg #[Sl ra g.nr rc,Sl la g.nb lc]] w (Qq (M.Valid g) w):=by
 have h1:=hs.nr;have h2:=hs.nb;rcases(by omega:(g.nr:Int)<1\/(¬(g.nr:Int)<1/\(100:Int)<g.nr)\/(¬(g.nr:Int)<1/\¬(100:Int)<g.nr/\(100:Int)<g.nb)\/(¬(g.nr:Int)<1/\¬(100:Int)<g.nr/\¬(100:Int)<g.nb)) with t1|⟨t1,t2⟩|⟨t1,t2,t3⟩|⟨t1,t2,t3⟩
 iterate 3
  focus
   go_enter func55,ntmps55;go_wp2;go_ret;exact⟨⟨false,rfl,xU λq=>by have:=q.r1;have:=q.r2;have:=q.l2;omega⟩,zO w⟩
 have HR:=ua hG.c;have HL:=ua hG.e;have S1:=ua hs.a;have I:=ua hs.d;go_enter func55,ntmps55;go_wp2;go_loopw [3,4] (λo i wr=>utt (w.alloc (Oc #[Sl ra g.nr rc,Sl la g.nb lc] 34)) g o i wr) (λo i _=>g.nr-(intOf i).toNat)
 .exact⟨0,zK,rfl,rfl,zH _,λj hj=>aB hj (Ge _)⟩
 obtain⟨k,hk,rfl,rfl,s,N⟩:=hrel;have HA:Hid (∀j,j<k->KO g j):=N;have O:=uf (zO w) s;have g0:wr.cell? (Ad w.heap.size 0)=some (Sl ra g.nr rc):=ue sM s;have g1:wr.cell? (Ad w.heap.size 1)=some (Sl la g.nb lc):=ue sM s;have a8:w.heap.size<wr.heap.size:=by have:=s.size;simp at this;omega
 by_cases v:k<g.nr
 .have hlt':(k:Int)<(g.nr:Int):=oM;have y:=HR.h O;rcases y with h0|⟨b,off,rfl,hq,y⟩
  .omega
  let⟨⟨na,nc,L,hn⟩,⟨ba,bc,c1,hb⟩⟩:=y k v;have bf:=ud L;have bi:M.sum (λi=>(g.a i).bl) k<=k*1048576:=CB _ _ _ (λi hi=>(S1.o i oM).e.1);have bk:M.sum (λi=>(g.a i).bl) k<=104857600:=by have:k*1048576<=100*1048576:=Kz _ oM;omega
  have be:=(S1 k v).e.1;have Z:Hid (M.sum (λi=>(g.a i).bl) (k+1)=M.sum (λi=>(g.a i).bl) k+(g.a k).bl):=rfl;generalize M.sum (λi=>(g.a i).bl) k=so at bk Z bi ⊢;have ae:=ua O;have ak:Hid (Below (w.alloc (Oc #[Sl (Sm b off) g.nr rc,Sl la g.nb lc] 34)).heap.size (w.alloc (Oc #[Sl (Sm b off) g.nr rc,Sl la g.nb lc] 34)) wr):=s;have HO:=ua hb;have D:=ua hn;have bb:=ua y;have SB:=S1 k v;have x:=ua SB;clear y O s hn hb SB;let⟨ι,br,F,hF,ax⟩:=Vb wr;have f0:∀n,(F n).cell? (Ad w.heap.size 0)=some (Sl (Sm b off) g.nr rc):=λn=>ue g0 (hF n);have f1:∀n,(F n).cell? (Ad w.heap.size 1)=some (Sl la g.nb lc):=λn=>ue g1 (hF n);have f2:∀n,(F n).cell? (Ad b (off+k*2))=some (Sl na (g.a k).nl nc):=λn=>ue L (hF n);have f3:∀n,(F n).cell? (Ad b (off+k*2+1))=some (Sl ba (g.a k).bl bc):=λn=>ue c1 (hF n);have U:=ua (ax _ (zH wr).drew);have H:=ua hF;have HF':=ua ax;clear hF ax;let⟨q1,B⟩:=A9 (M.bU (g.a k).nl (g.a k).f);let⟨q2,z⟩:=A9 (M.bC g.nr g.nb (g.a k).bl (g.a k).e);rcases(by cases q1<;>cases q2<;>simp:q1=false\/(q1=true/\q2=false)\/(q1=true/\q2=true)) with rfl|⟨rfl,rfl⟩|⟨rfl,rfl⟩;all_goals
   go_wp2_with fail;refine ye F rR rR U ?_;repeat (go_big_quiet_step (first|(go_at_call 113;exact B0 (H _) HF' B ((IS Q na (g.a k).nl nc (g.a k).f _ (D.h (H _)) x.h x.f).mono (λe W q=>q.b)))|(go_at_call 114;exact B0 (H _) HF' z (qt Q ba g.nr g.nb (g.a k).bl bc (g.a k).e _ (HO.h (H _)) h1 h2 x.e))))
   refine wpQuiet_nil ?_;rintro _ ⟨nq,rfl⟩
  iterate 2
   focus
    go_wp2;go_ret;exact⟨⟨false,rfl,xU λq=>by have h3:=B.u.2 (q.rn k v);have h4:=z.u.2 (q.rb k v);simp at h3 h4⟩,uf ae (H nq)⟩
  let⟨V,hV⟩:=nm (F nq);have bV:=hV▸H nq;rw[hV];clear hV f0 f1 f2 f3 U H HF' nq;have v0:=ue g0 bV;have v2:=ue L bV;have A:Hid (Bw wr V):=bV;have a6:∀n,(convert 22 9 (Sl na (g.a k).nl nc)).run prog (V.drewN n)=.ok (.string (str (g.a k).nl (g.a k).f)) (V.drewN n):=λn=>vg Q na (g.a k).nl nc (g.a k).f _ (D.h (Be bV n));have a4:Hid ((str (g.a k).nl (g.a k).f).toList=Ek (g.a k).nl (g.a k).f):=Xv _ _;generalize str (g.a k).nl (g.a k).f=s1 at a6 a4;clear bV g0 g1 L c1;go_wp2;go_loopw [5] (λj R=>uxF V g k j R) (λj _=>k-(intOf j).toNat)
  .exact⟨0,0,zK,rfl,rfl,λt ht=>aB ht (Ge _)⟩
  obtain⟨m,d,hm,rfl,rfl,N⟩:=hrel;have X:Hid (∀t,t<m->¬M.cR (g.a k) (g.a t)):=N;clear N;by_cases bg:m<k
  .have hmk':(m:Int)<(k:Int):=oM;have bq:(m:Int)<(g.nr:Int):=oM;let⟨⟨C,G,d0,ac⟩,_⟩:=bb m oM;have v3:=ue d0 A;have hcv':∀n,(convert 22 9 (Sl C (g.a m).nl G)).run prog (V.drewN n)=.ok (.string (str (g.a m).nl (g.a m).f)) (V.drewN n):=λn=>vg Q C (g.a m).nl G (g.a m).f _ (ac.h (Be A n));have a5:Hid ((str (g.a m).nl (g.a m).f).toList=Ek (g.a m).nl (g.a m).f):=Xv _ _;generalize str (g.a m).nl (g.a m).f=s2 at hcv' a5;have a2:Hid ((s1.toList=s2.toList)↔M.cR (g.a k) (g.a m)):=by
    show _↔_;rw[a4.o,a5.o];exact VV x.h (S1 m oM).h
   have bp:∀n,(convert 22 9 (Sl na (g.a k).nl nc)).run prog ((V.drewN d).drewN n)=.ok (.string s1) ((V.drewN d).drewN n):=λn=>by rw[Qw];exact a6 _
   have hcw':∀n,(convert 22 9 (Sl C (g.a m).nl G)).run prog ((V.drewN d).drewN n)=.ok (.string s2) ((V.drewN d).drewN n):=λn=>by rw[Qw];exact hcv' _
   clear ac d0;by_cases es:s1.toList=s2.toList
   .have fe:(s1.toList==s2.toList)=true:=(by simp[es]);have ao:=ua es;clear es;go_wp2_with fail;go_quiet (fail);go_wp2;go_ret;exact⟨⟨false,rfl,xU λq=>q.ru k v m bg (a2.1 ao)⟩,by first|exact Be (uf ae A) _|exact Be (Be (uf ae A) _) _⟩
   have fe:(s1.toList==s2.toList)=false:=(by simp[es]);have ao:=ua es;clear es;go_wp2_with fail;go_quiet (fail);go_wp2;go_roundw
   .exact⟨m+1,_,oM,by go_num,rfl,Vt X (λq=>ao (a2.2 q))⟩
   simp[intOf];omega
  obtain rfl:m=k:=oM;go_wp2;go_roundw
  .exact⟨m+1,oM,xm (oH Z.o),by go_num,uf ak.o (Be A.o _),Vt HA.o ⟨B.u.1 rfl,z.u.1 rfl,X.o⟩⟩
  simp[intOf];omega
 obtain rfl:k=g.nr:=oM;let⟨W1,eW⟩:=nm wr;subst wr;have ae:=ua O;have HL':=ua (HL.h O);have HR':=ua (HR.h O);have bm:M.sum (λi=>(g.a i).bl) g.nr<=104857600:=by
  have h:=CB (λi=>(g.a i).bl) 1048576 g.nr (λi hi=>(S1 i hi).e.1);have:g.nr*1048576<=100*1048576:=Kz _ oM;omega
 have au:Hid (M.ops g=M.sum (λi=>(g.a i).bl) g.nr+M.sum (λi=>(g.d i).bl) g.nb):=rfl;clear s O HL HR;go_wp2;go_loopw [3,6] (λo i R=>uv5 W1 g o i R) (λo i _=>g.nb-(intOf i).toNat)
 .exact⟨0,zK,rfl,rfl,zH _,λj hj=>aB hj (Ge _)⟩
 obtain⟨m,hm,rfl,rfl,s,N⟩:=hrel;have X:Hid (∀j,j<m->KP g j):=N;clear N;have ak:Hid (Bw W1 wr):=s;have T:=ua (uf ae s);have e0:=ue g0 s;have e1:=ue g1 s;have bo:=Ba a8 s.size;have bj:M.sum (λi=>(g.d i).bl) m<=104857600:=by
  have h:=CB (λi=>(g.d i).bl) 1048576 m (λi hi=>(I i oM).e.1);have:m*1048576<=100*1048576:=Kz _ oM;omega
 clear g0 g1 a8;by_cases v:m<g.nb
 .have hlt':(m:Int)<(g.nb:Int):=oM;have Z:Hid (M.sum (λi=>(g.d i).bl) (m+1)=M.sum (λi=>(g.d i).bl) m+(g.d m).bl):=rfl;have a3:=ua (HR'.h s);have hL:=HL'.h s;rcases hL with h0|⟨b,off,rfl,hq,hL⟩
  .omega
  have ap:=ua hL;let⟨⟨na,nc,L,hn⟩,c1,⟨ba,bc,c2,hb⟩⟩:=hL m v;have bf:=ud L;have a7:=(I m v).f;have be:=(I m v).e.1;have x:Hid (Vs (g.d m)):=I m v;have D:Hid (∀o d,Ints Q .u8 ((wr.alloc o).drewN d) na (g.d m).nl (g.d m).f):=λo d=>hn.h (Be (uk wr o) d);have HO:Hid (∀o d,zM Q ((wr.alloc o).drewN d) ba (g.d m).bl (g.d m).e):=λo d=>hb.h (Be (uk wr o) d);have af:Hid (∃sr,M.sum (λi=>(g.a i).bl) g.nr=sr):=⟨_,rfl⟩;let⟨sr,a0⟩:=af.o;rw[a0]at bm au ⊢;clear af;have af:Hid (M.sum (λi=>(g.a i).bl) g.nr=sr):=a0;clear a0;generalize M.sum (λi=>(g.d i).bl) m=so at bj Z ⊢;clear hL hb hn s;by_cases en:M.bU (g.d m).nl (g.d m).f
  .have B:Hid (M.bU (g.d m).nl (g.d m).f):=en;have Y:Hid (∀o d,Cs 113 #[Sl na (g.d m).nl nc] ((wr.alloc o).drewN d) λe w'=>e=Rt Bt/\w'=(wr.alloc o).drewN d):=λo d =>
    (IS Q na (g.d m).nl nc (g.d m).f _ (D o d) x.h a7).mono (λe W h=>by obtain⟨⟨r,rfl,l⟩,rfl⟩:=h;rw[l.2 en];exact⟨rfl,rfl⟩)
   clear en;cases hh:(g.d m).j;all_goals
    have HH:=ua hh;rw[hh]at c1;clear hh;rcases Nn m with hz|hz
    focus
     have ag:Hid (0<m->M.cU (g.d (m-1)) (g.d m)):=λq=>by omega
     have fz:decide (0<m)=false:=(by simp[hz]);have fz':decide ((0:Int)<(m:Int))=false:=(by simp[hz]);have hz':¬(0<m):=oM;clear hz;go_wp2_with fail;go_quiet (first|(go_at_call 113;exact Ho (Y _ _)))
    rotate_left
    focus
     obtain⟨p,hp⟩:∃p,m=p+1:=⟨m-1,oM⟩;have HP:=ua hp;have em:(m:Int)-1=(p:Int):=oM;have bh:0<m:=oM;have hmp':(0:Int)<(m:Int):=oM;have az:p<g.nb:=oM;have hpl':(p:Int)<(g.nb:Int):=oM;clear hz hp;let⟨⟨C,G,d0,ac⟩,_,_⟩:=ap p az;have hI':∀o d,Ints Q .u8 ((wr.alloc o).drewN d) C (g.d p).nl (g.d p).f:=λo d=>ac.h (Be (uk wr o) d);by_cases E:M.cU (g.d (m-1)) (g.d m)
     rotate_left
     .have ag:Hid (¬M.cU (g.d (m-1)) (g.d m)):=E;have U:Hid (∀o d,Cs 115 #[Sl C (g.d p).nl G,Sl na (g.d m).nl nc] ((wr.alloc o).drewN d) λe w'=>e=Rt Bf/\w'=(wr.alloc o).drewN d):=λo d =>
       (KW Q C na (g.d p).nl G (g.d m).nl nc (g.d p).f (g.d m).f _ (hI' o d) (D o d) (I p az).h x.h).mono (λe W h=>by
        obtain⟨⟨r,rfl,l⟩,rfl⟩:=h;rw[show m-1=p by have:=HP.o;omega]at E;obtain rfl:r=false:=(by { cases r;rfl;exact aB (l.1 rfl) E });exact⟨rfl,rfl⟩)
      clear ac hI' E;go_wp2_with fail;go_quiet (first|(go_at_call 113;exact Ho (Y _ _))|(go_at_call 115;exact Ho (U _ _)));go_wp2;go_ret;exact⟨⟨false,rfl,xU λq=>ag (q.la m v bh)⟩,uf T (Be (zO wr) _)⟩
     have ag:Hid (0<m->M.cU (g.d (m-1)) (g.d m)):=λ_=>E;have U:Hid (∀o d,Cs 115 #[Sl C (g.d p).nl G,Sl na (g.d m).nl nc] ((wr.alloc o).drewN d) λe w'=>e=Rt Bt/\w'=(wr.alloc o).drewN d):=λo d =>
      (KW Q C na (g.d p).nl G (g.d m).nl nc (g.d p).f (g.d m).f _ (hI' o d) (D o d) (I p az).h x.h).mono (λe W h=>by
       obtain⟨⟨r,rfl,l⟩,rfl⟩:=h;rw[show m-1=p by have:=HP.o;omega]at E;rw[l.2 E];exact⟨rfl,rfl⟩)
     clear ac hI' E;go_wp2_with fail;go_quiet (first|(go_at_call 113;exact Ho (Y _ _))|(go_at_call 115;exact Ho (U _ _)))
    rotate_left
   iterate 2
    focus
     let⟨J,ah⟩:=nm ((wr.alloc (Oc #[Sl na (g.d m).nl nc,Bf,Sl ba (g.d m).bl bc] 69)).drewN nq);have aa:=ah▸Be (zO wr) _;have v3:J.cell? (Ad wr.heap.size 1)=some Bf:=(by rw[<-ah];simp);have v2:J.cell? (Ad wr.heap.size 2)=some (Sl ba (g.d m).bl bc):=(by rw[<-ah];simp);have v0:=ue e0 aa;have v1:=ue e1 aa;rw[ah];have A:Hid (Bw wr J):=aa;have bd:=ua (a3.h aa);have a9:Hid (∀i,i<g.nb->Fh Q J b (off+i*3) (g.d i)):=λi hi=>(ap i hi).h aa;clear ah aa L c1 c2 e0 e1 D HO Y ap a3;go_wp2;go_loopw [8,9] (λt j R=>B2 J g.nr (λq=>M.bQ (g.a q).bl (g.a q).e m) False t j R) (λt j _=>g.nr-(intOf j).toNat)
     .exact⟨0,false,zK,rfl,rfl,rfl,xU (λq=>q.elim id (λ⟨_,h,_⟩=>aB h (Ge _)))⟩
     obtain⟨q,bt,hq,rfl,rfl,a1,al⟩:=hrel;subst a1;by_cases aj:q<g.nr
     .have hqn':(q:Int)<(g.nr:Int):=oM;have y:=bd;rcases y with h0|⟨rb,ro,rfl,_,y⟩
      .omega
      let⟨_,⟨av,aw,d1,ai⟩⟩:=y q aj;have aq:=ua ai;have ad:=ua al;have ay:=(S1 q aj).e.1;clear y ai al;cases bt with
      |true =>
       go_wp2;go_roundw
       .exact⟨q+1,true,oM,by go_num,rfl,rfl,Qp (by rw[KQ];exact(ad.1 rfl).imp id .inl)⟩
       simp[intOf];omega
      |false =>
       go_wp2_with (go_at_call 116;refine(qr Q av (g.a q).bl aw m (g.a q).e _ aq ay).mono ?_;rintro e W ⟨⟨r,rfl,l⟩,P⟩;subst W;have HT:=ua l;clear l);go_roundw
       .first|exact⟨q+1,r,oM,by go_num,rfl,rfl,CC ad.o HT.o⟩|((repeat apply Exists.intro);exact⟨⟨q+1,r,oM,by go_num,rfl,rfl,CC ad.o HT.o⟩,rfl⟩)
       simp[intOf];omega
     obtain rfl:q=g.nr:=oM;have ad:=ua al;let⟨J,bn⟩:=nm wr;subst wr;clear al;go_wp2;go_loopw [8,10] (λt j R=>B2 J g.nb (λq=>M.bQ (g.d q).bl (g.d q).e m) (∃t,t<g.nr/\M.bQ (g.a t).bl (g.a t).e m) t j R) (λt j _=>g.nb-(intOf j).toNat)
     .exact⟨0,bt,zK,rfl,rfl,rfl,ad.trans ⟨λh=>h.elim False.elim .inl,λh=>h.elim .inr (λ⟨_,h,_⟩=>aB h (Ge _))⟩⟩
     obtain⟨q,bu,hq,rfl,rfl,a1,am⟩:=hrel;subst a1;by_cases aj:q<g.nb
     .have hqn':(q:Int)<(g.nb:Int):=oM;let⟨_,_,⟨av,aw,d1,ai⟩⟩:=a9 q aj;have aq:=ua ai;have S:=ua am;have ay:=(I q aj).e.1;clear ai am;cases bu with
      |true =>
       go_wp2;go_roundw
       .exact⟨q+1,true,oM,by go_num,rfl,rfl,Qp (by rw[KQ];exact(S.1 rfl).imp id .inl)⟩
       simp[intOf];omega
      |false =>
       go_wp2_with (go_at_call 116;refine(qr Q av (g.d q).bl aw m (g.d q).e _ aq ay).mono ?_;rintro e W ⟨⟨r,rfl,l⟩,P⟩;subst W;have HT:=ua l;clear l);go_roundw
       .first|exact⟨q+1,r,oM,by go_num,rfl,rfl,CC S.o HT.o⟩|((repeat apply Exists.intro);exact⟨⟨q+1,r,oM,by go_num,rfl,rfl,CC S.o HT.o⟩,rfl⟩)
       simp[intOf];omega
     obtain rfl:q=g.nb:=oM;have S:Hid (bu=true↔B1 g m):=am;clear am;cases bu with
     |false =>
      go_wp2;go_ret;exact⟨⟨false,rfl,xU λq=>aB (S.2 (q.lt m v HH)) dC⟩,uf T A⟩
     |true =>
      by_cases ab:(g.d m).bl=0
      .have an:Hid ((g.d m).bl=0):=ab;have fz:(((g.d m).bl:Int) != 0)=false:=(by simp[ab]);clear ab;go_wp2;go_roundw
       .exact⟨m+1,oM,xm (oG Z.o af.o),by go_num,uf ak.o A.o,Vt X.o ⟨B.o,ag.o,λq=>aB (HH.o.symm.trans q) dC,λ_=>⟨S.o.1 rfl,an.o⟩⟩⟩
       simp[intOf];omega
      have an:Hid (¬(g.d m).bl=0):=ab;have fz:(((g.d m).bl:Int) != 0)=true:=(by simp[ab]);clear ab;go_wp2;go_ret;exact⟨⟨false,rfl,xU λq=>an (q.lz m v HH)⟩,uf T A⟩
   all_goals
    by_cases eb:M.bC g.nr g.nb (g.d m).bl (g.d m).e
    .have z:Hid (M.bC g.nr g.nb (g.d m).bl (g.d m).e):=eb;clear eb;go_wp2_with (go_at_call 114;refine(qt Q ba g.nr g.nb (g.d m).bl bc (g.d m).e _ (HO _ _) h1 h2 x.e).mono ?_;rintro e W ⟨⟨r,rfl,l⟩,P⟩;obtain rfl:r=true:=l.2 z;have HW:Hid _:=P;clear l P);go_roundw
     .exact⟨m+1,oM,xm (oG Z.o af.o),by go_num,uf ak.o (uf (Be (zO wr) _) HW.o),Vt X.o ⟨B.o,ag.o,λ_=>z.o,λq=>aB (HH.o.symm.trans q) dC⟩⟩
     simp[intOf];omega
    have z:Hid (¬M.bC g.nr g.nb (g.d m).bl (g.d m).e):=eb;clear eb;go_wp2_with (go_at_call 114;refine(qt Q ba g.nr g.nb (g.d m).bl bc (g.d m).e _ (HO _ _) h1 h2 x.e).mono ?_;rintro e W ⟨⟨r,rfl,l⟩,P⟩;obtain rfl:r=false:=by { cases r;rfl;exact aB (l.1 rfl) z };have HW:Hid _:=P;clear l P);go_ret;exact⟨⟨false,rfl,xU λq=>z (q.lb m v HH)⟩,uf T (uf (Be (zO wr) _) HW)⟩
  have B:Hid (¬M.bU (g.d m).nl (g.d m).f):=en;have Y:Hid (∀o d,Cs 113 #[Sl na (g.d m).nl nc] ((wr.alloc o).drewN d) λe w'=>e=Rt Bf/\w'=(wr.alloc o).drewN d):=λo d =>
   (IS Q na (g.d m).nl nc (g.d m).f _ (D o d) x.h a7).mono (λe W h=>by
    obtain⟨⟨r,rfl,l⟩,rfl⟩:=h;obtain rfl:r=false:=(by { cases r;rfl;exact aB (l.1 rfl) B });exact⟨rfl,rfl⟩)
  go_wp2_with fail;go_quiet (first|(go_at_call 113;exact Ho (Y _ _)));go_wp2;go_ret;exact⟨⟨false,rfl,xU λq=>B (q.ln m v)⟩,uf T (Be (zO wr) _)⟩
 obtain rfl:m=g.nb:=oM;go_wp2;go_ret;refine⟨⟨_,rfl,?_⟩,T⟩;rw[uln];simp only[decide_eq_true_eq];constructor
 .intro q;exact⟨oM,oM,oM,HA,X,by rw[au.o];omega⟩
 rintro⟨_,_,_,_,_,q⟩;rw[au.o]at q;omega
def qQ(g:Gr)(p:Nat):Prop:=(nd g p).bl=0\/M.bC g.nr g.nb (nd g p).bl (nd g p).e
def yr{g}(h:M.Valid g){p}(b:p<g.nr+g.nb):qQ g p:=by
 unfold qQ;by_cases e:p<g.nr
 .rw[vY g e];exact .inr (h.rb p e)
 obtain⟨i,rfl⟩:∃i,p=g.nr+i:=⟨p-g.nr,oM⟩;rw[yZ];cases a:(g.d i).j with
 |true=>exact .inr (h.lb i oM a)
 |false=>exact .inl (h.lz i oM a)
def xj(g:Gr)(mk:Nat->Bool)(p:Nat):Bool:=M.bZ g.nr mk (nd g p).bl (nd g p).e
def utp B n(h:M.Fed B n)(a:0<n):1<=M.dep B n:=by
 obtain⟨q,rfl⟩:∃q,n=q+1:=⟨n-1,oM⟩;have:=h q oM;rw[M.dep];omega
def BW{α}[Inhabited α](f:OpD->α->α->α)(B:Nat->OpD)(n:Nat)(h:M.cL n B):M.stk f B n=(0,M.top (M.stk f B n))::M.stk f B 0:=by
 have d:M.Fed B n:=h.1;have c:=M.bO f B n d;rw[h.2]at c;match hs:M.stk f B n with
 |[]=>rw[hs]at c;simp at c
 |[(s,x)] =>
  let⟨i,g,_⟩:=M.cC f B n d s x _ hs;have l2:=M.bO f B s (d.h oM);rw[<-g]at l2;have:s=0:=by
   by_cases e:s=0
   .exact e
   have:=utp B s (d.h oM) oM;simp at l2;omega
  subst this;rfl
 |a::b::r=>rw[hs]at c;simp at c;omega
structure uv0(Q:Np)(d:ug)(w:Wl)(e:Ending)(w':Wl):Prop where
 k:∃a c,e=Rt (Sl a d.bl c)/\zM Q w' a d.bl d.e/\d.bl<=c
 q:Bw w w'
def uv1(Q:Np)(V:Wl)(d:ug)(w:Wl)(e:Ending)(w':Wl):Prop:=(∃a c,e=Rt (Sl a d.bl c)/\zM Q V a d.bl d.e/\d.bl<=c)/\Bw w w'
def KH Q V ra la rc lc g w(q:zV Q V ra la g)(r:Bw V w)(v:g.nr<=100)(x:g.nb<=100)p(z:p<g.nr+g.nb) :
  Cs 65 #[.agg #[Sl ra g.nr rc,Sl la g.nb lc],Iv (p:Int)] w (uv1 Q V (nd g p) w):=by
 by_cases e:p<g.nr
 .rw[vY g e];rcases q.c with s|⟨b,off,rfl,u,l⟩
  .omega
  let⟨⟨_,⟨f,h,d,n⟩⟩,⟨ba,bc,a,o⟩⟩:=l p e;have m:f=ba/\h=bc:=by rw[a]at d;simp at d;exact⟨d.1.symm,d.2.symm⟩
  obtain⟨rfl,rfl⟩:=m;have j:=ua n;replace a:=ue a r;have t:=ud a;have k:=ua o;go_enter func65,ntmps65;go_wp2;go_ret;exact⟨⟨f,h,rfl,j,k⟩,zO w⟩
 obtain⟨i,rfl⟩:∃i,p=g.nr+i:=⟨p-g.nr,oM⟩;rw[yZ];rcases q.e with s|⟨b,off,rfl,u,l⟩
 .omega
 let⟨⟨_,_,⟨f,h,d,n⟩⟩,⟨ba,bc,a,o⟩⟩:=l i oM;have m:f=ba/\h=bc:=by rw[a]at d;simp at d;exact⟨d.1.symm,d.2.symm⟩
 obtain⟨rfl,rfl⟩:=m;have j:=ua n;replace a:=ue a r;have t:=ud a;have k:=ua o;have y:i<g.nb:=oM;have A:¬((g.nr+i:Nat):Int)<(g.nr:Int):=oM;have B:((g.nr+i:Nat):Int)-(g.nr:Int)=(i:Int):=oM;go_enter func65,ntmps65;go_wp2;go_ret;exact⟨⟨f,h,rfl,j,k⟩,zO w⟩
def qR Q ra la rc lc g w(j:zV Q w ra la g)(d:g.nr<=100)(f:g.nb<=100)p(l:p<g.nr+g.nb) :
  Cs 65 #[.agg #[Sl ra g.nr rc,Sl la g.nb lc],Iv (p:Int)] w (uv0 Q (nd g p) w):=by
 refine(KH Q w ra la rc lc g w j (zH _) d f p l).mono ?_;rintro e w' ⟨⟨a,c,h,k,i⟩,b⟩;exact⟨⟨a,c,h,k.h b,i⟩,b⟩
def KI ra la nr rc a lc w(b:nr<=100)(c:a<=100) :
  Cs 64 #[.agg #[Sl ra nr rc,Sl la a lc]] w λe w'=>e=Rt (Iv ((nr+a:Nat):Int))/\Bw w w':=by
 go_enter func64,ntmps64;go_wp2;go_ret;exact⟨vk oM,zO w⟩
open M (uw EX ins uT uag wt)
def jo(g:Gr)(p:Nat):Bool:=decide (0<(nd g p).bl)
def Io(g:Gr)(p:Nat):EX:=M.bR g.nr (nd g p).bl (nd g p).e
def Hl(g:Gr)(p:Nat):uw:=if p<g.nr then ins 9 p 0 else ins 10 ((p-g.nr:Nat):Int) 0
def PL(g:Gr)(k:Nat):Nat:=(M.bG (λ_=>0) (Hl g) (Io g) (jo g) k).length
def Ee(g:Gr)(p:Nat):Int:=M.dS (Hl g) (Io g) (jo g) p
def Ux g p:Ee g p=if 0<(nd g p).bl then (PL g p:Int) else -1:=by
 unfold Ee M.dS PL;by_cases h:0<(nd g p).bl
 .have e:jo g p=true:=by simp[jo,h]
  rw[Zp e,Zp h]
 have e:¬jo g p=true:=by simp[jo,h]
 rw[Zn e,Zn h]
def uto g k:PL g (k+1)=if 0<(nd g k).bl then PL g k+((Io g k).c+3) else PL g k:=by
 unfold PL;rw[M.bG];by_cases h:0<(nd g k).bl
 .have e:jo g k=true:=by simp[jo,h]
  rw[Zp e,Zp h,zJ,M.dK]
 have e:¬jo g k=true:=by simp[jo,h]
 rw[Zn e,Zn h]
def KC{nr a n B}(h:M.bC nr a n B):(M.bR nr n B).c=uag B n:=by
 have:=M.dV nr B n 0 _ h.2.1 (BW (M.bA nr) B n h.2) zK;simp only[uag,Dy]at this;exact this
def je{g}(h:M.Sound g){p}(b:p<g.nr+g.nb):qQ g p:=by
 unfold qQ;by_cases e:p<g.nr
 .rw[vY g e];exact .inr (h.rb p e)
 obtain⟨i,rfl⟩:∃i,p=g.nr+i:=⟨p-g.nr,oM⟩;rw[yZ];cases a:(g.d i).j with
 |true=>exact .inr (h.lb i oM a)
 |false=>exact .inl (h.lz i oM a)
def BV{g}(c:M.Sound g){p}(f:p<g.nr+g.nb):(nd g p).bl<=2000:=by
 have b:=c.ol;unfold M.ops at b;by_cases e:p<g.nr
 .rw[vY g e];have:=M.cQ (λi=>(g.a i).bl) e;omega
 obtain⟨i,rfl⟩:∃i,p=g.nr+i:=⟨p-g.nr,oM⟩;rw[yZ];have:=M.cQ (λi=>(g.d i).bl) (i:=i) (n:=g.nb) oM;omega
def uvZ{g}k(l:k<=g.nr+g.nb):M.sum (λi=>(nd g i).bl) k<=M.ops g:=by
 unfold M.ops;by_cases e:k<=g.nr
 .have c:∀j,j<=g.nr->M.sum (λi=>(nd g i).bl) j=M.sum (λi=>(g.a i).bl) j:=by
   intro j;induction j with
   |zero=>intro _;rfl
   |succ j b=>intro h;rw[M.sum,M.sum,b oM,vY g (show j<g.nr by omega)]
  rw[c k e];have:=M.cF (λi=>(g.a i).bl) e;omega
 have c:∀j,j<=g.nr->M.sum (λi=>(nd g i).bl) j=M.sum (λi=>(g.a i).bl) j:=by
  intro j;induction j with
  |zero=>intro _;rfl
  |succ j b=>intro h;rw[M.sum,M.sum,b oM,vY g (show j<g.nr by omega)]
 have f:∀j,M.sum (λi=>(nd g i).bl) (g.nr+j)=M.sum (λi=>(g.a i).bl) g.nr+M.sum (λi=>(g.d i).bl) j:=by
  intro j;induction j with
  |zero=>rw[Dy,c g.nr (zD)];rfl
  |succ j b=>rw[<-Gy,M.sum,b,M.sum,yZ];omega
 obtain⟨j,rfl⟩:∃j,k=g.nr+j:=⟨k-g.nr,oM⟩;rw[f j];have:=M.cF (λi=>(g.d i).bl) (show j<=g.nb by omega);omega
def uxy{g}(a:M.Sound g)k(j:k<=g.nr+g.nb):PL g k<=2+3*k+2*M.sum (λi=>(nd g i).bl) k:=by
 induction k with
 |zero=>exact zD
 |succ k c =>
  have h:=c oM;rw[uto,M.sum];split
  .rename_i l;have b:=(je a (show k<g.nr+g.nb by omega)).elim (λq=>oM) id;have d:=KC b;have f:=M.cX (nd g k).e (nd g k).bl;unfold Io;omega
  omega
def ZU{g}(a:M.Sound g)k(b:k<=g.nr+g.nb):PL g k<=5000:=by
 have c:=uxy a k b;have d:=uvZ k b;have e:=a.ol;have f:=a.r2;have h:=a.l2;omega
def jj(m:Nat->Bool)(lo k:Nat):Nat->Bool:=λb=>m b||(decide (lo<=b)&&decide (b<k))
def QN m lo:jj m lo lo=m:=by
 funext b;unfold jj;by_cases h:lo<=b
 .simp[h,Nat.not_lt.2 h]
 simp[h]
def xy(t:Tx):Nat->Nat->(Nat->Bool)->Option ((Nat->Bool)×Nat)
 |0,_,_=>none
 |f+1,j,m =>
  if j<t.n/\t.T j=93 then some (m,j)
  else if (Bc t j true).2=0 then none
  else if j+(Bc t j true).2<t.n/\t.T (j+(Bc t j true).2)=45 then
   (if (Bc t (j+(Bc t j true).2+1) true).2=0\/(Bc t (j+(Bc t j true).2+1) true).1<(Bc t j true).1 then none
   else xy t f (j+(Bc t j true).2+1+(Bc t (j+(Bc t j true).2+1) true).2) (jj m (Bc t j true).1.toNat ((Bc t (j+(Bc t j true).2+1) true).1.toNat+1)))
  else xy t f (j+(Bc t j true).2) (jj m (Bc t j true).1.toNat ((Bc t j true).1.toNat+1))
def Ws(t:Tx)(i:Nat):Bool:=decide (i+1<t.n/\t.T (i+1)=94)
def Mo(t:Tx)(i:Nat):Nat:=if Ws t i=true then i+2 else i+1
def Ua(neg:Bool):Option ((Nat->Bool)×Nat)->Option (List Int×Nat)
 |none=>none
 |some (m,j)=>some (rg (λb=>m b != neg) 256,j+1)
def Hr(t:Tx)(i:Nat):Option (List Int×Nat):=Ua (Ws t i) (xy t (t.n+2-i) (Mo t i) (λ_=>false))
def Ei.h{Q t a w w'}(h:Ei Q w a t)(k:Bw w w'):Ei Q w' a t:=Ints.h h k
def QO l:vL l=uO .i64 (lf l) l.length:=by
 apply Oy;intro i;unfold vL uO lf;by_cases h:i<l.length
 .simp[h]
 simp[h,Nat.not_lt.1 h]
def Cl(w:Wl)(m:Nat->Bool)(wr:Wl):Prop:=wr.rowIs w.heap.size 4 256 (λi=>.bool (m i))/\Bw w wr
def Cl.a{w wr m}(h:Cl w m wr)k:Cl w m (wr.drewN k):=⟨h.1.of_block rfl,Be h.2 k⟩
def Cl.set{w wr m}(h:Cl w m wr)i v:Cl w (λb=>if b=i then v else m b) (wr.setCell (Ad w.heap.size i) (.bool v)):=by
 refine⟨(h.1.set i (.bool v)).congr λb _=>?_,h.2.setCell zD _⟩;by_cases e:b=i<;>simp[e]
def Cl.eq{w wr m a}(h:Cl w m wr)(e:m=a):Cl w a wr:=e▸h
def QP m{lo k}(h:lo<=k):(λb=>if b=k then true else jj m lo k b)=jj m lo (k+1):=by
 funext b;unfold jj;by_cases e:b=k
 .subst e;simp[h]
 have:(b<k)=(b<k+1):=sO;simp[e,this]
def Ko(m:Nat->Bool)(neg:Bool)(k:Nat):Nat->Bool:=λb=>if b<k then m b != neg else m b
def Z8 m neg:Ko m neg 0=m:=by funext b;simp[Ko]
def Z9 m k:(λb=>if b=k then !(Ko m true k k) else Ko m true k b)=Ko m true (k+1):=by
 funext b;unfold Ko;by_cases e:b=k
 .subst e;simp
 have:(b<k)=(b<k+1):=sO;simp[e,this]
def yy{w wr m neg k L}(d:Cl w (Ko m neg k) wr)(g:neg=false->k=0)(c:rg (λb=>m b != neg) 256=L)(a:¬k<256\/neg=false) :
  Cs 182 #[Sl (Sm w.heap.size 0) 256 256] wr (Sp L wr):=by
 have h:=qO (Sm w.heap.size 0) (λb=>m b != neg) wr ⟨w.heap.size,rfl,λi f=>by
  have e:Ko m neg k i=(m i != neg):=by
   unfold Ko;rcases a with a|a
   .rw[Zp oM]
   rw[g a,Zn oM,a];simp
  exact(d.1.cell f).trans (by rw[e])⟩
 rw[c]at h;exact h
def za{w wr m L}(d:Cl w m wr)e W(j:Sp L wr e W):∃a c,e=Rt (Sl a L.length c)/\Ints (zF w W) .i64 W a L.length (lf L)/\Kf w W:=by
 obtain⟨a,c,e,P,h,i,l⟩:=j;rw[QO]at h;have k:=d.2.size;exact⟨a,c,e,(yJ h).g (λb f=>⟨by have:=(i b f).1;omega,(i b f).2⟩),Below.cD (d.2.trans (l.mono k))⟩
def zb Q t a c i w(hT:Ei Q w a t)(hi:i<t.n) :
  Cs 185 #[Sl a t.n c,Iv i] w (SN .i64 (Hr t i) i w):=by
 have aq:=run_make_row' (P:=prog) 147 4 Bf 1 underlying147 Xr rfl .i64 .i64 256 oM oM;simp only[show((256:Nat):Int)=256 from rfl]at aq;have a8:=t.le;have HT:=ua hT;have af:Hid (Cl w (λ_=>false) (w.alloc (Oc (madeCells #[Bf] 256) 4))):=⟨Kh w _ 256 4,(zH w).alloc zD _⟩;clear hT;let⟨neg,ac⟩:=nm (Ws t i);obtain⟨y,ai⟩:∃r,Mo t i=r:=⟨_,rfl⟩;have V:Hid (y=if neg=true then i+2 else i+1):=by show y=_;rw[<-ai,Mo,ac]
 have Z:Hid (neg=decide (i+1<t.n/\t.T (i+1)=94)):=ac▸rfl;have X:Hid (i<y/\y<=t.n/\y<=i+2):=by
  have h:=V.o;have h':=Z.o;show i<y/\_;by_cases e:neg=true
  .rw[Zp e]at h;rw[e]at h';have:=of_decide_eq_true h'.symm;omega
  rw[Zn e]at h;omega
 let⟨r,hr⟩:=nm (xy t (t.n+2-i) y (λ_=>false));have HR:Hid (xy t (t.n+2-i) y (λ_=>false)=r):=hr;have x:Hid (Hr t i=Ua neg r):=by
  show Hr t i=_;unfold Hr;rw[ai,ac,hr]
 clear ac ai hr;rw[x.o];clear x;go_enter func185,ntmps185;go_upto_region 3 with fail;clear aq;generalize w.alloc (Oc (madeCells #[Bf] 256) 4)=W1 at *;go_cut [8] from 16 to 115 (λv wc=>v=.bool neg/\W1=wc)
 .by_cases z:i+1<t.n
  .have h1':(i:Int)+1<t.n:=oM;obtain⟨b,off,rfl,_,s⟩:=(HT.h af.2).at z;have S:=s (i+1) z;have b0:=t.h (i+1);clear s;go_wp2;go_meet
   case rel=>exact⟨by rw[Z.o];congr 1;rw[Ni];simp[z],rfl⟩
  have h1':¬(i:Int)+1<t.n:=oM;go_wp2;go_meet
  case rel=>exact⟨by rw[Z.o];simp[z],rfl⟩
 obtain⟨rfl,rfl⟩:=hcut;go_upto_if 30 with fail;go_cut [7] from 16 to 115 (λv wc=>v=Iv y/\W1=wc)
 .cases neg with
  |true =>
   go_wp2;go_meet
   case rel=>exact⟨by rw[V.o];simp;omega,rfl⟩
  |false =>
   go_wp2;go_meet
   case rel=>exact⟨by rw[V.o];simp,rfl⟩
 obtain⟨rfl,rfl⟩:=hcut;go_wp2;go_loopw [7] (λu wr=>∃(f j:Nat) (m:Nat->Bool),j<=t.n/\i<j/\t.n-j<f/\u=Iv j/\Cl w m wr/\xy t f j m=r) (λu _=>t.n-(intOf u).toNat)
 .exact⟨t.n+2-i,y,λ_=>false,X.o.2.1,X.o.1,by have:=X.o;omega,rfl,af.o,HR.o⟩
 obtain⟨f,j,m,hj,a4,hf,rfl,o,hs⟩:=hrel;obtain⟨f,rfl⟩:∃q,f=q+1:=⟨f-1,oM⟩;have Y:=ua o;have A:=ua (HT.h o.2);have HS:=ua hs;clear o hs af HR V Z X;by_cases hq:j<t.n/\t.T j=93
 .obtain⟨aj,au⟩:=hq;obtain⟨b,off,rfl,_,s⟩:=A.at aj;have S:=s j aj;rw[au]at S;have hq1':(j:Int)<t.n:=oM;have e:=HS;rw[xy,Zp ⟨aj,au⟩]at e;obtain⟨L,hL⟩:∃L,rg (λb=>m b != neg) 256=L:=⟨_,rfl⟩;have al:Hid (Ua neg r=some (L,j+1)):=by show _=_;rw[<-e,Ua,hL]
  have HL:=ua hL;clear s HS e hL;go_wp2;go_loopw [15] (λu w'=>∃k:Nat,k<=256/\u=Iv k/\Cl w (Ko m neg k) w'/\(neg=false->k=0)) (λu _=>256-(intOf u).toNat)
  .exact⟨0,oM,rfl,Y.eq (Z8 m neg).symm,λ_=>rfl⟩
  obtain⟨k,hk,rfl,o,R⟩:=hrel;have G:=ua o;have aa:Hid (∀v,Cl w (λb=>if b=k then v else Ko m neg k b) (wr.setCell (Ad w.heap.size k) (.bool v))):=λv=>o.set k v;have ae:=ua (yy o R HL);have ad:Hid (∀e W,Sp L wr e W->∃H B,e=Rt (Sl H L.length B)/\Ints (zF w W) .i64 W H L.length (lf L)/\Kf w W):=za o;cases neg with
  |true =>
   by_cases D:k<256
   .have hlt':(k:Int)<256:=oM;have B:=o.1.cell D;have f2:=o.1.frozen k;have ah:=ua ((aa _).eq (Z9 m k));clear o R aa ae ad;generalize Ko m true k k=bv at *;go_wp2;go_roundw
    .exact⟨k+1,oM,by go_num,ah,λq=>Bool.noConfusion q⟩
    simp[intOf];omega
   have hlt':¬(k:Int)<256:=oM;clear o R aa;go_wp2_with fail;refine(ae (.inl D)).mono ?_;intro e W O;obtain⟨H,B,rfl,J,N⟩:=ad e W O;clear O;have HI:=ua J;have HK:=ua N;clear J N;go_wp2;go_ret2;rw[al.o];exact⟨HK,H,B,by congr 3,HI⟩
  |false =>
   obtain rfl:=R rfl;clear o R aa;go_wp2_with fail;refine(ae sM).mono ?_;intro e W O;obtain⟨H,B,rfl,J,N⟩:=ad e W O;clear O;have HI:=ua J;have HK:=ua N;clear J N;go_wp2;go_ret2;rw[al.o];exact⟨HK,H,B,by congr 3,HI⟩
 have HQ:Hid (¬(j<t.n/\t.T j=93)):=hq;let⟨x1,x2,x3⟩:=kt t j true hj;have x:Hid (∀w,Ei Q w a t->Cs 209 #[Sl a t.n c,Iv j,Bt] w (Rq (Bc t j true).1 ((Bc t j true).2:Nat) w)):=λw h=>GP Q t a c j true w h hj;have ag:Hid ((if (Bc t j true).2=0 then none
  else if j+(Bc t j true).2<t.n/\t.T (j+(Bc t j true).2)=45 then
   (if (Bc t (j+(Bc t j true).2+1) true).2=0\/(Bc t (j+(Bc t j true).2+1) true).1<(Bc t j true).1 then none
   else xy t f (j+(Bc t j true).2+1+(Bc t (j+(Bc t j true).2+1) true).2) (jj m (Bc t j true).1.toNat ((Bc t (j+(Bc t j true).2+1) true).1.toNat+1)))
  else xy t f (j+(Bc t j true).2) (jj m (Bc t j true).1.toNat ((Bc t j true).1.toNat+1)))=r):=by
  have:=HS;rw[xy,Zn hq]at this;exact this
 clear HS hq;generalize Bc t j true=p at *;obtain⟨pb,pn⟩:=p;simp only at x1 x2 x3 x ag;obtain⟨lo,rfl⟩:∃q:Nat,pb=(q:Int):=⟨pb.toNat,oM⟩;by_cases hp:pn=0
 .subst hp;have e:=ag;rw[Zp rfl]at e;subst e;by_cases C:j<t.n
  .have hjn':(j:Int)<t.n:=oM;obtain⟨b,off,rfl,_,s⟩:=A.at C;have S:=s j C;have y1:(t.T j==93)=false:=by simpa using λq=>HQ ⟨C,q⟩
   have b0:=t.h j;clear s;go_wp2_with fail;refine(x wr A).mono ?_;rintro e W ⟨rfl,E,rfl⟩;go_wp2;go_ret2;exact⟨Below.cD (Y.a E).2,rfl⟩
  have hjn':¬(j:Int)<t.n:=oM;go_wp2_with fail;refine(x wr A).mono ?_;rintro e W ⟨rfl,E,rfl⟩;go_wp2;go_ret2;exact⟨Below.cD (Y.a E).2,rfl⟩
 have hp':¬(pn:Int)=0:=oM;have C:j<t.n:=oM;have hjn':(j:Int)<t.n:=oM;obtain⟨b,off,rfl,_,s⟩:=A.at C;have S:=s j C;have y1:(t.T j==93)=false:=by simpa using λq=>HQ ⟨C,q⟩
 have b0:=t.h j;go_wp2_with fail;refine(x wr A).mono ?_;rintro e W ⟨rfl,E,rfl⟩;go_upto_region 12 with fail;have am:=ua (Y.a E);have ao:=ua (A.i E);generalize wr.drewN E=W2 at *;let⟨g,ay⟩:=nm (j+pn);have hj1':(j:Int)+(pn:Int)=(g:Int):=oM;have an:Hid ((if g<t.n/\t.T g=45 then
  (if (Bc t (g+1) true).2=0\/(Bc t (g+1) true).1<(lo:Int) then none
  else xy t f (g+1+(Bc t (g+1) true).2) (jj m lo ((Bc t (g+1) true).1.toNat+1)))
  else xy t f g (jj m lo (lo+1)))=r):=by
  have:=ag;rw[Zn hp,ay]at this;simp only[Pj]at this;exact this
 rw[hj1'];have a6:j<g:=oM;have az:g<=t.n:=oM;let⟨d,hd⟩:=nm (decide (g<t.n/\t.T g=45));have U:=ua hd;go_cut [66] from 33 to 94 (λv wc=>v=.bool d/\W2=wc)
 .by_cases z:g<t.n
  .have h1':(g:Int)<t.n:=oM;let⟨b',a9,e,_,s⟩:=ao.at z;cases e;have S:=s g z;have b0:=t.h g;go_wp2;go_meet
   case rel=>exact⟨by rw[<-U.o];congr 1;rw[Ni];simp[z],rfl⟩
  have h1':¬(g:Int)<t.n:=oM;go_wp2;go_meet
  case rel=>exact⟨by rw[<-U.o];simp[z],rfl⟩
 obtain⟨rfl,rfl⟩:=hcut;go_upto_if 66 with fail;go_cut [7,11] from 33 to 94 (λv7 a3 wc=>∃(I l:Nat),v7=Iv I/\a3=Iv l/\Cl w m wc/\g<=I/\I<=t.n/\lo<=l/\l<=255/\xy t f I (jj m lo (l+1))=r)
 .cases d with
  |false =>
   have e:=an;rw[Zn (of_decide_eq_false U.o)]at e;have F:=ua e;go_wp2;go_meet
   case rel=>exact⟨g,lo,rfl,rfl,am,zD,az,zD,oM,F⟩
  |true =>
   have ap:=of_decide_eq_true U;have a5:=ap.1;have e:=an;rw[Zp ap]at e;have F:=ua e;let⟨z1,z2,z3⟩:=kt t (g+1) true oM;have x:Hid (∀w,Ei Q w (Sm b off) t->Cs 209 #[Sl (Sm b off) t.n c,Iv ((g:Int)+1),Bt] w (Rq (Bc t (g+1) true).1 ((Bc t (g+1) true).2:Nat) w)):=λw h=>by
    have:=GP Q t (Sm b off) c (g+1) true w h oM;rwa [show(((g+1:Nat):Int))=(g:Int)+1 by omega]at this
   generalize Bc t (g+1) true=p at *;obtain⟨qb,qn⟩:=p;simp only at z1 z2 z3 x F;obtain⟨l,rfl⟩:∃q:Nat,qb=(q:Int):=⟨qb.toNat,oM⟩;go_wp2_with fail;refine(x _ ao).mono ?_;rintro e W ⟨rfl,m2,rfl⟩;have G:=ua (am.a m2);generalize W2.drewN m2=W3 at *;by_cases ak:qn=0
   .subst ak;have e:=F;rw[Zp (.inl rfl)]at e;subst e;go_wp2;go_ret2;exact⟨Below.cD G.2,rfl⟩
   have hqn':¬(qn:Int)=0:=oM;by_cases D:(l:Int)<lo
   .have e:=F;rw[Zp (.inr D)]at e;subst e;go_wp2;go_ret2;exact⟨Below.cD G.2,rfl⟩
   have e:=F;rw[Zn (λq=>q.elim ak D),Pj]at e;have av:=ua e;have y1:((qn:Int)==0)=false:=(by simpa using ak);have y2:decide ((l:Int)<(lo:Int))=false:=(by simpa using D);have y3:(lo:Int)<=l:=oM;go_wp2;go_meet
   case rel=>exact⟨g+1+qn,l,by congr 1;omega,rfl,G,oM,z3,oM,oM,av⟩
 obtain⟨I,l,rfl,rfl,ax,g1,g2,g3,g4,g5⟩:=hcut;have G:=ua ax;have HG:=ua g5;go_wp2;go_loopw [14] (λu w'=>∃k:Nat,lo<=k/\k<=l+1/\u=Iv k/\Cl w (jj m lo k) w') (λu _=>256-(intOf u).toNat)
 .exact⟨lo,zD,oM,rfl,G.eq (QN m lo).symm⟩
 obtain⟨k,a0,a7,rfl,ab⟩:=hrel;by_cases D:k<=l
 .have hlt':(k:Int)<=l:=oM;have a1:k<256:=oM;have hk256':(k:Int)<256:=oM;have B:=ab.1.cell a1;have f2:=ab.1.frozen k;have ah:=ua ((ab.set k true).eq (QP m a0));generalize jj m lo k k=bv at *;go_wp2;go_roundw
  .exact⟨k+1,oM,oM,by go_num,ah⟩
  simp[intOf];omega
 have hlt':¬(k:Int)<=l:=oM;obtain rfl:k=l+1:=oM;have aw:=ua ab;go_wp2;go_roundw
 .exact⟨f,I,_,g2,oM,oM,rfl,aw,HG⟩
 simp[intOf];omega
structure zI where
 e:Int
 f:Nat
 nm:List Int
 set:List Int
def yi(c:Int):Prop:=M.bD c\/M.bK c
instance (c:Int):Decidable (M.bD c):=by unfold M.bD;infer_instance
instance (c:Int):Decidable (M.bK c):=by unfold M.bK;infer_instance
instance (c:Int):Decidable (yi c):=by unfold yi;infer_instance
def vQ(t:Tx):Nat->Nat->List Int->List Int×Nat
 |0,j,z=>(z,j)
 |f+1,j,z=>if j<t.n/\yi (t.T j) then vQ t f (j+1) (z++[t.T j]) else (z,j)
def Cx:List Int:=[61,59,47,33,38,42,63,40,41,46,94]
def vO(t:Tx)(i:Nat):zI×Nat :=
 if M.bD (t.T i) then (⟨110,i,(vQ t (t.n-i) i []).1,[]⟩,(vQ t (t.n-i) i []).2)
 else if t.T i=34 then (match Ks t i with|none=>(⟨0,i,[],[]⟩,i)|some (z,j)=>(⟨34,i,z,[]⟩,j))
 else if t.T i=91 then (match Hr t i with|none=>(⟨0,i,[],[]⟩,i)|some (z,j)=>(⟨91,i,[],z⟩,j))
 else if t.T i∈Cx then (⟨t.T i,i,[],[]⟩,i+1)
 else (⟨0,i,[],[]⟩,i+1)
def Jv(k:zI)(na:Oa)(nc:Nat)(sa:Oa)(sc:Nat):Array Value:=#[Bv k.e,Iv k.f,Sl na k.nm.length nc,Sl sa k.set.length sc]
def RE(r:zI×Nat)(w:Wl)(e:Ending)(w':Wl):Prop :=
 ∃na nc sa sc,e=Rt (.tuple #[.agg (Jv r.1 na nc sa sc),Iv r.2])/\Ints (zF w w') .u8 w' na r.1.nm.length (lf r.1.nm)/\Ints (zF w w') .i64 w' sa r.1.set.length (lf r.1.set)/\Kf w w'
abbrev Ud:Array Value:=#[Bv 0,Iv 0,nS,nS]
structure Ea(w wr:Wl)(k:Int)(i:Nat)(nv sv:Vl):Prop where
 r:wr.heap[w.heap.size]?=some (Oc Ud 140)
 v:wr.heap[w.heap.size+1]?=some (Oc #[Bv k,Iv i,nv,sv] 140)
 q:Bw w wr
def Ea.c w(i:Nat):Ea w ((w.alloc (Oc Ud 140)).alloc (Oc #[Bv 0,Iv i,nS,nS] 140)) 0 i nS nS :=
 ⟨Vr (xC w _ _ rfl) _,xC _ _ _ sM,Bm w⟩
def Ea.y{w wr f k i c e C}(h:Ea w wr k i c e)(t:zA C wr f)(a:∀b,C b->w.heap.size+2<=b):Ea w f k i c e:=by
 have g:=(Gw.1 h.v).1;refine⟨(t.d _ oM (λq=>oH (a _ q))).trans h.r,(t.d _ g (λq=>oH (a _ q))).trans h.v,?_⟩;exact h.q.trans (t.below oM (λb j q=>oH (a _ q)))
def Ea.f{w wr k i b a}(h:Ea w wr k i b a)v:Ea w (wr.setCell (Ad (w.heap.size+1) 2) v) k i v a :=
 ⟨(Bn sM).trans h.r,DB v h.v,h.q.setCell sM _⟩
def y6{w wr W4 i g d v4 z x}(n:Ea w wr 0 i g d)(p:zB (λb=>(w.heap.size+2<=b/\b<wr.heap.size)\/(wr.drew.alloc (Oc #[Bv x] 5)).heap.size<=b) W4 v4 1 (z.length+1) (uO .u8 (lf z) z.length++[Bv x]))(C:zT (λb=>w.heap.size+2<=b/\b<wr.heap.size) (wr.drew.alloc (Oc #[Bv x] 5)) W4):Ea w W4 0 i g d/\Ea w (W4.setCell (Ad (w.heap.size+1) 2) v4) 0 i v4 d/\zB (λb=>w.heap.size+2<=b/\b<(W4.setCell (Ad (w.heap.size+1) 2) v4).heap.size) (W4.setCell (Ad (w.heap.size+1) 2) v4) v4 1 (z++[x]).length (uO .u8 (lf (z++[x])) (z++[x]).length):=by
 have H:=(Gw.1 n.v).1;have s:Ea w (wr.drew.alloc (Oc #[Bv x] 5)) 0 i g d:=n.y ((zA.i (λ_=>False) wr).c zY) (λb q=>q.elim);have k:=s.y C.m (λb q=>q.1);refine⟨k,k.f v4,?_⟩;rw[GQ]at p;rw[show(z++[x]).length=z.length+1 by simp];have G:(wr.drew.alloc (Oc #[Bv x] 5)).heap.size=wr.heap.size+1:=sM;rcases p with⟨_,q,_⟩|⟨b,cap,e,F,t,u,l,A⟩
 .omega
 have B:w.heap.size+2<=b:=by
  rcases F with q|q
  .exact q.1
  omega
 have o:0<(uO .u8 (lf (z++[x])) (z.length+1)).length:=by rw[yH];omega
 have E:b<W4.heap.size:=by
  have h:=l 0 o;rw[Bb o]at h;exact ud h
 have r:(W4.setCell (Ad (w.heap.size+1) 2) v4).heap[b]?=W4.heap[b]?:=Bn (by show b≠w.heap.size+1;omega);exact .inr ⟨b,cap,e,⟨B,by rw[uh];exact E⟩,t,u,λj D=>(Bd (a:=(Ad b j)) r).trans (l j D),A.h r⟩
abbrev Qc(w:Wl):Nat->Prop:=λb=>w.heap.size<=b/\b<w.heap.size+2
def Ea.l{w wr W' k i c d}(h:Ea w wr k i c d)(a:zA (Qc w) wr W'):Kf w W':=by
 have f:=(Gw.1 h.v).1;exact Below.cD (h.q.trans (a.below oM (λb e q=>oH q.1)))
def GG{w wr W' k a n S}(e:zA (Qc w) wr W')(h:Ints (λb=>w.heap.size+2<=b/\b<wr.heap.size) k wr a n S):Ints (zF w W') k W' a n S :=
 (h.on (λb c=>e.d b c.2 (λq=>oH q.2))).g (λb c=>⟨oM,by have:=e.l;omega⟩)
def js{w W W'}(h:zA (Qc w) W W')o v:zA (Qc w) W (W'.setCell (Ad w.heap.size o) v):=h.c (Dh ⟨zD,sM⟩)
def y7{w W W'}(h:zA (Qc w) W W')o v:zA (Qc w) W (W'.setCell (Ad (w.heap.size+1) o) v):=h.c (Dh ⟨sM,sM⟩)
def RF(t:Tx)(i:Nat)(r:List Int×Nat)(w:Wl)(u:Vl)(wr:Wl):Prop :=
 ∃(f j:Nat) (z:LI) (v:Vl),j<=t.n/\t.n-j<=f/\z.length<=j/\u=Iv j/\vQ t f j z=r/\Ea w wr 0 i v nS/\zB (λb=>w.heap.size+2<=b/\b<wr.heap.size) wr v 1 z.length (uO .u8 (lf z) z.length)
def RG t{f j z}(a:t.n-j<=f):vQ t f j z=if j<t.n/\yi (t.T j) then vQ t (f-1) (j+1) (z++[t.T j]) else (z,j):=by
 cases f with
 |zero=>rw[vQ,Zn (λq=>oM)]
 |succ f=>rw[vQ];rfl
def RH t:∀(f j:Nat) (z:LI) (r:List Int×Nat),j<=t.n->Ij t f j z=some r->j<r.2/\r.2<=t.n
 |0,j,z,r,hj,h=>by cases h
 |f+1,j,z,r,hj,h=>by
  rw[Ij]at h;split at h
  .rename_i q;injection h with h;subst h;exact⟨Iy _,q.1⟩
  split at h
  .cases h
  have:=kt t j false hj;have:=RH t f _ _ r oM h;omega
def GH{t i}{r:List Int×Nat}(a:i<t.n)(h:Ks t i=some r):i+1<r.2/\r.2<=t.n:=RH t _ _ _ r a h
def GI t:∀(f j:Nat) (m:Nat->Bool) (r:(Nat->Bool)×Nat),j<=t.n->xy t f j m=some r->j<=r.2/\r.2<t.n
 |0,j,m,r,hj,h=>by cases h
 |f+1,j,m,r,hj,h=>by
  have a:=kt t j true hj;rw[xy]at h;split at h
  .rename_i q;injection h with h;subst h;exact⟨zD,q.1⟩
  split at h
  .cases h
  split at h
  .rename_i q;have b:=kt t (j+(Bc t j true).2+1) true oM;split at h
   .cases h
   have:=GI t f _ _ r oM h;omega
  have:=GI t f _ _ r oM h;omega
def GJ{t i}{r:List Int×Nat}(c:i<t.n)(h:Hr t i=some r):i+1<r.2/\r.2<=t.n:=by
 unfold Hr at h;have b:i+1<=Mo t i/\Mo t i<=t.n:=by
  unfold Mo;split
  .rename_i q;have:=of_decide_eq_true q;omega
  omega
 cases a:xy t (t.n+2-i) (Mo t i) (λ_=>false) with
 |none=>rw[a]at h;cases h
 |some q =>
  obtain⟨m,j⟩:=q;rw[a,Ua]at h;injection h with h;subst h;have:=GI t _ _ _ _ b.2 a;simp only at this ⊢;omega
def Ea.e{w wr k i b c}(h:Ea w wr k i b c)a:Ea w (wr.setCell (Ad (w.heap.size+1) 0) (Bv a)) a i b c :=
 ⟨(Bn sM).trans h.r,DB _ h.v,h.q.setCell sM _⟩
def Ea.a{w wr k i b c}(h:Ea w wr k i b c)v:Ea w (wr.setCell (Ad (w.heap.size+1) 3) v) k i b v :=
 ⟨(Bn sM).trans h.r,DB _ h.v,h.q.setCell sM _⟩
def RJ{w W:Wl}{b o a:Nat}{v c:Vl}(h:w.heap.size+2<=b):((W.setCell (Ad (w.heap.size+1) o) v).setCell (Ad (w.heap.size+1) a) c).heap[b]?=W.heap[b]? :=
 (Bn (by show b≠w.heap.size+1;omega)).trans (Bn (by show b≠w.heap.size+1;omega))
def kd(x:Int)(k:Nat):Int:=if x∈Cx.take k then x else 0
def y8{x c k}(h:Cx.take (k+1)=Cx.take k++[c])(e:c=x):kd x (k+1)=x:=by
 unfold kd;rw[h,Zp (by simp[e])]
def y9{x c k}(h:Cx.take (k+1)=Cx.take k++[c])(e:¬c=x):kd x (k+1)=kd x k:=by
 unfold kd;rw[h];have:(x∈Cx.take k++[c])↔x∈Cx.take k:=by
  rw[By,Bu];exact⟨λq=>q.elim id (λq=>aB q.symm e),.inl⟩
 simp only[this]
def z6 x:kd x 11=if x∈Cx then x else 0:=rfl
def Wu{w wr k j na sa nc sc}(h:Ea w wr k.e k.f (Sl na k.nm.length nc) (Sl sa k.set.length sc))(c:Ints (λb=>w.heap.size+2<=b/\b<wr.heap.size) .u8 wr na k.nm.length (lf k.nm))(d:Ints (λb=>w.heap.size+2<=b/\b<wr.heap.size) .i64 wr sa k.set.length (lf k.set)) :
  RE (k,j) w (Rt (.tuple #[.agg (Jv k na nc sa sc),Iv j])) ((((wr.setCell (Ad w.heap.size 0) (Bv k.e)).setCell (Ad w.heap.size 1) (Iv k.f)).setCell (Ad w.heap.size 2) (Sl na k.nm.length nc)).setCell (Ad w.heap.size 3) (Sl sa k.set.length sc)):=by
 have a:=js (js (js (js (zA.e (Qc w) wr) 0 (Bv k.e)) 1 (Iv k.f)) 2 (Sl na k.nm.length nc)) 3 (Sl sa k.set.length sc);exact⟨na,nc,sa,sc,rfl,GG a c,GG a d,h.l a⟩
def z7 Q t a c i w(hT:Ei Q w a t)(V:i<t.n) :
  Cs 131 #[Sl a t.n c,Iv i] w (RE (vO t i) w):=by
 have aw:=t.le;have hi':(i:Int)<t.n:=oM;obtain⟨b,off,rfl,hq,L⟩:=hT.at V;have k0:=L i V;have lb:b<w.heap.size:=ud k0;have b0:=t.h i;have S:Hid (Ei Q w (Sm b off) t):=hT;clear L hT;unfold vO;by_cases X:M.bD (t.T i)
 .obtain⟨nr,ai⟩:∃r,vQ t (t.n-i) i []=r:=⟨_,rfl⟩;rw[Zp X,ai];have HL:Hid (M.bD (t.T i)):=X;clear X;go_enter func131,ntmps131;go_wp2_with fail;refine(vm (t.T i) b0.1 b0.2).mono ?_;rintro e W ⟨⟨r,rfl,o⟩,Y⟩;subst W;obtain rfl:r=true:=o.2 HL.o;clear o;go_wp2_with fail;have C:=Ea.c w i;have C:Hid (Ea w ((w.alloc (Oc Ud 140)).alloc (Oc #[Bv 0,Iv i,nS,nS] 140)) 0 i nS nS):=C;go_loopw [8] (λu wr=>RF t i nr w u wr) (λu _=>t.n-(intOf u).toNat)
  .exact⟨t.n-i,i,[],_,oM,zD,sM,rfl,ai,C.o,.inl ⟨rfl,rfl,rfl⟩⟩
  obtain⟨f,j,z,v,hj,hf,hz,rfl,hn,P,hO⟩:=hrel;clear C ai k0;obtain⟨G,H,rfl⟩:=uj hO;have N:Hid (Ea w wr 0 i (Sl G z.length H) nS):=P;have HO:Hid (zB (λb=>w.heap.size+2<=b/\b<wr.heap.size) wr (Sl G z.length H) 1 z.length (uO .u8 (lf z) z.length)):=hO;have ac:Hid (Ei Q wr (Sm b off) t):=S.o.h P.q;obtain⟨d,hd⟩:∃d,decide (j<t.n/\yi (t.T j))=d:=⟨_,rfl⟩;have I:Hid (decide (j<t.n/\yi (t.T j))=d):=hd;have HN:Hid (vQ t f j z=nr):=hn;clear P hO hd hn;go_upto_region 5 with fail;go_cut [41] from 24 to 52 (λv wc=>v=.bool d/\wr=wc)
  .by_cases D:j<t.n
   .have h1':(j:Int)<t.n:=oM;let⟨b',av,e,_,L⟩:=ac.o.at D;cases e;have k1:=L j D;have b1:=t.h j;clear L;by_cases F:M.bD (t.T j)
    .have ab:Hid (M.bD (t.T j)):=F;have O:Hid (d=true):=(by show d=true;rw[<-I.o];simp[D,yi,F]);clear F;go_wp2_with (go_at_call 170;refine(vm (t.T j) b1.1 b1.2).mono ?_;rintro e W ⟨⟨r,rfl,o⟩,Y⟩;subst W;obtain rfl:r=true:=o.2 ab.o;clear o);go_meet
     case rel=>exact⟨by rw[O.o],rfl⟩
    have ab:Hid (¬M.bD (t.T j)):=F;by_cases U:M.bK (t.T j)
    .have af:Hid (M.bK (t.T j)):=U;have O:Hid (d=true):=(by show d=true;rw[<-I.o];simp[D,yi,U]);clear F U;go_wp2_with (first|(go_at_call 170;refine(vm (t.T j) b1.1 b1.2).mono ?_;rintro e W ⟨⟨r,rfl,o⟩,Y⟩;subst W;obtain rfl:r=false:=by { cases r;rfl;exact aB (o.1 rfl) ab.o };clear o)|(go_at_call 171;refine(jC (t.T j) b1.1 b1.2).mono ?_;rintro e W ⟨⟨r,rfl,o⟩,Y⟩;subst W;obtain rfl:r=true:=o.2 af.o;clear o));go_meet
     case rel=>exact⟨by rw[O.o],rfl⟩
    have af:Hid (¬M.bK (t.T j)):=U;have O:Hid (d=false):=(by show d=false;rw[<-I.o];simp[D,yi,F,U]);clear F U;go_wp2_with (first|(go_at_call 170;refine(vm (t.T j) b1.1 b1.2).mono ?_;rintro e W ⟨⟨r,rfl,o⟩,Y⟩;subst W;obtain rfl:r=false:=by { cases r;rfl;exact aB (o.1 rfl) ab.o };clear o)|(go_at_call 171;refine(jC (t.T j) b1.1 b1.2).mono ?_;rintro e W ⟨⟨r,rfl,o⟩,Y⟩;subst W;obtain rfl:r=false:=by { cases r;rfl;exact aB (o.1 rfl) af.o };clear o));go_meet
    case rel=>exact⟨by rw[O.o],rfl⟩
   have h1':¬(j:Int)<t.n:=oM;have O:Hid (d=false):=(by show d=false;rw[<-I.o];simp[D]);go_wp2;go_meet
   case rel=>exact⟨by rw[O.o],rfl⟩
  obtain⟨rfl,rfl⟩:=hcut;have c2:wr.cell? (Ad (w.heap.size+1) 2)=some (Sl G z.length H):=uN N.o.v rfl;have f2:wr.frozen? (Ad (w.heap.size+1) 2)=false:=Vq N.o.v;have ax:=ud c2;cases d with
  |true =>
   let⟨D,F⟩:=of_decide_eq_true I.o;have h1':(j:Int)<t.n:=oM;let⟨b',av,e,_,L⟩:=ac.o.at D;cases e;have k1:=L j D;have b1:=t.h j;have ag:Hid (vQ t (f-1) (j+1) (z++[t.T j])=nr):=by
    have:=HN.o;rw[RG t hf,Zp ⟨D,F⟩]at this;exact this
   clear L I F HN;have ap:Hid (zB (λb=>w.heap.size+2<=b/\b<wr.heap.size) (wr.drew.alloc (Oc #[Bv (t.T j)] 5)) (Sl G z.length H) 1 z.length (uO .u8 (lf z) z.length)):=HO.o.on (λb s=>((zA.i (λ_=>False) wr).c zY).d b s.2 (λq=>q));have aq:Hid (Src prog 1 22 (Sl (Sm wr.drew.heap.size 0) 1 1) 1 [Bv (t.T j)] (wr.drew.alloc (Oc #[Bv (t.T j)] 5))):=qK _ _;have ae:=λv4 W4=>y6 (z:=z) (x:=t.T j) (W4:=W4) (v4:=v4) N.o;have ae:Hid (∀v4 W4,zB (λb=>(w.heap.size+2<=b/\b<wr.heap.size)\/(wr.drew.alloc (Oc #[Bv (t.T j)] 5)).heap.size<=b) W4 v4 1 (z.length+1) (uO .u8 (lf z) z.length++[Bv (t.T j)])->zT (λb=>w.heap.size+2<=b/\b<wr.heap.size) (wr.drew.alloc (Oc #[Bv (t.T j)] 5)) W4->Ea w W4 0 i (Sl G z.length H) nS/\Ea w (W4.setCell (Ad (w.heap.size+1) 2) v4) 0 i v4 nS/\zB (λb=>w.heap.size+2<=b/\b<(W4.setCell (Ad (w.heap.size+1) 2) v4).heap.size) (W4.setCell (Ad (w.heap.size+1) 2) v4) v4 1 (z++[t.T j]).length (uO .u8 (lf (z++[t.T j])) (z++[t.T j]).length)):=ae;clear HO N ac;generalize t.T j=x at *;go_upto_region 6 with fail;go_region_law
    (refine jN rfl (.tmp 43) (.tmp 48) 22 22 rfl (v:=Sl G z.length H) (y:=Sl (Sm wr.drew.heap.size 0) 1 1) (by simp[Act.eval,Act.put]) (by simp[Act.eval,Act.put]) jF (Q:=λb=>w.heap.size+2<=b/\b<wr.heap.size) (n:=z.length) (cs:=uO .u8 (lf z) z.length) (m:=1) (news:=[Bv x]) ap.o aq.o oM ?_;intro v4 W4 aj an au;obtain⟨a4,c4,rfl⟩:=uj aj;let⟨q1,q2,q3⟩:=ae.o _ _ aj an;have r2:W4.cell? (Ad (w.heap.size+1) 2)=some (Sl G z.length H):=uN q1.v rfl;have r3:W4.frozen? (Ad (w.heap.size+1) 2)=false:=Vq q1.v;have HE:Hid (RF t i nr w (Iv ((j+1:Nat):Int)) (W4.setCell (Ad (w.heap.size+1) 2) (Sl a4 (z.length+1) c4))):=⟨f-1,j+1,_,_,D,oM,sO,rfl,ag.o,q2,q3⟩;clear aj an au q1 q2 q3)
   all_goals (
    go_wp2;go_roundw;all_goals first
     |exact HE.o
     |(simp[intOf];omega)
     |omega)
  |false =>
   have ao:=of_decide_eq_false I.o;have ag:Hid ((z,j)=nr):=by
    have:=HN.o;rw[RG t hf,Zn ao]at this;exact this
   clear I ao HN ac;let⟨c0,f0,al⟩:=zG.x ⟨_,N.o.v⟩;let⟨d0,e0,am⟩:=zG.x ⟨_,N.o.r⟩;go_wp2
   (try simp only[Exit.inBlock,Exit.then])
   refine zL (v:=.tuple #[.agg #[Bv 110,Iv i,Sl G z.length H,nS],Iv j]) ?_ rfl ?_
   .rw[results_cell_tmp rfl];go_simp
   obtain rfl:=ag.o;have hk:=js (js (js (js (y7 (zA.e (Qc w) wr) 0 (Bv 110)) 0 (Bv 110)) 1 (Iv i)) 2 (Sl G z.length H)) 3 nS;exact⟨G,H,none,0,rfl,GG hk (yJ HO.o),.inl rfl,N.o.l hk⟩
 rw[Zn X];have HL:Hid (¬M.bD (t.T i)):=X;clear X;have C:Hid (Ea w ((w.alloc (Oc Ud 140)).alloc (Oc #[Bv 0,Iv i,nS,nS] 140)) 0 i nS nS):=Ea.c w i;obtain⟨R,hR⟩:∃R,(if t.T i=34 then (match Ks t i with|none=>((⟨0,i,[],[]⟩:zI),i)|some (z,j)=>(⟨34,i,z,[]⟩,j))
  else if t.T i=91 then (match Hr t i with|none=>(⟨0,i,[],[]⟩,i)|some (z,j)=>(⟨91,i,[],z⟩,j))
  else if t.T i∈Cx then (⟨t.T i,i,[],[]⟩,i+1)
  else (⟨0,i,[],[]⟩,i+1))=R:=⟨_,rfl⟩
 rw[hR];have J:Hid (_=R):=hR;clear hR;go_enter func131,ntmps131;go_wp2_with fail;refine(vm (t.T i) b0.1 b0.2).mono ?_;rintro e W ⟨⟨r,rfl,o⟩,Y⟩;subst W;obtain rfl:r=false:=by { cases r;rfl;exact aB (o.1 rfl) HL.o }
 clear o k0;generalize t.T i=x at *;by_cases x1:x=34
 .subst x1;go_wp2_with fail;generalize (w.alloc (Oc Ud 140)).alloc (Oc #[Bv 0,Iv i,nS,nS] 140)=Z at *;refine(uha Q t (Sm b off) c i Z (S.o.h C.o.q) V).mono ?_;intro e W B;obtain⟨aa,B⟩:=B;have p:Hid (Ea w W 0 i nS nS):=C.o.y aa (λb q=>q.elim);have ah:Hid (w.heap.size+2<=Z.heap.size):=(Gw.1 C.o.v).1;clear aa S;let⟨c0,f0,al⟩:=zG.x ⟨_,p.o.v⟩;let⟨d0,e0,am⟩:=zG.x ⟨_,p.o.r⟩;obtain⟨sr,E⟩:∃r,Ks t i=r:=⟨_,rfl⟩;rw[E]at B;have A:=J.o;rw[Zp trivial]at A;rw[E]at A;cases sr with
  |none =>
   simp only at B A;subst B;subst A;clear J E;go_wp2
   (try simp only[Exit.inBlock,Exit.then])
   refine zL (v:=.tuple #[.agg (Jv ⟨0,i,[],[]⟩ none 0 none 0),Iv i]) ?_ rfl ?_
   .rw[results_cell_tmp rfl];unfold Jv;go_simp
   exact Wu (k:=⟨0,i,[],[]⟩) (j:=i) p.o (.inl rfl) (.inl rfl)
  |some q =>
   obtain⟨z,j⟩:=q;simp only at B A;obtain⟨sa,sc,rfl,hI⟩:=B;subst A;have ad:=GH V E;simp only at ad;have hlt':(0:Int)<(j:Int)-i:=oM;have HI:Hid (Ints (λb=>w.heap.size+2<=b/\b<W.heap.size) .u8 W sa z.length (lf z)):=hI.g (λb s=>⟨by have:=s.1;have:=ah.o;omega,s.2⟩);clear J E hI;go_wp2
   (try simp only[Exit.inBlock,Exit.then])
   refine zL (v:=.tuple #[.agg (Jv ⟨34,i,z,[]⟩ sa sc none 0),Iv j]) ?_ rfl ?_
   .rw[results_cell_tmp rfl];unfold Jv;go_simp;omega
   have P:=(p.o.e 34).f (Sl sa z.length sc);exact Wu (k:=⟨34,i,z,[]⟩) (j:=j) P (HI.o.on (λb s=>(RJ s.1)) |>.g (λb s=>⟨s.1,by rw[uh,uh];exact s.2⟩)) (.inl rfl)
 have x1':(x==34)=false:=by simpa using x1
 by_cases x2:x=91
 .subst x2;go_wp2_with fail;generalize (w.alloc (Oc Ud 140)).alloc (Oc #[Bv 0,Iv i,nS,nS] 140)=Z at *;refine(zb Q t (Sm b off) c i Z (S.o.h C.o.q) V).mono ?_;intro e W B;obtain⟨aa,B⟩:=B;have p:Hid (Ea w W 0 i nS nS):=C.o.y aa (λb q=>q.elim);have ah:Hid (w.heap.size+2<=Z.heap.size):=(Gw.1 C.o.v).1;clear aa S;let⟨c0,f0,al⟩:=zG.x ⟨_,p.o.v⟩;let⟨d0,e0,am⟩:=zG.x ⟨_,p.o.r⟩;obtain⟨sr,E⟩:∃r,Hr t i=r:=⟨_,rfl⟩;rw[E]at B;have A:=J.o;rw[Zn dC,Zp trivial]at A;rw[E]at A;cases sr with
  |none =>
   simp only at B A;subst B;subst A;clear J E;go_wp2
   (try simp only[Exit.inBlock,Exit.then])
   refine zL (v:=.tuple #[.agg (Jv ⟨0,i,[],[]⟩ none 0 none 0),Iv i]) ?_ rfl ?_
   .rw[results_cell_tmp rfl];unfold Jv;go_simp
   exact Wu (k:=⟨0,i,[],[]⟩) (j:=i) p.o (.inl rfl) (.inl rfl)
  |some q =>
   obtain⟨z,j⟩:=q;simp only at B A;obtain⟨sa,sc,rfl,hI⟩:=B;subst A;have ad:=GJ V E;simp only at ad;have hlt':(0:Int)<(j:Int)-i:=oM;have HI:Hid (Ints (λb=>w.heap.size+2<=b/\b<W.heap.size) .i64 W sa z.length (lf z)):=hI.g (λb s=>⟨by have:=s.1;have:=ah.o;omega,s.2⟩);clear J E hI;go_wp2
   (try simp only[Exit.inBlock,Exit.then])
   refine zL (v:=.tuple #[.agg (Jv ⟨91,i,[],z⟩ none 0 sa sc),Iv j]) ?_ rfl ?_
   .rw[results_cell_tmp rfl];unfold Jv;go_simp;omega
   have P:=(p.o.e 91).a (Sl sa z.length sc);exact Wu (k:=⟨91,i,[],z⟩) (j:=j) P (.inl rfl) (HI.o.on (λb s=>(RJ s.1)) |>.g (λb s=>⟨s.1,by rw[uh,uh];exact s.2⟩))
 have x2':(x==91)=false:=by simpa using x2
 have A:Hid ((⟨kd x 11,i,[],[]⟩,i+1)=R):=by
  have:=J.o;rw[Zn x1,Zn x2]at this;show _=R;rw[<-this,z6];split<;>rfl
 clear J;go_wp2_with fail;go_loopw [14] (λu wr=>∃k:Nat,k<=11/\u=Iv k/\Ea w wr (kd x k) i nS nS) (λu _=>11-(intOf u).toNat)
 .exact⟨0,oM,rfl,C.o⟩
 obtain⟨k,hk,rfl,hW⟩:=hrel;have p:Hid (Ea w wr (kd x k) i nS nS):=hW;clear hW C S;have c0:wr.cell? (Ad (w.heap.size+1) 0)=some (Bv (kd x k)):=uN p.o.v rfl;have f0:wr.frozen? (Ad (w.heap.size+1) 0)=false:=Vq p.o.v;by_cases ad:k<11
 .have ak:Cx.take (k+1)=Cx.take k++[lf Cx k]:=by
   rcases(show k=0\/k=1\/k=2\/k=3\/k=4\/k=5\/k=6\/k=7\/k=8\/k=9\/k=10 by omega) with rfl|rfl|rfl|rfl|rfl|rfl|rfl|rfl|rfl|rfl|rfl;all_goals rfl
  have HK:Hid (lf Cx k=x->Ea w (wr.setCell (Ad (w.heap.size+1) 0) (Bv x)) (kd x (k+1)) i nS nS):=λq=>by
   rw[y8 ak q];exact p.o.e x
  have HK':Hid (¬lf Cx k=x->Ea w wr (kd x (k+1)) i nS nS):=λq=>by
   rw[y9 ak q];exact p.o
  clear p ak;generalize kd x k=kx at c0;rcases(show k=0\/k=1\/k=2\/k=3\/k=4\/k=5\/k=6\/k=7\/k=8\/k=9\/k=10 by omega) with rfl|rfl|rfl|rfl|rfl|rfl|rfl|rfl|rfl|rfl|rfl;all_goals (
   go_wp2;all_goals (
    rename_i h;first
    |exact⟨⟨_,dC,rfl,HK.o (eq_of_beq h)⟩,by simp[intOf]⟩
    |exact⟨⟨_,dC,rfl,HK'.o (λq=>by subst q;exact aB h dC)⟩,by simp[intOf]⟩))
 obtain rfl:k=11:=oM;let⟨c0,f0,al⟩:=zG.x ⟨_,p.o.v⟩;let⟨d0,e0,am⟩:=zG.x ⟨_,p.o.r⟩;generalize kd x 11=kx at *;go_wp2
 (try simp only[Exit.inBlock,Exit.then])
 refine zL (v:=.tuple #[.agg (Jv ⟨kx,i,[],[]⟩ none 0 none 0),Iv ((i+1:Nat):Int)]) ?_ rfl ?_
 .rw[results_cell_tmp rfl];unfold Jv;go_simp
 rw[<-A.o];exact Wu (k:=⟨kx,i,[],[]⟩) (j:=i+1) p.o (.inl rfl) (.inl rfl)
def Ints.j{Q k w a n S}(h:Ints Q k w a n S):Ints (Of w) k w a n S:=by
 by_cases e:n=0
 .exact .inl e
 rcases h with h|⟨b,off,d,f,c⟩
 .exact .inl h
 exact .inr ⟨b,off,d,ud (c 0 oM),c⟩
def Em.j{Q w b o d}(h:Em Q w b o d):Em (Of w) w b o d:=by
 obtain⟨e,⟨a,c,f,g⟩,i⟩:=h;exact⟨e,⟨a,c,f,g.j⟩,i⟩
def zM.j{Q w a n B}(h:zM Q w a n B):zM (Of w) w a n B:=by
 by_cases e:n=0
 .exact .inl e
 rcases h with h|⟨b,off,d,g,c⟩
 .exact .inl h
 exact .inr ⟨b,off,d,ud (c 0 oM).e,λi f=>(c i f).j⟩
def zV.j{Q w ra la g}(h:zV Q w ra la g):zV (Of w) w ra la g:=by
 refine⟨?_,?_⟩
 .by_cases e:g.nr=0
  .exact .inl e
  rcases h.c with q|⟨b,off,k,n,f⟩
  .exact .inl q
  have l:b<w.heap.size:=by let⟨⟨⟨a,c,d,_⟩,_⟩,_⟩:=f 0 oM;exact ud d
  exact .inr ⟨b,off,k,l,λi m=>let⟨⟨⟨a,c,d,hn⟩,⟨a',c',c1,hb⟩⟩,hc⟩:=f i m;⟨⟨⟨a,c,d,hn.j⟩,⟨a',c',c1,hb.j⟩⟩,hc⟩⟩
 by_cases e:g.nb=0
 .exact .inl e
 rcases h.e with q|⟨b,off,k,n,f⟩
 .exact .inl q
 have l:b<w.heap.size:=by obtain⟨⟨⟨a,c,d,_⟩,_⟩,_⟩:=f 0 oM;exact ud d
 exact .inr ⟨b,off,k,l,λi m=>let⟨⟨⟨a,c,d,hn⟩,hh,⟨a',c',c1,hb⟩⟩,hc⟩:=f i m;⟨⟨⟨a,c,d,hn.j⟩,hh,⟨a',c',c1,hb.j⟩⟩,hc⟩⟩
def xh(g:Gr)(k:Nat):List uw:=M.bG (Ee g) (Hl g) (Io g) (jo g) k
def ql g k:(xh g k).length=PL g k:=M.dI _ _ _ _ _ _
def KE g k(h:0<(nd g k).bl):xh g (k+1)=xh g k++[Hl g k]++uT (Ee g) (Io g k) (PL g k+1)++[ins 11 0 0]++[ins 7 0 0]:=by
 have e:jo g k=true:=by simp[jo,h]
 unfold xh;rw[M.bG,Zp e,show(M.bG (Ee g) (Hl g) (Io g) (jo g) k).length=PL g k from ql g k];unfold M.nodeC;simp
def ZW g k(h:¬0<(nd g k).bl):xh g (k+1)=xh g k:=by
 have e:¬jo g k=true:=by simp[jo,h]
 unfold xh;rw[M.bG,Zn e]
end Go.Proofs.YtmlblamikgkdcaaGreat
