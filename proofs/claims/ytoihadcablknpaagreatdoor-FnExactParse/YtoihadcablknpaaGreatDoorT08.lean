import Derived.Test.YtoihadcablknpaaGreatDoorT06
import Derived.Test.YtoihadcablknpaaGreatDoorT07
set_option linter.unusedVariables false
set_option linter.unusedSimpArgs false
set_option linter.defProp false
set_option maxHeartbeats 40000000
set_option maxRecDepth 100000
namespace Go.Proofs.YtoihadcablknpaaGreatDoor
open Go.RowKit
open Go.Proofs.Tryz
open Go.RowKit Go.Maps
open M (OpD uh Gr)
def Ux:Keyed prog 9:=string_keyed underlying9
def uex w:(zeroValue 3).run prog w=.ok (Iv 0) w:=rR
def Uy(g:Gr):Prop :=
 (∀i,i<g.nr->M.cC (g.a i).nl (g.a i).f/\∀j,j<i->¬M.cQ (g.a i) (g.a j)) /\
 (∀i,i<g.nb->M.cC (g.d i).nl (g.d i).f/\(0<i->M.cS (g.d (i-1)) (g.d i)))
def Bc(D:DataW Unit)(R:Nat->uh)(k:Nat):Prop:=∀l:List UInt8,(Maps.has D (.string l)=true↔∃j,j<k/\Cf (R j).nl (R j).f=l)
def Bc.d R:Bc (.map []) R 0:=λl=>⟨λh=>by simp[Maps.has]at h,λ⟨j,a,_⟩=>aB a Ct⟩
def Bc.b{D:DataW Unit}{R k}(h:Bc D R k)(c:IsMap D)(d:DataW Unit):Bc (D.put (.string (Cf (R k).nl (R k).f)) d) R (k+1):=λl=>by
 by_cases e:Cf (R k).nl (R k).f=l
 ·subst e;rw[has_put_same c (by trivial)];exact⟨λ_=>⟨k,oM,rfl⟩,λ_=>rfl⟩
 rw[has_put_other (by intro q;injection q with q;exact e q.symm),h l];constructor
 ·rintro⟨j,g,q⟩;exact⟨j,oM,q⟩
 rintro⟨j,g,q⟩;refine⟨j,?_,q⟩;by_cases a:j=k
 ·subst a;exact aB q e
 omega
def BB{a}{b}(c:Fe a.nl a.f)(d:Fe b.nl b.f):Cf a.nl a.f=Cf b.nl b.f↔M.cQ a b:=DV _ _ _ _ c d
structure X5(w:Wl)(y:Nat)(ra la:Oa)(nr rc nb lc:Nat)(R:Nat->uh)(k:Nat)(x:Wl):Prop where
 c:x.cell? (Ad y 0)=some (Sl ra nr rc)
 b:x.cell? (Ad y 1)=some (Sl la nb lc)
 a:∃D:DataW Unit,x.ownsMap prog 9 (plainElem prog 3) (y+1) k D/\Bc D R k
 u:Bw w x
 h:y+2<=x.heap.size
def X6(w:Wl)(ra la:Oa)(nr rc a lc:Nat)(R:Nat->uh)(i:Vl)(wr:Wl):Prop :=
 ∃k:Nat,k<=nr/\i=Iv (k:Int)/\X5 w w.heap.size ra la nr rc a lc R k wr/\∀j,j<k->M.cC (R j).nl (R j).f/\∀i,i<j->¬M.cQ (R j) (R i)
def X7 Q ra la rc lc g w(hG:Bl Q w ra la g)(hs:yg g) :
  Cs 130 #[.agg #[Sl ra g.nr rc,Sl la g.nb lc]] w (yz (Uy g) w):=by
 obtain⟨nr,R,v,L⟩:=g;obtain⟨E,y⟩:=hG;obtain⟨h1,h2,s1,s2⟩:=hs;simp only at E y h1 h2 s1 s2 ⊢;have HR:=ua E;have HL:=ua y;have U:=ua s1;have S2:=ua s2;have a4:=@run_makeMap prog;go_enter func130,ntmps130;go_wp2;go_loopw [14] (λi wr=>X6 w ra la nr rc v lc R i wr) (λi _=>nr-(intOf i).toNat)
 ·have ha:=xp w (Sl ra nr rc) (Sl la v lc) 37;refine⟨0,wP,rfl,⟨uv _ ha.1,uv _ ha.2,⟨.map [],?_,Bc.d R⟩,Bn w,sM⟩,λj B=>aB B Ct⟩;have:=World.ownsMap_made (H:=Unit) (w.alloc (Oc #[Sl ra nr rc,Sl la v lc] 37)) prog 9 (plainElem prog 3);rwa [zV]at this
 obtain⟨k,hk,rfl,z,ab⟩:=hrel;have HA:=ua ab;have g0:=z.c;have g1:=z.b;have a5:=z.h;have l0:w.heap.size<wr.heap.size:=oM;have l1:w.heap.size+1<wr.heap.size:=oM;by_cases n:k<nr
 ·have E:=HR.q z.u;rcases E with h0|⟨b,off,rfl,hq,E⟩
  ·omega
  obtain⟨⟨na,nc,V,X⟩,⟨ba,bc,c1,hb⟩⟩:=E k n;have au:=ud V;obtain⟨D,az,aw⟩:=z.a;have Z:=ua aw;have A:=ua z.u;have O:=(U k n).f;have x:=ua ((U k n).j);have ao:=ua X;have av:∀o,(convert 22 9 (Sl na (R k).nl nc)).run prog (wr.alloc o)=.ok (.string (str (R k).nl (R k).f)) (wr.alloc o):=λo=>vX Q na (R k).nl nc (R k).f _ (X.q (uk wr o))
  have ai:(str (R k).nl (R k).f).size<=maxLen:=by rw[Wp];unfold maxLen;omega
  have aa:Hid ((str (R k).nl (R k).f).data.toList=Cf (R k).nl (R k).f):=xC;generalize str (R k).nl (R k).f=s at av ai aa;have ax:=Go.WideMaps.keyOf_string_mk underlying9 ai;have I:=ua az;have T:=ua ax;have af:Hid (∀j,j<k->(Cf (R j).nl (R j).f=s.data.toList↔M.cQ (R k) (R j))):=λj B=>by
   rw[aa.o];exact⟨λq=>(BB x (U j oM).j).1 q.symm,λq=>((BB x (U j oM).j).2 q).symm⟩
  have hI:∀o,wB Q .u8 (wr.alloc o) na (R k).nl (R k).f:=λo=>ao.q (uk wr o)
  have C:=ua hI;cases hh:Maps.has D (.string s.data.toList) with
  |true =>
   have Y:=ua hh;go_wp2_with (at_lookup;refine wpList_lookup_own_ok_int _ rfl _ _ 183 rfl 9 3 .i64 Ux underlying183 underlying3 (uex _) (w.heap.size+1) k D rfl (I.alloc _) _ _ rfl T ?_;intro c N P;clear N P);go_ret;refine⟨⟨false,rfl,vh λq=>?_⟩,uf A (wG wr)⟩;obtain⟨j,B,e⟩:=(Z _).1 Y;exact(q.1 k n).2 j B ((af j B).1 e)
  |false =>
   have Y:=ua hh;by_cases G:M.cC (R k).nl (R k).f
   ·have l:Hid (M.cC (R k).nl (R k).f):=G;go_wp2_with (first|(at_lookup;refine wpList_lookup_own_ok_int _ rfl _ _ 183 rfl 9 3 .i64 Ux underlying183 underlying3 (uex _) (w.heap.size+1) k D rfl (I.alloc _) _ _ rfl T ?_;intro c N P;clear N P)|(go_at_call 165;refine(jK Q na (R k).nl nc (R k).f _ (C _) x O).mono ?_;rintro e W ⟨⟨r,rfl,t⟩,hw⟩;subst W;obtain rfl:r=true:=t.2 l;clear t)|(at_mapUpdate;refine wpList_mapUpdate_own _ rfl _ _ _ 183 rfl 9 3 Ux underlying183 _ (w.heap.size+1) k D rfl (I.alloc _) (by unfold maxLen;omega) _ _ _ rfl rfl T _ [] (plainElem_int underlying3 (WalkArith.wf_i64 oM)) ?_;intro w1 ak ah;have ap:Hid _:=ak;have S:Hid _:=ah;clear ak ah));have bb:=(uf A (wG wr)).grown S sO (λr e=>by cases e;omega);have ss:=S.size;simp only[zV]at ss;refine⟨⟨k+1,oM,by go_num,⟨(zI (S.block w.heap.size sO sM)).trans (uv _ g0),(zI (S.block w.heap.size sO sM)).trans (uv _ g1),⟨_,ap,?_⟩,bb,oM⟩,?_⟩,by simp[intOf];omega⟩
    ·rw[aa.o];exact Z.b I.isMap _
    refine vE HA ⟨l,λi hi q=>?_⟩;have:=(Z _).2 ⟨i,hi,(af i hi).2 q⟩;rw[Y.o]at this;cases this
   have l:Hid (¬M.cC (R k).nl (R k).f):=G;go_wp2_with (first|(at_lookup;refine wpList_lookup_own_ok_int _ rfl _ _ 183 rfl 9 3 .i64 Ux underlying183 underlying3 (uex _) (w.heap.size+1) k D rfl (I.alloc _) _ _ rfl T ?_;intro c N P;clear N P)|(go_at_call 165;refine(jK Q na (R k).nl nc (R k).f _ (C _) x O).mono ?_;rintro e W ⟨⟨r,rfl,t⟩,hw⟩;subst W;obtain rfl:r=false:=by { cases r;rfl;exact aB (t.1 rfl) l };clear t));go_ret;exact⟨⟨false,rfl,vh λq=>l (q.1 k n).1⟩,uf A (wG wr)⟩
 obtain rfl:k=nr:=oM;obtain⟨W1,eW⟩:=nm wr;subst wr;have an:=ua z.u;have HL':=ua (HL.q z.u);go_wp2;go_loopw [43] (λi a0=>Td W1 v (λj=>M.cC (L j).nl (L j).f/\(0<j->M.cS (L (j-1)) (L j))) i a0) (λi _=>v-(intOf i).toNat)
 ·exact⟨0,wP,rfl,wI _,λj B=>aB B Ct⟩
 obtain⟨m,hm,rfl,F,ab⟩:=hrel;have HM:=ua ab;have ad:=ua F;have A:=ua (uf an F);have e0:=ue g0 F;have e1:=ue g1 F;have a3:=wX l0 F.size;by_cases n:m<v
 ·have y:=HL'.q F;rcases y with h0|⟨b,off,rfl,hq,y⟩
  ·omega
  obtain⟨⟨na,nc,V,X⟩,c1,⟨ba,bc,c2,hb⟩⟩:=y m n;have au:=ud V;have O:=(S2 m n).f;have x:=ua ((S2 m n).j);have hI:∀o d,wB Q .u8 ((wr.alloc o).drewN d) na (L m).nl (L m).f:=λo d=>X.q (zB (uk wr o) d)
  have C:=ua hI;by_cases G:M.cC (L m).nl (L m).f
  ·have l:Hid (M.cC (L m).nl (L m).f):=G;have QN:∀o d,Cs 165 #[Sl na (L m).nl nc] ((wr.alloc o).drewN d) λe w'=>e=Rt Bt/\w'=(wr.alloc o).drewN d:=λo d =>
    (jK Q na (L m).nl nc (L m).f _ (C o d) x O).mono (λe W h=>by obtain⟨⟨r,rfl,t⟩,rfl⟩:=h;rw[t.2 G];exact⟨rfl,rfl⟩)
   have J:=ua QN;by_cases hz:m=0
   ·subst hz;simp only[Ge,Cc]at V c1 c2;go_wp2_with fail;go_quiet (first|(go_at_call 165;exact Fz (J _ _)));go_wp2;go_roundw
    ·exact⟨1,oM,by go_num,uf ad (zB (wG wr) _),vE HM ⟨l,λq=>aB q (Jc _)⟩⟩
    simp[intOf];omega
   obtain⟨p,hp⟩:∃p,m=p+1:=⟨m-1,oM⟩;have HP:=ua hp;have em:(m:Int)-1=(p:Int):=oM;have ay:0<m:=oM;have hmp':(0:Int)<(m:Int):=oM;have al:p<v:=oM;have hpl':(p:Int)<(v:Int):=oM;clear hz hp;obtain⟨⟨ac,am,d0,aj⟩,d1,⟨a1,a2,d2,aq⟩⟩:=y p al;have hI':∀o d,wB Q .u8 ((wr.alloc o).drewN d) ac (L p).nl (L p).f:=λo d=>aj.q (zB (uk wr o) d)
   obtain⟨r,r1,r2,r3,ag⟩:=uh8 (L p).nl (L m).nl (L p).f (L m).f (S2 p al).j x;have HC:Hid (∀o d,Cs 166 #[Sl ac (L p).nl am,Sl na (L m).nl nc] ((wr.alloc o).drewN d) λe w'=>e=Rt (Iv r)/\w'=(wr.alloc o).drewN d):=λo d=>ag Q ac na am nc _ (hI' o d) (C o d)
   have ae:Hid (r<0↔M.cS (L (m-1)) (L m)):=by
    show r<0↔M.cS (L (m-1)) (L m);rw[show m-1=p by have:=HP.o;omega];exact r3
   clear y aj aq hI' ag r3;by_cases t:r<0
   ·have hr':¬(0:Int)<=r:=oM;go_wp2_with fail;go_quiet (first|(go_at_call 165;exact Fz (J _ _))|(go_at_call 166;exact Fz (HC _ _)));go_wp2;go_roundw
    ·exact⟨m+1,oM,by go_num,uf ad (zB (wG wr) _),vE HM ⟨l,λ_=>ae.1 t⟩⟩
    simp[intOf];omega
   have hr':(0:Int)<=r:=oM;go_wp2_with fail;go_quiet (first|(go_at_call 165;exact Fz (J _ _))|(go_at_call 166;exact Fz (HC _ _)));go_wp2;go_ret;exact⟨⟨false,rfl,vh λq=>by have:=ae.2 ((q.2 m n).2 ay);omega⟩,uf A (zB (wG wr) _)⟩
  have l:Hid (¬M.cC (L m).nl (L m).f):=G;have QN:∀o d,Cs 165 #[Sl na (L m).nl nc] ((wr.alloc o).drewN d) λe w'=>e=Rt Bf/\w'=(wr.alloc o).drewN d:=λo d =>
   (jK Q na (L m).nl nc (L m).f _ (C o d) x O).mono (λe W h=>by
    obtain⟨⟨r,rfl,t⟩,rfl⟩:=h;obtain rfl:r=false:=(by { cases r;rfl;exact aB (t.1 rfl) l });exact⟨rfl,rfl⟩)
  have J:=ua QN;go_wp2_with fail;go_quiet (first|(go_at_call 165;exact Fz (J _ _)));go_wp2;go_ret;exact⟨⟨false,rfl,vh λq=>l (q.2 m n).1⟩,uf A (zB (wG wr) _)⟩
 obtain rfl:m=v:=oM;go_wp2;go_ret;exact⟨⟨true,rfl,jS ⟨HA,HM⟩⟩,A⟩
def TS g:∀m,xR g (g.nr+m)=M.sum (λi=>(g.a i).bl) g.nr+M.sum (λi=>(g.d i).bl) m
 |0=>by
  have:∀n,n<=g.nr->xR g n=M.sum (λi=>(g.a i).bl) n:=by
   intro n c;induction n with
   |zero=>rfl
   |succ n b=>rw[qU,b oM,M.sum,vJ g oM]
  rw[Cc,this _ (wF)];rfl
 |m+1=>by
  have:=TS g m;rw[<-Eo,qU,this,yo,M.sum,Eo]
def EG g:xR g (g.nr+g.nb)=M.ops g:=TS g g.nb
def TT{g}{P:uh->Prop}:(∀p,p<g.nr+g.nb->P (nd g p))↔(∀i,i<g.nr->P (g.a i))/\∀i,i<g.nb->P (g.d i):=by
 constructor
 ·intro h;exact⟨λi b=>vJ g b▸h i oM,λi b=>yo g i▸h (g.nr+i) oM⟩
 rintro⟨c,e⟩ p f;unfold nd;split
 ·exact c p oM
 exact e _ oM
def TU g:¬Nw g↔g.nr<=100/\g.nb<=100/\M.ops g<=2000/\(∀i,i<g.nr->(g.a i).nl<=32)/\∀i,i<g.nb->(g.d i).nl<=32:=by
 have k:=TT (g:=g) (P:=λd=>d.nl<=32);unfold Nw;constructor
 ·intro h;have f:=Nat.le_of_not_lt λq=>h (.inl q)
  have j:g.nb<=100:=Nat.le_of_not_lt λq=>h (.inr (.inl q))
  have c:∀p,p<g.nr+g.nb->¬(2000<xR g (p+1)\/32<(nd g p).nl):=λp b q=>h (.inr (.inr ⟨p,b,q⟩))
  refine⟨f,j,?_,k.1 λp b=>Nat.le_of_not_lt λq=>c p b (.inr q)⟩;rw[<-EG];by_cases e:g.nr+g.nb=0
  ·rw[e];exact wP
  have:=c (g.nr+g.nb-1) oM;rw[show g.nr+g.nb-1+1=g.nr+g.nb by omega]at this;omega
 rintro⟨f,j,c,l⟩ (q|q|⟨p,b,q|q⟩)
 ·omega
 ·omega
 ·have:=M.dV (λi=>(nd g i).bl) (show p+1<=g.nr+g.nb by omega);have e:M.sum (λi=>(nd g i).bl) (g.nr+g.nb)=M.ops g:=EG g;have m:M.sum (λi=>(nd g i).bl) (p+1)=xR g (p+1):=rfl;omega
 have:=k.2 l p b;omega
def EH g i:yw g (g.nr+g.nb) i↔(∃j,j<g.nr/\M.bO (g.a j).bl (g.a j).e i)\/∃j,j<g.nb/\M.bO (g.d j).bl (g.d j).e i:=by
 constructor
 ·rintro⟨q,c,h⟩;by_cases e:q<g.nr
  ·rw[vJ g e]at h;exact .inl ⟨q,e,h⟩
  obtain⟨m,rfl⟩:∃m,q=g.nr+m:=⟨q-g.nr,oM⟩;rw[yo]at h;exact .inr ⟨m,oM,h⟩
 rintro (⟨j,b,h⟩|⟨j,b,h⟩)
 ·exact⟨j,oM,by rw[vJ g b];exact h⟩
 exact⟨g.nr+j,oM,by rw[yo];exact h⟩
def xZ g:M.Valid g↔0<g.nr/\¬Nw g/\Uy g/\qh g/\Uw g:=by
 rw[TU];constructor
 ·intro h;refine⟨h.r1,⟨h.r2,h.l2,h.ol,λi a=>(h.rn i a).1,λi a=>(h.ln i a).1⟩,⟨λi a=>⟨(h.rn i a).2,h.ru i a⟩,λi a=>⟨(h.ln i a).2,h.la i a⟩⟩,
   ⟨h.rb,λi a=>⟨h.lb i a,h.lz i a⟩⟩,λi a b=>(EH g i).2 (h.lt i a b)⟩
 rintro⟨f,⟨k,l,m,n,o⟩,⟨d,e⟩,⟨p,c⟩,j⟩;exact { r1:=f,r2:=k,l2:=l,rn:=λi a=>⟨n i a,(d i a).1⟩,ru:=λi a=>(d i a).2,ln:=λi a=>⟨o i a,(e i a).1⟩,la:=λi a=>(e i a).2,rb:=p,lb:=λi a=>(c i a).1,lz:=λi a=>(c i a).2,lt:=λi a b=>(EH g i).1 (j i a b),ol:=m }
def urx g(h:qh g):BA g:=by
 have l:∀p,p<g.nr+g.nb->∀i,i<(nd g p).bl->M.bE g.nr g.nb ((nd g p).e i):=by
  refine TT (P:=λd=>∀i,i<d.bl->M.bE g.nr g.nb (d.e i)) |>.2 ⟨λi a=>(h.1 i a).1,λi a=>?_⟩;cases f:(g.d i).h with
  |true=>exact((h.2 i a).1 f).1
  |false=>intro j n;have:=(h.2 i a).2 f;omega
 intro p k i a b;have c:=l p k i a;generalize (nd g p).e i=d at c b ⊢;obtain⟨kd,o,S,m⟩:=d;simp only at b;subst b;have:=(Tp).1 c;exact⟨this.1,this.2.1⟩
def Flat.q{w W ra la g rb b lb lo}{na ba:Nat->Option Addr}{nc bc}(h:Flat w ra la g rb b lb lo na ba nc bc)(k:Bw w W):Flat W ra la g rb b lb lo na ba nc bc :=
 ⟨h.ra,h.la,λi a=>ue (h.r0 i a) k,λi a=>ue (h.r1 i a) k,λi a=>ue (h.l0 i a) k,λi a=>ue (h.l1 i a) k,λi a=>ue (h.l2 i a) k⟩
def Bq.a{Q w a n R}(h:Bq Q w a n R):∃b off,(0<n->a=some (Ad b off))/\∀i,i<n->Ch Q w b (off+i*2) (R i):=by
 rcases h with h|⟨b,off,e,_,h⟩
 ·exact⟨0,0,λq=>oM,λi c=>oM⟩
 exact⟨b,off,λ_=>e,h⟩
def Da.a{Q w a n R}(h:Da Q w a n R):∃b off,(0<n->a=some (Ad b off))/\∀i,i<n->Ea Q w b (off+i*3) (R i):=by
 rcases h with h|⟨b,off,e,_,h⟩
 ·exact⟨0,0,λq=>oM,λi c=>oM⟩
 exact⟨b,off,λ_=>e,h⟩
def EI{Q w ra la g}(h:Bl Q w ra la g):∃rb j lb lo na ba nc bc,Flat w ra la g rb j lb lo na ba nc bc/\∀p,p<g.nr+g.nb->wT Q w (ba p) (nd g p).bl (nd g p).e:=by
 obtain⟨rb,j,y,A⟩:=h.a.a;obtain⟨lb,lo,v,t⟩:=h.c.a;obtain⟨f,d⟩:=Deep.choose_lt (α:=(Option Addr×Nat)×(Option Addr×Nat)) (n:=g.nr+g.nb) (p:=λp x =>
   (p<g.nr->w.cell? (Ad rb (j+p*2))=some (Sl x.1.1 (nd g p).nl x.1.2)/\w.cell? (Ad rb (j+p*2+1))=some (Sl x.2.1 (nd g p).bl x.2.2)) /\
   (∀m,p=g.nr+m->w.cell? (Ad lb (lo+m*3))=some (Sl x.1.1 (nd g p).nl x.1.2)/\w.cell? (Ad lb (lo+m*3+2))=some (Sl x.2.1 (nd g p).bl x.2.2)) /\
   wT Q w x.2.1 (nd g p).bl (nd g p).e) (λp u=>by
  by_cases e:p<g.nr
  ·obtain⟨⟨a,c,o,_⟩,⟨k,l,r,s⟩⟩:=A p e;rw[vJ g e];exact⟨⟨(a,c),(k,l)⟩,λ_=>⟨o,r⟩,λm z=>oM,s⟩
  obtain⟨m,rfl⟩:∃m,p=g.nr+m:=⟨p-g.nr,oM⟩;obtain⟨⟨a,c,o,_⟩,_,⟨k,l,r,s⟩⟩:=t m oM;rw[yo];refine⟨⟨(a,c),(k,l)⟩,λq=>oM,λB z=>?_,s⟩;obtain rfl:m=B:=oM;exact⟨o,r⟩)
 refine⟨rb,j,lb,lo,λp=>(f p).1.1,λp=>(f p).2.1,λp=>(f p).1.2,λp=>(f p).2.2,⟨y,v,λi b=>((d i oM).1 b).1,λi b=>((d i oM).1 b).2,
  λi b=>((d (g.nr+i) oM).2.1 i rfl).1,λi b=>(t i b).h,λi b=>((d (g.nr+i) oM).2.1 i rfl).2⟩,λp u=>(d p u).2.2⟩
def qH Q ra la rc lc g w(b:Bl Q w ra la g)(d:yg g) :
  Cs 101 #[.agg #[Sl ra g.nr rc,Sl la g.nb lc]] w (yz (Nw g) w):=by
 obtain⟨rb,e,lb,lo,na,ba,nc,bc,a,_⟩:=EI b;exact callsIn_wide.1 (yl ra la rc lc g rb e lb lo na ba nc bc w d (λW c=>a.q c))
def ucJ Q ra la rc lc g w(c:Bl Q w ra la g)(f:yg g)(a:BA g)(h:xR g (g.nr+g.nb)<=2000) :
  Cs 132 #[.agg #[Sl ra g.nr rc,Sl la g.nb lc]] w (yz (Uw g) w):=by
 obtain⟨rb,i,lb,lo,na,ba,nc,bc,b,d⟩:=EI c;exact callsIn_wide.1 (X3 Q ra la rc lc g rb i lb lo na ba nc bc w f (λW e=>b.q e) d a h)
def jy Q ra la rc lc g w(z:Bl Q w ra la g)(n:yg g) :
  Cs 102 #[.agg #[Sl ra g.nr rc,Sl la g.nb lc]] w (yz (M.Valid g) w):=by
 have j:=ua z;have H:=n.nr;have I:=n.nb;have k:=ua n;have x:∀W,Below (w.alloc (Oc #[Sl ra g.nr rc,Sl la g.nb lc] 37)).heap.size (w.alloc (Oc #[Sl ra g.nr rc,Sl la g.nb lc] 37)) W->W.cell? (Ad w.heap.size 0)=some (Sl ra g.nr rc)/\W.cell? (Ad w.heap.size 1)=some (Sl la g.nb lc):=λW p =>
  ⟨ue (xp w _ _ 37).1 p,ue (xp w _ _ 37).2 p⟩
 have m:=ua x;by_cases y:g.nr=0
 ·have A:¬(0:Int)<(g.nr:Int):=oM;go_enter func102,ntmps102;go_wp2;go_ret;exact⟨⟨false,rfl,vh λq=>by have:=q.r1;omega⟩,wG w⟩
 have A:(0:Int)<(g.nr:Int):=oM;have u:=ua (show 0<g.nr by omega);go_enter func102,ntmps102;go_wp2_with fail;refine(qH Q ra la rc lc g _ (j.q (wG w)) k).mono ?_;rintro e W ⟨⟨r,rfl,b⟩,a⟩;obtain⟨B,C⟩:=m W a;have i:=ua b;have f:=ua a;clear b a y;cases r
 case true =>
  have E:=ua (i.o.1 rfl);clear i;go_wp2;go_ret;exact⟨⟨false,rfl,vh λq=>((xZ g).1 q).2.1 E.o⟩,uf (wG w) f⟩
 have o:=ua (show ¬Nw g from λq=>nomatch i.o.2 q);clear i;go_wp2_with fail;refine(X7 Q ra la rc lc g _ (j.q (uf (wG w) f)) k).mono ?_;rintro e W2 ⟨⟨r,rfl,b⟩,a⟩;obtain⟨D,y1⟩:=m W2 (uf f a);have d:=ua b;have h:=ua (uf f.o a);clear b a B C;cases r
 case false =>
  have E:=ua (show ¬Uy g from λq=>nomatch d.o.2 q);clear d;go_wp2;go_ret;exact⟨⟨false,rfl,vh λq=>E.o ((xZ g).1 q).2.2.1⟩,uf (wG w) h⟩
 replace d:=ua (d.o.1 rfl);go_wp2_with fail;refine(VK Q ra la rc lc g _ (j.q (uf (wG w) h)) k).mono ?_;rintro e v ⟨⟨r,rfl,b⟩,a⟩;obtain⟨F,G⟩:=m v (uf h a);have c:=ua b;have l:=ua (uf h.o a);clear b a D y1;cases r
 case false =>
  have E:=ua (show ¬qh g from λq=>nomatch c.o.2 q);clear c;go_wp2;go_ret;exact⟨⟨false,rfl,vh λq=>E.o ((xZ g).1 q).2.2.2.1⟩,uf (wG w) l⟩
 replace c:=ua (c.o.1 rfl);go_wp2_with fail;refine(ucJ Q ra la rc lc g _ (j.q (uf (wG w) l)) k (urx g c.o) (by rw[EG];exact((TU g).1 o.o).2.2.1)).mono ?_;rintro e W4 ⟨⟨r,rfl,b⟩,a⟩;have t:=ua b;have s:=ua (uf l.o a);clear b a F G;go_wp2;go_ret;exact⟨⟨_,rfl,t.o.trans ⟨λq=>(xZ g).2 ⟨u.o,o.o,d.o,c.o,q⟩,λq=>((xZ g).1 q).2.2.2.2⟩⟩,uf (wG w) s⟩
def vY{P:Program}{ι:Type}(F:ι->World){id:Nat}{Q:Exit->Act->World->Prop}{a:Act}{w}{l:List Oper}(e:P.follows .mixedOrders=true)(c:Region.lexB .any l.toArray=true)(d:∃n,w.drew=F n)(h:wpQuiet P l.toArray (λw'=>∃n,w'=F n) (λb=>∀w',(∃n,w'=F n)->Q .normal b w') l a):(Code.region id l.toArray true).wp P Q a w :=
 wp_region_quiet (C:=λw'=>∃n,w'=F n) e c d (by simpa using h)
def Wi w:∃(ι:Type) (_:Nonempty ι) (F:ι->World),(∀n,Bw w (F n))/\∀W,Bw w W->∃n,W=F n :=
 ⟨{W:Wl // Bw w W},⟨⟨w,wI w⟩⟩,Subtype.val,λn=>n.2,λW h=>⟨⟨W,h⟩,rfl⟩⟩
def Qb{P:Prop}{ι:Type}{F:ι->World}{w}{f:FuncId}{args:Av}{n:ι}(g:Bw w (F n))(i:∀W,Bw w W->∃n,W=F n){r:Bool}(b:r=true↔P)(h:Cs f args (F n) (yz P (F n))):Cs f args (F n) λe j=>e=Rt (.bool r)/\∃m,j=F m :=
 h.mono λe W q=>by
  obtain⟨⟨c,rfl,a⟩,d⟩:=q;have:c=r:=by
   cases r<;>cases c<;>first|rfl|exact aB (b.2 (a.1 rfl)) dC|exact aB (a.2 (b.1 rfl)) dC
  exact⟨by rw[this],i W (uf g d)⟩
def DO(g:Gr)(i:Nat):Prop:=M.cE (g.a i).nl (g.a i).f/\M.bF g.nr g.nb (g.a i).bl (g.a i).e/\∀j,j<i->¬M.cQ (g.a i) (g.a j)
def SP(g:Gr)(i:Nat):Prop:=(∃j,j<g.nr/\M.bO (g.a j).bl (g.a j).e i)\/∃j,j<g.nb/\M.bO (g.d j).bl (g.d j).e i
def DP(g:Gr)(i:Nat):Prop:=M.cE (g.d i).nl (g.d i).f/\(0<i->M.cS (g.d (i-1)) (g.d i)) /\
 ((g.d i).h=true->M.bF g.nr g.nb (g.d i).bl (g.d i).e)/\((g.d i).h=false->SP g i/\(g.d i).bl=0)
def ujz g:M.Valid g↔0<g.nr/\g.nr<=100/\g.nb<=100/\(∀i,i<g.nr->DO g i)/\(∀i,i<g.nb->DP g i)/\M.ops g<=2000:=by
 constructor
 ·intro h;exact⟨h.r1,h.r2,h.l2,λi a=>⟨h.rn i a,h.rb i a,h.ru i a⟩,λi a=>⟨h.ln i a,h.la i a,h.lb i a,λq=>⟨h.lt i a q,h.lz i a q⟩⟩,h.ol⟩
 rintro⟨d,e,f,c,b,j⟩;exact { r1:=d,r2:=e,l2:=f,rn:=λi a=>(c i a).1,ru:=λi a=>(c i a).2.2,ln:=λi a=>(b i a).1,la:=λi a=>(b i a).2.1,rb:=λi a=>(c i a).2.1,lb:=λi a=>(b i a).2.2.1,lz:=λi a q=>((b i a).2.2.2 q).2,lt:=λi a q=>((b i a).2.2.2 q).1,ol:=j }
def Wj f N:∀n,(∀i,i<n->f i<=N)->M.sum f n<=n*N
 |0,_=>wP
 |n+1,h=>by
  have a:=Wj f N n (λi c=>h i oM);have b:=h n oM;rw[M.sum,Gx];omega
def urj(W1:Wl)(g:Gr)(o i:Vl)(wr:Wl):Prop :=
 ∃k:Nat,k<=g.nr/\o=Iv ((M.sum (λi=>(g.a i).bl) k:Nat):Int)/\i=Iv (k:Int)/\Bw W1 wr/\∀j,j<k->DO g j
def uvk(V:Wl)(g:Gr)(k:Nat)(j:Vl)(wr:Wl):Prop :=
 ∃m d:Nat,m<=k/\j=Iv (m:Int)/\wr=V.drewN d/\∀t,t<m->¬M.cQ (g.a k) (g.a t)
def utM(W1:Wl)(g:Gr)(o i:Vl)(wr:Wl):Prop :=
 ∃k:Nat,k<=g.nb/\o=Iv ((M.sum (λi=>(g.a i).bl) g.nr+M.sum (λi=>(g.d i).bl) k:Nat):Int)/\i=Iv (k:Int)/\Bw W1 wr/\∀j,j<k->DP g j
def SQ(V:Wl)(n:Nat)(p:Np)(a:Prop)(t j:Vl)(wr:Wl):Prop :=
 ∃(m:Nat) (b:Bool),m<=n/\j=Iv (m:Int)/\t=.bool b/\wr=V/\(b=true↔a\/∃q,q<m/\p q)
def DQ{p:Np}{m:Nat}:(∃q,q<m+1/\p q)↔(∃q,q<m/\p q)\/p m:=by
 constructor
 ·rintro⟨q,a,h⟩;by_cases e:q=m
  ·subst e;exact .inr h
  exact .inl ⟨q,oM,h⟩
 rintro (⟨q,a,h⟩|h)
 ·exact⟨q,oM,h⟩
 exact⟨m,oM,h⟩
def Wk{p:Np}{P:Prop}{m:Nat}{r}(h:false=true↔P\/∃q,q<m/\p q)(k:r=true↔p m):r=true↔P\/∃q,q<m+1/\p q:=by
 rw[DQ,k];exact⟨λh=>.inr (.inr h),λq=>q.elim (λa=>aB (h.2 (.inl a)) dC) λq=>q.elim (λa=>aB (h.2 (.inr a)) dC) id⟩
def SR Q ra la rc lc g w(hG:Bl Q w ra la g)(hs:yg g) :
  Cs 33 #[.agg #[Sl ra g.nr rc,Sl la g.nb lc]] w (yz (M.Valid g) w):=by
 have h1:=hs.nr;have h2:=hs.nb;by_cases n1:g.nr<1
 ·have t1:(g.nr:Int)<1:=oM;go_enter func33,ntmps33;go_wp2;go_ret;exact⟨⟨false,rfl,vh λq=>by have:=q.r1;omega⟩,wG w⟩
 have t1:¬(g.nr:Int)<1:=oM;by_cases n2:100<g.nr
 ·have t2:(100:Int)<(g.nr:Int):=oM;go_enter func33,ntmps33;go_wp2;go_ret;exact⟨⟨false,rfl,vh λq=>by have:=q.r2;omega⟩,wG w⟩
 have t2:¬(100:Int)<(g.nr:Int):=oM;by_cases n3:100<g.nb
 ·have t3:(100:Int)<(g.nb:Int):=oM;go_enter func33,ntmps33;go_wp2;go_ret;exact⟨⟨false,rfl,vh λq=>by have:=q.l2;omega⟩,wG w⟩
 have t3:¬(100:Int)<(g.nb:Int):=oM;have HR:=ua hG.a;have HL:=ua hG.c;have S1:=ua hs.a;have N:=ua hs.d;go_enter func33,ntmps33;go_wp2;go_loopw [3,4] (λo i wr=>urj (w.alloc (Oc #[Sl ra g.nr rc,Sl la g.nb lc] 37)) g o i wr) (λo i _=>g.nr-(intOf i).toNat)
 ·exact⟨0,wP,rfl,rfl,wI _,λj hj=>aB hj Ct⟩
 obtain⟨k,hk,rfl,rfl,u,R⟩:=hrel;have HA:Hid (∀j,j<k->DO g j):=R;have S:=uf (wG w) u;have g0:wr.cell? (Ad w.heap.size 0)=some (Sl ra g.nr rc):=ue sM u;have g1:wr.cell? (Ad w.heap.size 1)=some (Sl la g.nb lc):=ue sM u;have a9:w.heap.size<wr.heap.size:=by have:=u.size;simp at this;omega
 by_cases v:k<g.nr
 ·have hlt':(k:Int)<(g.nr:Int):=oM;have B:=HR.q S;rcases B with h0|⟨b,off,rfl,hq,B⟩
  ·omega
  obtain⟨⟨na,nc,P,hn⟩,⟨ba,bc,c1,hb⟩⟩:=B k v;have bg:=ud P;have bj:M.sum (λi=>(g.a i).bl) k<=k*1048576:=Wj _ _ _ (λi hi=>(S1.o i oM).e.1);have bm:M.sum (λi=>(g.a i).bl) k<=104857600:=by have:k*1048576<=100*1048576:=Lm _ oM;omega
  have bf:=(S1 k v).e.1;have ab:Hid (M.sum (λi=>(g.a i).bl) (k+1)=M.sum (λi=>(g.a i).bl) k+(g.a k).bl):=rfl;generalize M.sum (λi=>(g.a i).bl) k=so at bm ab bj ⊢;have Y:=ua S;have al:Hid (Below (w.alloc (Oc #[Sl (Sm b off) g.nr rc,Sl la g.nb lc] 37)).heap.size (w.alloc (Oc #[Sl (Sm b off) g.nr rc,Sl la g.nb lc] 37)) wr):=u;have HO:=ua hb;have A:=ua hn;have bd:=ua B;have SB:=S1 k v;have s:=ua SB;clear B S u hn hb SB;obtain⟨ι,bw,F,hF,ay⟩:=Wi wr;have f0:∀n,(F n).cell? (Ad w.heap.size 0)=some (Sl (Sm b off) g.nr rc):=λn=>ue g0 (hF n)
  have f1:∀n,(F n).cell? (Ad w.heap.size 1)=some (Sl la g.nb lc):=λn=>ue g1 (hF n)
  have f2:∀n,(F n).cell? (Ad b (off+k*2))=some (Sl na (g.a k).nl nc):=λn=>ue P (hF n)
  have f3:∀n,(F n).cell? (Ad b (off+k*2+1))=some (Sl ba (g.a k).bl bc):=λn=>ue c1 (hF n)
  have H:=ua (ay _ (wI wr).drew);have x:=ua hF;have HF':=ua ay;clear hF ay;by_cases E:M.cE (g.a k).nl (g.a k).f
  ·have y:Hid (M.cE (g.a k).nl (g.a k).f):=E;clear E;by_cases D:M.bF g.nr g.nb (g.a k).bl (g.a k).e
   ·have z:Hid (M.bF g.nr g.nb (g.a k).bl (g.a k).e):=D;clear D;go_wp2_with fail;refine vY F rR rR H ?_;repeat (go_big_quiet_step (first|(go_at_call 61;exact Qb (x _) HF' (jS y) ((kC Q na (g.a k).nl nc (g.a k).f _ (A.q (x _)) s.j s.f).mono (λe W q=>q.b)))|(go_at_call 62;exact Qb (x _) HF' (jS z) (xK Q ba g.nr g.nb (g.a k).bl bc (g.a k).e _ (HO.q (x _)) h1 h2 s.e))))
    refine wpQuiet_nil ?_;rintro _ ⟨nq,rfl⟩;obtain⟨V,hV⟩:=nm (F nq);have bV:=hV▸x nq;rw[hV];clear hV f0 f1 f2 f3 H x HF' nq;have v0:=ue g0 bV;have v2:=ue P bV;have C:Hid (Bw wr V):=bV;have a7:∀n,(convert 22 9 (Sl na (g.a k).nl nc)).run prog (V.drewN n)=.ok (.string (str (g.a k).nl (g.a k).f)) (V.drewN n):=λn=>vX Q na (g.a k).nl nc (g.a k).f _ (A.q (zB bV n))
    have a5:Hid ((str (g.a k).nl (g.a k).f).toList=Cf (g.a k).nl (g.a k).f):=qF _ _;generalize str (g.a k).nl (g.a k).f=s1 at a7 a5;clear bV g0 g1 P c1;go_wp2;go_loopw [5] (λj U=>uvk V g k j U) (λj _=>k-(intOf j).toNat)
    ·exact⟨0,0,wP,rfl,rfl,λt ht=>aB ht Ct⟩
    obtain⟨m,d,hm,rfl,rfl,R⟩:=hrel;have HM:Hid (∀t,t<m->¬M.cQ (g.a k) (g.a t)):=R;clear R;by_cases bh:m<k
    ·have hmk':(m:Int)<(k:Int):=oM;have br:(m:Int)<(g.nr:Int):=oM;obtain⟨⟨G,J,d0,ae⟩,_⟩:=bd m oM;have v3:=ue d0 C;have hcv':∀n,(convert 22 9 (Sl G (g.a m).nl J)).run prog (V.drewN n)=.ok (.string (str (g.a m).nl (g.a m).f)) (V.drewN n):=λn=>vX Q G (g.a m).nl J (g.a m).f _ (ae.q (zB C n))
     have a6:Hid ((str (g.a m).nl (g.a m).f).toList=Cf (g.a m).nl (g.a m).f):=qF _ _;generalize str (g.a m).nl (g.a m).f=s2 at hcv' a6;have a3:Hid ((s1.toList=s2.toList)↔M.cQ (g.a k) (g.a m)):=by
      show _↔_;rw[a5.o,a6.o];exact BB s.j (S1 m oM).j
     have bq:∀n,(convert 22 9 (Sl na (g.a k).nl nc)).run prog ((V.drewN d).drewN n)=.ok (.string s1) ((V.drewN d).drewN n):=λn=>by rw[Nc];exact a7 _
     have hcw':∀n,(convert 22 9 (Sl G (g.a m).nl J)).run prog ((V.drewN d).drewN n)=.ok (.string s2) ((V.drewN d).drewN n):=λn=>by rw[Nc];exact hcv' _
     clear ae d0;by_cases es:s1.toList=s2.toList
     ·have fe:(s1.toList==s2.toList)=true:=(by simp[es]);have ap:=ua es;clear es;go_wp2_with fail;go_quiet (fail);go_wp2;go_ret;exact⟨⟨false,rfl,vh λq=>q.ru k v m bh (a3.1 ap)⟩,by first|exact zB (uf Y C) _|exact zB (zB (uf Y C) _) _⟩
     have fe:(s1.toList==s2.toList)=false:=(by simp[es]);have ap:=ua es;clear es;go_wp2_with fail;go_quiet (fail);go_wp2;go_roundw
     ·exact⟨m+1,_,oM,by go_num,rfl,vE HM (λq=>ap (a3.2 q))⟩
     simp[intOf];omega
    obtain rfl:m=k:=oM;go_wp2;go_roundw
    ·exact⟨m+1,oM,yQ (oH ab.o),by go_num,uf al.o (zB C.o _),vE HA.o ⟨y.o,z.o,HM.o⟩⟩
    simp[intOf];omega
   have z:Hid (¬M.bF g.nr g.nb (g.a k).bl (g.a k).e):=D;clear D;go_wp2_with fail;refine vY F rR rR H ?_;repeat (go_big_quiet_step (first|(go_at_call 61;exact Qb (x _) HF' (jS y) ((kC Q na (g.a k).nl nc (g.a k).f _ (A.q (x _)) s.j s.f).mono (λe W q=>q.b)))|(go_at_call 62;exact Qb (x _) HF' (vh z) (xK Q ba g.nr g.nb (g.a k).bl bc (g.a k).e _ (HO.q (x _)) h1 h2 s.e))))
   refine wpQuiet_nil ?_;rintro _ ⟨nq,rfl⟩;go_wp2;go_ret;exact⟨⟨false,rfl,vh λq=>z (q.rb k v)⟩,uf Y (x nq)⟩
  have y:Hid (¬M.cE (g.a k).nl (g.a k).f):=E;clear E;go_wp2_with fail;refine vY F rR rR H ?_;repeat (go_big_quiet_step (first|(go_at_call 61;exact Qb (x _) HF' (vh y) ((kC Q na (g.a k).nl nc (g.a k).f _ (A.q (x _)) s.j s.f).mono (λe W q=>q.b)))))
  refine wpQuiet_nil ?_;rintro _ ⟨nq,rfl⟩;go_wp2;go_ret;exact⟨⟨false,rfl,vh λq=>y (q.rn k v)⟩,uf Y (x nq)⟩
 obtain rfl:k=g.nr:=oM;obtain⟨W1,eW⟩:=nm wr;subst wr;have Y:=ua S;have HL':=ua (HL.q S);have HR':=ua (HR.q S);have bn:M.sum (λi=>(g.a i).bl) g.nr<=104857600:=by
  have h:=Wj (λi=>(g.a i).bl) 1048576 g.nr (λi hi=>(S1 i hi).e.1);have:g.nr*1048576<=100*1048576:=Lm _ oM;omega
 have av:Hid (M.ops g=M.sum (λi=>(g.a i).bl) g.nr+M.sum (λi=>(g.d i).bl) g.nb):=rfl;clear u S HL HR;go_wp2;go_loopw [3,6] (λo i U=>utM W1 g o i U) (λo i _=>g.nb-(intOf i).toNat)
 ·exact⟨0,wP,rfl,rfl,wI _,λj hj=>aB hj Ct⟩
 obtain⟨m,hm,rfl,rfl,u,R⟩:=hrel;have HM:Hid (∀j,j<m->DP g j):=R;clear R;have al:Hid (Bw W1 wr):=u;have Z:=ua (uf Y u);have e0:=ue g0 u;have e1:=ue g1 u;have bp:=wX a9 u.size;have bk:M.sum (λi=>(g.d i).bl) m<=104857600:=by
  have h:=Wj (λi=>(g.d i).bl) 1048576 m (λi hi=>(N i oM).e.1);have:m*1048576<=100*1048576:=Lm _ oM;omega
 clear g0 g1 a9;by_cases v:m<g.nb
 ·have hlt':(m:Int)<(g.nb:Int):=oM;have ab:Hid (M.sum (λi=>(g.d i).bl) (m+1)=M.sum (λi=>(g.d i).bl) m+(g.d m).bl):=rfl;have a4:=ua (HR'.q u);have hL:=HL'.q u;rcases hL with h0|⟨b,off,rfl,hq,hL⟩
  ·omega
  have aq:=ua hL;obtain⟨⟨na,nc,P,hn⟩,c1,⟨ba,bc,c2,hb⟩⟩:=hL m v;have bg:=ud P;have a8:=(N m v).f;have bf:=(N m v).e.1;have s:Hid (Qt (g.d m)):=N m v;have A:Hid (∀o d,wB Q .u8 ((wr.alloc o).drewN d) na (g.d m).nl (g.d m).f):=λo d=>hn.q (zB (uk wr o) d)
  have HO:Hid (∀o d,wT Q ((wr.alloc o).drewN d) ba (g.d m).bl (g.d m).e):=λo d=>hb.q (zB (uk wr o) d)
  have ag:Hid (∃sr,M.sum (λi=>(g.a i).bl) g.nr=sr):=⟨_,rfl⟩;obtain⟨sr,a1⟩:=ag.o;rw[a1]at bn av ⊢;clear ag;have ag:Hid (M.sum (λi=>(g.a i).bl) g.nr=sr):=a1;clear a1;generalize M.sum (λi=>(g.d i).bl) m=so at bk ab ⊢;clear hL hb hn u;by_cases E:M.cE (g.d m).nl (g.d m).f
  ·have y:Hid (M.cE (g.d m).nl (g.d m).f):=E;have aa:Hid (∀o d,Cs 61 #[Sl na (g.d m).nl nc] ((wr.alloc o).drewN d) λe w'=>e=Rt Bt/\w'=(wr.alloc o).drewN d):=λo d =>
    (kC Q na (g.d m).nl nc (g.d m).f _ (A o d) s.j a8).mono (λe W h=>by obtain⟨⟨r,rfl,l⟩,rfl⟩:=h;rw[l.2 E];exact⟨rfl,rfl⟩)
   clear E;cases hh:(g.d m).h;all_goals
    have HH:=ua hh;rw[hh]at c1;clear hh;rcases Nat.eq_zero_or_pos m with hz|hz
    focus
     have ah:Hid (0<m->M.cS (g.d (m-1)) (g.d m)):=λq=>by omega
     have fz:decide (0<m)=false:=(by simp[hz]);have fz':decide ((0:Int)<(m:Int))=false:=(by simp[hz]);have hz':¬(0<m):=oM;clear hz;go_wp2_with fail;go_quiet (first|(go_at_call 61;exact Fz (aa _ _)))
    rotate_left
    focus
     obtain⟨p,hp⟩:∃p,m=p+1:=⟨m-1,oM⟩;have HP:=ua hp;have em:(m:Int)-1=(p:Int):=oM;have bi:0<m:=oM;have hmp':(0:Int)<(m:Int):=oM;have a0:p<g.nb:=oM;have hpl':(p:Int)<(g.nb:Int):=oM;clear hz hp;obtain⟨⟨G,J,d0,ae⟩,_,_⟩:=aq p a0;have hI':∀o d,wB Q .u8 ((wr.alloc o).drewN d) G (g.d p).nl (g.d p).f:=λo d=>ae.q (zB (uk wr o) d)
     by_cases I:M.cS (g.d (m-1)) (g.d m)
     rotate_left
     ·have ah:Hid (¬M.cS (g.d (m-1)) (g.d m)):=I;have H:Hid (∀o d,Cs 57 #[Sl G (g.d p).nl J,Sl na (g.d m).nl nc] ((wr.alloc o).drewN d) λe w'=>e=Rt Bf/\w'=(wr.alloc o).drewN d):=λo d =>
       (DW Q G na (g.d p).nl J (g.d m).nl nc (g.d p).f (g.d m).f _ (hI' o d) (A o d) (N p a0).j s.j).mono (λe W h=>by
        obtain⟨⟨r,rfl,l⟩,rfl⟩:=h;rw[show m-1=p by have:=HP.o;omega]at I;obtain rfl:r=false:=(by { cases r;rfl;exact aB (l.1 rfl) I });exact⟨rfl,rfl⟩)
      clear ae hI' I;go_wp2_with fail;go_quiet (first|(go_at_call 61;exact Fz (aa _ _))|(go_at_call 57;exact Fz (H _ _)));go_wp2;go_ret;exact⟨⟨false,rfl,vh λq=>ah (q.la m v bi)⟩,uf Z (zB (wG wr) _)⟩
     have ah:Hid (0<m->M.cS (g.d (m-1)) (g.d m)):=λ_=>I
     have H:Hid (∀o d,Cs 57 #[Sl G (g.d p).nl J,Sl na (g.d m).nl nc] ((wr.alloc o).drewN d) λe w'=>e=Rt Bt/\w'=(wr.alloc o).drewN d):=λo d =>
      (DW Q G na (g.d p).nl J (g.d m).nl nc (g.d p).f (g.d m).f _ (hI' o d) (A o d) (N p a0).j s.j).mono (λe W h=>by
       obtain⟨⟨r,rfl,l⟩,rfl⟩:=h;rw[show m-1=p by have:=HP.o;omega]at I;rw[l.2 I];exact⟨rfl,rfl⟩)
     clear ae hI' I;go_wp2_with fail;go_quiet (first|(go_at_call 61;exact Fz (aa _ _))|(go_at_call 57;exact Fz (H _ _)))
    rotate_left
   iterate 2
    focus
     obtain⟨O,ai⟩:=nm ((wr.alloc (Oc #[Sl na (g.d m).nl nc,Bf,Sl ba (g.d m).bl bc] 50)).drewN nq);have ac:=ai▸zB (wG wr) _;have v3:O.cell? (Ad wr.heap.size 1)=some Bf:=(by rw[<-ai];simp);have v2:O.cell? (Ad wr.heap.size 2)=some (Sl ba (g.d m).bl bc):=(by rw[<-ai];simp);have v0:=ue e0 ac;have v1:=ue e1 ac;rw[ai];have C:Hid (Bw wr O):=ac;have be:=ua (a4.q ac);have bb:Hid (∀i,i<g.nb->Ea Q O b (off+i*3) (g.d i)):=λi hi=>(aq i hi).q ac
     clear ai ac P c1 c2 e0 e1 A HO aa aq a4;go_wp2;go_loopw [8,9] (λt j U=>SQ O g.nr (λq=>M.bO (g.a q).bl (g.a q).e m) False t j U) (λt j _=>g.nr-(intOf j).toNat)
     ·exact⟨0,false,wP,rfl,rfl,rfl,vh (λq=>q.elim id (λ⟨_,h,_⟩=>aB h Ct))⟩
     obtain⟨q,bt,hq,rfl,rfl,a2,am⟩:=hrel;subst a2;by_cases ak:q<g.nr
     ·have hqn':(q:Int)<(g.nr:Int):=oM;have B:=be;rcases B with h0|⟨rb,ro,rfl,_,B⟩
      ·omega
      obtain⟨_,⟨aw,ax,d1,aj⟩⟩:=B q ak;have au:=ua aj;have af:=ua am;have az:=(S1 q ak).e.1;clear B aj am;cases bt with
      |true =>
       go_wp2;go_roundw
       ·exact⟨q+1,true,oM,by go_num,rfl,rfl,jS (by rw[DQ];exact(af.1 rfl).imp id .inl)⟩
       simp[intOf];omega
      |false =>
       go_wp2_with (go_at_call 63;refine(FI Q aw (g.a q).bl ax m (g.a q).e _ au az).mono ?_;rintro e W ⟨⟨r,rfl,l⟩,T⟩;subst W;have HT:=ua l;clear l);go_roundw
       ·first|exact⟨q+1,r,oM,by go_num,rfl,rfl,Wk af.o HT.o⟩|((repeat apply Exists.intro);exact⟨⟨q+1,r,oM,by go_num,rfl,rfl,Wk af.o HT.o⟩,rfl⟩)
       simp[intOf];omega
     obtain rfl:q=g.nr:=oM;have af:=ua am;obtain⟨O,bo⟩:=nm wr;subst wr;clear am;go_wp2;go_loopw [8,10] (λt j U=>SQ O g.nb (λq=>M.bO (g.d q).bl (g.d q).e m) (∃t,t<g.nr/\M.bO (g.a t).bl (g.a t).e m) t j U) (λt j _=>g.nb-(intOf j).toNat)
     ·exact⟨0,bt,wP,rfl,rfl,rfl,af.trans ⟨λh=>h.elim False.elim .inl,λh=>h.elim .inr (λ⟨_,h,_⟩=>aB h Ct)⟩⟩
     obtain⟨q,bu,hq,rfl,rfl,a2,an⟩:=hrel;subst a2;by_cases ak:q<g.nb
     ·have hqn':(q:Int)<(g.nb:Int):=oM;obtain⟨_,_,⟨aw,ax,d1,aj⟩⟩:=bb q ak;have au:=ua aj;have X:=ua an;have az:=(N q ak).e.1;clear aj an;cases bu with
      |true =>
       go_wp2;go_roundw
       ·exact⟨q+1,true,oM,by go_num,rfl,rfl,jS (by rw[DQ];exact(X.1 rfl).imp id .inl)⟩
       simp[intOf];omega
      |false =>
       go_wp2_with (go_at_call 63;refine(FI Q aw (g.d q).bl ax m (g.d q).e _ au az).mono ?_;rintro e W ⟨⟨r,rfl,l⟩,T⟩;subst W;have HT:=ua l;clear l);go_roundw
       ·first|exact⟨q+1,r,oM,by go_num,rfl,rfl,Wk X.o HT.o⟩|((repeat apply Exists.intro);exact⟨⟨q+1,r,oM,by go_num,rfl,rfl,Wk X.o HT.o⟩,rfl⟩)
       simp[intOf];omega
     obtain rfl:q=g.nb:=oM;have X:Hid (bu=true↔SP g m):=an;clear an;cases bu with
     |false =>
      go_wp2;go_ret;exact⟨⟨false,rfl,vh λq=>aB (X.2 (q.lt m v HH)) dC⟩,uf Z C⟩
     |true =>
      by_cases ad:(g.d m).bl=0
      ·have ao:Hid ((g.d m).bl=0):=ad;have fz:(((g.d m).bl:Int) != 0)=false:=(by simp[ad]);clear ad;go_wp2;go_roundw
       ·exact⟨m+1,oM,yQ (oG ab.o ag.o),by go_num,uf al.o C.o,vE HM.o ⟨y.o,ah.o,λq=>aB (HH.o.symm.trans q) dC,λ_=>⟨X.o.1 rfl,ao.o⟩⟩⟩
       simp[intOf];omega
      have ao:Hid (¬(g.d m).bl=0):=ad;have fz:(((g.d m).bl:Int) != 0)=true:=(by simp[ad]);clear ad;go_wp2;go_ret;exact⟨⟨false,rfl,vh λq=>ao (q.lz m v HH)⟩,uf Z C⟩
   all_goals
    by_cases D:M.bF g.nr g.nb (g.d m).bl (g.d m).e
    ·have z:Hid (M.bF g.nr g.nb (g.d m).bl (g.d m).e):=D;clear D;go_wp2_with (go_at_call 62;refine(xK Q ba g.nr g.nb (g.d m).bl bc (g.d m).e _ (HO _ _) h1 h2 s.e).mono ?_;rintro e W ⟨⟨r,rfl,l⟩,T⟩;obtain rfl:r=true:=l.2 z;have HW:Hid _:=T;clear l T);go_roundw
     ·exact⟨m+1,oM,yQ (oG ab.o ag.o),by go_num,uf al.o (uf (zB (wG wr) _) HW.o),vE HM.o ⟨y.o,ah.o,λ_=>z.o,λq=>aB (HH.o.symm.trans q) dC⟩⟩
     simp[intOf];omega
    have z:Hid (¬M.bF g.nr g.nb (g.d m).bl (g.d m).e):=D;clear D;go_wp2_with (go_at_call 62;refine(xK Q ba g.nr g.nb (g.d m).bl bc (g.d m).e _ (HO _ _) h1 h2 s.e).mono ?_;rintro e W ⟨⟨r,rfl,l⟩,T⟩;obtain rfl:r=false:=by { cases r;rfl;exact aB (l.1 rfl) z };have HW:Hid _:=T;clear l T);go_ret;exact⟨⟨false,rfl,vh λq=>z (q.lb m v HH)⟩,uf Z (uf (zB (wG wr) _) HW)⟩
  have y:Hid (¬M.cE (g.d m).nl (g.d m).f):=E;have aa:Hid (∀o d,Cs 61 #[Sl na (g.d m).nl nc] ((wr.alloc o).drewN d) λe w'=>e=Rt Bf/\w'=(wr.alloc o).drewN d):=λo d =>
   (kC Q na (g.d m).nl nc (g.d m).f _ (A o d) s.j a8).mono (λe W h=>by
    obtain⟨⟨r,rfl,l⟩,rfl⟩:=h;obtain rfl:r=false:=(by { cases r;rfl;exact aB (l.1 rfl) y });exact⟨rfl,rfl⟩)
  go_wp2_with fail;go_quiet (first|(go_at_call 61;exact Fz (aa _ _)));go_wp2;go_ret;exact⟨⟨false,rfl,vh λq=>y (q.ln m v)⟩,uf Z (zB (wG wr) _)⟩
 obtain rfl:m=g.nb:=oM;go_wp2;go_ret;refine⟨⟨_,rfl,?_⟩,Z⟩;rw[ujz];simp only[decide_eq_true_eq];constructor
 ·intro q;exact⟨oM,oM,oM,HA,HM,by rw[av.o];omega⟩
 rintro⟨_,_,_,_,_,q⟩;rw[av.o]at q;omega
def DL{nr b o}(h:M.bE nr b o)(c:M.bI o):M.tg nr o<nr+b:=by
 obtain⟨_,_,_,_,d,a⟩:=h;unfold M.tg;unfold M.bM at a;rcases c with e|e
 ·rw[Zn oM];rw[Zn oM,Zp e]at a;omega
 rw[Zp e];rw[Zp e]at a;omega
def jR ra la sa nr rc g lc sc o w(d:M.bI o)(h:0<=o.f)(i:o.f<=1048576)(j:nr<=1048576) :
  Cs 65 #[.agg #[Sl ra nr rc,Sl la g lc],.agg #[Iv o.e,Sl sa o.sl sc,Iv o.f]] w λe w'=>e=Rt (Iv (M.tg nr o:Nat))/\Bw w w':=by
 by_cases b:o.e=2
 ·have c:(o.e==2)=true:=by simp[b]
  have a:Hid (¬o.e=3):=by show ¬_;omega
  go_enter func65,ntmps65;go_wp2;go_ret;exact⟨uW (by unfold M.tg;rw[Zn a.o];omega),Bn w⟩
 have c:(o.e==2)=false:=by simp[b]
 have a:Hid (o.e=3):=by rcases d with q|q;exact aB q b;exact q
 go_enter func65,ntmps65;go_wp2;go_ret;exact⟨uW (by unfold M.tg;rw[Zp a.o];omega),Bn w⟩
def SK T i j(h:i<=j):M.dep T i<=M.dep T j+(j-i:Nat):=by
 induction j with
 |zero =>
   have:i=0:=oM;subst this;simp
 |succ j a =>
  by_cases e:i=j+1
  ·subst e;simp
  have:=a oM;have b:=M.cP (T j).e;rw[M.dep];omega
def SL(w:Wl)(T:Nat->OpD)(s e:Nat)(d i:Vl)(wr:Wl):Prop :=
 ∃k:Nat,s<=k/\k<=e/\d=Iv (1-M.dep T e+M.dep T k)/\i=Iv (k:Int)/\wr=w
def SM b o n c T w Q(u:∀i,i<n->Em Q w b (o+i*3) (T i))(F:n<=1048576)e s(D:e<=n)(G:s<e)(r:M.dep T s+1=M.dep T e)(t:∀j,s<j->j<=e->M.dep T e<=M.dep T j) :
  Cs 66 #[Sl (Sm b o) n c,Iv (e:Int)] w λp w'=>p=Rt (Iv (s:Int))/\w=w':=by
 have l:=ua u;have g:=ua r;have h:=ua t;go_enter func66,ntmps66;go_wp2;go_loopw [5,6] (λd i wr=>SL w T s e d i wr) (λd i _=>(intOf i).toNat)
 ·exact⟨e,oM,wF,yQ oM,rfl,rfl⟩
 obtain⟨k,E,a,rfl,rfl,rfl⟩:=hrel;by_cases v:s<k
 ·have B:=h k v a;have C:=SK T k e a;obtain⟨q,rfl⟩:∃q,k=q+1:=⟨k-1,oM⟩;obtain⟨x,⟨sa,sc,y,H⟩,z⟩:=l q oM;have A:=M.cP (T q).e;have m:Hid (M.dep T (q+1)=M.dep T q+(1-M.ar (T q).e)):=rfl;have J:(0:Int)<((q+1:Nat):Int):=oM;have f:(0:Int)<1-M.dep T e+M.dep T (q+1):=oM;have L:((q+1:Nat):Int)-1=(q:Int):=oM;have N:(q:Int)<n:=oM;go_wp2_with (go_at_call 92;refine(SZ).mono ?_;rintro e W ⟨rfl,I⟩;subst W);go_roundw
  ·exact⟨q,oM,oM,yQ (oH m.o),by first|rfl|go_num,by trivial⟩
  simp[intOf]<;>omega
 obtain rfl:k=s:=oM;have f:1-M.dep T e+M.dep T k=0:=oH g;rw[f];go_wp2;all_goals go_ret
 all_goals exact⟨rfl,rfl⟩
def zS(w:Wl)(b o n:Nat)(mk:Nat->Bool):Prop:=∀i,i<n->w.cell? (Ad b (o+i))=some (.bool (mk i))
def zS.q{w w' b o n mk}(h:zS w b o n mk)(k:Bw w w'):zS w' b o n mk:=λi a=>ue (h i a) k
def uM(m:Nat)(h:m<=1048576):IntKind.i64.wrap (m:Int)=(m:Int):=by
 simp[IntKind.wrap,IntKind.bits,IntKind.signed];omega
def Wh(x:Bool)(w:Wl)(e:Ending)(w':Wl):Prop:=e=Rt (.bool x)/\Bw w w'
def jQ(g:Gr)(p:Nat):Prop:=(nd g p).bl=0\/M.bF g.nr g.nb (nd g p).bl (nd g p).e
def vM{g}(h:M.Valid g){p}(b:p<g.nr+g.nb):jQ g p:=by
 unfold jQ;by_cases e:p<g.nr
 ·rw[vJ g e];exact .inr (h.rb p e)
 obtain⟨i,rfl⟩:∃i,p=g.nr+i:=⟨p-g.nr,oM⟩;rw[yo];cases a:(g.d i).h with
 |true=>exact .inr (h.lb i oM a)
 |false=>exact .inl (h.lz i oM a)
def vW(g:Gr)(mk:Nat->Bool)(p:Nat):Bool:=M.cH g.nr mk (nd g p).bl (nd g p).e
def urd B n(h:M.Fed B n)(a:0<n):1<=M.dep B n:=by
 obtain⟨q,rfl⟩:∃q,n=q+1:=⟨n-1,oM⟩;have:=h q oM;rw[M.dep];omega
def DK{α}[Inhabited α](f:OpD->α->α->α)(B:Nat->OpD)(n:Nat)(h:M.dF n B):M.stk f B n=(0,M.top (M.stk f B n))::M.stk f B 0:=by
 have d:M.Fed B n:=h.1;have c:=M.bR f B n d;rw[h.2]at c;match hs:M.stk f B n with
 |[]=>rw[hs]at c;simp at c
 |[(s,x)] =>
  obtain⟨j,i,_⟩:=M.cI f B n d s x _ hs;have l2:=M.bR f B s (d.g oM);rw[<-i]at l2;have:s=0:=by
   by_cases e:s=0
   ·exact e
   have:=urd B s (d.g oM) oM;simp at l2;omega
  subst this;rfl
 |a::b::r=>rw[hs]at c;simp at c;omega
structure utI(Q:Np)(d:uh)(w:Wl)(e:Ending)(w':Wl):Prop where
 k:∃a c,e=Rt (Sl a d.bl c)/\wT Q w' a d.bl d.e/\d.bl<=c
 u:Bw w w'
def SI Q ra la rc lc g w(s:zC Q w ra la g)(x:g.nr<=100)(y:g.nb<=100)p(A:p<g.nr+g.nb) :
  Cs 37 #[.agg #[Sl ra g.nr rc,Sl la g.nb lc],Iv (p:Int)] w (utI Q (nd g p) w):=by
 by_cases e:p<g.nr
 ·rw[vJ g e];rcases s.a with t|⟨b,off,rfl,v,m⟩
  ·omega
  obtain⟨⟨_,⟨f,h,d,o⟩⟩,⟨ba,bc,j,r⟩⟩:=m p e;have n:f=ba/\h=bc:=by rw[j]at d;simp at d;exact⟨d.1.symm,d.2.symm⟩
  obtain⟨rfl,rfl⟩:=n;have k:=ua o;have u:=ud j;have l:=ua r;go_enter func37,ntmps37;go_wp2;go_ret;exact⟨⟨f,h,rfl,k.q (wG w),l⟩,wG w⟩
 obtain⟨i,rfl⟩:∃i,p=g.nr+i:=⟨p-g.nr,oM⟩;rw[yo];rcases s.c with t|⟨b,off,rfl,v,m⟩
 ·omega
 obtain⟨⟨_,_,⟨f,h,d,o⟩⟩,⟨ba,bc,j,r⟩⟩:=m i oM;have n:f=ba/\h=bc:=by rw[j]at d;simp at d;exact⟨d.1.symm,d.2.symm⟩
 obtain⟨rfl,rfl⟩:=n;have k:=ua o;have u:=ud j;have l:=ua r;have z:i<g.nb:=oM;have B:¬((g.nr+i:Nat):Int)<(g.nr:Int):=oM;have C:((g.nr+i:Nat):Int)-(g.nr:Int)=(i:Int):=oM;go_enter func37,ntmps37;go_wp2;go_ret;exact⟨⟨f,h,rfl,k.q (wG w),l⟩,wG w⟩
def SJ ra la nr rc a lc w(b:nr<=100)(c:a<=100) :
  Cs 34 #[.agg #[Sl ra nr rc,Sl la a lc]] w λe w'=>e=Rt (Iv ((nr+a:Nat):Int))/\Bw w w':=by
 go_enter func34,ntmps34;go_wp2;go_ret;exact⟨uW oM,wG w⟩
end Go.Proofs.YtoihadcablknpaaGreatDoor
