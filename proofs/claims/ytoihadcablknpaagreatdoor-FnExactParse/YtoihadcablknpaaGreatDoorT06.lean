import Derived.Test.YtoihadcablknpaaGreatDoorT04
import Derived.OwnWalkIn
import Derived.LoopNIn
import Derived.LoopIn
set_option linter.unusedVariables false
set_option linter.unusedSimpArgs false
set_option linter.defProp false
set_option maxHeartbeats 40000000
set_option maxRecDepth 100000
namespace Go.Proofs.YtoihadcablknpaaGreatDoor
open Go.RowKit
open Go.Proofs.Tryz
def MH{σ:Type}(d:Nat)(J:σ->World->Prop):Prop:=∀s A E,J s A->wA (λk=>k=d\/k=d+1) A E->J s E
def AN{σ:Type}(J:σ->World->Prop):Prop:=∀s A E,J s A->Bw A E->J s E
def Gh{σ:Type}(P:Program)(g:Nat)(lb:Av)(s0:σ)(more:σ->Prop)(b:σ->σ)(enc:σ->Array Value)(D:Np)(w:Wl):Prop :=
 ∀(l:Nat) (C:Np) (J a:σ->World->Prop) (W:Wl),w.heap.size<=W.heap.size->(∀k,D k->W.heap[k]?=w.heap[k]?)->(∀k,D k->¬C k) ->
  AN J->AN a ->
  (∀s W1,J s W1->more s->YieldAt Fence.wide 0 P l (enc s) W1 λe W' =>
   (e=Rt Bt/\J (b s) W'/\wA C W1 W')\/(e=Rt Bf/\a s W'/\wA C W1 W')) ->
  J s0 W ->
  CallsIn Fence.wide 0 P g (#[.func (.yield l) #[] #[]]++lb) W λe W'=>(∃v,e=Rt v)/\((∃s,¬more s/\J s W')\/(∃s,more s/\a s W'))
def Gh.a{σ P g lb}{s0:σ}{more i}{enc:σ->Array Value}{D w}(h:Gh P g lb s0 more i enc D w):Nv P g lb s0 more i enc D w:=by
 intro l C J x W v m n y o p t j;have d:∀{J:σ->World->Prop},Ab W.heap.size J->AN (λs A=>J s A/\W.heap.size<=A.heap.size):=λh s A E q k=>⟨h s A E q.1 (k.mono q.2),wN q.2 k.size⟩
 refine(h l C _ _ W v m n (d o) (d p) (λs W1 q u=>(t s W1 q.1 u).mono λe W' r=>?_) ⟨j,wF⟩).mono ?_
 ·rcases r with⟨r1,r2,c⟩|⟨r1,r2,c⟩
  ·exact .inl ⟨r1,⟨r2,wN q.2 c.h⟩,c⟩
  exact .inr ⟨r1,⟨r2,wN q.2 c.h⟩,c⟩
 rintro e W' ⟨f,⟨s,a,b⟩|⟨s,a,b⟩⟩
 ·exact⟨f,.inl ⟨s,a,b.1⟩⟩
 exact⟨f,.inr ⟨s,a,b.1⟩⟩
def S2{P:Program}{σ:Type}{g:Operand}{ps:Array Tmp}{assign body:Code}{Q:Exit->Act->World->Prop}{a:Act}{w:Wl}
  {gf:Nat} {lb:Av} (hg:a.eval g=.func (.func gf) #[] lb) (eg:∀args w,(callFunc gf args).run P w=.ok (.enter gf args) w)
  {s0:σ} {more:σ->Prop} {ag:σ->σ} {enc:σ->Array Value} {D:Np} (a0:Gh P gf lb s0 more ag enc D w) (ay:∀s,(enc s).size=ps.size)
  (hD:∀k,D k->k<w.heap.size)
  (C:Np) (ah:∀k,D k->¬C k) (ae:¬C w.heap.size) (af:¬C (w.heap.size+1))
  (I:σ->World->Prop) (X:Code->σ->World->Prop) (S:MH w.heap.size I) (T:∀c,MH w.heap.size (X c)) (h0:I s0 w)
  (az:∀(l:Nat) (s:σ) (W:Wl),w.heap.size<=l->l<W.heap.size->I s W->more s ->
   assign.wpIn (Fence.wide.inRound l) 0 P (Exit.then (λa₁ Y=>wA C W Y/\I s Y/\∀R,wA (λk=>k=l) Y R->R.heap.size=Y.heap.size->I s R ->
     body.wpIn (Fence.wide.inRound l) 0 P (jp C I X s (ag s) R) a₁ R) (λ_ _ _=>False))
    { tmps:=(ps.zip (enc s)).foldl (λt (p,v)=>t.setIfInBounds p v) a.tmps,defers:=[] } W)
  (ap:∀(d:Nat) (s:σ) (W:Wl),w.heap.size<=d->¬more s->I s W->W.heap[d]?=some (.deferred (some []))->Q .normal { a with defers:={ target:=.collected d,args:=#[] } :: a.defers } W)
  (a1:∀(d:Nat) (c:Code) (s:σ) (W:Wl),w.heap.size<=d->more s->X c s W->W.heap[d]?=some (.deferred (some []))->c.wpIn Fence.wide 0 P Q { a with defers:={ target:=.collected d,args:=#[] } :: a.defers } W) :
  (Code.rangeFunc g ps assign body).wpIn Fence.wide 0 P Q a w:=by
 refine wpIn_rangeFunc ?_;intro fn aq;obtain⟨j,z⟩:∃j:LoopState->Option Code->Loop,j=λst pe=>{ state:=st,pending:=pe,fn,tmps:=a.tmps,params:=ps,assign,body,defers:=w.heap.size }:=⟨_,rfl⟩
 obtain⟨W1,O⟩:=nm ((w.alloc (.deferred (some []))).alloc (.loop (j .ready none)));have a2:W1.heap.size=w.heap.size+2:=by rw[<-O];simp
 have ak:W1.heap[w.heap.size+1]?=some (.loop (j .ready none)):=by
  rw[<-O];have:=Df (w.alloc (.deferred (some []))) (.loop (j .ready none));rwa [zV]at this
 have ai:W1.heap[w.heap.size]?=some (.deferred (some [])):=by
  rw[<-O];exact(Hj sM).trans (Df w _)
 have al:Bw w W1:=by
  rw[<-O];exact((wI w).alloc wF _).alloc sM _
 have J:∀(W:Wl) (o:Obj),w.heap.size+1<W.heap.size->wA (λk=>k=w.heap.size\/k=w.heap.size+1) W (W.putObj (w.heap.size+1) o):=λW o ac=>wA.m _ _ _ (.inr rfl)
 have aj:wA (λk=>k=w.heap.size\/k=w.heap.size+1) w W1:=by rw[<-O];exact wU.c wU
 refine⟨w.heap.size+1,[{ target:=.collected w.heap.size,args:=#[] }],W1,{ target:=.fn (.func gf) lb,args:=#[.func (.yield (w.heap.size+1)) #[] #[]] },W1,gf,
  #[.func (.yield (w.heap.size + 1)) #[] #[]] ++ lb, W1, ?_, ?_, ?_, ?_, ?_, ?_⟩
 ·rw[<-O,z];exact run_enterLoop_outer _ _ _ _ _
 ·simp only[resolve,hg];simp[go_sem]
 ·intro f' _;trivial
 ·simp[invoke,go_sem,eg]
 ·intro h;simp[Fence.wide]at h
 refine(a0 (w.heap.size+1) (λk=>C k\/k=w.heap.size+1)
  (λs W=>I s W/\W.heap[w.heap.size+1]?=some (.loop (j .ready none))/\W.heap[w.heap.size]?=some (.deferred (some [])))
  (λs W=>∃c,X c s W/\W.heap[w.heap.size+1]?=some (.loop (j .done (some c)))/\W.heap[w.heap.size]?=some (.deferred (some [])))
  W1 oM (λk f=>al.block k (hD k f)) (λk f hc=>hc.elim (ah k f) (λe=>oH (hD k f)))
  (λs A E N y=>⟨S s A E N.1 (wA.i y (λk f _=>f)),(y.block _ (Cq.1 N.2.1).1).trans N.2.1,(y.block _ (Cq.1 N.2.2).1).trans N.2.2⟩)
  (λs A E N y=>by
   obtain⟨c,hc,r,f⟩:=N;exact⟨c,T c s A E hc (wA.i y (λk f _=>f)),(y.block _ (Cq.1 r).1).trans r,(y.block _ (Cq.1 f).1).trans f⟩)
  ?_ ⟨S s0 w W1 h0 aj,ak,ai⟩).mono ?_
 ·
  rintro s W ⟨U,r,f⟩ V;have ac:=(Cq.1 r).1;have hy:=run_yield (P:=P) (args:=enc s) r (by rw[z];exact ay s);rw[z]at hy;refine⟨fn,_,assign,body,hy,roundIn_of_wpIn aq (wpIn_mono (az _ s W oM ac U V) ?_)⟩;intro e a₁ B q;cases e with
  |normal =>
   obtain⟨aa,au,y⟩:=q;have aw:=(aa.d _ ac af).trans r;have an:B.heap[w.heap.size]?=some (.deferred (some [])):=(aa.d _ oM ae).trans f;have ad:w.heap.size+1<B.heap.size:=wX ac aa.h;refine⟨_,run_beginRound aw (by rw[z]),?_⟩;have av:=S s B _ au (J B (.loop { j .ready none with state:=.busy }) ad);have ax:(B.putObj (w.heap.size+1) (.loop { j .ready none with state:=.busy })).heap[w.heap.size+1]?=some (.loop { j .ready none with state:=.busy }):=World.putObj_heap_same ad;have ao:(B.putObj (w.heap.size+1) (.loop { j .ready none with state:=.busy })).heap[w.heap.size]?=some (.deferred (some [])):=(Qn oM).trans an;refine wpIn_mono (y _ (wA.m _ _ _ rfl) sM av) ?_;have Z:∀(u:Option Code) (b:Wl),wA C (B.putObj (w.heap.size+1) (.loop { j .ready none with state:=.busy })) b ->
     (Instr.endRound (w.heap.size+1) u).run P b=.ok (.bool u.isNone) (b.putObj (w.heap.size+1) (.loop (j (if u.isNone then .ready else .done) u))) /\
     w.heap.size+1<b.heap.size /\
     (b.putObj (w.heap.size+1) (.loop (j (if u.isNone then .ready else .done) u))).heap[w.heap.size+1]?=some (.loop (j (if u.isNone then .ready else .done) u)) /\
     (b.putObj (w.heap.size+1) (.loop (j (if u.isNone then .ready else .done) u))).heap[w.heap.size]?=some (.deferred (some [])):=λu b n=>by
    have x:=(n.d _ (by simpa using ad) af).trans ax;have am:=(n.d w.heap.size sO ae).trans ao;have:=run_endRound (P:=P) u x;rw[z]at this ⊢;exact⟨this,(Cq.1 x).1,World.putObj_heap_same (Cq.1 x).1,(Qn oM).trans am⟩
   have ab:∀(b:Wl) (o:Obj),wA C (B.putObj (w.heap.size+1) (.loop { j .ready none with state:=.busy })) b->wA (λk=>C k\/k=w.heap.size+1) W (b.putObj (w.heap.size+1) o):=λb o n =>
    ((aa.l λ_=>.inl).c (wA.m _ _ _ (.inr rfl))).c ((n.l λ_=>.inl).c (wA.m _ _ _ (.inr rfl)))
   rintro e a3 b q;cases e with
   |normal =>
    obtain⟨n,G⟩:=q;obtain⟨L,x,H,F⟩:=Z none b n;exact⟨_,_,L,.inl ⟨rfl,⟨S _ _ _ G (J b _ x),H,F⟩,ab b _ n⟩⟩
   |ret =>
    obtain⟨n,G⟩:=q;obtain⟨L,x,H,F⟩:=Z (some .ret) b n;exact⟨_,_,L,.inr ⟨rfl,⟨.ret,T _ _ _ _ G (J b _ x),H,F⟩,ab b _ n⟩⟩
   |exit id =>
    obtain⟨n,G⟩:=q;obtain⟨L,x,H,F⟩:=Z (some (.exit id)) b n;exact⟨_,_,L,.inr ⟨rfl,⟨.exit id,T _ _ _ _ G (J b _ x),H,F⟩,ab b _ n⟩⟩
   |goto t =>
    obtain⟨n,G⟩:=q;obtain⟨L,x,H,F⟩:=Z (some (.goto t)) b n;exact⟨_,_,L,.inr ⟨rfl,⟨.goto t,T _ _ _ _ G (J b _ x),H,F⟩,ab b _ n⟩⟩
   |panic ch=>exact q.elim
   |outgrown=>exact q.elim
  |ret=>exact q.elim
  |exit id=>exact q.elim
  |goto t=>exact q.elim
  |panic ch=>exact q.elim
  |outgrown=>exact q.elim
 rintro e W2 ⟨⟨v,rfl⟩,(⟨s,V,U,r,f⟩|⟨s,V,c,U,r,f⟩)⟩
 ·exact⟨none,_,by have:=run_endLoop (P:=P) r (by rw[z];simp);rw[z]at this;exact this,
   ap _ s _ wF V (S _ _ _ U (J W2 _ (Cq.1 r).1)) ((Qn oM).trans f)⟩
 exact⟨some c,_,by have:=run_endLoop (P:=P) r (by rw[z];simp);rw[z]at this;exact this,
  a1 _ c s _ wF V (T c _ _ _ U (J W2 _ (Cq.1 r).1)) ((Qn oM).trans f)⟩
open Go.RowKit Go.Shelf
open M (OpD uh Gr)
attribute [local go_sem] Oper.semAt_some
def nd(g:Gr)(p:Nat):uh:=if p<g.nr then g.a p else g.d (p-g.nr)
structure Flat(w:Wl)(ra la:Oa)(g:Gr)(rb ro lb lo:Nat)(na ba:Nat->Option Addr)(nc bc:Nat->Nat):Prop where
 ra:0<g.nr->ra=some (Ad rb ro)
 la:0<g.nb->la=some (Ad lb lo)
 r0:∀i,i<g.nr->w.cell? (Ad rb (ro+i*2))=some (Sl (na i) (nd g i).nl (nc i))
 r1:∀i,i<g.nr->w.cell? (Ad rb (ro+i*2+1))=some (Sl (ba i) (nd g i).bl (bc i))
 l0:∀i,i<g.nb->w.cell? (Ad lb (lo+i*3))=some (Sl (na (g.nr+i)) (nd g (g.nr+i)).nl (nc (g.nr+i)))
 l1:∀i,i<g.nb->w.cell? (Ad lb (lo+i*3+1))=some (.bool (g.d i).h)
 l2:∀i,i<g.nb->w.cell? (Ad lb (lo+i*3+2))=some (Sl (ba (g.nr+i)) (nd g (g.nr+i)).bl (bc (g.nr+i)))
def vJ g{i}(h:i<g.nr):nd g i=g.a i:=by simp[nd,h]
def yo g i:nd g (g.nr+i)=g.d i:=by unfold nd;rw[Zn oM,show g.nr+i-g.nr=i by omega]
def Uz(g:Gr)(a rb lb:Nat)(k:Nat):Prop:=k=a\/(k=rb/\0<g.nr)\/(k=lb/\0<g.nb)
def Pk(g:Gr)(na ba:Nat->Option Addr)(nc bc:Nat->Nat)(p:Nat):Array Value:=#[Sl (na p) (nd g p).nl (nc p),Sl (ba p) (nd g p).bl (bc p)]
def MV(w W:Wl)(g:Gr)(a rb lb:Nat)(J:Nat->World->Prop)(uL n:Nat)(i:Vl)(wr:Wl):Prop :=
 ∃p:Nat,p<=n/\i=Iv (p:Int)/\J (uL+p) wr/\W.heap.size<=wr.heap.size/\∀k,Uz g a rb lb k->wr.heap[k]?=w.heap[k]?
def jL c ra la rc lc g rb F lb lo(na ba:Nat->Option Addr)nc bc w(h1:g.nr<=1048576)(h2:g.nb<=1048576)(D:w.cell? (Ad c 0)=some (Sl ra g.nr rc))(U:w.cell? (Ad c 1)=some (Sl la g.nb lc))(I:Flat w ra la g rb F lb lo na ba nc bc) :
  Gh prog 164 #[.pointer (Sm c 0)] 0 (λp=>p<g.nr+g.nb) (λp=>p+1) (Pk g na ba nc bc) (Uz g c rb lb) w:=by
 intro l C J Z W ac G H L aa N T;have ab:Fence.wide.depth=none:=rfl;have f:=ua I;clear I;refine callsIn_of_wp func164 rfl trivial ?_ rfl;simp only[ntmps164,Fg,zQ,Ef,Nat.reduceAdd,Nat.reduceSub,Fu,Fv,Fx,Fw,Dl,Cb];have ad:=(zI (a:=(Ad c 0)) (G c (.inl rfl))).trans D
 gi_wp2
 gi_loopw [10] (λi wr=>MV w W g c rb lb J 0 g.nr i wr) (λi _=>g.nr-(intOf i).toNat)
 ·exact⟨0,wP,rfl,T,wF,G⟩
 obtain⟨p,hp,rfl,m,u,b⟩:=hrel;rw[zL]at m;by_cases o:p<g.nr
 ·obtain rfl:=f.ra oM;have y:=(zI (a:=(Ad rb (F+p*2))) (b rb (.inr (.inl ⟨rfl,oM⟩)))).trans (f.r0 p o);have R:=(zI (a:=(Ad rb (F+p*2+1))) (b rb (.inr (.inl ⟨rfl,oM⟩)))).trans (f.r1 p o);have X:=ud y;have r:=L p wr (wr.alloc (Oc #[Sl (na p) (nd g p).nl (nc p),Sl (ba p) (nd g p).bl (bc p)] 78)) m (wG wr);obtain⟨S,tmps,P,Q,v,s⟩:=N p _ r oM;unfold Pk at v;clear r
  gi_wp2
  refine s.mono ?_;clear s v;rintro e x (⟨rfl,A,t⟩|⟨rfl,B,_⟩)
  ·have z:∀k,Uz g c rb lb k->x.heap[k]?=w.heap[k]?:=λk j=>by
    have E:k<wr.heap.size:=by
     have e:=b k j;have:w.heap[k]?.isSome:=by
      rcases j with rfl|⟨rfl,n⟩|⟨rfl,n⟩
      ·have:=ud D;simp[this]
      ·have:=ud (f.r0 0 n);simp[this]
      have:=ud (f.l0 0 n);simp[this]
     rw[<-e]at this;rcases Nat.lt_or_ge k wr.heap.size with h|h
     ·exact h
     simp[h]at this
    refine(t.d k sO (H k j)).trans ((Hj E).trans (b k j))
   gi_wp2
   go_roundw
   ·exact⟨p+1,oM,by go_num,by rw[zL];exact A,wN (wN u sM) t.h,z⟩
   simp[intOf];omega
  gi_wp2
  refine wL (results_none rfl _ _ _) rfl ?_;exact⟨⟨_,rfl⟩,.inr ⟨p,oM,B⟩⟩
 have O:p=g.nr:=oM;rw[O]at m;clear O;have Y:=(zI (a:=(Ad c 1)) (b c (.inl rfl))).trans U;obtain⟨V,eV⟩:=nm wr;subst wr
 gi_wp2
 gi_loopw [25] (λi wr=>MV w W g c rb lb J g.nr g.nb i wr) (λi _=>g.nb-(intOf i).toNat)
 ·exact⟨0,wP,rfl,m,u,b⟩
 clear m u b Y;obtain⟨q,hq,rfl,m,u,b⟩:=hrel;by_cases o:q<g.nb
 ·obtain rfl:=f.la oM;have y:=(zI (a:=(Ad lb (lo+q*3))) (b lb (.inr (.inr ⟨rfl,oM⟩)))).trans (f.l0 q o);have R:=(zI (a:=(Ad lb (lo+q*3+1))) (b lb (.inr (.inr ⟨rfl,oM⟩)))).trans (f.l1 q o);have c2:=(zI (a:=(Ad lb (lo+q*3+2))) (b lb (.inr (.inr ⟨rfl,oM⟩)))).trans (f.l2 q o);have X:=ud y;have r:=L (g.nr+q) wr (wr.alloc (Oc #[Sl (na (g.nr+q)) (nd g (g.nr+q)).nl (nc (g.nr+q)),Value.bool (g.d q).h,Sl (ba (g.nr+q)) (nd g (g.nr+q)).bl (bc (g.nr+q))] 50)) m (wG wr);obtain⟨S,tmps,P,Q,v,s⟩:=N (g.nr+q) _ r oM;unfold Pk at v;clear r
  gi_wp2
  refine s.mono ?_;clear s v;rintro e x (⟨rfl,A,t⟩|⟨rfl,B,_⟩)
  ·have z:∀k,Uz g c rb lb k->x.heap[k]?=w.heap[k]?:=λk j=>by
    have E:k<wr.heap.size:=by
     have e:=b k j;have:w.heap[k]?.isSome:=by
      rcases j with rfl|⟨rfl,n⟩|⟨rfl,n⟩
      ·have:=ud D;simp[this]
      ·have:=ud (f.r0 0 n);simp[this]
      have:=ud (f.l0 0 n);simp[this]
     rw[<-e]at this;rcases Nat.lt_or_ge k wr.heap.size with h|h
     ·exact h
     simp[h]at this
    refine(t.d k sO (H k j)).trans ((Hj E).trans (b k j))
   gi_wp2
   go_roundw
   ·exact⟨q+1,oM,by go_num,A,wN (wN u sM) t.h,z⟩
   simp[intOf];omega
  gi_wp2
  refine wL (results_none rfl _ _ _) rfl ?_;exact⟨⟨_,rfl⟩,.inr ⟨g.nr+q,oM,B⟩⟩
 gi_wp2
 go_end0;exact⟨⟨_,rfl⟩,.inl ⟨g.nr+q,oM,m⟩⟩
def BD{ra}{la}{nr}{rc}{a}{lc}{w} :
  CallsIn Fence.wide 0 prog 129 #[.agg #[Sl ra nr rc,Sl la a lc]] w λe w'=>e=Rt (.func (.func 164) #[] #[.pointer (Sm w.heap.size 0)])/\w'=w.alloc (Oc #[Sl ra nr rc,Sl la a lc] 37):=by
 refine callsIn_of_wp func129 rfl trivial ?_ rfl;simp only[ntmps129,Fg,zQ,Ef,Nat.reduceAdd,Nat.reduceSub,Fu,Fv,Fx,Fw,Dl,Cb]
 gi_wp2
 go_ret;exact⟨rfl,rfl⟩
attribute [local go_sem] Oper.semAt_some
def xR(g:Gr)(p:Nat):Nat:=M.sum (λi=>(nd g i).bl) p
def qU g p:xR g (p+1)=xR g p+(nd g p).bl:=rfl
def Nw(g:Gr):Prop:=100<g.nr\/100<g.nb\/∃p,p<g.nr+g.nb/\(2000<xR g (p+1)\/32<(nd g p).nl)
structure Co(w:Wl)(y:Nat)(s:Int)(x:Wl):Prop where
 g:∃v,x.cell? (Ad (y+1) 0)=some v
 d:x.frozen? (Ad (y+1) 0)=false
 a:x.cell? (Ad (y+1+1) 0)=some (Iv s)
 b:x.frozen? (Ad (y+1+1) 0)=false
 u:Below y w x
 h:y+4<=x.heap.size
def Co.below{w y s x z}(h:Co w y s x)(c:Below (y+4) x z):Co w y s z :=
 ⟨h.g.imp λ_ e=>(c.cell (p:=⟨y+1,0,none⟩) (by show y+1<y+4;omega)).trans e,
  (c.frozen (p:=(Ad (y+1) 0)) (by show y+1<y+4;omega)).trans h.d,
  (c.cell (p:=(Ad (y+1+1) 0)) (by show y+1+1<y+4;omega)).trans h.a,
  (c.frozen (p:=(Ad (y+1+1) 0)) (by show y+1+1<y+4;omega)).trans h.b,h.u.trans (c.mono oM),wN h.h c.size⟩
def Co.e{w y s s' x}(h:Co w y s x)(f:y<=w.heap.size):Co w y s' (x.setCell (Ad (y+1+1) 0) (Iv s')) :=
 ⟨h.g.imp λ_ c=>by rw[zI (Ly x ⟨y+1+1,0,none⟩ _ (y+1) sM)];exact c,
  Jd.trans h.d,Kg (by rw[h.a];rfl),Jd.trans h.b,
  h.u.setCell (p:=(Ad (y+1+1) 0)) (by show y<=y+1+1;omega) _,by simpa[World.setCell] using h.h⟩
def Co.c{w y s x}(h:Co w y s x):Below y w (x.setCell (Ad (y+1) 0) Bt)/\y+4<=(x.setCell (Ad (y+1) 0) Bt).heap.size/\(x.setCell (Ad (y+1) 0) Bt).cell? (Ad (y+1) 0)=some Bt :=
 ⟨h.u.setCell (p:=⟨y+1,0,none⟩) (by show y<=y+1;omega) _,by simpa[World.setCell] using h.h,by obtain⟨v,a⟩:=h.g;exact Kg (by rw[a];rfl)⟩
def xn(w:Wl)(g:Gr)(p:Nat)(x:Wl):Prop:=Co w w.heap.size (xR g p:Nat) x/\p<=g.nr+g.nb/\xR g p<=2000/\∀q,q<p->¬(2000<xR g (q+1)\/32<(nd g q).nl)
def yb(w:Wl)(g:Gr)(a:Code)(p:Nat)(x:Wl):Prop :=
 a=.ret/\Bw w x/\w.heap.size+4<=x.heap.size/\x.cell? (Ad (w.heap.size+1) 0)=some Bt/\p<g.nr+g.nb/\(2000<xR g (p+1)\/32<(nd g p).nl)
def xp(W:Wl)(v0 v1:Vl)(t:TypeId):(W.alloc (Oc #[v0,v1] t)).cell? (Ad W.heap.size 0)=some v0/\(W.alloc (Oc #[v0,v1] t)).cell? (Ad W.heap.size 1)=some v1:=by
 have h:=Df W (Oc #[v0,v1] t);refine⟨?_,?_⟩<;>simp only[World.cell?,h]<;>rfl
def yl ra la rc lc g rb ro lb lo(na ba:Nat->Option Addr)nc bc w(l:yg g)(J:∀W,Bw w W->Flat W ra la g rb ro lb lo na ba nc bc) :
  CallsIn Fence.wide 0 prog 101 #[.agg #[Sl ra g.nr rc,Sl la g.nb lc]] w (yz (Nw g) w):=by
 have ak:Fence.wide.depth=none:=rfl;have h1:=l.nr;have h2:=l.nb;have HF:=ua J;have ag:∀p,p<g.nr+g.nb->(nd g p).bl<=1048576/\(nd g p).nl<=1048576:=λp C=>by
  unfold nd;split
  ·exact⟨(l.a p oM).e.1,(l.a p oM).f⟩
  exact⟨(l.d (p-g.nr) oM).e.1,(l.d (p-g.nr) oM).f⟩
 have HS:=ua ag;have X:0<g.nr->rb<w.heap.size:=λh=>ud ((J w (wI _)).r0 0 h)
 have V:0<g.nb->lb<w.heap.size:=λh=>ud ((J w (wI _)).l0 0 h)
 by_cases o1:100<g.nr
 ·have o1':(100:Int)<(g.nr:Int):=oM;refine callsIn_of_wp_marks func101 rfl trivial ?_ rfl;simp only[ntmps101,Fg,zQ,Ef,Nat.reduceAdd,Nat.reduceSub,Fu,Fv,Fx,Fw,Dl,Cb]
  gi_wp2
  refine⟨Bt,?_,⟨true,rfl,jS (.inl o1)⟩,Bn w⟩;have:=vo (w.alloc (Oc #[Sl ra g.nr rc,Sl la g.nb lc] 37)) Bt 4;rw[zV]at this;simp[results,f101,go_sem,this]
 have o1':¬(100:Int)<(g.nr:Int):=oM;by_cases o2:100<g.nb
 ·have o2':(100:Int)<(g.nb:Int):=oM;refine callsIn_of_wp_marks func101 rfl trivial ?_ rfl;simp only[ntmps101,Fg,zQ,Ef,Nat.reduceAdd,Nat.reduceSub,Fu,Fv,Fx,Fw,Dl,Cb]
  gi_wp2
  refine⟨Bt,?_,⟨true,rfl,jS (.inr (.inl o2))⟩,Bn w⟩;have:=vo (w.alloc (Oc #[Sl ra g.nr rc,Sl la g.nb lc] 37)) Bt 4;rw[zV]at this;simp[results,f101,go_sem,this]
 have o2':¬(100:Int)<(g.nb:Int):=oM;refine callsIn_of_wp_marks func101 rfl trivial ?_ rfl;simp only[ntmps101,Fg,zQ,Ef,Nat.reduceAdd,Nat.reduceSub,Fu,Fv,Fx,Fw,Dl,Cb]
 gi_wp2_with (refine⟨trivial,?_⟩;gi_at_call 129;refine(BD).mono ?_;rintro e w' ⟨rfl,rfl⟩)
 obtain⟨n,j⟩:=nm ((((w.alloc (Oc #[Sl ra g.nr rc,Sl la g.nb lc] 37)).alloc (Oc #[Bf] 4)).alloc (Oc #[Value.int IntKind.i64 0] 3)).alloc (Oc #[Sl ra g.nr rc,Sl la g.nb lc] 37));have av:n.heap.size=w.heap.size+4:=by rw[<-j];simp
 have T:Bw w n:=by rw[<-j];exact((((wI w).alloc wF _).alloc sM _).alloc sO _).alloc sO _
 have z:=vo (w.alloc (Oc #[Sl ra g.nr rc,Sl la g.nb lc] 37)) Bf 4;have U:=xj (w.alloc (Oc #[Sl ra g.nr rc,Sl la g.nb lc] 37)) Bf 4;have S:=vo ((w.alloc (Oc #[Sl ra g.nr rc,Sl la g.nb lc] 37)).alloc (Oc #[Bf] 4)) (Iv 0) 3;have Z:=xj ((w.alloc (Oc #[Sl ra g.nr rc,Sl la g.nb lc] 37)).alloc (Oc #[Bf] 4)) (Iv 0) 3;have D:=xp (((w.alloc (Oc #[Sl ra g.nr rc,Sl la g.nb lc] 37)).alloc (Oc #[Bf] 4)).alloc (Oc #[Value.int IntKind.i64 0] 3)) (Sl ra g.nr rc) (Sl la g.nb lc) 37;simp only[zV]at z U S Z D;rw[j]at D;have aj:Co w w.heap.size 0 n:=⟨⟨_,by rw[<-j];exact uv _ (uv _ z)⟩,by rw[<-j];exact vH (uv _ z) (vH z U),by rw[<-j];exact uv _ S,by rw[<-j];exact vH S Z,T,oM⟩;rw[j];refine xm (gf:=164) (lb:=#[.pointer (Sm (w.heap.size+1+1+1) 0)]) rfl (enters_of func164 rR rfl)
  (jL (w.heap.size+1+1+1) ra la rc lc g rb ro lb lo na ba nc bc n h1 h2 D.1 D.2 (HF n T)).a (λ_=>rfl) ?hD (λk=>k=w.heap.size+1\/k=w.heap.size+1+1) ?hCD ?hCw
  (xn w g) (yb w g) ?hI ?hIx ?h0 ?round ?done ?stop
 case hD =>
  rintro k (rfl|⟨rfl,m⟩|⟨rfl,m⟩)
  ·omega
  ·have:=X m;omega
  have:=V m;omega
 case hCD =>
  rintro k (rfl|⟨rfl,m⟩|⟨rfl,m⟩) O
  ·omega
  ·have:=X m;omega
  have:=V m;omega
 case hCw =>
  rintro k hk O;omega
 case hI =>
  rintro s A E ⟨i,C⟩ r;exact⟨i.below (r.mono oM),C⟩
 case hIx =>
  rintro cd s A E ⟨rfl,L,l,O,C⟩ r;exact⟨rfl,L.trans (r.mono oM),wN l r.size,(r.cell (p:=(Ad (w.heap.size+1) 0)) (by show w.heap.size+1<_;omega)).trans O,C⟩
 case h0=>exact⟨aj,wP,wP,λq Y=>aB Y Ct⟩
 case round =>
  intro l' p x an ao aa R;unfold Pk
  gi_wp2
  refine⟨zM,aa,?_⟩;rintro x2 am aq ⟨i,P,ab,o⟩;obtain⟨rv,k1⟩:=i.g;have k2:=i.d;have k3:=i.a;have k4:=i.b;have HI:=o;obtain⟨b1,b2⟩:=HS p R;have af:=qU g p;have v:Hid _:=af;have ah:=Co.e (s':=(xR g p:Int)+((nd g p).bl:Int)) i wF;have F:=ua ah;by_cases t1:2000<xR g p+(nd g p).bl
  ·have t1':(2000:Int)<(xR g p:Int)+((nd g p).bl:Int):=oM
   gi_wp2
   obtain⟨G,H,I⟩:=F.c;exact⟨(zP (.inr rfl)).c (zP (.inl rfl)),rfl,G,H,I,R,.inl (oH v)⟩
  have t1':¬(2000:Int)<(xR g p:Int)+((nd g p).bl:Int):=oM;by_cases t2:32<(nd g p).nl
  ·have t2':(32:Int)<((nd g p).nl:Int):=oM
   gi_wp2
   obtain⟨G,H,I⟩:=F.c;exact⟨(zP (.inr rfl)).c (zP (.inl rfl)),rfl,G,H,I,R,.inr t2⟩
  have t2':¬(32:Int)<((nd g p).nl:Int):=oM
  gi_wp2
  have e:((xR g (p+1):Nat):Int)=(xR g p:Int)+((nd g p).bl:Int):=by rw[v.o];omega
  exact⟨zP (.inr rfl),by rw[e];exact F,oM,by have:=v;omega,vE HI (oH v)⟩
 case done =>
  rintro d p x hd ap ⟨i,P,ab,o⟩ y;obtain⟨rv,k1⟩:=i.g;have k2:=i.d
  gi_wp2
  have ae:d≠w.heap.size+1:=oM;have hK':(x.setCell (Ad (w.heap.size+1) 0) Bf).heap[d]?=some (.deferred (some [])):=(Ly x (Ad (w.heap.size+1) 0) _ d ae).trans y;refine⟨sM,.inl ⟨_,_,rfl,run_takeDeferred hK',?_⟩⟩;have t:=vI (B:=w.heap.size+4) (x.setCell (Ad (w.heap.size+1) 0) Bf) (.deferred none) (d:=d) oM (by simpa[World.setCell] using i.h);have ac:(x.setCell (Ad (w.heap.size+1) 0) Bf).cell? (Ad (w.heap.size+1) 0)=some Bf:=Kg (by rw[k1];rfl);have Q:=(t.cell (p:=(Ad (w.heap.size+1) 0)) (by show w.heap.size+1<_;omega)).trans ac;have N:=(i.u.setCell (p:=(Ad (w.heap.size+1) 0)) (by show w.heap.size<=w.heap.size+1;omega) Bf).trans (t.mono oM);refine⟨Bf,?_,⟨false,rfl,vh ?_⟩,N⟩
  ·simp[results,f101,go_sem,Q]
  rintro (h|h|⟨q,Y,h⟩)
  ·exact o1 h
  ·exact o2 h
  exact o q oM h
 case stop =>
  rintro d cd p x hd au ⟨rfl,L,ai,ad,P,o⟩ y
  gi_wp2
  refine⟨sM,.inl ⟨_,_,rfl,run_takeDeferred y,?_⟩⟩;have al:=(Cq.1 y).1;have t:=vI (B:=w.heap.size+4) x (.deferred none) (d:=d) oM ai;have Q:=(t.cell (p:=(Ad (w.heap.size+1) 0)) (by show w.heap.size+1<_;omega)).trans ad;have N:=L.trans (t.mono oM);refine⟨Bt,?_,⟨true,rfl,jS (.inr (.inr ⟨p,P,o⟩))⟩,N⟩;simp[results,f101,go_sem,Q]
attribute [local go_sem] Oper.semAt_some
def W1:(prog.info? 3).map (λi=>(i.zero,i.size,i.bytes))=some (some (Iv 0),1,8):=rR
def yw(g:Gr)(p l:Nat):Prop:=∃q,q<p/\M.bO (nd g q).bl (nd g q).e l
def MU(g:Gr)(p k l:Nat):Prop:=yw g p l\/M.bO k (nd g p).e l
def BA(g:Gr):Prop:=∀p,p<g.nr+g.nb->∀i,i<(nd g p).bl->((nd g p).e i).e=3->0<=((nd g p).e i).f/\((nd g p).e i).f<g.nb
def Le(x:Wl)(b a:Nat)(P:Np)(top:Nat):Prop :=
 ∃f:Nat->Nat,x.rowIs b 3 a (λi=>Iv (f i))/\(∀i,i<a->(f i≠0↔P i))/\∀i,i<a->f i<=top
def Le.d{x}{b g top a:Nat}{P}(h:Le x b g P top)(k:a<g){z:Nat}(n:x.cell? (Ad b a)=some (Iv (z:Int))) :
  Le (x.setCell (Ad b a) (Iv ((z:Int)+1))) b g (λi=>P i\/i=a) (top+1):=by
 obtain⟨f,j,l,m⟩:=h;have o:(f a:Int)=z:=by
  have:=j.cell k;rw[n]at this;simp at this;omega
 refine⟨λi=>if i=a then f a+1 else f i,(j.set a _).congr λi c=>?_,λi c=>?_,λi c=>?_⟩
 ·by_cases e:i=a
  ·subst e;simp;omega
  simp[e]
 ·by_cases e:i=a
  ·subst e;simp
  simp[e,l i c]
 have:=m i c;by_cases e:i=a
 ·subst e;simp;omega
 simp[e];omega
def Uw(g:Gr):Prop:=∀i,i<g.nb->(g.d i).h=false->yw g (g.nr+g.nb) i
def Le.e{x b c top g P d}(h:Le x b c P top)(e:∀i,i<c->(P i↔d i))(m:top<=g):Le x b c d g:=by
 obtain⟨f,l,k,j⟩:=h;exact⟨f,l,λi a=>(k i a).trans (e i a),λi a=>wN (j i a) m⟩
def Le.a{x z b c top P}(h:Le x b c P top)(e:z.heap[b]?=x.heap[b]?):Le z b c P top:=by
 obtain⟨f,i,g,d⟩:=h;exact⟨f,i.of_block e,g,d⟩
def W2 B l:¬M.bO 0 B l:=by rintro⟨i,a,_⟩;omega
def qv{k}{B}{l}:M.bO (k+1) B l↔M.bO k B l\/((B k).e=3/\(B k).f=l):=by
 constructor
 ·rintro⟨i,a,h⟩;by_cases e:i=k
  ·subst e;exact .inr h
  exact .inl ⟨i,oM,h⟩
 rintro (⟨i,a,h⟩|h)
 ·exact⟨i,oM,h⟩
 exact⟨k,oM,h⟩
def W3 g p l:yw g (p+1) l↔MU g p (nd g p).bl l:=by
 constructor
 ·rintro⟨q,a,h⟩;by_cases e:q=p
  ·subst e;exact .inr h
  exact .inl ⟨q,oM,h⟩
 rintro (⟨q,a,h⟩|h)
 ·exact⟨q,oM,h⟩
 exact⟨p,oM,h⟩
structure Cg(w:Wl)(y:Nat)(ra la:Oa)(nr rc nb lc:Nat)(P:Np)(top:Nat)(x:Wl):Prop where
 c:x.cell? (Ad y 0)=some (Sl ra nr rc)
 b:x.cell? (Ad y 1)=some (Sl la nb lc)
 sl:x.cell? (Ad (y+1+1) 0)=some (Sl (Sm (y+1) 0) nb nb)
 a:Le x (y+1) nb P top
 u:Below y w x
 h:y+4<=x.heap.size
def Cg.below{w y ra la nr rc e lc P top x z}(h:Cg w y ra la nr rc e lc P top x)(d:Below (y+4) x z):Cg w y ra la nr rc e lc P top z :=
 ⟨(d.cell (p:=(Ad y 0)) (by show y<y+4;omega)).trans h.c,(d.cell (p:=(Ad y 1)) (by show y<y+4;omega)).trans h.b,
  (d.cell (p:=(Ad (y+1+1) 0)) (by show y+1+1<y+4;omega)).trans h.sl,h.a.a (d.block _ oM),h.u.trans (d.mono oM),wN h.h d.size⟩
def Cg.e{w y ra la nr rc d lc P f top g x}(h:Cg w y ra la nr rc d lc P top x)(e:∀i,i<d->(P i↔f i))(j:top<=g):Cg w y ra la nr rc d lc f g x :=
 ⟨h.c,h.b,h.sl,h.a.e e j,h.u,h.h⟩
def Cg.d{w}{y:Nat}{ra la}{nr rc e lc:Nat}{P}{top:Nat}{x}(h:Cg w y ra la nr rc e lc P top x){a:Nat}(f:a<e){z:Nat}(g:x.cell? (Ad (y+1) a)=some (Iv (z:Int))) :
  Cg w y ra la nr rc e lc (λi=>P i\/i=a) (top+1) (x.setCell (Ad (y+1) a) (Iv ((z:Int)+1))) :=
 ⟨by rw[zI (Ly x ⟨y+1,a,none⟩ _ y sM)];exact h.c,
  by rw[zI (Ly x (Ad (y+1) a) _ y sM)];exact h.b,
  by rw[zI (Ly x (Ad (y+1) a) _ (y+1+1) sM)];exact h.sl,
  h.a.d f g,h.u.setCell (p:=(Ad (y+1) a)) (by show y<=y+1;omega) _,by simpa[World.setCell] using h.h⟩
def X1(w:Wl)(ra la:Oa)(rc lc:Nat)(g:Gr)(p:Nat)(x:Wl):Prop:=Cg w w.heap.size ra la g.nr rc g.nb lc (yw g p) (xR g p) x/\p<=g.nr+g.nb
def X2(w a:Wl)(ra la:Oa)(rc lc:Nat)(g:Gr)(p:Nat)(i:Vl)(wr:Wl):Prop :=
 ∃k:Nat,k<=(nd g p).bl/\i=Iv (k:Int)/\Cg w w.heap.size ra la g.nr rc g.nb lc (MU g p k) (xR g p+k) wr/\wA (λb=>b=w.heap.size+1) a wr
def X3 Q ra la rc lc g rb ro lb lo(na ba:Nat->Option Addr)nc bc w(U:yg g)(hF:∀W,Bw w W->Flat W ra la g rb ro lb lo na ba nc bc)(hO:∀p,p<g.nr+g.nb->wT Q w (ba p) (nd g p).bl (nd g p).e)(hA:BA g)(a4:xR g (g.nr+g.nb)<=2000) :
  CallsIn Fence.wide 0 prog 132 #[.agg #[Sl ra g.nr rc,Sl la g.nb lc]] w (yz (Uw g) w):=by
 have a8:Fence.wide.depth=none:=rfl;have h1:=U.nr;have h2:=U.nb;have HF:=ua hF;have HO:=ua hO;have ap:=ua hA;have a2:∀p,p<g.nr+g.nb->(nd g p).bl<=1048576/\xR g p+(nd g p).bl<=2000:=λp J=>by
  refine⟨?_,?_⟩
  ·unfold nd;split
   ·exact(U.a p oM).e.1
   exact(U.d (p-g.nr) oM).e.1
  rw[<-qU];exact wN (M.dV _ oM) a4
 have HS:=ua a2;have am:0<g.nr->rb<w.heap.size:=λh=>ud ((hF w (wI _)).r0 0 h)
 have al:0<g.nb->lb<w.heap.size:=λh=>ud ((hF w (wI _)).l0 0 h)
 have be:=run_make_row' (P:=prog) 23 3 (Iv 0) 8 underlying23 W1 rfl .i64 .i64 g.nb oM oM;refine callsIn_of_wp_marks func132 rfl trivial ?_ rfl;simp only[ntmps132,Fg,zQ,Ef,Nat.reduceAdd,Nat.reduceSub,Fu,Fv,Fx,Fw,Dl,Cb]
 gi_wp2_with (refine⟨trivial,?_⟩;gi_at_call 129;refine(BD).mono ?_;rintro e w' ⟨rfl,rfl⟩)
 obtain⟨G,o⟩:=nm ((((w.alloc (Oc #[Sl ra g.nr rc,Sl la g.nb lc] 37)).alloc (Oc (madeCells #[Value.int IntKind.i64 0] g.nb) 3)).alloc (Oc #[Sl (some ⟨w.heap.size+1,0,none⟩) g.nb g.nb] 23)).alloc (Oc #[Sl ra g.nr rc,Sl la g.nb lc] 37));have bi:G.heap.size=w.heap.size+4:=by rw[<-o];simp
 have ah:Bw w G:=by rw[<-o];exact((((wI w).alloc wF _).alloc sM _).alloc sO _).alloc sO _
 have t:=xp w (Sl ra g.nr rc) (Sl la g.nb lc) 37;have hm:=Ja (w.alloc (Oc #[Sl ra g.nr rc,Sl la g.nb lc] 37)) (Iv 0) g.nb 3;have D:=vo ((w.alloc (Oc #[Sl ra g.nr rc,Sl la g.nb lc] 37)).alloc (Oc (madeCells #[Value.int IntKind.i64 0] g.nb) 3)) (Sl (Sm (w.heap.size+1) 0) g.nb g.nb) 23;have V:=xp (((w.alloc (Oc #[Sl ra g.nr rc,Sl la g.nb lc] 37)).alloc (Oc (madeCells #[Value.int IntKind.i64 0] g.nb) 3)).alloc (Oc #[Sl (Sm (w.heap.size+1) 0) g.nb g.nb] 23)) (Sl ra g.nr rc) (Sl la g.nb lc) 37;simp only[zV]at t hm D V;rw[o]at V;have a6:Cg w w.heap.size ra la g.nr rc g.nb lc (yw g 0) (xR g 0) G:=by
  rw[<-o];refine⟨uv _ (uv _ (uv _ t.1)),uv _ (uv _ (uv _ t.2)),uv _ D,⟨λ_=>0,((hm.alloc _).alloc _).congr λi F=>rfl,λi F=>?_,λi F=>wP⟩,by rw[o];exact ah,by rw[o];omega⟩;exact⟨λh=>aB rfl h,λ⟨q,hq,_⟩=>aB hq Ct⟩
 rw[o];refine xm (gf:=164) (lb:=#[.pointer (Sm (w.heap.size+1+1+1) 0)]) rfl (enters_of func164 rR rfl)
  (jL (w.heap.size+1+1+1) ra la rc lc g rb ro lb lo na ba nc bc G h1 h2 V.1 V.2 (HF G ah)).a (λ_=>rfl) ?hD (λk=>k=w.heap.size+1) ?hCD ?hCw
  (X1 w ra la rc lc g) (λ_ _ _=>False) ?hI ?hIx ?h0 ?round ?done ?stop
 case hD =>
  rintro k (rfl|⟨rfl,y⟩|⟨rfl,y⟩)
  ·omega
  ·have:=am y;omega
  have:=al y;omega
 case hCD =>
  rintro k (rfl|⟨rfl,y⟩|⟨rfl,y⟩) hc
  ·omega
  ·have:=am y;omega
  have:=al y;omega
 case hCw =>
  rintro k hk hc;omega
 case hI =>
  rintro s A E ⟨l,J⟩ v;exact⟨l.below (v.mono oM),J⟩
 case hIx =>
  rintro cd s A E h v;exact h
 case h0=>exact⟨a6,wP⟩
 case round =>
  intro l' p x bb bd aq n;unfold Pk
  gi_wp2
  refine⟨zM,aq,?_⟩;rintro x2 a9 bg ⟨l,az⟩;obtain⟨b1,b2⟩:=HS p n;have aa:=ua l
  gi_wp2
  gi_loopw [20] (λi wr=>X2 w x2 ra la rc lc g p i wr) (λi _=>(nd g p).bl-(intOf i).toNat)
  ·exact⟨0,wP,rfl,aa.e (λi F=>⟨.inl,λh=>h.elim id (λq=>aB q (W2 _ _))⟩) wF,zM⟩
  obtain⟨k,hk,rfl,l,aj⟩:=hrel;by_cases ak:k<(nd g p).bl
  ·have hB:=(HO p n).q l.u;rcases hB with h0|⟨b,off,ax,hq,hB⟩
   ·omega
   obtain⟨H,⟨sa,sc,I,a5⟩,c2⟩:=hB k ak;have ay:=ud H;have ab:=ap p n k ak;obtain⟨d,R⟩:=nm ((nd g p).e k);have HD:=ua R;rw[R]at H I c2 ab;obtain⟨kd,sl,S,a7⟩:=d;simp only at H I c2 ab;have ae:=ua aj;have ag:=ua l;have g2:=l.sl;have ao:=l.h;rw[ax];by_cases e3:kd=3
   ·subst e3;obtain⟨a0,a1⟩:=ab rfl;obtain⟨a,rfl⟩:=Me a0;have t:a<g.nb:=oM;obtain⟨f,D,J,ht⟩:=l.a;have L:=D.cell t;have g4:=D.frozen a;have g5:=ht a t;generalize f a=z at L g5;have l1:w.heap.size+1<wr.heap.size:=oM;have l2:w.heap.size+1+1<wr.heap.size:=oM;have ha':(a:Int)<(g.nb:Int):=oM;have a3:=(ag.d t L);have af:=ua a3
    gi_wp2
    go_roundw
    ·refine⟨k+1,oM,by go_num,?_,?_⟩
     ·refine(af.below ((wI _).alloc (oH af.h) _)).e (λi F=>?_) oM;show(yw g p i\/M.bO k (nd g p).e i)\/i=a↔yw g p i\/M.bO (k+1) (nd g p).e i;rw[qv,HD.o];show _↔yw g p i\/M.bO k (nd g p).e i\/((3:Int)=3/\(a:Int)=i);constructor
      ·rintro ((h|h)|h)
       ·exact .inl h
       ·exact .inr (.inl h)
       exact .inr (.inr ⟨rfl,oM⟩)
      rintro (h|h|h)
      ·exact .inl (.inl h)
      ·exact .inl (.inr h)
      exact .inr oM
     exact ae.c ((wA.b (C:=λb=>b=w.heap.size+1) wr (Ad (w.heap.size+1) a) _ rfl).c wU)
    simp[intOf];omega
   have f3:(kd==3)=false:=(by simp[e3]);have E3:=ua e3
   gi_wp2
   go_roundw
   ·exact⟨k+1,oM,by go_num,(ag.below ((wI wr).alloc oM _)).e (λi F=>⟨λh=>h.imp id (λq=>(qv).2 (.inl q)),λh=>h.imp id (λq=>((qv).1 q).elim id (λr=>aB (by rw[HD.o]at r;exact r.1) E3))⟩) oM,ae.c wU⟩
   simp[intOf];omega
  obtain rfl:k=(nd g p).bl:=oM
  gi_wp2
  exact⟨aj,l.e (λi F=>(W3 g p i).symm) wF,oM⟩
 case done =>
  rintro d p x R bf ⟨l,az⟩ O;obtain rfl:p=g.nr+g.nb:=oM;have ai:=(Cq.1 O).1;have g0:=l.c;have g1:=l.b;have g2:=l.sl;have ao:=l.h;have aa:=ua l
  gi_wp2
  gi_loopw [38] (λi wr=>Td x g.nb (λj=>(g.d j).h=false->yw g (g.nr+g.nb) j) i wr) (λi _=>g.nb-(intOf i).toNat)
  ·exact⟨0,wP,rfl,wI _,λj hj=>aB hj Ct⟩
  obtain⟨m,hm,rfl,v,aw⟩:=hrel;have Z:=ua aw;have X:=ua v;have a5:=v.size;have av:=(v.block d ai).trans O;have l:=aa.below (v.mono ao);have ad:=ua l.u;have g2:=l.sl;have l1:w.heap.size+1<wr.heap.size:=oM;have l2:w.heap.size+1+1<wr.heap.size:=oM;by_cases n:m<g.nb
  ·have N:=HF wr l.u;obtain rfl:=N.la oM;have H:=N.l0 m n;have I:=N.l1 m n;have c2:=N.l2 m n;have ay:=ud H;have hlt':(m:Int)<(g.nb:Int):=oM;obtain⟨f,D,J,ht⟩:=l.a;have L:=D.cell n;have an:=J m n;generalize f m=z at L an;have HP:=ua an;cases T:(g.d m).h with
   |true =>
    have Y:=ua T;rw[T]at I
    gi_wp2
    go_roundw
    ·exact⟨m+1,oM,by go_num,uf X (wG wr),vE Z (λq=>aB (Y.symm.trans q) dC)⟩
    simp[intOf];omega
   |false =>
    have Y:=ua T;rw[T]at I;by_cases hz:z=0
    ·subst hz
     gi_wp2
     have au:(wr.alloc (Oc #[Sl (na (g.nr+m)) (nd g (g.nr+m)).nl (nc (g.nr+m)),Bf,Sl (ba (g.nr+m)) (nd g (g.nr+m)).bl (bc (g.nr+m))] 50)).heap[d]?=some (.deferred (some [])):=(Hj oM).trans ((X.o.block d ai).trans O);refine⟨sM,.inl ⟨_,_,rfl,run_takeDeferred au,?_⟩⟩;have ac:=vI (B:=w.heap.size) (wr.alloc (Oc #[Sl (na (g.nr+m)) (nd g (g.nr+m)).nl (nc (g.nr+m)),Bf,Sl (ba (g.nr+m)) (nd g (g.nr+m)).bl (bc (g.nr+m))] 50)) (.deferred none) (d:=d) oM sO;refine⟨Bf,?_,⟨false,rfl,vh λq=>?_⟩,(uf ad (wG wr)).trans ac⟩
     ·simp[results,f132,go_sem]
     exact(HP.2 (q m n Y)) rfl
    have hz':((z:Int)==0)=false:=sO;have HZ:=ua hz
    gi_wp2
    go_roundw
    ·exact⟨m+1,oM,by go_num,uf X (wG wr),vE Z (λ_=>HP.1 HZ)⟩
    simp[intOf];omega
  obtain rfl:m=g.nb:=oM
  gi_wp2
  refine⟨sM,.inl ⟨_,_,rfl,run_takeDeferred av,?_⟩⟩;have ac:=vI (B:=w.heap.size) wr (.deferred none) (d:=d) oM oM;refine⟨Bt,?_,⟨true,rfl,jS Z⟩,ad.trans ac⟩;simp[results,f132,go_sem]
 case stop =>
  rintro d cd p x R bh h O;exact h.elim
def jK Q a n c T w(f:wB Q .u8 w a n T)(s:∀i,i<n->0<=T i/\T i<=255)(D:n<=1048576) :
  Cs 165 #[Sl a n c] w (Ex (M.cC n T) w):=by
 go_enter func165,ntmps165;go_wp2;go_loopw [7] (λi wr=>∃k:Nat,k<=n/\i=Iv k/\wr=w/\∀j,j<k->M.bH (T j)\/M.bN (T j)) (λi _=>n-(intOf i).toNat)
 ·exact⟨0,wP,rfl,rfl,λj u=>aB u Ct⟩
 obtain⟨k,C,rfl,rfl,z⟩:=hrel;have o:=ua z;by_cases m:k<n
 ·rcases f with p|⟨b,off,rfl,A,f⟩
  ·omega
  have t:=f k m;obtain⟨h,l⟩:=s k m;by_cases v:M.bH (T k)\/M.bN (T k)
  ·have g:Hid (M.bH (T k)\/M.bN (T k)):=v;go_wp2_with (go_at_call 195;refine(yS (T k) _ h l).mono ?_;rintro e W ⟨⟨r,rfl,d⟩,x⟩;subst W;obtain rfl:r=true:=d.2 g;clear d);go_roundw
   ·exact⟨k+1,oM,by go_num,by trivial,λj u=>if e:j=k then e▸g.o else o j oM⟩
   simp[intOf];omega
  have g:Hid (¬(M.bH (T k)\/M.bN (T k))):=v;go_wp2_with (go_at_call 195;refine(yS (T k) _ h l).mono ?_;rintro e W ⟨⟨r,rfl,d⟩,x⟩;subst W;obtain rfl:r=false:=by { cases r;rfl;exact aB (d.1 rfl) g };clear d);go_ret;exact⟨⟨false,rfl,vh λq=>g (q.1 k m)⟩,rfl⟩
 obtain rfl:k=n:=oM;by_cases p:k=0
 ·subst p;go_wp2;go_ret;exact⟨⟨false,rfl,vh λq=>by have:=q.2.1;omega⟩,rfl⟩
 rcases f with B|⟨b,off,rfl,A,f⟩
 ·omega
 have t:=f 0 oM;rw[Cc]at t;obtain⟨h,l⟩:=s 0 oM;have E:(0:Int)<(k:Int):=oM;go_wp2_with (go_at_call 194;refine(yR (T 0) h l).mono ?_;rintro e W ⟨⟨r,rfl,d⟩,x⟩;subst W;have y:Hid _:=d;clear d);go_ret;exact⟨⟨_,rfl,y.trans ⟨λq=>⟨o,oM,q⟩,λq=>q.2.2⟩⟩,rfl⟩
def X4 n T(a:0<n)(b:n<=32)(c:M.bH (T 0)):M.cE n T↔∀i,i<n->M.bH (T i)\/M.bN (T i) :=
 ⟨λq=>q.2.1,λq=>⟨b,q,a,c⟩⟩
def kC Q a n c T w(o:wB Q .u8 w a n T)(x:∀i,i<n->0<=T i/\T i<=255)(J:n<=1048576) :
  Cs 61 #[Sl a n c] w (Ex (M.cE n T) w):=by
 by_cases B:n=0
 ·subst B;go_enter func61,ntmps61;go_wp2;go_ret;exact⟨⟨false,rfl,vh λq=>by have:=q.2.2.1;omega⟩,rfl⟩
 have O:¬(n:Int)<1:=oM;by_cases G:32<n
 ·have E:(32:Int)<n:=oM;go_enter func61,ntmps61;go_wp2;go_ret;exact⟨⟨false,rfl,vh λq=>by have:=q.1;omega⟩,rfl⟩
 have E:¬(32:Int)<n:=oM;rcases o with F|⟨b,off,rfl,N,o⟩
 ·omega
 have D:=o 0 oM;rw[Cc]at D;obtain⟨A,y1⟩:=x 0 oM;have L:(0:Int)<(n:Int):=oM;rcases Classical.em (¬M.bH (T 0)) with t|t
 ·have f:Hid (¬M.bH (T 0)):=t;go_enter func61,ntmps61;go_wp2_with (go_at_call 82;refine(uX (T 0) A y1).mono ?_;rintro e W ⟨⟨r,rfl,d⟩,g⟩;subst W;obtain rfl:r=false:=by { cases r;rfl;exact aB (d.1 rfl) f };clear d);go_ret;exact⟨⟨false,rfl,vh λq=>f q.2.2.2⟩,rfl⟩
 have v:=ua (Classical.not_not.1 t);go_enter func61,ntmps61;go_wp2_with (go_at_call 82;refine(uX (T 0) A y1).mono ?_;rintro e W ⟨⟨r,rfl,d⟩,g⟩;subst W;obtain rfl:r=true:=d.2 v;clear d);go_loopw [3] (λi wr=>∃k:Nat,k<=n/\i=Iv k/\wr=w/\∀j,j<k->M.bH (T j)\/M.bN (T j)) (λi _=>n-(intOf i).toNat)
 ·exact⟨0,wP,rfl,rfl,λj s=>aB s Ct⟩
 obtain⟨k,I,rfl,rfl,C⟩:=hrel;have p:=ua C;by_cases u:k<n
 ·have H:=o k u;obtain⟨l,m⟩:=x k u;by_cases z:M.bH (T k)
  ·have f:Hid (M.bH (T k)):=z;go_wp2_with (go_at_call 82;refine(uX (T k) l m).mono ?_;rintro e W ⟨⟨r,rfl,d⟩,g⟩;subst W;obtain rfl:r=true:=d.2 f;clear d);go_roundw
   ·exact⟨k+1,oM,by go_num,by trivial,λj s=>if e:j=k then e▸.inl f else p j oM⟩
   simp[intOf];omega
  have f:=ua z;by_cases y:M.bN (T k)
  ·have h:Hid (M.bN (T k)):=y;go_wp2_with (first|(go_at_call 82;refine(uX (T k) l m).mono ?_;rintro e W ⟨⟨r,rfl,d⟩,g⟩;subst W;obtain rfl:r=false:=by { cases r;rfl;exact aB (d.1 rfl) f };clear d)|(go_at_call 83;refine(jb (T k) l m).mono ?_;rintro e W ⟨⟨r,rfl,d⟩,g⟩;subst W;obtain rfl:r=true:=d.2 h;clear d));go_roundw
   ·exact⟨k+1,oM,by go_num,by trivial,λj s=>if e:j=k then e▸.inr h else p j oM⟩
   simp[intOf];omega
  have h:Hid (¬M.bN (T k)):=y;go_wp2_with (first|(go_at_call 82;refine(uX (T k) l m).mono ?_;rintro e W ⟨⟨r,rfl,d⟩,g⟩;subst W;obtain rfl:r=false:=by { cases r;rfl;exact aB (d.1 rfl) f };clear d)|(go_at_call 83;refine(jb (T k) l m).mono ?_;rintro e W ⟨⟨r,rfl,d⟩,g⟩;subst W;obtain rfl:r=false:=by { cases r;rfl;exact aB (d.1 rfl) h };clear d));go_ret;exact⟨⟨false,rfl,vh λq=>(q.2.1 k u).elim f h⟩,rfl⟩
 obtain rfl:k=n:=oM;go_wp2;go_ret;exact⟨⟨true,rfl,jS ((X4 _ _ oM oM v).2 p)⟩,rfl⟩
section
open M (OpD uh Gr)
structure Cy(Q:Np)(w:Wl)(b o:Nat)(d:uh):Prop where
 c:Ch Q w b o d
 p:∃a c,w.cell? (Ad b (o+1))=some (Sl a d.bl c)/\d.bl<=c
structure Fj(Q:Np)(w:Wl)(b o:Nat)(d:uh):Prop where
 c:Ea Q w b o d
 p:∃a c,w.cell? (Ad b (o+2))=some (Sl a d.bl c)/\d.bl<=c
def Aq(Q:Np)(w:Wl)(a:Oa)(n:Nat)(R:Nat->uh):Prop :=
 n=0\/∃b off,a=some (Ad b off)/\Q b/\∀i,i<n->Cy Q w b (off+i*2) (R i)
def Bm(Q:Np)(w:Wl)(a:Oa)(n:Nat)(R:Nat->uh):Prop :=
 n=0\/∃b off,a=some (Ad b off)/\Q b/\∀i,i<n->Fj Q w b (off+i*3) (R i)
section
variable {Q Q':Np} {w w':Wl}
def Cy.on{b o:Nat}{d:uh}(h:Cy Q w b o d)(e:Q b)(t:wQ Q w w'):Cy Q w' b o d :=
 ⟨h.c.on e t,let ⟨a,c,h1,h2⟩:=h.p;⟨a,c,(t.p e).trans h1,h2⟩⟩
def Cy.g{b o:Nat}{d:uh}(h:Cy Q w b o d)(t:∀b,Q b->Q' b):Cy Q' w b o d:=⟨h.c.g t,h.p⟩
def Cy.q{b o:Nat}{d:uh}(h:Cy Q w b o d)(t:Bw w w'):Cy Q w' b o d :=
 ⟨h.c.q t,let ⟨a,c,h1,h2⟩:=h.p;⟨a,c,ue h1 t,h2⟩⟩
def Fj.on{b o:Nat}{d:uh}(h:Fj Q w b o d)(e:Q b)(t:wQ Q w w'):Fj Q w' b o d :=
 ⟨h.c.on e t,let ⟨a,c,h1,h2⟩:=h.p;⟨a,c,(t.p e).trans h1,h2⟩⟩
def Fj.g{b o:Nat}{d:uh}(h:Fj Q w b o d)(t:∀b,Q b->Q' b):Fj Q' w b o d:=⟨h.c.g t,h.p⟩
def Fj.q{b o:Nat}{d:uh}(h:Fj Q w b o d)(t:Bw w w'):Fj Q w' b o d :=
 ⟨h.c.q t,let ⟨a,c,h1,h2⟩:=h.p;⟨a,c,ue h1 t,h2⟩⟩
def Aq.on{a:Oa}{n:Nat}{R:Nat->uh}(h:Aq Q w a n R)(t:wQ Q w w'):Aq Q w' a n R:=by
 rcases h with h|⟨b,off,e,c,h⟩
 ·exact .inl h
 exact .inr ⟨b,off,e,c,λi d=>(h i d).on c t⟩
def Aq.g{a:Oa}{n:Nat}{R:Nat->uh}(h:Aq Q w a n R)(t:∀b,Q b->Q' b):Aq Q' w a n R:=by
 rcases h with h|⟨b,off,e,d,h⟩
 ·exact .inl h
 exact .inr ⟨b,off,e,t b d,λi c=>(h i c).g t⟩
def Aq.q{a:Oa}{n:Nat}{R:Nat->uh}(h:Aq Q w a n R)(t:Bw w w'):Aq Q w' a n R:=by
 rcases h with h|⟨b,off,e,d,h⟩
 ·exact .inl h
 exact .inr ⟨b,off,e,d,λi c=>(h i c).q t⟩
def Bm.on{a:Oa}{n:Nat}{R:Nat->uh}(h:Bm Q w a n R)(t:wQ Q w w'):Bm Q w' a n R:=by
 rcases h with h|⟨b,off,e,c,h⟩
 ·exact .inl h
 exact .inr ⟨b,off,e,c,λi d=>(h i d).on c t⟩
def Bm.g{a:Oa}{n:Nat}{R:Nat->uh}(h:Bm Q w a n R)(t:∀b,Q b->Q' b):Bm Q' w a n R:=by
 rcases h with h|⟨b,off,e,d,h⟩
 ·exact .inl h
 exact .inr ⟨b,off,e,t b d,λi c=>(h i c).g t⟩
def Bm.q{a:Oa}{n:Nat}{R:Nat->uh}(h:Bm Q w a n R)(t:Bw w w'):Bm Q w' a n R:=by
 rcases h with h|⟨b,off,e,d,h⟩
 ·exact .inl h
 exact .inr ⟨b,off,e,d,λi c=>(h i c).q t⟩
def Aq.d{a:Oa}{n:Nat}{R:Nat->uh}(h:Aq Q w a n R):Bq Q w a n R:=by
 rcases h with h|⟨b,off,e,g,h⟩
 ·exact .inl h
 exact .inr ⟨b,off,e,g,λi f=>(h i f).c⟩
def Bm.d{a:Oa}{n:Nat}{R:Nat->uh}(h:Bm Q w a n R):Da Q w a n R:=by
 rcases h with h|⟨b,off,e,g,h⟩
 ·exact .inl h
 exact .inr ⟨b,off,e,g,λi f=>(h i f).c⟩
end
structure zC(Q:Np)(w:Wl)(ra la:Oa)(g:Gr):Prop where
 a:Aq Q w ra g.nr g.a
 c:Bm Q w la g.nb g.d
def zC.d{Q w ra la g}(h:zC Q w ra la g):Bl Q w ra la g:=⟨h.a.d,h.c.d⟩
def zC.q{Q w w' ra la g}(h:zC Q w ra la g)(t:Bw w w'):zC Q w' ra la g:=⟨h.a.q t,h.c.q t⟩
end
end Go.Proofs.YtoihadcablknpaaGreatDoor
