import Derived.Test.YtpghlcdkfldlpaaGreatT02
import Derived.RangeFuncNested
import Derived.RangeFuncBound
import Derived.Deep.Slices
import Derived.Shelf.RegionOpen
set_option linter.unusedVariables false
set_option linter.unusedSimpArgs false
set_option maxHeartbeats 40000000
set_option maxRecDepth 100000
namespace Go.Proofs.YtpghlcdkfldlpaaGreat
open Go.RowKit
open M (OpD ue Gr)
structure uc1(d:ue):Prop where
 name:d.nl<=1048576
 byt:Byt d.nl d.name
 body:xV d.bl d.body
structure GramA(Q:Nat->Prop)(w:World)(ra la:Option Addr)(g:Gr):Prop where
 rules:RulesA Q w ra g.nr g.rule
 labs:LabsA Q w la g.nb g.lab
structure vP(g:Gr):Prop where
 nr:g.nr<=1048576
 nb:g.nb<=1048576
 rule:∀i,i<g.nr->uc1 (g.rule i)
 lab:∀i,i<g.nb->uc1 (g.lab i)
theorem GramA.later{Q w w' a la g}(h:GramA Q w a la g)(t:Below w.heap.size w w'):GramA Q w' a la g :=
 ⟨h.rules.later t,h.labs.later t⟩
def jB(g:Gr):Prop:=(∀i,i<g.nr->M.BodyOK g.nr g.nb (g.rule i).bl (g.rule i).body) /\
 (∀i,i<g.nb->((g.lab i).has=true->M.BodyOK g.nr g.nb (g.lab i).bl (g.lab i).body)/\((g.lab i).has=false->(g.lab i).bl=0))
def ufk(W1:World)(n:Nat)(p:Nat->Prop)(i:Value)(wr:World):Prop :=
 ∃k:Nat,k<=n/\i=.int .i64 (k:Int)/\Below W1.heap.size W1 wr/\∀j,j<k->p j
theorem vB{p:Nat->Prop}{k:Nat}(h:∀j,j<k->p j)(a:p k):∀j,j<k+1->p j:=λj b =>
 if e:j=k then e▸a else h j (by omega)
theorem qy Q x la p lc g w(hG:GramA Q w x la g)(hs:vP g) :
  Calls Tryz.prog 74 #[.agg #[.slice x g.nr p,.slice la g.nb lc]] w (xS (jB g) w):=by
 obtain⟨nr,R,c,L⟩:=g;obtain⟨u,t⟩:=hG;obtain⟨A,B,V,X⟩:=hs;simp only at u t A B V X ⊢;have Z:=ua u;have Y:=ua t;have S1:=ua V;have S2:=ua X;go_enter Tryz.func74,Tryz.ntmps74;go_wp2;go_loopw [10] (λi wr=>ufk (w.alloc (.cells #[.slice x nr p,.slice la c lc] 28)) nr (λj=>M.BodyOK nr c (R j).bl (R j).body) i wr) (λi _=>nr-(intOf i).toNat)
 case atStart=>exact⟨0,Nat.zero_le _,rfl,Below.refl _ _,λj S=>absurd S (Nat.not_lt_zero _)⟩
 case round =>
  obtain⟨k,hk,rfl,f,O⟩:=hrel;have T:=ua O;have E:=ud (uf w _) f;have g0:wr.cell? ⟨w.heap.size,0,none⟩=some (.slice x nr p):=uc (by simp) f;have g1:wr.cell? ⟨w.heap.size,1,none⟩=some (.slice la c lc):=uc (by simp) f;have ab:w.heap.size<wr.heap.size:=by have:=f.size;simp at this;omega
  by_cases n:k<nr
  ·have u:=Z.later E;rcases u with h0|⟨b,off,rfl,hq,u⟩
   ·omega
   obtain⟨⟨na,nc,J,hn⟩,⟨ba,bc,N,d⟩⟩:=u k n;have aa:=ub J;have F:=ua E;have D:=ua f;have z:=ua d;have s:=ua ((S1 k n).body);by_cases C:M.BodyOK nr c (R k).bl (R k).body
   ·have h:Hid (M.BodyOK nr c (R k).bl (R k).body):=C;go_wp2_with (go_at_call 105;refine(yI Q (some ⟨b,off,none⟩) la ba nr p c lc (R k).bl bc (R k).body _ (z.later (uf wr _)) A B s).mono ?_;rintro e W ⟨⟨r,rfl,l⟩,d⟩;obtain rfl:r=true:=l.2 h;have o:Hid _:=d;clear l d);go_roundw
    case rel=>exact⟨k+1,by omega,by go_num,ud D (ud (uf wr _) o),vB T h⟩
    case measure=>simp[intOf];omega
   have h:Hid (¬M.BodyOK nr c (R k).bl (R k).body):=C;go_wp2_with (go_at_call 105;refine(yI Q (some ⟨b,off,none⟩) la ba nr p c lc (R k).bl bc (R k).body _ (z.later (uf wr _)) A B s).mono ?_;rintro e W ⟨⟨r,rfl,l⟩,d⟩;obtain rfl:r=false:=by { cases r;rfl;exact absurd (l.1 rfl) h };have o:Hid _:=d;clear l d);go_ret;exact⟨⟨false,rfl,uJ λq=>h (q.1 k n)⟩,ud F (ud (uf wr _) o)⟩
  obtain rfl:k=nr:=by omega
  obtain⟨W1,eW⟩:=nm wr;subst wr;have F:=ua E;have HL':=ua (Y.later E);go_wp2;go_loopw [23] (λi ac=>ufk W1 c (λj=>((L j).has=true->M.BodyOK k c (L j).bl (L j).body)/\((L j).has=false->(L j).bl=0)) i ac) (λi _=>c-(intOf i).toNat)
  case atStart=>exact⟨0,Nat.zero_le _,rfl,Below.refl _ _,λj S=>absurd S (Nat.not_lt_zero _)⟩
  case round =>
   obtain⟨m,hm,rfl,f,O⟩:=hrel;have H:=ua O;have D:=ua f;have G:=ua (ud F f);have e0:=uc g0 f;have e1:=uc g1 f;have ad:=Nat.lt_of_lt_of_le ab f.size;by_cases n:m<c
   ·have t:=HL'.later f;rcases t with h0|⟨b,off,rfl,hq,t⟩
    ·omega
    obtain⟨⟨na,nc,J,hn⟩,N,⟨ba,bc,c2,d⟩⟩:=t m n;have aa:=ub J;have z:=ua d;have s:=ua ((S2 m n).body);have ae:=s.1;by_cases P:(L m).has=true
    ·have y:Hid ((L m).has=true):=P;rw[P]at N;by_cases C:M.BodyOK k c (L m).bl (L m).body
     ·have h:Hid (M.BodyOK k c (L m).bl (L m).body):=C;go_wp2_with (go_at_call 105;refine(yI Q x (some ⟨b,off,none⟩) ba k p c lc (L m).bl bc (L m).body _ (z.later (uf wr _)) A B s).mono ?_;rintro e W ⟨⟨r,rfl,l⟩,d⟩;obtain rfl:r=true:=l.2 h;have x1:=(uc (a:=⟨wr.heap.size,1,none⟩) (v:=.bool true) (by simp) d);have o:Hid _:=d;clear l d);go_roundw
      case rel=>exact⟨m+1,by omega,by go_num,ud D (ud (uf wr _) o),vB H ⟨λ_=>h,λq=>absurd (y.symm.trans q) (by decide)⟩⟩
      case measure=>simp[intOf];omega
     have h:Hid (¬M.BodyOK k c (L m).bl (L m).body):=C;go_wp2_with (go_at_call 105;refine(yI Q x (some ⟨b,off,none⟩) ba k p c lc (L m).bl bc (L m).body _ (z.later (uf wr _)) A B s).mono ?_;rintro e W ⟨⟨r,rfl,l⟩,d⟩;obtain rfl:r=false:=by { cases r;rfl;exact absurd (l.1 rfl) h };have o:Hid _:=d;clear l d);go_ret;exact⟨⟨false,rfl,uJ λq=>h ((q.2 m n).1 y)⟩,ud G (ud (uf wr _) o)⟩
    have hh':(L m).has=false:=(by simpa using P);have y:=ua hh';rw[hh']at N;by_cases U:(L m).bl=0
    ·have I:Hid ((L m).bl=0):=U;have fz:¬(0:Int)<((L m).bl:Int):=(by omega);go_wp2;go_roundw
     case rel=>exact⟨m+1,by omega,by go_num,ud D (uf wr _),vB H ⟨λq=>absurd (y.symm.trans q) (by decide),λ_=>I⟩⟩
     case measure=>simp[intOf];omega
    have I:Hid (¬(L m).bl=0):=U;have fz:(0:Int)<((L m).bl:Int):=(by omega);go_wp2;go_ret;exact⟨⟨false,rfl,uJ λq=>I ((q.2 m n).2 y)⟩,ud G (uf wr _)⟩
   obtain rfl:m=c:=(by omega);go_wp2;go_ret;exact⟨⟨true,rfl,xI ⟨T,H⟩⟩,G⟩
structure Keep(C:Nat->Prop)(W W':World):Prop where
 os:W'.os=W.os
 tape:W'.tape=W.tape
 output:W'.output=W.output
 size:W.heap.size<=W'.heap.size
 block:∀k,k<W.heap.size->¬C k->W'.heap[k]? = W.heap[k]?
theorem Keep.refl(C:Nat->Prop)(W:World):Keep C W W:=⟨rfl,rfl,rfl,Nat.le_refl _,fun _ _ _=>rfl⟩
theorem Keep.trans{C:Nat->Prop}{A B E:World}(h:Keep C A B)(k:Keep C B E):Keep C A E :=
 ⟨k.os.trans h.os,k.tape.trans h.tape,k.output.trans h.output,Nat.le_trans h.size k.size,fun i hi hc=>(k.block i (Nat.lt_of_lt_of_le hi h.size) hc).trans (h.block i hi hc)⟩
theorem Keep.mono{C C':Nat->Prop}{A B:World}(h:Keep C A B)(hc:∀k,C k->C' k):Keep C' A B :=
 ⟨h.os,h.tape,h.output,h.size,fun i hi hn=>h.block i hi (fun q=>hn (hc i q))⟩
theorem Keep.alloc(C:Nat->Prop)(W:World)(o:Obj):Keep C W (W.alloc o) :=
 ⟨rfl,rfl,rfl,by simp,fun k hk _=>Below.heap_alloc W o k hk⟩
theorem Keep.drew(C:Nat->Prop)(W:World):Keep C W W.drew:=⟨rfl,rfl,rfl,Nat.le_refl _,fun _ _ _=>rfl⟩
theorem Keep.setCell{C:Nat->Prop}(W:World)(a:Addr)(v:Value)(h:C a.block):Keep C W (W.setCell a v) :=
 ⟨rfl,rfl,rfl,by simp[World.setCell],fun k _ hn=>Below.heap_setCell _ _ _ _ (fun e=>hn (e▸h))⟩
theorem Keep.putObj{C:Nat->Prop}(W:World)(r:Nat)(o:Obj)(h:C r):Keep C W (W.putObj r o) :=
 ⟨rfl,rfl,rfl,by simp,fun k _ hn=>World.putObj_heap_other (fun e=>hn (e▸h))⟩
theorem Keep.of_below{C:Nat->Prop}{B:Nat}{W W':World}(h:Below B W W')(hc:∀k,k<W.heap.size->¬C k->k<B):Keep C W W' :=
 ⟨h.os,h.tape,h.output,h.size,fun k hk hn=>h.block k (hc k hk hn)⟩
theorem Keep.below{C:Nat->Prop}{B:Nat}{W W':World}(h:Keep C W W')(hB:B<=W.heap.size)(hc:∀k,k<B->¬C k):Below B W W' :=
 ⟨h.os,h.tape,h.output,h.size,fun k hk=>h.block k (by omega) (hc k hk)⟩
theorem Keep.cell{C:Nat->Prop}{W W':World}(h:Keep C W W'){p:Addr}(hp:p.block<W.heap.size)(hc:¬C p.block):W'.cell? p=W.cell? p :=
 World.cell?_of_block (h.block p.block hp hc)
theorem kt(W:World)(v:Value)(t:TypeId):(W.alloc (.cells #[v] t)).cell? ⟨W.heap.size,0,none⟩=some v:=by
 have h:=World.alloc_heap_new W (.cells #[v] t);simp only[World.cell?,h];rfl
theorem ubY(W:World)(v:Value)(t:TypeId):(W.alloc (.cells #[v] t)).frozen? ⟨W.heap.size,0,none⟩=false:=by
 have h:=World.alloc_heap_new W (.cells #[v] t);simp only[World.frozen?,h];rfl
theorem uv{W:World}{a:Addr}{v:Value}(o:Obj)(h:W.cell? a=some v):(W.alloc o).cell? a=some v:=cell_kept h (World.grownBy_alloc W o none) (fun r e=>by cases e)
theorem vC{W:World}{a:Addr}{v:Value}(o:Obj)(h:W.cell? a=some v)(hf:W.frozen? a=false):(W.alloc o).frozen? a=false:=(frozen_kept h (World.grownBy_alloc W o none) (fun r e=>by cases e)).trans hf
theorem kP{B d:Nat}(W:World)(o:Obj)(h:B<=d)(hs:B<=W.heap.size):Below B W (W.putObj d o) :=
 (Below.refl _ W).grown (grownBy_putObj' W d o) hs (fun k e=>by cases e;exact h)
def Ab{σ:Type}(B:Nat)(J:σ->World->Prop):Prop:=∀s A E,J s A->Below B A E->J s E
def um8{σ:Type}(P:Program)(g:Nat)(lb:Array Value)(s0:σ)(more:σ->Prop)(next:σ->σ)(enc:σ->Array Value)(D:Nat->Prop)(w:World):Prop :=
 ∀(l:Nat) (C:Nat->Prop) (J Jx:σ->World->Prop) (W:World),w.heap.size<=W.heap.size->(∀k,D k->W.heap[k]? = w.heap[k]?)->(∀k,D k->¬C k)->(∀k,W.heap.size<=k->¬C k) ->
  Ab W.heap.size J->Ab W.heap.size Jx ->
  (∀s W1,J s W1->more s->YieldAt Fence.wide 0 P l (enc s) W1 fun e W' =>
   (e=.returned (.bool true)/\J (next s) W'/\Keep C W1 W')\/(e=.returned (.bool false)/\Jx s W'/\Keep C W1 W')) ->
  J s0 W ->
  CallsIn Fence.wide 0 P g (#[.func (.yield l) #[] #[]]++lb) W fun e W'=>(∃v,e=.returned v)/\((∃s,¬more s/\J s W')\/(∃s,more s/\Jx s W'))
def uk1{σ:Type}(C:Nat->Prop)(I:σ->World->Prop)(Ix:Code->σ->World->Prop)(s s':σ)(W:World):Exit->Act->World->Prop
 | .normal,_,W'=>Keep C W W'/\I s' W'
 | .ret,_,W'=>Keep C W W'/\Ix .ret s W'
 | .exit id,_,W'=>Keep C W W'/\Ix (.exit id) s W'
 | .goto t,_,W'=>Keep C W W'/\Ix (.goto t) s W'
 | .panic _,_,_=>False
 | .outgrown,_,_=>False
theorem uas{P:Program}{σ:Type}{g:Operand}{ps:Array Tmp}{assign body:Code}{Q:Exit->Act->World->Prop}{a:Act}{w:World}
  {gf:Nat} {lb:Array Value} (hg:a.eval g=.func (.func gf) #[] lb) (eg:∀args w,(callFunc gf args).run P w=.ok (.enter gf args) w)
  {s0:σ} {more:σ->Prop} {next:σ->σ} {enc:σ->Array Value} {D:Nat->Prop} (hseq:um8 P gf lb s0 more next enc D w) (hps:∀s,(enc s).size=ps.size)
  (hD:∀k,D k->k<w.heap.size)
  (C:Nat->Prop) (hCD:∀k,D k->¬C k) (hCw:∀k,w.heap.size<=k->¬C k)
  (I:σ->World->Prop) (Ix:Code->σ->World->Prop) (hI:Ab w.heap.size I) (hIx:∀c,Ab w.heap.size (Ix c)) (h0:I s0 w)
  (hround:∀(l:Nat) (s:σ) (W:World),w.heap.size<=l->l<W.heap.size->I s W->more s ->
   assign.wpIn (Fence.wide.inRound l) 0 P (Exit.then (fun a₁ W₁=>Keep C W W₁/\I s W₁/\∀W₂,Keep (fun k=>k=l) W₁ W₂->W₂.heap.size=W₁.heap.size->I s W₂ ->
     body.wpIn (Fence.wide.inRound l) 0 P (uk1 C I Ix s (next s) W₂) a₁ W₂) (fun _ _ _=>False))
    { tmps:=(ps.zip (enc s)).foldl (fun t (p,v)=>t.setIfInBounds p v) a.tmps,defers:=[] } W)
  (hdone:∀(d:Nat) (s:σ) (W:World),w.heap.size<=d->¬more s->I s W->W.heap[d]? = some (.deferred (some []))->Q .normal { a with defers:={ target:=.collected d,args:=#[] } :: a.defers } W)
  (hstop:∀(d:Nat) (c:Code) (s:σ) (W:World),w.heap.size<=d->more s->Ix c s W->W.heap[d]? = some (.deferred (some []))->c.wpIn Fence.wide 0 P Q { a with defers:={ target:=.collected d,args:=#[] } :: a.defers } W) :
  (Code.rangeFunc g ps assign body).wpIn Fence.wide 0 P Q a w:=by
 refine wpIn_rangeFunc ?_;intro fn hfn;obtain⟨rec,hrec⟩:∃rec:LoopState->Option Code->Loop,rec=fun st pe=>{ state:=st,pending:=pe,fn,tmps:=a.tmps,params:=ps,assign,body,defers:=w.heap.size }:=⟨_,rfl⟩
 obtain⟨W1,hW1⟩:=nm ((w.alloc (.deferred (some []))).alloc (.loop (rec .ready none)));have hs1:W1.heap.size=w.heap.size+2:=by rw[<-hW1];simp
 have hL1:W1.heap[w.heap.size+1]? = some (.loop (rec .ready none)):=by
  rw[<-hW1];have:=World.alloc_heap_new (w.alloc (.deferred (some []))) (.loop (rec .ready none));rwa [World.size_alloc]at this
 have hK1:W1.heap[w.heap.size]? = some (.deferred (some [])):=by
  rw[<-hW1];exact (Below.heap_alloc _ _ _ (by simp)).trans (World.alloc_heap_new w _)
 have hb1:Below w.heap.size w W1:=by
  rw[<-hW1];exact ((Below.refl _ w).alloc (Nat.le_refl _) _).alloc (by simp) _
 have hput:∀(W:World) (o:Obj),w.heap.size+1<W.heap.size->Below w.heap.size W (W.putObj (w.heap.size+1) o):=fun W o hlt =>
  (Below.refl _ W).grown (grownBy_putObj' W _ o) (by omega) (fun k e=>by cases e;omega)
 refine⟨w.heap.size+1,[{ target:=.collected w.heap.size,args:=#[] }],W1,{ target:=.fn (.func gf) lb,args:=#[.func (.yield (w.heap.size+1)) #[] #[]] },W1,gf,
  #[.func (.yield (w.heap.size + 1)) #[] #[]] ++ lb, W1, ?_, ?_, ?_, ?_, ?_, ?_⟩
 ·rw[<-hW1,hrec];exact run_enterLoop_outer _ _ _ _ _
 ·simp only[resolve,hg]
  simp[go_sem]
 ·intro f' _;trivial
 ·simp[invoke,go_sem,eg]
 ·intro h;simp[Fence.wide]at h
 ·refine (hseq (w.heap.size+1) (fun k=>C k\/k=w.heap.size+1)
   (fun s W=>I s W/\W.heap[w.heap.size+1]? = some (.loop (rec .ready none))/\W.heap[w.heap.size]? = some (.deferred (some [])))
   (fun s W=>∃c,Ix c s W/\W.heap[w.heap.size+1]? = some (.loop (rec .done (some c)))/\W.heap[w.heap.size]? = some (.deferred (some [])))
   W1 (by omega) (fun k hk=>hb1.block k (hD k hk)) (fun k hk hc=>hc.elim (hCD k hk) (fun e=>by have:=hD k hk;omega)) (fun k hk hc=>hc.elim (hCw k (by omega)) (fun e=>by omega))
   (fun s A E hs hb=>⟨hI s A E hs.1 (hb.mono (by omega)),(hb.block _ (by omega)).trans hs.2.1,(hb.block _ (by omega)).trans hs.2.2⟩)
   (fun s A E hs hb=>by
    obtain⟨c,hc,hl,hk⟩:=hs;exact⟨c,hIx c s A E hc (hb.mono (by omega)),(hb.block _ (by omega)).trans hl,(hb.block _ (by omega)).trans hk⟩)
   ?_ ⟨hI s0 w W1 h0 hb1,hL1,hK1⟩).mono ?_
  ·
   rintro s W ⟨hi,hl,hk⟩ hm;have hlt:=(Array.getElem?_eq_some_iff.1 hl).1;have hy:=run_yield (P:=P) (args:=enc s) hl (by rw[hrec];exact hps s)
   rw[hrec]at hy;refine⟨fn,_,assign,body,hy,roundIn_of_wpIn hfn (wpIn_mono (hround _ s W (by omega) hlt hi hm) ?_)⟩
   intro e a₁ Wa hp;cases e with
   |normal =>
    obtain⟨hka,hia,hb⟩:=hp;have hla:=(hka.block _ hlt (hCw _ (by omega))).trans hl
    have hda:=(hka.block _ (by omega) (hCw _ (by omega))).trans hk
    have hlta:=Nat.lt_of_lt_of_le hlt hka.size;refine⟨_,run_beginRound hla (by rw[hrec]),?_⟩
    have hib:=hI s Wa _ hia (hput Wa (.loop { rec .ready none with state:=.busy }) hlta)
    have hlb:(Wa.putObj (w.heap.size+1) (.loop { rec .ready none with state:=.busy })).heap[w.heap.size+1]? = some (.loop { rec .ready none with state:=.busy }):=World.putObj_heap_same hlta
    have hdb:(Wa.putObj (w.heap.size+1) (.loop { rec .ready none with state:=.busy })).heap[w.heap.size]? = some (.deferred (some [])):=(World.putObj_heap_other (by omega)).trans hda
    refine wpIn_mono (hb _ (Keep.putObj _ _ _ rfl) (by simp) hib) ?_
    have fin:∀(jump:Option Code) (W3:World),Keep C (Wa.putObj (w.heap.size+1) (.loop { rec .ready none with state:=.busy })) W3 ->
      (Instr.endRound (w.heap.size+1) jump).run P W3=.ok (.bool jump.isNone) (W3.putObj (w.heap.size+1) (.loop (rec (if jump.isNone then .ready else .done) jump))) /\
      w.heap.size+1<W3.heap.size /\
      (W3.putObj (w.heap.size+1) (.loop (rec (if jump.isNone then .ready else .done) jump))).heap[w.heap.size+1]? = some (.loop (rec (if jump.isNone then .ready else .done) jump)) /\
      (W3.putObj (w.heap.size+1) (.loop (rec (if jump.isNone then .ready else .done) jump))).heap[w.heap.size]? = some (.deferred (some [])):=fun jump W3 hk3=>by
     have hl3:=(hk3.block _ (by simpa using hlta) (hCw _ (by omega))).trans hlb
     have hd3:=(hk3.block w.heap.size (by simp;omega) (hCw _ (by omega))).trans hdb
     have:=run_endRound (P:=P) jump hl3;rw[hrec]at this ⊢;exact⟨this,(Array.getElem?_eq_some_iff.1 hl3).1,World.putObj_heap_same (Array.getElem?_eq_some_iff.1 hl3).1,(World.putObj_heap_other (by omega)).trans hd3⟩
    have hkeep:∀(W3:World) (o:Obj),Keep C (Wa.putObj (w.heap.size+1) (.loop { rec .ready none with state:=.busy })) W3->Keep (fun k=>C k\/k=w.heap.size+1) W (W3.putObj (w.heap.size+1) o):=fun W3 o hk3 =>
     ((hka.mono fun _=>.inl).trans (Keep.putObj _ _ _ (.inr rfl))).trans ((hk3.mono fun _=>.inl).trans (Keep.putObj _ _ _ (.inr rfl)))
    rintro e a3 W3 hp;cases e with
    |normal =>
     obtain⟨hk3,hi3⟩:=hp;obtain⟨hr,hl3,hl4,hd4⟩:=fin none W3 hk3;exact⟨_,_,hr,.inl ⟨rfl,⟨hI _ _ _ hi3 (hput W3 _ hl3),hl4,hd4⟩,hkeep W3 _ hk3⟩⟩
    |ret =>
     obtain⟨hk3,hi3⟩:=hp;obtain⟨hr,hl3,hl4,hd4⟩:=fin (some .ret) W3 hk3;exact⟨_,_,hr,.inr ⟨rfl,⟨.ret,hIx _ _ _ _ hi3 (hput W3 _ hl3),hl4,hd4⟩,hkeep W3 _ hk3⟩⟩
    |exit id =>
     obtain⟨hk3,hi3⟩:=hp;obtain⟨hr,hl3,hl4,hd4⟩:=fin (some (.exit id)) W3 hk3;exact⟨_,_,hr,.inr ⟨rfl,⟨.exit id,hIx _ _ _ _ hi3 (hput W3 _ hl3),hl4,hd4⟩,hkeep W3 _ hk3⟩⟩
    |goto t =>
     obtain⟨hk3,hi3⟩:=hp;obtain⟨hr,hl3,hl4,hd4⟩:=fin (some (.goto t)) W3 hk3;exact⟨_,_,hr,.inr ⟨rfl,⟨.goto t,hIx _ _ _ _ hi3 (hput W3 _ hl3),hl4,hd4⟩,hkeep W3 _ hk3⟩⟩
    |panic ch=>exact hp.elim
    |outgrown=>exact hp.elim
   |ret=>exact hp.elim
   |exit id=>exact hp.elim
   |goto t=>exact hp.elim
   |panic ch=>exact hp.elim
   |outgrown=>exact hp.elim
  ·
   rintro e W2 ⟨⟨v,rfl⟩,(⟨s,hm,hi,hl,hk⟩|⟨s,hm,c,hi,hl,hk⟩)⟩
   ·exact⟨none,_,by have:=run_endLoop (P:=P) hl (by rw[hrec];simp);rw[hrec]at this;exact this,
     hdone _ s _ (Nat.le_refl _) hm (hI _ _ _ hi (hput W2 _ (Array.getElem?_eq_some_iff.1 hl).1)) ((World.putObj_heap_other (by omega)).trans hk)⟩
   ·exact⟨some c,_,by have:=run_endLoop (P:=P) hl (by rw[hrec];simp);rw[hrec]at this;exact this,
     hstop _ c s _ (Nat.le_refl _) hm (hIx c _ _ _ hi (hput W2 _ (Array.getElem?_eq_some_iff.1 hl).1)) ((World.putObj_heap_other (by omega)).trans hk)⟩
def New(w w':World):Nat->Prop:=λb=>w.heap.size<=b/\b<w'.heap.size
def Soft(w w':World):Prop:=∀b o,w.heap.size<=b->b<w'.heap.size->w'.frozen? ⟨b,o,none⟩=false
theorem Soft.trans{a b c}(h:Soft a b)(k:Soft b c)(g:Below b.heap.size b c):Soft a c:=λx o d f=>by
 by_cases e:x<b.heap.size
 ·rw[g.frozen (p:=⟨x,o,none⟩) e];exact h x o d e
 exact k x o (by omega) f
theorem Soft.refl w:Soft w w:=λb o a c=>by omega
theorem uaE w c t:Soft w (w.alloc (.cells c t)):=λb o d a=>by
 simp at a;obtain rfl:b=w.heap.size:=by omega
 have h:=World.alloc_heap_new w (.cells c t);simp only[World.frozen?,h];simp
theorem cN{W:World}{c:Array Value}{t:TypeId}{j:Nat}{v:Value}(y:Nat)(a:W.heap.size=y)(h:c[j]?=some v):(W.alloc (.cells c t)).cell? ⟨y,j,none⟩=some v:=by
 subst a;have e:=World.alloc_heap_new W (.cells c t);simp only[World.cell?,e];exact h
theorem Soft.set{w W}(h:Soft w W)a v:Soft w (W.setCell a v):=λb o c d=>by
 rw[World.frozen?_setCell];exact h b o c (by simpa[World.setCell] using d)
theorem ugj{Q}W a v(h:¬Q a.block):Stay Q W (W.setCell a v):=λb c=>Below.heap_setCell W a v b (λe=>h (e▸c))
theorem uo{w W}(h:Below w.heap.size w W)b o v(a:w.heap.size<=b):Below w.heap.size w (W.setCell ⟨b,o,none⟩ v):=h.setCell (p:=⟨b,o,none⟩) a v
theorem uh(W:World)(a:Addr)(v:Value):(W.setCell a v).heap.size=W.heap.size:=by simp[World.setCell]
structure CpS(A:World->Option Addr->Prop)(n:Nat)(w:World)(e:Ending)(w':World):Prop where
 val:∃a c,e=.returned (.slice a n c)/\A w' a
 bel:Below w.heap.size w w'
 soft:Soft w w'
theorem urs:(Tryz.prog.info? 5).map (λi=>(i.zero,i.size,i.bytes))=some (some (.int .u8 0),1,1):=by kernel_rfl
theorem upV:(Tryz.prog.info? 3).map (λi=>(i.zero,i.size,i.bytes))=some (some (.int .i64 0),1,8):=by kernel_rfl
theorem un4:(Tryz.prog.info? 123).map (λi=>(i.zero,i.size,i.bytes))=some (some (.agg #[.int .i64 0,.slice none 0 0,.int .i64 0]),3,40):=by kernel_rfl
theorem uA{w:World}{b i:Nat}{v u:Value}(h:w.cell? ⟨b,i,none⟩=some u):(w.setCell ⟨b,i,none⟩ v).cell? ⟨b,i,none⟩=some v:=World.cell?_setCell_same' _ _ _ (by rw[h];rfl)
theorem uz{w:World}{b i j:Nat}{v:Value}(h:i≠j):(w.setCell ⟨b,i,none⟩ v).cell? ⟨b,j,none⟩=w.cell? ⟨b,j,none⟩:=World.cell?_setCell_other w _ _ v (λe=>h (by injection e))
theorem upW:(Tryz.prog.info? 76).map (λi=>(i.zero,i.size,i.bytes))=some (some (.agg #[.slice none 0 0,.slice none 0 0]),2,48):=by kernel_rfl
theorem ulB:(Tryz.prog.info? 73).map (λi=>(i.zero,i.size,i.bytes))=some (some (.agg #[.slice none 0 0,.bool false,.slice none 0 0]),3,56):=by kernel_rfl
section
open Go.RowKit Go.Deep
open M (OpD ue Gr um EX ins)
def usc(Q:Nat->Prop)(w:World)(b o:Nat)(d:um):Prop :=
 w.cell? ⟨b,o,none⟩=some (.int .i64 d.kind)/\w.cell? ⟨b,o+1,none⟩=some (.int .i64 d.arg)/\w.cell? ⟨b,o+2,none⟩=some (.int .i64 d.to) /\
  ∃a c,w.cell? ⟨b,o+3,none⟩=some (.slice a d.sl c)/\Ints Q .i64 w a d.sl d.set
def InsA(Q:Nat->Prop)(w:World)(a:Option Addr)(n:Nat)(R:Nat->um):Prop :=
 n=0\/∃b off,a=some ⟨b,off,none⟩/\Q b/\∀i,i<n->usc Q w b (off+i*4) (R i)
theorem InsA.on{Q w w' a n R}(h:InsA Q w a n R)(k:Stay Q w w'):InsA Q w' a n R:=by
 rcases h with h|⟨b,off,e,d,h⟩
 ·exact .inl h
 have c:∀o,w'.cell? ⟨b,o,none⟩=w.cell? ⟨b,o,none⟩:=λo=>World.cell?_of_block (a:=⟨b,o,none⟩) (k b d)
 refine .inr ⟨b,off,e,d,λi p=>?_⟩;obtain⟨f,g,j,q,r,l,m⟩:=h i p;exact⟨(c _).trans f,(c _).trans g,(c _).trans j,q,r,(c _).trans l,m.on k⟩
theorem InsA.later{Q w w' a n R}(h:InsA Q w a n R)(k:Below w.heap.size w w'):InsA Q w' a n R:=by
 rcases h with h|⟨b,off,e,m,h⟩
 ·exact .inl h
 refine .inr ⟨b,off,e,m,λi l=>?_⟩;obtain⟨c,d,f,o,p,g,j⟩:=h i l;exact⟨uc c k,uc d k,uc f k,o,p,uc g k,j.later k⟩
theorem InsA.wide{Q c w a n R}(h:InsA Q w a n R)(k:∀b,Q b->c b):InsA c w a n R:=by
 rcases h with h|⟨b,off,e,o,h⟩
 ·exact .inl h
 refine .inr ⟨b,off,e,k b o,λi m=>?_⟩;obtain⟨d,f,g,p,q,j,l⟩:=h i m;exact⟨d,f,g,p,q,j,l.wide k⟩
theorem uq1:(Tryz.prog.info? 79).map (λi=>(i.zero,i.size,i.bytes))=some (some (.agg #[.int .i64 0,.int .i64 0,.int .i64 0,.slice none 0 0]),4,48):=by kernel_rfl
section
variable {H:Type} {enc:TypeId×Value->H} {w:World} {base:Nat} {spare:Nat->Bool} {held:Bool}
instance:Inhabited um:=⟨ins 0 0 0⟩
end
def set3(w:World)(b o:Nat)(x y z:Int):World:=((w.setCell ⟨b,o,none⟩ (.int .i64 x)).setCell ⟨b,o+1,none⟩ (.int .i64 y)).setCell ⟨b,o+2,none⟩ (.int .i64 z)
def from_(k:Int):Nat->Int:=λi=>k+i
end
open M (um)
structure EvD where
 kind:Int
 arg:Int
 pos:Int
def EvC(w:World)(b o:Nat)(d:EvD):Prop:=w.cell? ⟨b,o,none⟩=some (.int .i64 d.kind)/\w.cell? ⟨b,o+1,none⟩=some (.int .i64 d.arg)/\w.cell? ⟨b,o+2,none⟩=some (.int .i64 d.pos)
def EvA(Q:Nat->Prop)(w:World)(a:Option Addr)(n:Nat)(E:Nat->EvD):Prop :=
 n=0\/∃b off,a=some ⟨b,off,none⟩/\Q b/\∀i,i<n->EvC w b (off+i*3) (E i)
theorem EvA.later{Q w w' a n R}(h:EvA Q w a n R)(k:Below w.heap.size w w'):EvA Q w' a n R:=by
 rcases h with h|⟨b,off,e,d,h⟩
 ·exact .inl h
 exact .inr ⟨b,off,e,d,λi c=>⟨uc (h i c).1 k,uc (h i c).2.1 k,uc (h i c).2.2 k⟩⟩
structure uhu where
 code:Int
 pos:Int
 label:Int
 far:Int
 en:Nat
 ex:Nat->Int
 steps:Int
 throws:Int
 vn:Nat
 ev:Nat->EvD
def ucK(o:uhu)(a:Option Addr)(b:Nat)(c:Option Addr)(d:Nat):Value :=
 .agg #[.int .i64 o.code,.int .i64 o.pos,.int .i64 o.label,.int .i64 o.far,.slice a o.en b,.int .i64 o.steps,.int .i64 o.throws,.slice c o.vn d]
def EvW(Q:Nat->Prop)(w:World)(a:Option Addr)(n:Nat)(E:Nat->EvD):Prop :=
 n=0\/∃b,a=some ⟨b,0,none⟩/\Q b/\(∀j,j<n*3->w.frozen? ⟨b,j,none⟩=false)/\∀i,i<n->EvC w b (i*3) (E i)
theorem EvW.on{Q w w' a n R}(h:EvW Q w a n R)(k:Stay Q w w'):EvW Q w' a n R:=by
 rcases h with h|⟨b,e,f,g,h⟩
 ·exact .inl h
 have c:∀o,w'.cell? ⟨b,o,none⟩=w.cell? ⟨b,o,none⟩:=λo=>World.cell?_of_block (a:=⟨b,o,none⟩) (k b f)
 exact .inr ⟨b,e,f,λj l=>(World.frozen?_of_block (a:=⟨b,j,none⟩) (k b f)).trans (g j l),λi d=>⟨(c _).trans (h i d).1,(c _).trans (h i d).2.1,(c _).trans (h i d).2.2⟩⟩
theorem EvW.ev{Q w a n R}(h:EvW Q w a n R):EvA Q w a n R:=by
 rcases h with h|⟨b,e,d,f,h⟩
 ·exact .inl h
 exact .inr ⟨b,0,e,d,λi c=>by rw[Nat.zero_add];exact h i c⟩
def yh(S:Nat->Int)(b:Int):Nat->Bool
 |0=>false
 |m+1=>yh S b m||(decide (S (2*m)<=b)&&decide (b<=S (2*m+1)))
def vA(n:Nat)(S:Nat->Int)(b:Int):Bool:=yh S b (n / 2)
theorem uaw S b{m n}(h:m<=n)(k:yh S b m=true):yh S b n=true:=by
 induction n with
 |zero =>
  obtain rfl:m=0:=by omega
  exact k
 |succ n a =>
  by_cases e:m=n+1
  ·subst e;exact k
  rw[yh,a (by omega)];rfl
def upK(v:Bool)(w:World)(e:Ending)(w':World):Prop:=e=.returned (.bool v)/\w'=w
def ua8(v:Value)(w:World)(e:Ending)(w':World):Prop:=e=.returned v/\Below w.heap.size w w'
def xX(v:Bool)(w:World)(e:Ending)(w':World):Prop:=e=.returned (.bool v)/\Below w.heap.size w w'
structure FrD where
 kind:Int
 to:Int
 pos:Nat
 log:Nat
structure MSt where
 at_:Int
 pos:Nat
 st:List FrD
 log:List EvD
 far:Nat
 exp:Nat->Bool
 steps:Nat
 throws:Nat
 done:Bool
 code:Int
 label:Int
def MSt.inNot(s:MSt):Bool:=s.st.any (λf=>f.kind==1)
def MSt.fin(s:MSt)(c:Int):MSt:={ s with done:=true,code:=c }
def MSt.push(s:MSt)(f:FrD)(most:Int):MSt:=if (s.st.length:Int) ≥ most then s.fin 3 else { s with st:=s.st++[f] }
def uT:List FrD->Option (FrD×List FrD)
 |[]=>none
 |f::r=>if f.kind=2 then uT r else some (f,r)
def MSt.fail(s:MSt):MSt :=
 match uT s.st.reverse with
 |none=>s.fin 1
 |some (f,r)=>{ s with st:=r.reverse,pos:=f.pos,log:=s.log.take f.log,at_:=f.to }
def FrC(w:World)(b o:Nat)(f:FrD):Prop:=w.cell? ⟨b,o,none⟩=some (.int .i64 f.kind)/\w.cell? ⟨b,o+1,none⟩=some (.int .i64 f.to)/\w.cell? ⟨b,o+2,none⟩=some (.int .i64 (f.pos:Int))/\w.cell? ⟨b,o+3,none⟩=some (.int .i64 (f.log:Int))
def FrA(w:World)(a:Option Addr)(l:List FrD):Prop :=
 l.length=0\/∃b,a=some ⟨b,0,none⟩/\∀i f,l[i]?=some f->FrC w b (i*4) f
theorem FrA.later{w w' a l}(h:FrA w a l)(k:Below w.heap.size w w'):FrA w' a l:=by
 rcases h with h|⟨b,e,h⟩
 ·exact .inl h
 exact .inr ⟨b,e,λi f c=>⟨uc (h i f c).1 k,uc (h i f c).2.1 k,uc (h i f c).2.2.1 k,uc (h i f c).2.2.2 k⟩⟩
def stV(s:MSt)(ka:Option Addr)(kc:Nat)(la:Option Addr)(lc:Nat)(a:Option Addr)(c b:Nat):Value :=
 .agg #[.int .i64 s.at_,.int .i64 (s.pos:Int),.slice ka s.st.length kc,.slice la s.log.length lc,.int .i64 (s.far:Int),.slice a c b,.int .i64 (s.steps:Int),.int .i64 (s.throws:Int),.bool s.done,.int .i64 s.code,.int .i64 s.label]
def use(w:World)(n:Nat)(S:Nat->Int)(b:Int)(i:Value)(wr:World):Prop:=∃k:Nat,2*k<=n+1/\i=.int .i64 (2*(k:Int))/\yh S b k=false/\wr=w
def inI(w:World)(n:Nat)(s:MSt)(i:Value)(wr:World):Prop:=∃k:Nat,k<=n/\i=.int .i64 (k:Int)/\(s.st.take k).any (λf=>f.kind==1)=false/\wr=w
theorem uax Q a n c S b w(f:Ints Q .i64 w a n S)(E:n<=1048576) :
  Calls Tryz.prog 100 #[.slice a n c,.int .i64 b] w (upK (vA n S b) w):=by
 have r:=ua f;go_enter Tryz.func100,Tryz.ntmps100;go_wp2;go_loopw [5] (λi wr=>use w n S b i wr) (λi _=>n+1-(intOf i).toNat)
 case atStart=>exact⟨0,by omega,rfl,rfl,rfl⟩
 case round =>
  obtain⟨k,B,rfl,x,G⟩:=hrel;subst wr;have e:=ua x;by_cases D:2*k+1<n
  ·rcases r.out with A|⟨z,off,rfl,F,f⟩
   ·omega
   have s:=f (2*k) (by omega);have t:=f (2*k+1) (by omega);have y:(2*(k:Int))+1<(n:Int):=(by omega);have C:(2*(k:Int))<(n:Int):=(by omega);obtain⟨u,j⟩:=nm (S (2*k));obtain⟨v,l⟩:=nm (S (2*k+1));have g:=ua j;have h:=ua l;rw[j]at s;rw[l]at t;by_cases o:u<=b
   ·by_cases p:b<=v
    ·have d:Hid (vA n S b=true):=uaw S b (m:=k+1) (by omega) (by rw[yh,g.out,h.out,e.out];simp[o,p]);go_wp2;go_ret;exact⟨by rw[d.out];rfl,rfl⟩
    have d:Hid (yh S b (k+1)=false):=(by show _=_;rw[yh,g.out,h.out,e.out];simp[p]);go_wp2;go_roundw
    case rel=>exact⟨k+1,by omega,by go_num,d,rfl⟩
    case measure=>simp[intOf];omega
   have d:Hid (yh S b (k+1)=false):=(by show _=_;rw[yh,g.out,h.out,e.out];simp[o]);go_wp2;go_roundw
   case rel=>exact⟨k+1,by omega,by go_num,d,rfl⟩
   case measure=>simp[intOf];omega
  have y:¬(2*(k:Int))+1<(n:Int):=by omega
  have d:Hid (vA n S b=false):=by
   show yh S b (n / 2)=false;by_cases q:yh S b (n / 2)=true
   ·have:=uaw S b (show n / 2<=k by omega) q;rw[e.out]at this;cases this
   simpa using q
  go_wp2;go_ret;exact⟨by rw[d.out];rfl,rfl⟩
theorem uay s ka la b kc lc d c a w :
  Calls Tryz.prog 30 #[stV s ka kc la lc b d c,.int .i64 a] w (ua8 (stV (s.fin a) ka kc la lc b d c) w):=by
 unfold stV;go_enter Tryz.func30,Tryz.ntmps30;go_wp2;refine bodyPost_ret (v:=stV (s.fin a) ka kc la lc b d c) ?_ rfl ?_
 ·simp[results,Tryz.f30,go_sem,stV,MSt.fin]
 exact⟨rfl,vb w _ _⟩
theorem ucw s ka la A kc lc C B w(t:FrA w ka s.st)(y:s.st.length<=1000) :
  Calls Tryz.prog 69 #[stV s ka kc la lc A C B] w (xX s.inNot w):=by
 have q:Hid (∀x,FrA (w.alloc x) ka s.st):=λx=>t.later (uf w x)
 obtain⟨n,l⟩:=nm s.st.length;have c:=ua l;unfold stV;rw[l]at y ⊢;go_enter Tryz.func69,Tryz.ntmps69;go_wp2;generalize d:w.alloc _=X;have h:Hid (Below w.heap.size w X):=d▸uf w _;have o:Hid (FrA X ka s.st):=d▸q _;have z:X.cell? ⟨w.heap.size,2,none⟩=some (.slice ka n kc):=d▸cN w.heap.size rfl rfl;have I:=ub z;go_loopw [3] (λi wr=>inI X n s i wr) (λi _=>n-(intOf i).toNat)
 case atStart=>exact⟨0,Nat.zero_le _,rfl,rfl,rfl⟩
 case round =>
  obtain⟨k,F,rfl,v,H⟩:=hrel;subst wr;have g:=ua v;by_cases G:k<n
  ·rcases o.out with E|⟨b,rfl,u⟩
   ·have:=c;omega
   have e:k<s.st.length:=(by have:=c;omega);obtain⟨D,_,_,_⟩:=u k s.st[k] (List.getElem?_eq_getElem e);have hlt':(k:Int)<(n:Int):=(by omega);have r:Hid (s.st.take (k+1)=s.st.take k++[s.st[k]]):=(by show _=_;rw[List.take_append_getElem e]);have p:=ua (List.getElem_mem e);generalize s.st[k]=j at *;cases m:(j.kind==1) with
   |true =>
    have a:Hid (s.inNot=true):=by
     show s.st.any (λf=>f.kind==1)=true;rw[List.any_eq_true];exact⟨j,p,m⟩
    go_wp2;go_ret;exact⟨by rw[a.out];rfl,h⟩
   |false =>
    have a:Hid ((s.st.take (k+1)).any (λf=>f.kind==1)=false):=by
     show _=_;rw[r.out,List.any_append,g.out];simp[m]
    go_wp2;go_roundw
    case rel=>exact⟨k+1,by omega,by go_num,a,rfl⟩
    case measure=>simp[intOf];omega
  obtain rfl:k=n:=by omega
  have a:Hid (s.inNot=false):=by
   have:=g;rw[List.take_of_length_le (by have:=c.out;omega)]at this;exact this
  go_wp2;go_ret;exact⟨by rw[a.out];rfl,h⟩
end Go.Proofs.YtpghlcdkfldlpaaGreat
