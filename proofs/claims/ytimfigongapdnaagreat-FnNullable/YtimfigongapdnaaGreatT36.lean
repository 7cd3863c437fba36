import Derived.Test.YtimfigongapdnaaGreatT18
import Derived.Test.YtimfigongapdnaaGreatT14
set_option linter.unusedVariables false
set_option linter.unusedSimpArgs false
set_option maxHeartbeats 40000000
set_option maxRecDepth 100000
namespace Go.Proofs.YtimfigongapdnaaGreat
open Go.RowKit
def Ab2{σ:Type}(d:Nat)(J:σ->World->Prop):Prop:=∀s A E,J s A->Keep (fun k=>k=d\/k=d+1) A E->J s E
def Ext{σ:Type}(J:σ->World->Prop):Prop:=∀s A E,J s A->Below A.heap.size A E->J s E
def unJ{σ:Type}(P:Program)(g:Nat)(lb:Array Value)(s0:σ)(more:σ->Prop)(next:σ->σ)(enc:σ->Array Value)(D:Nat->Prop)(w:World):Prop :=
 ∀(l:Nat) (C:Nat->Prop) (J Jx:σ->World->Prop) (W:World),w.heap.size<=W.heap.size->(∀k,D k->W.heap[k]? = w.heap[k]?)->(∀k,D k->¬C k) ->
  Ext J->Ext Jx ->
  (∀s W1,J s W1->more s->YieldAt Fence.wide 0 P l (enc s) W1 fun e W' =>
   (e=.returned (.bool true)/\J (next s) W'/\Keep C W1 W')\/(e=.returned (.bool false)/\Jx s W'/\Keep C W1 W')) ->
  J s0 W ->
  CallsIn Fence.wide 0 P g (#[.func (.yield l) #[] #[]]++lb) W fun e W'=>(∃v,e=.returned v)/\((∃s,¬more s/\J s W')\/(∃s,more s/\Jx s W'))
theorem uiW{P:Program}{σ:Type}{g:Operand}{ps:Array Tmp}{assign body:Code}{Q:Exit->Act->World->Prop}{a:Act}{w:World}
  {gf:Nat} {lb:Array Value} (hg:a.eval g=.func (.func gf) #[] lb) (eg:∀args w,(callFunc gf args).run P w=.ok (.enter gf args) w)
  {s0:σ} {more:σ->Prop} {next:σ->σ} {enc:σ->Array Value} {D:Nat->Prop} (hseq:unJ P gf lb s0 more next enc D w) (hps:∀s,(enc s).size=ps.size)
  (hD:∀k,D k->k<w.heap.size)
  (C:Nat->Prop) (hCD:∀k,D k->¬C k) (hC0:¬C w.heap.size) (hC1:¬C (w.heap.size+1))
  (I:σ->World->Prop) (Ix:Code->σ->World->Prop) (hI:Ab2 w.heap.size I) (hIx:∀c,Ab2 w.heap.size (Ix c)) (h0:I s0 w)
  (hround:∀(l:Nat) (s:σ) (W:World),w.heap.size<=l->l<W.heap.size->I s W->more s ->
   assign.wpIn (Fence.wide.inRound l) 0 P (Exit.then (fun a₁ W₁=>Keep C W W₁/\I s W₁/\∀W₂,Keep (fun k=>k=l) W₁ W₂->W₂.heap.size=W₁.heap.size->I s W₂ ->
     body.wpIn (Fence.wide.inRound l) 0 P (ufe C I Ix s (next s) W₂) a₁ W₂) (fun _ _ _=>False))
    { tmps:=(ps.zip (enc s)).foldl (fun t (p,v)=>t.setIfInBounds p v) a.tmps,defers:=[] } W)
  (hdone:∀(d:Nat) (s:σ) (W:World),w.heap.size<=d->¬more s->I s W->W.heap[d]? = some (.deferred (some []))->Q .normal { a with defers:={ target:=.collected d,args:=#[] } :: a.defers } W)
  (hstop:∀(d:Nat) (c:Code) (s:σ) (W:World),w.heap.size<=d->more s->Ix c s W->W.heap[d]? = some (.deferred (some []))->c.wpIn Fence.wide 0 P Q { a with defers:={ target:=.collected d,args:=#[] } :: a.defers } W) :
  (Code.rangeFunc g ps assign body).wpIn Fence.wide 0 P Q a w:=by
 refine wpIn_rangeFunc ?_;intro fn hfn;obtain⟨rec,hrec⟩:∃rec:LoopState->Option Code->Loop,rec=fun st pe=>{ state:=st,pending:=pe,fn,tmps:=a.tmps,params:=ps,assign,body,defers:=w.heap.size }:=⟨_,rfl⟩
 obtain⟨W1,hW1⟩:=nm ((w.alloc (.deferred (some []))).alloc (.loop (rec .ready none)));have hs1:W1.heap.size=w.heap.size+2:=by rw[<-hW1];simp
 have hL1:W1.heap[w.heap.size+1]? = some (.loop (rec .ready none)):=by
  rw[<-hW1];have:=World.alloc_heap_new (w.alloc (.deferred (some []))) (.loop (rec .ready none));rwa [World.size_alloc]at this
 have hK1:W1.heap[w.heap.size]? = some (.deferred (some [])):=by
  rw[<-hW1];exact (Below.heap_alloc _ _ _ (by simp)).trans (World.alloc_heap_new w _)
 have hb1:Below w.heap.size w W1:=by
  rw[<-hW1];exact ((Below.refl _ w).alloc (Nat.le_refl _) _).alloc (by simp) _
 have hput:∀(W:World) (o:Obj),w.heap.size+1<W.heap.size->Keep (fun k=>k=w.heap.size\/k=w.heap.size+1) W (W.putObj (w.heap.size+1) o):=fun W o hlt=>Keep.putObj _ _ _ (.inr rfl)
 have hKb:Keep (fun k=>k=w.heap.size\/k=w.heap.size+1) w W1:=by rw[<-hW1];exact (Keep.alloc _ _ _).trans (Keep.alloc _ _ _)
 refine⟨w.heap.size+1,[{ target:=.collected w.heap.size,args:=#[] }],W1,{ target:=.fn (.func gf) lb,args:=#[.func (.yield (w.heap.size+1)) #[] #[]] },W1,gf,
  #[.func (.yield (w.heap.size + 1)) #[] #[]] ++ lb, W1, ?_, ?_, ?_, ?_, ?_, ?_⟩
 ·rw[<-hW1,hrec];exact run_enterLoop_outer _ _ _ _ _
 ·simp only[resolve,hg]
  simp[go_sem]
 ·intro f' _;trivial
 ·simp[invoke,go_sem,eg]
 ·intro h;simp[Fence.wide]at h
 ·refine (hseq (w.heap.size+1) (fun k=>C k\/k=w.heap.size+1)
   (fun s W=>I s W/\W.heap[w.heap.size+1]? = some (.loop (rec .ready none))/\W.heap[w.heap.size]? = some (.deferred (some [])))
   (fun s W=>∃c,Ix c s W/\W.heap[w.heap.size+1]? = some (.loop (rec .done (some c)))/\W.heap[w.heap.size]? = some (.deferred (some [])))
   W1 (by omega) (fun k hk=>hb1.block k (hD k hk)) (fun k hk hc=>hc.elim (hCD k hk) (fun e=>by have:=hD k hk;omega))
   (fun s A E hs hb=>⟨hI s A E hs.1 (Keep.of_below hb (fun k hk _=>hk)),(hb.block _ (Array.getElem?_eq_some_iff.1 hs.2.1).1).trans hs.2.1,(hb.block _ (Array.getElem?_eq_some_iff.1 hs.2.2).1).trans hs.2.2⟩)
   (fun s A E hs hb=>by
    obtain⟨c,hc,hl,hk⟩:=hs;exact⟨c,hIx c s A E hc (Keep.of_below hb (fun k hk _=>hk)),(hb.block _ (Array.getElem?_eq_some_iff.1 hl).1).trans hl,(hb.block _ (Array.getElem?_eq_some_iff.1 hk).1).trans hk⟩)
   ?_ ⟨hI s0 w W1 h0 hKb,hL1,hK1⟩).mono ?_
  ·
   rintro s W ⟨hi,hl,hk⟩ hm;have hlt:=(Array.getElem?_eq_some_iff.1 hl).1;have hy:=run_yield (P:=P) (args:=enc s) hl (by rw[hrec];exact hps s)
   rw[hrec]at hy;refine⟨fn,_,assign,body,hy,roundIn_of_wpIn hfn (wpIn_mono (hround _ s W (by omega) hlt hi hm) ?_)⟩
   intro e a₁ Wa hp;cases e with
   |normal =>
    obtain⟨hka,hia,hb⟩:=hp;have hla:=(hka.block _ hlt hC1).trans hl;have hda:Wa.heap[w.heap.size]? = some (.deferred (some [])):=(hka.block _ (by omega) hC0).trans hk
    have hlta:w.heap.size+1<Wa.heap.size:=Nat.lt_of_lt_of_le hlt hka.size;refine⟨_,run_beginRound hla (by rw[hrec]),?_⟩
    have hib:=hI s Wa _ hia (hput Wa (.loop { rec .ready none with state:=.busy }) hlta)
    have hlb:(Wa.putObj (w.heap.size+1) (.loop { rec .ready none with state:=.busy })).heap[w.heap.size+1]? = some (.loop { rec .ready none with state:=.busy }):=World.putObj_heap_same hlta
    have hdb:(Wa.putObj (w.heap.size+1) (.loop { rec .ready none with state:=.busy })).heap[w.heap.size]? = some (.deferred (some [])):=(World.putObj_heap_other (by omega)).trans hda
    refine wpIn_mono (hb _ (Keep.putObj _ _ _ rfl) (by simp) hib) ?_
    have fin:∀(jump:Option Code) (W3:World),Keep C (Wa.putObj (w.heap.size+1) (.loop { rec .ready none with state:=.busy })) W3 ->
      (Instr.endRound (w.heap.size+1) jump).run P W3=.ok (.bool jump.isNone) (W3.putObj (w.heap.size+1) (.loop (rec (if jump.isNone then .ready else .done) jump))) /\
      w.heap.size+1<W3.heap.size /\
      (W3.putObj (w.heap.size+1) (.loop (rec (if jump.isNone then .ready else .done) jump))).heap[w.heap.size+1]? = some (.loop (rec (if jump.isNone then .ready else .done) jump)) /\
      (W3.putObj (w.heap.size+1) (.loop (rec (if jump.isNone then .ready else .done) jump))).heap[w.heap.size]? = some (.deferred (some [])):=fun jump W3 hk3=>by
     have hl3:=(hk3.block _ (by simpa using hlta) hC1).trans hlb
     have hd3:=(hk3.block w.heap.size (by simp;omega) hC0).trans hdb
     have:=run_endRound (P:=P) jump hl3;rw[hrec]at this ⊢;exact⟨this,(Array.getElem?_eq_some_iff.1 hl3).1,World.putObj_heap_same (Array.getElem?_eq_some_iff.1 hl3).1,(World.putObj_heap_other (by omega)).trans hd3⟩
    have hkeep:∀(W3:World) (o:Obj),Keep C (Wa.putObj (w.heap.size+1) (.loop { rec .ready none with state:=.busy })) W3->Keep (fun k=>C k\/k=w.heap.size+1) W (W3.putObj (w.heap.size+1) o):=fun W3 o hk3 =>
     ((hka.mono fun _=>.inl).trans (Keep.putObj _ _ _ (.inr rfl))).trans ((hk3.mono fun _=>.inl).trans (Keep.putObj _ _ _ (.inr rfl)))
    rintro e a3 W3 hp;cases e with
    |normal =>
     obtain⟨hk3,hi3⟩:=hp;obtain⟨hr,hl3,hl4,hd4⟩:=fin none W3 hk3;exact⟨_,_,hr,.inl ⟨rfl,⟨hI _ _ _ hi3 (hput W3 _ hl3),hl4,hd4⟩,hkeep W3 _ hk3⟩⟩
    |ret =>
     obtain⟨hk3,hi3⟩:=hp;obtain⟨hr,hl3,hl4,hd4⟩:=fin (some .ret) W3 hk3;exact⟨_,_,hr,.inr ⟨rfl,⟨.ret,hIx _ _ _ _ hi3 (hput W3 _ hl3),hl4,hd4⟩,hkeep W3 _ hk3⟩⟩
    |exit id =>
     obtain⟨hk3,hi3⟩:=hp;obtain⟨hr,hl3,hl4,hd4⟩:=fin (some (.exit id)) W3 hk3;exact⟨_,_,hr,.inr ⟨rfl,⟨.exit id,hIx _ _ _ _ hi3 (hput W3 _ hl3),hl4,hd4⟩,hkeep W3 _ hk3⟩⟩
    |goto t =>
     obtain⟨hk3,hi3⟩:=hp;obtain⟨hr,hl3,hl4,hd4⟩:=fin (some (.goto t)) W3 hk3;exact⟨_,_,hr,.inr ⟨rfl,⟨.goto t,hIx _ _ _ _ hi3 (hput W3 _ hl3),hl4,hd4⟩,hkeep W3 _ hk3⟩⟩
    |panic ch=>exact hp.elim
    |outgrown=>exact hp.elim
   |ret=>exact hp.elim
   |exit id=>exact hp.elim
   |goto t=>exact hp.elim
   |panic ch=>exact hp.elim
   |outgrown=>exact hp.elim
  ·
   rintro e W2 ⟨⟨v,rfl⟩,(⟨s,hm,hi,hl,hk⟩|⟨s,hm,c,hi,hl,hk⟩)⟩
   ·exact⟨none,_,by have:=run_endLoop (P:=P) hl (by rw[hrec];simp);rw[hrec]at this;exact this,
     hdone _ s _ (Nat.le_refl _) hm (hI _ _ _ hi (hput W2 _ (Array.getElem?_eq_some_iff.1 hl).1)) ((World.putObj_heap_other (by omega)).trans hk)⟩
   ·exact⟨some c,_,by have:=run_endLoop (P:=P) hl (by rw[hrec];simp);rw[hrec]at this;exact this,
     hstop _ c s _ (Nat.le_refl _) hm (hIx c _ _ _ hi (hput W2 _ (Array.getElem?_eq_some_iff.1 hl).1)) ((World.putObj_heap_other (by omega)).trans hk)⟩
open Go.RowKit Go.Shelf
open M (OpD ug Gr)
attribute [local go_sem] Oper.semAt_some
theorem ugb c Q la rc lc g rb G lb lo(v ba:Nat->Option Addr)x bc w(h1:g.nr<=1048576)(h2:g.nb<=1048576)(E:w.cell? ⟨c,0,none⟩=some (.slice Q g.nr rc))(X:w.cell? ⟨c,1,none⟩=some (.slice la g.nb lc))(L:Flat w Q la g rb G lb lo v ba x bc) :
  unJ Tryz.prog 107 #[.pointer (some ⟨c,0,none⟩)] 0 (λp=>p<g.nr+g.nb) (λp=>p+1) (ubH g v ba x bc) (udV g c rb lb) w:=by
 intro l C J Jx W ac H I N aa O U;have ab:Fence.wide.depth=none:=rfl;have d:=ua L;clear L;refine callsIn_of_wp Tryz.func107 rfl trivial ?_ rfl;simp only[Tryz.ntmps107,List.size_toArray,List.length_cons,List.length_nil,Nat.reduceAdd,Nat.reduceSub,Array.replicate_succ,Array.replicate_zero,List.push_toArray,List.append_toArray,List.nil_append,List.cons_append];have ad:=(World.cell?_of_block (a:=⟨c,0,none⟩) (H c (.inl rfl))).trans E
 gi_wp2
 gi_loopw [10] (λi wr=>uga w W g c rb lb J 0 g.nr i wr) (λi _=>g.nr-(intOf i).toNat)
 case atStart=>exact⟨0,Nat.zero_le _,rfl,U,Nat.le_refl _,H⟩
 case round =>
  obtain⟨p,hp,rfl,j,t,b⟩:=hrel;rw[Nat.zero_add]at j;by_cases n:p<g.nr
  ·obtain rfl:=d.ra (by omega);have z:=(World.cell?_of_block (a:=⟨rb,G+p*2,none⟩) (b rb (.inr (.inl ⟨rfl,by omega⟩)))).trans (d.r0 p n);have S:=(World.cell?_of_block (a:=⟨rb,G+p*2+1,none⟩) (b rb (.inr (.inl ⟨rfl,by omega⟩)))).trans (d.r1 p n);have Y:=ud z;have o:=N p wr (wr.alloc (Obj.cells #[Value.slice (v p) (nd g p).nl (x p),Value.slice (ba p) (nd g p).bl (bc p)] 73)) j (ui wr _);obtain⟨T,tmps,R,body,u,r⟩:=O p _ o (by omega);unfold ubH at u;clear o
   gi_wp2
   refine r.mono ?_;clear r u;rintro e y (⟨rfl,B,s⟩|⟨rfl,D,_⟩)
   ·have A:∀k,udV g c rb lb k->y.heap[k]?=w.heap[k]?:=λk f=>by
     have F:k<wr.heap.size:=by
      have e:=b k f;have:w.heap[k]?.isSome:=by
       rcases f with rfl|⟨rfl,m⟩|⟨rfl,m⟩
       ·have:=ud E;simp[this]
       ·have:=ud (d.r0 0 m);simp[this]
       have:=ud (d.l0 0 m);simp[this]
      rw[<-e]at this;rcases Nat.lt_or_ge k wr.heap.size with h|h
      ·exact h
      simp[h]at this
     refine(s.block k (by simp;omega) (I k f)).trans ((Below.heap_alloc _ _ _ F).trans (b k f))
    gi_wp2
    go_roundw
    case rel=>exact⟨p+1,by omega,by go_num,by rw[Nat.zero_add];exact B,Nat.le_trans (Nat.le_trans t (by simp)) s.size,A⟩
    case measure=>simp[intOf];omega
   gi_wp2
   refine bodyPost_ret (results_none rfl _ _ _) rfl ?_;exact⟨⟨_,rfl⟩,.inr ⟨p,by omega,D⟩⟩
  have P:p=g.nr:=by omega
  rw[P]at j;clear P;have Z:=(World.cell?_of_block (a:=⟨c,1,none⟩) (b c (.inl rfl))).trans X;obtain⟨V,eV⟩:=nm wr;subst wr
  gi_wp2
  gi_loopw [25] (λi wr=>uga w W g c rb lb J g.nr g.nb i wr) (λi _=>g.nb-(intOf i).toNat)
  case atStart=>exact⟨0,Nat.zero_le _,rfl,j,t,b⟩
  case round =>
   clear j t b Z;obtain⟨q,hq,rfl,j,t,b⟩:=hrel;by_cases n:q<g.nb
   ·obtain rfl:=d.la (by omega);have z:=(World.cell?_of_block (a:=⟨lb,lo+q*3,none⟩) (b lb (.inr (.inr ⟨rfl,by omega⟩)))).trans (d.l0 q n);have S:=(World.cell?_of_block (a:=⟨lb,lo+q*3+1,none⟩) (b lb (.inr (.inr ⟨rfl,by omega⟩)))).trans (d.l1 q n);have c2:=(World.cell?_of_block (a:=⟨lb,lo+q*3+2,none⟩) (b lb (.inr (.inr ⟨rfl,by omega⟩)))).trans (d.l2 q n);have Y:=ud z;have o:=N (g.nr+q) wr (wr.alloc (Obj.cells #[Value.slice (v (g.nr+q)) (nd g (g.nr+q)).nl (x (g.nr+q)),Value.bool (g.lab q).has,Value.slice (ba (g.nr+q)) (nd g (g.nr+q)).bl (bc (g.nr+q))] 70)) j (ui wr _);obtain⟨T,tmps,R,body,u,r⟩:=O (g.nr+q) _ o (by omega);unfold ubH at u;clear o
    gi_wp2
    refine r.mono ?_;clear r u;rintro e y (⟨rfl,B,s⟩|⟨rfl,D,_⟩)
    ·have A:∀k,udV g c rb lb k->y.heap[k]?=w.heap[k]?:=λk f=>by
      have F:k<wr.heap.size:=by
       have e:=b k f;have:w.heap[k]?.isSome:=by
        rcases f with rfl|⟨rfl,m⟩|⟨rfl,m⟩
        ·have:=ud E;simp[this]
        ·have:=ud (d.r0 0 m);simp[this]
        have:=ud (d.l0 0 m);simp[this]
       rw[<-e]at this;rcases Nat.lt_or_ge k wr.heap.size with h|h
       ·exact h
       simp[h]at this
      refine(s.block k (by simp;omega) (I k f)).trans ((Below.heap_alloc _ _ _ F).trans (b k f))
     gi_wp2
     go_roundw
     case rel=>exact⟨q+1,by omega,by go_num,B,Nat.le_trans (Nat.le_trans t (by simp)) s.size,A⟩
     case measure=>simp[intOf];omega
    gi_wp2
    refine bodyPost_ret (results_none rfl _ _ _) rfl ?_;exact⟨⟨_,rfl⟩,.inr ⟨g.nr+q,by omega,D⟩⟩
   gi_wp2
   go_end0;exact⟨⟨_,rfl⟩,.inl ⟨g.nr+q,by omega,j⟩⟩
def ugg(w:World)(nr b:Nat)(mk:NS)(p1 p2:Value):Prop :=
 ∀(o:OpD) (l:List (Nat×Opn)) (W:World) (d a:Option Addr) (e c:Nat),M.ElemOK nr b o->Below w.heap.size w W->(∀p,p∈l->p.2.beg.OK)->M.ar o.kind<=(l.length:Int)->ukh W a o l ->
  Calls Tryz.prog 113 #[.agg #[.int .i64 o.kind,.slice d o.sl e,.int .i64 o.arg],.slice a (M.ar o.kind).toNat c,p1,p2] W (qS (yd nr mk o l) W)
theorem un5 nr mk o x y:(uT nr mk o x y).nul=M.fN nr mk.has o x.nul y.nul:=by
 unfold uT M.fN;by_cases b:o.kind=0
 ·have a:¬M.Names o:=by rintro (q|q)<;>omega
  simp[b,a]
 by_cases a:M.Names o
 ·have c:¬o.kind=1:=by rcases a with q|q<;>omega
  simp[b,a,c]
 by_cases c:o.kind=1
 ·simp[b,a,c]
 by_cases d:o.kind=4
 ·simp[b,a,c,d]
 by_cases e:o.kind=5
 ·simp[b,a,c,d,e]
 by_cases f:o.kind=6
 ·simp[b,a,c,d,e,f]
 by_cases g:o.kind=7
 ·simp[b,a,c,d,e,f,g]
 simp[b,a,c,d,e,f,g]
theorem up7 nr mk B n:(M.top (M.stk (uT nr mk) B n)).nul=M.nulB nr mk.has n B:=by
 unfold M.nulB;rw[M.stk_map (uT nr mk) (M.fN nr mk.has) Opn.nul rfl (un5 nr mk)];generalize M.stk (uT nr mk) B n=l;match l with
 |[]=>rfl
 |(s,x)::r=>rfl
theorem uev Q g la a nr h f lc n c B mk w(p:OpsA Q w a n B)(r:n=0\/M.BodyOK nr f n B)(z:n<=1048576)(q:∀W o s,Caught W o s g la nr h f lc mk->ugg W nr f mk (.pointer (some ⟨o,0,none⟩)) (.pointer (some ⟨s,0,none⟩))) :
  Calls Tryz.prog 77 #[.agg #[.slice g nr h,.slice la f lc],.slice a n c,.agg #[.int .u64 mk.a,.int .u64 mk.b,.int .u64 mk.c,.int .u64 mk.d]] w (qS (M.top (M.stk (uT nr mk) B n)) w):=by
 have u:=ua p;have x:=ua r;have y:=ua q;clear p r q;have k:Hid (Caught (((w.alloc (.cells #[.slice g nr h,.slice la f lc] 28)).alloc (nsc mk)).alloc (qt oz)) w.heap.size (w.heap.size+1) g la nr h f lc mk):=by
  refine⟨ue (ue (cN w.heap.size rfl rfl) (ui _ _)) (ui _ _),ue (ue (cN w.heap.size rfl rfl) (ui _ _)) (ui _ _),?_⟩;have:=At.new (w.alloc (.cells #[.slice g nr h,.slice la f lc] 28)) mk;rw[World.size_alloc]at this;exact this.later (ui _ _)
 have l:Hid (At6 (((w.alloc (.cells #[.slice g nr h,.slice la f lc] 28)).alloc (nsc mk)).alloc (qt oz)) (w.heap.size+1+1) oz):=by
  have:=At6.new ((w.alloc (.cells #[.slice g nr h,.slice la f lc] 28)).alloc (nsc mk)) oz;rw[World.size_alloc,World.size_alloc]at this;exact this
 have i:Hid (Below w.heap.size w (((w.alloc (.cells #[.slice g nr h,.slice la f lc] 28)).alloc (nsc mk)).alloc (qt oz))):=udT w _ _ _;go_enter Tryz.func77,Tryz.ntmps77;go_wp2_with fail;refine(un4 Q a n c nr f B mk _ _ _ (u.later i) x z (y _ _ _ k)).mono ?_;rintro e W ⟨rfl,j⟩;have t:=ua (uf i j);have m:=ua (l.later j);obtain⟨A,r1,r2,C,D,E⟩:=m.cells;obtain⟨s0,F,G,H,I,J⟩:=m.soft;simp only[oz,nz]at A r1 r2 C D E;clear j k l i;generalize M.top (M.stk (uT nr mk) B n)=v at *;unfold opv;go_wp2;refine bodyPost_ret (v:=opv v) (by simp[results,Tryz.f77,go_sem,opv, *]) rfl ?_;exact⟨rfl,ua5 t (w.heap.size+1+1) v (by omega)⟩
def BodsA(Q:Nat->Prop)(w:World)(b:Nat)(g:Gr)(n:Nat):Prop:=∀i,i<n->∃a c,w.cell? ⟨b,i,none⟩=some (.slice a (nd g i).bl c)/\OpsA Q w a (nd g i).bl (nd g i).body
theorem BodsA.later{Q w w' b n g}(h:BodsA Q w b g n)(k:Below w.heap.size w w'):BodsA Q w' b g n:=λi d =>
 let ⟨a,c,h1,h2⟩:=h i d
 ⟨a,c,ue h1 k,h2.later k⟩
def up8(g:Gr)(p:Nat):Prop:=(nd g p).bl=0\/M.BodyOK g.nr g.nb (nd g p).bl (nd g p).body
theorem un6 Q h la i lc g f k b n cap x S W(A:W.cell? ⟨f,0,none⟩=some (.slice h g.nr i))(B:W.cell? ⟨f,1,none⟩=some (.slice la g.nb lc))(C:W.cell? ⟨k,0,none⟩=some (.slice (some ⟨b,0,none⟩) n cap))(m:BodsA Q W b g n)(F:x<n)(H:n<=200)(r:up8 g x)(E:(nd g x).bl<=1048576)(p:∀W f s,Caught W f s h la g.nr i g.nb lc S->ugg W g.nr g.nb S (.pointer (some ⟨f,0,none⟩)) (.pointer (some ⟨s,0,none⟩))) :
  Calls Tryz.prog 76 #[.int .i64 (x:Int),.agg #[.int .u64 S.a,.int .u64 S.b,.int .u64 S.c,.int .u64 S.d],.pointer (some ⟨f,0,none⟩),.pointer (some ⟨k,0,none⟩)] W λe z=>e=.returned (.bool (M.nulB g.nr S.has (nd g x).bl (nd g x).body))/\Below W.heap.size W z:=by
 obtain⟨a,c,D,o⟩:=m x F;have u:=ua o;have v:=ua r;have y:=ua p;have j:Hid (Below W.heap.size W (W.alloc (nsc S))):=ui W _;have O:=uA (nsc S) A;have y1:=uA (nsc S) B;have y2:=uA (nsc S) C;have y3:=uA (nsc S) D;obtain⟨I,J,L,N⟩:=(At.new W S).cells;have G:∀(n l:Bool) (a b c d:Int) (w:World),(Instr.field 130 (.agg #[.bool n,.int .u64 a,.int .u64 b,.int .u64 c,.int .u64 d,.bool l]) 0).run Tryz.prog w=.ok (.bool n) w:=λn l a b c d w=>by kernel_rfl
 clear o m r p;go_enter Tryz.func76,Tryz.ntmps76;go_wp2;rw[show(Obj.cells #[.int .u64 S.a,.int .u64 S.b,.int .u64 S.c,.int .u64 S.d] 79)=nsc S from rfl];generalize W.alloc (nsc S)=X at *;go_region_with (go_at_call 77;refine(uev Q h la a g.nr i g.nb lc (nd g x).bl c (nd g x).body S _ (u.later j.drew) v E y).mono ?_;rintro e W2 ⟨rfl,q⟩;have t:Hid (Below W.heap.size W W2):=uf j ((Below.refl _ X).drew.trans q);clear q;unfold opv);all_goals go_wp2
 all_goals go_ret
 all_goals exact⟨xF (up7 _ _ _ _),t⟩
def ints(L:List Nat):List Value:=L.map (λ(x:Nat)=>Value.int .i64 (x:Int))
theorem ubX L:(ints L).length=L.length:=by simp[ints]
theorem uek L x:ints (L++[x])=ints L++[.int .i64 (x:Int)]:=by simp[ints]
structure WL(Q:Nat->Prop)(w:World)(wb:Nat)(L:List Nat):Prop where
 val:∃v,w.cell? ⟨wb,0,none⟩=some v/\OwnC Q w v 1 L.length (ints L)
 soft:w.frozen? ⟨wb,0,none⟩=false
theorem WL.lt{Q w a L}(h:WL Q w a L):a<w.heap.size:=by
 obtain⟨v,h,_⟩:=h.val;exact ud h
theorem WL.on{Q w w' c L}(h:WL Q w c L)(k:Stay (λb=>Q b\/b=c) w w'):WL Q w' c L:=by
 obtain⟨v,d,e⟩:=h.val;refine⟨⟨v,(k.cell (.inr rfl)).trans d,e.on (λb f=>k b (.inl f))⟩,?_⟩;rw[World.frozen?_of_block (a:=⟨c,0,none⟩) (k c (.inr rfl))];exact h.soft
theorem uqA{w g u}(b:w.cell? ⟨g,0,none⟩=some u)(c:u.oneCell'=true):Src Tryz.prog 1 36 (.slice (some ⟨g,0,none⟩) 1 1) 1 [u] w:=by
 refine Src.ofSlice (P:=Tryz.prog) w Tryz.underlying36 ⟨g,0,none⟩ 1 1 [u] rfl (λj d a=>?_) (λd a=>?_)
 ·match j,a with
  |0,a=>simp at a;subst a;simpa[Addr.add] using b
  |j+1,a=>simp at a
 simp at a;subst a;exact c
theorem uoH(m:Nat)(h:m<=1048576):IntKind.i64.wrap (m:Int)=(m:Int):=by
 simp[IntKind.wrap,IntKind.bits,IntKind.signed];omega
structure utd(Q:Nat->Prop)(wb x:Nat)(L:List Nat)(w:World)(e:Ending)(w':World):Prop where
 ret:∃v,e=.returned v
 list:WL (λb=>Q b\/w.heap.size<=b) w' wb (L++[x])
 grew:Grew (λb=>Q b\/b=wb) w w'
theorem ukv Q(d x:Nat)L w(r:WL Q w d L)(C:¬Q d)(T:L.length<=1048576) :
  Calls Tryz.prog 110 #[.pointer (some ⟨d,0,none⟩),.int .i64 (x:Int)] w (utd Q d x L w):=by
 obtain⟨v,D,B⟩:=r.val;have N:=r.soft;have S:d<w.heap.size:=ud D;have E:Hid (OwnC Q w v 1 L.length (ints L)):=B;clear B r;have H:Hid (OwnC Q (w.alloc (.cells #[.int .i64 (x:Int)] 3)) v 1 L.length (ints L)):=by
  rcases E.out with h|⟨g,cap,f,c,k,z,F,A⟩
  ·exact .inl h
  by_cases I:cap=0
  ·subst I;refine .inr ⟨g,0,f,c,k,z,λj m=>absurd m (by rw[k];omega),λj m=>by omega⟩
  have J:g<w.heap.size:=by
   have:=(A 0 (by omega)).1;obtain⟨u,R⟩:=Option.isSome_iff_exists.1 this;exact ud R
  have e:=Below.heap_alloc w (.cells #[.int .i64 (x:Int)] 3) g J;exact .inr ⟨g,cap,f,c,k,z,λj m=>by rw[World.cell?_of_block (a:=⟨g,j,none⟩) e];exact F j m,A.later e⟩
 have G:Hid (d<(w.alloc (.cells #[.int .i64 (x:Int)] 3)).heap.size):=by show _<_;simp;omega
 go_enter Tryz.func110,Tryz.ntmps110;go_wp2_with (at_builtin;refine ukw rfl _ _ 36 36 rfl rfl rfl elem36 H (uqA (u:=.int .i64 (x:Int)) (cN w.heap.size rfl rfl) rfl) (by omega) (λ_=>Nat.one_pos) ?_;intro U W y s P;obtain⟨n,p,rfl⟩:=uk y;have t:=(s.block d G C).trans (Below.heap_alloc w (.cells #[.int .i64 (x:Int)] 3) d S);have hv':W.cell? ⟨d,0,none⟩=some v:=(World.cell?_of_block (a:=⟨d,0,none⟩) t).trans D;have hs':W.frozen? ⟨d,0,none⟩=false:=(World.frozen?_of_block (a:=⟨d,0,none⟩) t).trans N;have HO':Hid (OwnC (λb=>Q b\/(w.alloc (.cells #[.int .i64 (x:Int)] 3)).heap.size<=b) W (.slice n (L.length+1) p) 1 (L.length+1) (ints L++[.int .i64 (x:Int)])):=y;have i:Hid (Grew (λb=>Q b) (w.alloc (.cells #[.int .i64 (x:Int)] 3)) W):=s;clear y s P t);go_end0;have O:=i.size;rw[World.size_alloc]at O;refine⟨⟨_,rfl⟩,⟨⟨.slice n (L.length+1) p,uu hv',?_⟩,?_⟩,?_⟩
 ·rw[uek,List.length_append];have:OwnC (λb=>Q b\/w.heap.size<=b) W (.slice n (L.length+1) p) 1 (L.length+1) (ints L++[.int .i64 (x:Int)]):=by
   rcases HO'.out with h|⟨g,cap,f,c,k⟩
   ·exact .inl h
   refine .inr ⟨g,cap,f,?_,k⟩;rcases c with c|c
   ·exact .inl c
   rw[World.size_alloc]at c;exact .inr (by omega)
  exact this.on (λb l=>Below.heap_setCell _ _ _ b (λe=>by
   simp only at e;subst e;rcases l with l|l
   ·exact C l
   omega))
 ·rw[World.frozen?_setCell];exact hs'
 refine⟨i.os,i.tape,i.output,by simp[World.setCell];omega,λb f c=>?_,λb o f=>?_,λb o f c=>?_⟩
 ·rw[Below.heap_setCell _ _ _ b (λe=>c (.inr e)),i.out.block b (by rw[World.size_alloc];omega) (λq=>c (.inl q)),Below.heap_alloc _ _ _ f]
 ·rw[World.frozen?_setCell,i.out.frozen b o (by rw[World.size_alloc];omega)];exact World.frozen?_of_block (a:=⟨b,o,none⟩) (Below.heap_alloc _ _ _ f)
 rw[World.frozen?_setCell];rw[uj]at c;by_cases e:b=w.heap.size
 ·subst e;rw[i.out.frozen _ o (by rw[World.size_alloc];omega)];exact qf w _ 3 w.heap.size o (Nat.le_refl _) (by simp)
 exact i.fresh b o (by rw[World.size_alloc];omega) c
theorem ujo(L:List Nat):L = []\/∃a x,L=a++[x]:=by
 rcases List.eq_nil_or_concat L with h|⟨a,x,h⟩
 ·exact .inl h
 exact .inr ⟨a,x,by simpa using h⟩
theorem tkN Q f w(b:WL Q w f []) :
  Calls Tryz.prog 111 #[.pointer (some ⟨f,0,none⟩)] w λe w'=>e=.returned (.tuple #[.int .i64 0,.bool false])/\w'=w:=by
 obtain⟨v,g,d⟩:=b.val;obtain⟨a,c,rfl⟩:=uk d;clear d b;go_enter Tryz.func111,Tryz.ntmps111;go_wp2;refine bodyPost_ret (by simp[results,Tryz.f111,go_sem];rfl) rfl ?_;exact⟨rfl,rfl⟩
structure utC(Q:Nat->Prop)(wb x:Nat)(L:List Nat)(w:World)(e:Ending)(w':World):Prop where
 ret:e=.returned (.tuple #[.int .i64 (x:Int),.bool true])
 list:WL Q w' wb L
 grew:Grew (λb=>b=wb) w w'
theorem tkS Q c x L w(i:WL Q w c (L++[x]))(r:¬Q c)(u:L.length<=1048576) :
  Calls Tryz.prog 111 #[.pointer (some ⟨c,0,none⟩)] w (utC Q c x L w):=by
 obtain⟨v,m,y⟩:=i.val;have z:=i.soft;rcases y with⟨_,h,_⟩|⟨g,cap,rfl,a,d,p,f,q⟩
 ·simp at h
 rw[List.length_append]at m d p;simp only[List.length_cons,List.length_nil,Nat.zero_add]at m d p;have A:w.cell? ⟨g,L.length,none⟩=some (.int .i64 (x:Int)):=by
  rw[f L.length (by rw[d];omega),uek,List.getElem?_append_right (by rw[ubX];exact Nat.le_refl _),ubX];simp
 have s:=ua f;have t:=ua q;have B:((L.length+1:Nat):Int)-1=(L.length:Int):=by omega
 have C:¬cap=0:=by omega
 have D:L.length<=cap:=by omega
 have E:¬((L.length:Int)<0):=by omega
 have F:=uoH L.length u;clear i f q d;go_enter Tryz.func111,Tryz.ntmps111;go_wp2;refine bodyPost_ret (by simp[results,Tryz.f111,go_sem];rfl) rfl ?_;refine⟨rfl,⟨⟨_,uu m,.inr ⟨g,cap,rfl,a,by rw[ubX,Nat.mul_one],by omega,λj k=>?_,λj k=>?_⟩⟩,?_⟩,?_⟩
 ·have l:g≠c:=λe=>r (e▸a)
  rw[ubh (Ne.symm l),s.out j (by rw[ubX]at *;simp;omega),uek,List.getElem?_append_left k]
 ·have l:g≠c:=λe=>r (e▸a)
  rw[ubh (Ne.symm l),World.frozen?_setCell];exact t j k
 ·rw[World.frozen?_setCell];exact z
 refine⟨rfl,rfl,rfl,by rw[uj];exact Nat.le_refl _,λb n a=>Below.heap_setCell _ _ _ b (λe=>a e),λb o n=>by rw[World.frozen?_setCell],λb o n a=>?_⟩;rw[uj]at a;omega
end Go.Proofs.YtimfigongapdnaaGreat
