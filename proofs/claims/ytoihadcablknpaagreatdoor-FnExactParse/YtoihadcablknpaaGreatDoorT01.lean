import Derived.RangeFuncNested
import Derived.RangeFuncBound
import Derived.Deep.OwnRows
import Derived.Deep.AppendSrc
import Derived.Test.YtoihadcablknpaaGreatDoorChecked
import Derived.WalkSpells
import Derived.WalkLawsBesides
import Derived.BigQuiet
set_option linter.unusedVariables false
set_option linter.unusedSimpArgs false
set_option linter.defProp false
set_option maxHeartbeats 40000000
set_option maxRecDepth 100000
namespace Go.RowKit
theorem Hid.o {p : Prop} (h : Hid p) : p := h
end Go.RowKit
namespace Go.Proofs.YtoihadcablknpaaGreatDoor
open Go.RowKit
open Go.Proofs.Tryz
def nm{α:Sort _}(x:α):∃y,x=y:=⟨x,rfl⟩
def ua{p:Prop}(h:p):Hid p:=h
structure wA(C:Nat->Prop)(W W':World):Prop where
 os:W'.os=W.os
 g:W'.tape=W.tape
 f:W'.output=W.output
 h:W.heap.size<=W'.heap.size
 d:∀k,k<W.heap.size->¬C k->W'.heap[k]?=W.heap[k]?
def wA.e C W:wA C W W:=⟨rfl,rfl,rfl,Nat.le_refl _,λ_ _ _=>rfl⟩
def zM{C W}:=wA.e C W
def wA.c{C A B E}(h:wA C A B)(k:wA C B E):wA C A E :=
 ⟨k.os.trans h.os,k.g.trans h.g,k.f.trans h.f,Nat.le_trans h.h k.h,λi b a=>(k.d i (Nat.lt_of_lt_of_le b h.h) a).trans (h.d i b a)⟩
def wA.l{C C' A B}(h:wA C A B)(a:∀k,C k->C' k):wA C' A B :=
 ⟨h.os,h.g,h.f,h.h,λi b c=>h.d i b (λq=>c (a i q))⟩
def wA.a C W o:wA C W (W.alloc o) :=
 ⟨rfl,rfl,rfl,by simp,λk b _=>Below.heap_alloc W o k b⟩
def wU{C W o}:=wA.a C W o
def wA.j C W:wA C W W.drew:=⟨rfl,rfl,rfl,Nat.le_refl _,λ_ _ _=>rfl⟩
def Bz{C}:=wA.j C
def wA.b{C}W a v(h:C a.block):wA C W (W.setCell a v) :=
 ⟨rfl,rfl,rfl,by simp[World.setCell],λk _ c=>Below.heap_setCell _ _ _ _ (λe=>c (e▸h))⟩
def zP{C W a v}:=wA.b (C:=C) W a v
def wA.m{C}W r o(h:C r):wA C W (W.putObj r o) :=
 ⟨rfl,rfl,rfl,by simp,λk _ a=>World.putObj_heap_other (λe=>a (e▸h))⟩
def wA.i{C B W W'}(h:Below B W W')(a:∀k,k<W.heap.size->¬C k->k<B):wA C W W' :=
 ⟨h.os,h.tape,h.output,h.size,λk b c=>h.block k (a k b c)⟩
def wA.below{C B W W'}(h:wA C W W')(c:B<=W.heap.size)(a:∀k,k<B->¬C k):Below B W W' :=
 ⟨h.os,h.g,h.f,h.h,λk b=>h.d k (by omega) (a k b)⟩
def wA.p{C W W'}(h:wA C W W'){p}(b:p.block<W.heap.size)(a:¬C p.block):W'.cell? p=W.cell? p :=
 World.cell?_of_block (h.d p.block b a)
def wA.n{C W W'}(h:wA C W W'){p}(b:p.block<W.heap.size)(a:¬C p.block):W'.frozen? p=W.frozen? p :=
 World.frozen?_of_block (h.d p.block b a)
def vo(W:World)(v:Value)(t:TypeId):(W.alloc (.cells #[v] t)).cell? ⟨W.heap.size,0,none⟩=some v:=by
 have h:=World.alloc_heap_new W (.cells #[v] t);simp only[World.cell?,h];rfl
def xj(W:World)(v:Value)(t:TypeId):(W.alloc (.cells #[v] t)).frozen? ⟨W.heap.size,0,none⟩=false:=by
 have h:=World.alloc_heap_new W (.cells #[v] t);simp only[World.frozen?,h];rfl
def uv{W:World}{a:Addr}{v:Value}(o:Obj)(h:W.cell? a=some v):(W.alloc o).cell? a=some v:=cell_kept h (World.grownBy_alloc W o none) (λr e=>by cases e)
def vH{W:World}{a:Addr}{v:Value}{o:Obj}(h:W.cell? a=some v)(b:W.frozen? a=false):(W.alloc o).frozen? a=false:=(frozen_kept h (World.grownBy_alloc W o none) (λr e=>by cases e)).trans b
def vI{B d}W o(h:B<=d)(a:B<=W.heap.size):Below B W (W.putObj d o) :=
 (Below.refl _ W).grown (grownBy_putObj' W d o) a (λk e=>by cases e;exact h)
def Ab{σ:Type}(B:Nat)(J:σ->World->Prop):Prop:=∀s A E,J s A->Below B A E->J s E
def Nv{σ:Type}(P:Program)(g:Nat)(lb:Array Value)(s0:σ)(more:σ->Prop)(b:σ->σ)(enc:σ->Array Value)(D:Nat->Prop)(w:World):Prop :=
 ∀(l:Nat) (C:Nat->Prop) (J a:σ->World->Prop) (W:World),w.heap.size<=W.heap.size->(∀k,D k->W.heap[k]?=w.heap[k]?)->(∀k,D k->¬C k)->(∀k,W.heap.size<=k->¬C k) ->
  Ab W.heap.size J->Ab W.heap.size a ->
  (∀s W1,J s W1->more s->YieldAt Fence.wide 0 P l (enc s) W1 λe W' =>
   (e=.returned (.bool true)/\J (b s) W'/\wA C W1 W')\/(e=.returned (.bool false)/\a s W'/\wA C W1 W')) ->
  J s0 W ->
  CallsIn Fence.wide 0 P g (#[.func (.yield l) #[] #[]]++lb) W λe W'=>(∃v,e=.returned v)/\((∃s,¬more s/\J s W')\/(∃s,more s/\a s W'))
def jp{σ:Type}(C:Nat->Prop)(I:σ->World->Prop)(a:Code->σ->World->Prop)(s s':σ)(W:World):Exit->Act->World->Prop
 |.normal,_,W'=>wA C W W'/\I s' W'
 |.ret,_,W'=>wA C W W'/\a .ret s W'
 |.exit id,_,W'=>wA C W W'/\a (.exit id) s W'
 |.goto t,_,W'=>wA C W W'/\a (.goto t) s W'
 |.panic _,_,_=>False
 |.outgrown,_,_=>False
def xm{P:Program}{σ:Type}{g:Operand}{ps:Array Tmp}{assign body:Code}{Q:Exit->Act->World->Prop}{a:Act}{w:World}
  {gf:Nat} {lb:Array Value} (hg:a.eval g=.func (.func gf) #[] lb) (eg:∀args w,(callFunc gf args).run P w=.ok (.enter gf args) w)
  {s0:σ} {more:σ->Prop} {ag:σ->σ} {enc:σ->Array Value} {D:Nat->Prop} (ay:Nv P gf lb s0 more ag enc D w) (aw:∀s,(enc s).size=ps.size)
  (hD:∀k,D k->k<w.heap.size)
  (C:Nat->Prop) (ah:∀k,D k->¬C k) (N:∀k,w.heap.size<=k->¬C k)
  (I:σ->World->Prop) (Y:Code->σ->World->Prop) (O:Ab w.heap.size I) (R:∀c,Ab w.heap.size (Y c)) (h0:I s0 w)
  (ax:∀(l:Nat) (s:σ) (W:World),w.heap.size<=l->l<W.heap.size->I s W->more s ->
   assign.wpIn (Fence.wide.inRound l) 0 P (Exit.then (λa₁ Z=>wA C W Z/\I s Z/\∀L,wA (λk=>k=l) Z L->L.heap.size=Z.heap.size->I s L ->
     body.wpIn (Fence.wide.inRound l) 0 P (jp C I Y s (ag s) L) a₁ L) (λ_ _ _=>False))
    { tmps:=(ps.zip (enc s)).foldl (λt (p,v)=>t.setIfInBounds p v) a.tmps,defers:=[] } W)
  (an:∀(d:Nat) (s:σ) (W:World),w.heap.size<=d->¬more s->I s W->W.heap[d]?=some (.deferred (some []))->Q .normal { a with defers:={ target:=.collected d,args:=#[] } :: a.defers } W)
  (az:∀(d:Nat) (c:Code) (s:σ) (W:World),w.heap.size<=d->more s->Y c s W->W.heap[d]?=some (.deferred (some []))->c.wpIn Fence.wide 0 P Q { a with defers:={ target:=.collected d,args:=#[] } :: a.defers } W) :
  (Code.rangeFunc g ps assign body).wpIn Fence.wide 0 P Q a w:=by
 refine wpIn_rangeFunc ?_;intro fn ao;obtain⟨f,y⟩:∃f:LoopState->Option Code->Loop,f=λst pe=>{ state:=st,pending:=pe,fn,tmps:=a.tmps,params:=ps,assign,body,defers:=w.heap.size }:=⟨_,rfl⟩
 obtain⟨W1,S⟩:=nm ((w.alloc (.deferred (some []))).alloc (.loop (f .ready none)));have a0:W1.heap.size=w.heap.size+2:=by rw[<-S];simp
 have aj:W1.heap[w.heap.size+1]?=some (.loop (f .ready none)):=by
  rw[<-S];have:=World.alloc_heap_new (w.alloc (.deferred (some []))) (.loop (f .ready none));rwa [World.size_alloc]at this
 have ai:W1.heap[w.heap.size]?=some (.deferred (some [])):=by
  rw[<-S];exact(Below.heap_alloc _ _ _ (by simp)).trans (World.alloc_heap_new w _)
 have af:Below w.heap.size w W1:=by
  rw[<-S];exact((Below.refl _ w).alloc (Nat.le_refl _) _).alloc (by simp) _
 have G:∀(W:World) (o:Obj),w.heap.size+1<W.heap.size->Below w.heap.size W (W.putObj (w.heap.size+1) o):=λW o ad =>
  (Below.refl _ W).grown (grownBy_putObj' W _ o) (by omega) (λk e=>by cases e;omega)
 refine⟨w.heap.size+1,[{ target:=.collected w.heap.size,args:=#[] }],W1,{ target:=.fn (.func gf) lb,args:=#[.func (.yield (w.heap.size+1)) #[] #[]] },W1,gf,
  #[.func (.yield (w.heap.size + 1)) #[] #[]] ++ lb, W1, ?_, ?_, ?_, ?_, ?_, ?_⟩
 ·rw[<-S,y];exact run_enterLoop_outer _ _ _ _ _
 ·simp only[resolve,hg];simp[go_sem]
 ·intro f' _;trivial
 ·simp[invoke,go_sem,eg]
 ·intro h;simp[Fence.wide]at h
 refine(ay (w.heap.size+1) (λk=>C k\/k=w.heap.size+1)
  (λs W=>I s W/\W.heap[w.heap.size+1]?=some (.loop (f .ready none))/\W.heap[w.heap.size]?=some (.deferred (some [])))
  (λs W=>∃c,Y c s W/\W.heap[w.heap.size+1]?=some (.loop (f .done (some c)))/\W.heap[w.heap.size]?=some (.deferred (some [])))
  W1 (by omega) (λk j=>af.block k (hD k j)) (λk j T=>T.elim (ah k j) (λe=>by have:=hD k j;omega)) (λk j T=>T.elim (N k (by omega)) (λe=>by omega))
  (λs A E X x=>⟨O s A E X.1 (x.mono (by omega)),(x.block _ (by omega)).trans X.2.1,(x.block _ (by omega)).trans X.2.2⟩)
  (λs A E X x=>by
   obtain⟨c,T,r,j⟩:=X;exact⟨c,R c s A E T (x.mono (by omega)),(x.block _ (by omega)).trans r,(x.block _ (by omega)).trans j⟩)
  ?_ ⟨O s0 w W1 h0 af,aj,ai⟩).mono ?_
 ·
  rintro s W ⟨U,r,j⟩ V;have ad:=(Array.getElem?_eq_some_iff.1 r).1;have hy:=run_yield (P:=P) (args:=enc s) r (by rw[y];exact aw s);rw[y]at hy;refine⟨fn,_,assign,body,hy,roundIn_of_wpIn ao (wpIn_mono (ax _ s W (by omega) ad U V) ?_)⟩;intro e a₁ J n;cases e with
  |normal =>
   obtain⟨ab,ap,x⟩:=n;have au:=(ab.d _ ad (N _ (by omega))).trans r;have al:=(ab.d _ (by omega) (N _ (by omega))).trans j;have ae:=Nat.lt_of_lt_of_le ad ab.h;refine⟨_,run_beginRound au (by rw[y]),?_⟩;have aq:=O s J _ ap (G J (.loop { f .ready none with state:=.busy }) ae);have av:(J.putObj (w.heap.size+1) (.loop { f .ready none with state:=.busy })).heap[w.heap.size+1]?=some (.loop { f .ready none with state:=.busy }):=World.putObj_heap_same ae;have am:(J.putObj (w.heap.size+1) (.loop { f .ready none with state:=.busy })).heap[w.heap.size]?=some (.deferred (some [])):=(World.putObj_heap_other (by omega)).trans al;refine wpIn_mono (x _ (wA.m _ _ _ rfl) (by simp) aq) ?_;have aa:∀(q:Option Code) (b:World),wA C (J.putObj (w.heap.size+1) (.loop { f .ready none with state:=.busy })) b ->
     (Instr.endRound (w.heap.size+1) q).run P b=.ok (.bool q.isNone) (b.putObj (w.heap.size+1) (.loop (f (if q.isNone then .ready else .done) q))) /\
     w.heap.size+1<b.heap.size /\
     (b.putObj (w.heap.size+1) (.loop (f (if q.isNone then .ready else .done) q))).heap[w.heap.size+1]?=some (.loop (f (if q.isNone then .ready else .done) q)) /\
     (b.putObj (w.heap.size+1) (.loop (f (if q.isNone then .ready else .done) q))).heap[w.heap.size]?=some (.deferred (some [])):=λq b i=>by
    have u:=(i.d _ (by simpa using ae) (N _ (by omega))).trans av;have ak:=(i.d w.heap.size (by simp;omega) (N _ (by omega))).trans am;have:=run_endRound (P:=P) q u;rw[y]at this ⊢;exact⟨this,(Array.getElem?_eq_some_iff.1 u).1,World.putObj_heap_same (Array.getElem?_eq_some_iff.1 u).1,(World.putObj_heap_other (by omega)).trans ak⟩
   have ac:∀(b:World) (o:Obj),wA C (J.putObj (w.heap.size+1) (.loop { f .ready none with state:=.busy })) b->wA (λk=>C k\/k=w.heap.size+1) W (b.putObj (w.heap.size+1) o):=λb o i =>
    ((ab.l λ_=>.inl).c (wA.m _ _ _ (.inr rfl))).c ((i.l λ_=>.inl).c (wA.m _ _ _ (.inr rfl)))
   rintro e a3 b n;cases e with
   |normal =>
    obtain⟨i,B⟩:=n;obtain⟨H,u,F,z⟩:=aa none b i;exact⟨_,_,H,.inl ⟨rfl,⟨O _ _ _ B (G b _ u),F,z⟩,ac b _ i⟩⟩
   |ret =>
    obtain⟨i,B⟩:=n;obtain⟨H,u,F,z⟩:=aa (some .ret) b i;exact⟨_,_,H,.inr ⟨rfl,⟨.ret,R _ _ _ _ B (G b _ u),F,z⟩,ac b _ i⟩⟩
   |exit id =>
    obtain⟨i,B⟩:=n;obtain⟨H,u,F,z⟩:=aa (some (.exit id)) b i;exact⟨_,_,H,.inr ⟨rfl,⟨.exit id,R _ _ _ _ B (G b _ u),F,z⟩,ac b _ i⟩⟩
   |goto t =>
    obtain⟨i,B⟩:=n;obtain⟨H,u,F,z⟩:=aa (some (.goto t)) b i;exact⟨_,_,H,.inr ⟨rfl,⟨.goto t,R _ _ _ _ B (G b _ u),F,z⟩,ac b _ i⟩⟩
   |panic ch=>exact n.elim
   |outgrown=>exact n.elim
  |ret=>exact n.elim
  |exit id=>exact n.elim
  |goto t=>exact n.elim
  |panic ch=>exact n.elim
  |outgrown=>exact n.elim
 rintro e W2 ⟨⟨v,rfl⟩,(⟨s,V,U,r,j⟩|⟨s,V,c,U,r,j⟩)⟩
 ·exact⟨none,_,by have:=run_endLoop (P:=P) r (by rw[y];simp);rw[y]at this;exact this,
   an _ s _ (Nat.le_refl _) V (O _ _ _ U (G W2 _ (Array.getElem?_eq_some_iff.1 r).1)) ((World.putObj_heap_other (by omega)).trans j)⟩
 exact⟨some c,_,by have:=run_endLoop (P:=P) r (by rw[y];simp);rw[y]at this;exact this,
  az _ c s _ (Nat.le_refl _) V (R c _ _ _ U (G W2 _ (Array.getElem?_eq_some_iff.1 r).1)) ((World.putObj_heap_other (by omega)).trans j)⟩
abbrev Iv(x:Int):Value:=.int .i64 x
abbrev Ad(b o:Nat):Addr:=⟨b,o,none⟩
abbrev Pt(b o:Nat):Value:=.pointer (some ⟨b,o,none⟩)
abbrev Cs(f:Nat)(xs:Array Value)(w:World)(Q:Ending->World->Prop):Prop:=Calls Tryz.prog f xs w Q
abbrev Kf(w W:World):Prop:=wA (λ_=>False) w W
abbrev Bw(w W:World):Prop:=Below w.heap.size w W
abbrev Oa:=Option Addr
abbrev Np:=Nat->Prop
abbrev Ew:=Ending->World->Prop
def wK:=@List.length_append
def Sv:=@Nat.le_refl
def zG:=@List.getElem?_eq_getElem
def wX:=@Nat.lt_of_lt_of_le
def zI:=@World.cell?_of_block
def zT:=@List.getElem?_eq_some_iff
def wL:=@bodyPost_ret
def Cq:=@Array.getElem?_eq_some_iff
def Wz:=@Below.refl
def wN:=@Nat.le_trans
def Ly:=@Below.heap_setCell
def EK:=@Nat.zero_le
def zU:=@List.append_assoc
def Bs:=@List.length_singleton
def Be:=@List.mem_of_getElem?
def zQ:=@List.length_cons
def Cr:=@List.getElem?_append_left
def zN:=@List.length_map
def zV:=@World.size_alloc
def Aw:=@List.mem_singleton
def Cx:=@List.getD_eq_getElem?_getD
def Di:=@List.getElem?_append_right
def zL:=@Nat.zero_add
def Dt:=@Option.isSome_iff_exists
def Ff:=@World.frozen?_setCell
def Bh:=@List.mem_append
def Df:=@World.alloc_heap_new
def Cb:=@List.cons_append
def Ec:=@World.frozen?_of_block
def Ca:=@List.append_nil
def Ft:=@ByteArray.size_append
def Hg:=@Below.heap_alloc
def Cl:=@List.map_append
def Dj:=@List.flatMap_cons
def Hh:=@List.eq_nil_of_length_eq_zero
def Cc:=@Nat.add_zero
def TW:=@Nat.not_lt_zero
def Oi:=@ByteArray.append_empty
def Na:=@ByteArray.append_assoc
def Du:=@List.getElem?_map
def Dl:=@List.nil_append
def Iz:=@Array.getElem?_setIfInBounds_ne
def Bx:=@List.mem_cons
def Gu:=@Option.map_eq_some_iff
def Fu:=@Array.replicate_succ
def Fv:=@Array.replicate_zero
def Fw:=@List.append_toArray
def Ef:=@List.length_nil
def Fg:=@List.size_toArray
def Fx:=@List.push_toArray
def Gv:=@decide_eq_false
def Jn:=@List.singleton_append
def Gi:=@decide_eq_true
def Gb:=@List.getElem_mem
def Jo:=@List.take_of_length_le
def Fy:=@List.length_take
abbrev Sl(a:Option Addr)(n c:Nat):Value:=.slice a n c
abbrev nS:Value:=.slice none 0 0
abbrev Sm(b o:Nat):Option Addr:=some ⟨b,o,none⟩
abbrev Uv(x:Int):Value:=.int .u64 x
abbrev Bv(x:Int):Value:=.int .u8 x
abbrev Bt:Value:=.bool true
abbrev Bf:Value:=.bool false
abbrev Rt(v:Value):Ending:=.returned v
abbrev LI:=List Int
abbrev Av:=Array Value
abbrev Oc(xs:Array Value)(t:TypeId):Obj:=.cells xs t
abbrev Wl:=World
abbrev Vl:=Value
def aB{a b:Prop}(h:a)(k:¬a):b:=absurd h k
def oH{q p:Prop}(x:q)(h:q->p:=by intro;omega):p:=h x
def oG{r q p:Prop}(x:q)(y:r)(h:q->r->p:=by intros;omega):p:=h x y
def oM{p:Prop}(h:p:=by omega):p:=h
def sM{p:Prop}(h:p:=by simp):p:=h
def rR{p:Prop}(h:p:=by kernel_rfl):p:=h
def dC{p:Prop}(h:p:=by decide):p:=h
def sO{p:Prop}(h:p:=by simp;omega):p:=h
def iR{p:Prop}(h:p:=by intros;kernel_rfl):p:=h
def aS{p:Prop}(h:p:=by assumption):p:=h
def Zn:=@if_neg
def Zp:=@if_pos
def zB:=@below_drewN
def zD:=@congrArg
def Dc:=@List.mem_map
def Eg:=@Int.le_refl
def Eo:=@Nat.add_assoc
def Er:=@List.map_cons
def Fa:=@Sem.run_bind
def Fz:=@Calls.quiet_of_same
def Gc:=@Sem.run_pure
def Ge:=@Nat.zero_mul
def Gj:=@Src.ofSlice
def Gk:=@Result.andThen_ok
def Gl:=@List.map_nil
def Gw:=@Nat.le_succ
def Gx:=@Nat.add_mul
def Hi:=@List.mem_flatMap
def Hs:=@List.map_toArray
def Ht:=@beq_eq_false_iff_ne
def Hu:=@List.take_add_one
def Ik:=@List.mem_filter
def Ja:=@World.rowIs_made
def Jb:=@Nat.lt_succ_self
def Jc:=@Nat.lt_irrefl
def Jp:=@List.not_mem_nil
def Jq:=@List.drop_of_length_le
def EL:=@World.cell?_setCell_same'
def Kd:=@Bool.and_eq_true
def Ke:=@Nat.add_sub_cancel
def Ko:=@Option.some.inj
def Kq:=@List.length_set
def Kr:=@Bool.false_eq_true
def Ks:=@List.drop_zero
def Kt:=@Prod.mk.injEq
def Ku:=@Array.length_toList
def Ll:=@List.take_length
def Lm:=@Nat.mul_le_mul_right
def Ln:=@World.cell?_setCell_other
def Lz:=@List.getElem?_set_self
def Ma:=@Bool.or_eq_true
def Mb:=@Nat.mul_one
def Mc:=@List.mem_cons_self
def Md:=@List.map_map
def Me:=@Int.eq_ofNat_of_zero_le
def Mf:=@Int.natCast_add
def Nb:=@List.getElem?_of_mem
def Nc:=@World.drewN_drewN
def Nd:=@Bool.or_false
def Nf:=@Bool.eq_iff_iff
def Ng:=@List.mem_range
def Oj:=@List.getElem?_eq_none
def Ol:=@List.getElem?_set_ne
def Om:=@Array.getElem?_modify
def On:=@List.mem_cons_of_mem
def Oo:=@List.map_congr_left
def Oq:=@List.length_drop
def Ot:=@List.getLast?_concat
def Qe:=@List.length_replicate
def Qf:=@List.length_filter_le
def Qg:=@List.set_append_right
def Qh:=@World.cell?_setCells_out
def Qi:=@World.cell?_setCells_in
def Qj:=@List.drop_eq_getElem_cons
def Qk:=@List.pairwise_append
def Ql:=@List.length_dropLast
def Qn:=@World.putObj_heap_other
def Sw:=@Array.getElem?_setIfInBounds_self_of_lt
def Sx:=@Nat.mod_two_eq_zero_or_one
def Kg{a b c}:=EL a b c
def wF{a}:=Sv a
def wI{a}:=Wz a
def zJ{a b c}:=Ly a b c
def wP{a}:=EK a
def Jd{a b c d}:=Ff a b c d
def Hj{a b c}:=Hg a b c
def Ct{a}:=TW a
namespace M
structure OpD where
 e:Int
 sl:Nat
 set:Nat->Int
 f:Int
structure uh where
 nl:Nat
 f:Nat->Int
 h:Bool
 bl:Nat
 e:Nat->OpD
structure Gr where
 nr:Nat
 a:Nat->uh
 nb:Nat
 d:Nat->uh
instance:Inhabited OpD:=⟨⟨0,0,λ_=>0,0⟩⟩
instance:Inhabited uh:=⟨⟨0,λ_=>0,false,0,λ_=>default⟩⟩
def dI(S:Nat->Int)(i:Nat):Prop :=
 0<=S i/\S i<=255/\(i%2=1->S (i-1)<=S i)/\(0<i/\i%2=0->S (i-1)+2<=S i)
def bL(m:Nat)(S:Nat->Int):Prop:=m%2=0/\∀i,i<m->dI S i
def bQ(S:Nat->Int)(k:Nat):Int:=if k=0 then 0 else S (2*k-1)+2
def eH(S:Nat->Int)(k:Nat):Prop:=bQ S k<=S (2*k)/\S (2*k)<=S (2*k+1)/\S (2*k+1)<=255
def dW S h:(∀k,k<h->eH S k)↔∀i,i<2*h->dI S i:=by
 constructor
 ·intro H;have f:∀k,k<h->0<=S (2*k):=by
   intro k b;induction k with
   |zero=>have:=(H 0 b).1;simpa[bQ] using this
   |succ k j =>
    have a:=(H (k+1) b).1;have c:=(H k oM).2.1;have d:=j oM;unfold bQ at a;rw[Zn oM,show 2*(k+1)-1=2*k+1 by omega]at a;omega
  intro i l;rcases Sx i with e|e
  ·obtain⟨k,rfl⟩:∃k,i=2*k:=⟨i / 2,oM⟩;have b:k<h:=oM;obtain⟨a,c,d⟩:=H k b;refine⟨f k b,oM,λh=>oM,λg=>?_⟩;unfold bQ at a;rw[Zn oM]at a;exact a
  obtain⟨k,rfl⟩:∃k,i=2*k+1:=⟨i / 2,oM⟩;have b:k<h:=oM;obtain⟨a,c,d⟩:=H k b;have:=f k b;exact⟨oM,d,λ_=>c,λg=>oM⟩
 intro H k b;have a:=H (2*k) oM;have c:=H (2*k+1) oM;refine⟨?_,by have:=c.2.2.1 oM;simpa using this,c.2.1⟩;unfold bQ;by_cases e:k=0
 ·subst e;simpa using a.1
 rw[Zn e];exact a.2.2.2 ⟨oM,oM⟩
def bH(c:Int):Prop:=(97<=c/\c<=122)\/(65<=c/\c<=90)\/c=95
def bN(c:Int):Prop:=48<=c/\c<=57
def cC(n:Nat)(T:Nat->Int):Prop:=(∀i,i<n->bH (T i)\/bN (T i))/\0<n/\bH (T 0)
def cE(n:Nat)(T:Nat->Int):Prop:=n<=32/\cC n T
def ar(k:Int):Int:=if k=4\/k=5 then 2 else if k=6\/k=7 then 1 else 0
def cP k:0<=ar k/\ar k<=2:=by unfold ar;split<;>(try split)<;>omega
def dep(B:Nat->OpD):Nat->Int
 |0=>0
 |i+1=>dep B i+(1-ar (B i).e)
def bP(B:Nat->OpD)(n:Nat):Nat->Int
 |0=>1
 |j+1=>bP B n j+(ar (B (n-1-j)).e-1)
def dF(n:Nat)(B:Nat->OpD):Prop:=(∀i,i<n->ar (B i).e<=dep B i)/\dep B n=1
def zk(n:Nat)(B:Nat->OpD):Prop:=(∀j,j<n->bP B n j≠0)/\bP B n n=0
def eI B n j(b:j<=n):bP B n j=1-dep B n+dep B (n-j):=by
 induction j with
 |zero=>simp[bP]
 |succ j a =>
  rw[bP,a oM];have e:n-j=(n-1-j)+1:=oM;rw[show n-(j+1)=n-1-j by omega,e,dep];omega
def fS n B:zk n B↔dF n B:=by
 constructor
 ·rintro⟨b,a⟩;have e:dep B n=1:=by
   have:=eI B n n wF;rw[a,Nat.sub_self,dep]at this;omega
  have pos:∀j,j<n->1<=dep B (n-j):=by
   intro j c;induction j with
   |zero=>rw[Nat.sub_zero];omega
   |succ j h =>
    have g:=h oM;have f:=b (j+1) c;rw[eI B n (j+1) oM]at f;have d:n-j=(n-(j+1))+1:=oM;rw[d,dep]at g;have:=cP (B (n-(j+1))).e;omega
  refine⟨λi k=>?_,e⟩;have:=pos (n-(i+1)) oM;rw[show n-(n-(i+1))=i+1 by omega,dep]at this;omega
 rintro⟨b,a⟩;refine⟨λj c=>?_,?_⟩
 ·rw[eI B n j oM,a];have e:n-j=(n-1-j)+1:=oM;have:=b (n-1-j) oM;rw[e,dep];omega
 rw[eI B n n wF,a,Nat.sub_self,dep];omega
def fX B n i(d:i<=n)(h:∀j,j<i->ar (B j).e<=dep B j):0<=dep B i/\dep B i<=i:=by
 induction i with
 |zero=>simp[dep]
 |succ i a =>
  have b:=a oM (λj f=>h j oM);have c:=h i oM;have:=cP (B i).e;rw[dep];omega
def need_bd B n j(h:∀k,k<j->bP B n k≠0):0<=bP B n j/\bP B n j<=j+1:=by
 induction j with
 |zero=>simp[bP]
 |succ j a =>
  have b:=a (λk d=>h k oM);have c:=h j oM;have:=cP (B (n-1-j)).e;rw[bP];omega
def bM(nr a:Nat)(k:Int):Int:=if k=3 then a else if k=2 then nr else 1
def bE(nr a:Nat)(o:OpD):Prop :=
 0<=o.e/\o.e<=7/\(o.e=1->bL o.sl o.set)/\(o.e≠1->o.sl=0)/\0<=o.f/\o.f<bM nr a o.e
def bF(nr a n:Nat)(B:Nat->OpD):Prop:=(∀i,i<n->bE nr a (B i))/\dF n B
def bO(n:Nat)(B:Nat->OpD)(l:Nat):Prop:=∃i,i<n/\(B i).e=3/\(B i).f=l
def cQ(a b:uh):Prop:=a.nl=b.nl/\∀i,i<a.nl->a.f i=b.f i
def LessT(n:Nat)(S:Nat->Int)(m:Nat)(T:Nat->Int):Prop :=
 ∃k,(∀i,i<k->S i=T i)/\k<=n/\k<=m/\((k<n/\k<m/\S k<T k)\/(k=n/\k<m))
def cS(a b:uh):Prop:=LessT a.nl a.f b.nl b.f
def sum(f:Nat->Nat):Nat->Nat
 |0=>0
 |n+1=>sum f n+f n
def dV f{i n}(h:i<=n):sum f i<=sum f n:=by
 induction n with
 |zero =>
   have:i=0:=oM;subst this;exact wF
 |succ n a =>
  by_cases e:i=n+1
  ·subst e;exact wF
  rw[sum];have:=a oM;omega
def eG f{i n}(h:i<n):f i<=sum f n:=by
 have:=dV f (show i+1<=n by omega);rw[sum]at this;omega
def ops(g:Gr):Nat:=sum (λi=>(g.a i).bl) g.nr+sum (λi=>(g.d i).bl) g.nb
structure Valid(g:Gr):Prop where
 r1:0<g.nr
 r2:g.nr<=100
 l2:g.nb<=100
 rn:∀i,i<g.nr->cE (g.a i).nl (g.a i).f
 ru:∀i,i<g.nr->∀j,j<i->¬cQ (g.a i) (g.a j)
 ln:∀i,i<g.nb->cE (g.d i).nl (g.d i).f
 la:∀i,i<g.nb->0<i->cS (g.d (i-1)) (g.d i)
 rb:∀i,i<g.nr->bF g.nr g.nb (g.a i).bl (g.a i).e
 lb:∀i,i<g.nb->(g.d i).h=true->bF g.nr g.nb (g.d i).bl (g.d i).e
 lz:∀i,i<g.nb->(g.d i).h=false->(g.d i).bl=0
 lt:∀i,i<g.nb->(g.d i).h=false->(∃j,j<g.nr/\bO (g.a j).bl (g.a j).e i)\/∃j,j<g.nb/\bO (g.d j).bl (g.d j).e i
 ol:ops g<=2000
end M
section
open M (OpD uh Gr)
def yO{a b}(h:a=b):Rt (.bool a)=Rt (.bool b):=by rw[h]
def uW{k a b}(h:a=b):Rt (.int k a)=Rt (.int k b):=by rw[h]
def ud{w:Wl}{a:Addr}{v:Vl}(h:w.cell? a=some v):a.block<w.heap.size:=by
 unfold World.cell? at h;cases b:w.heap[a.block]? with
 |none=>simp[b]at h
 |some o=>exact(Cq.1 b).1
def ue{w w' a v}(h:w.cell? a=some v)(k:Bw w w'):w'.cell? a=some v :=
 (k.cell (p:=a) (ud h)).trans h
def wB(Q:Np)(k:IntKind)(w:Wl)(a:Oa)(n:Nat)(S:Nat->Int):Prop :=
 n=0\/∃b off,a=some (Ad b off)/\Q b/\∀i,i<n->w.cell? (Ad b (off+i))=some (.int k (S i))
structure Em(Q:Np)(w:Wl)(b o:Nat)(d:OpD):Prop where
 e:w.cell? (Ad b o)=some (Iv d.e)
 set:∃a c,w.cell? (Ad b (o+1))=some (Sl a d.sl c)/\wB Q .i64 w a d.sl d.set
 f:w.cell? (Ad b (o+2))=some (Iv d.f)
def wT(Q:Np)(w:Wl)(a:Oa)(n:Nat)(B:Nat->OpD):Prop :=
 n=0\/∃b off,a=some (Ad b off)/\Q b/\∀i,i<n->Em Q w b (off+i*3) (B i)
structure Ch(Q:Np)(w:Wl)(b o:Nat)(d:uh):Prop where
 f:∃a c,w.cell? (Ad b o)=some (Sl a d.nl c)/\wB Q .u8 w a d.nl d.f
 e:∃a c,w.cell? (Ad b (o+1))=some (Sl a d.bl c)/\wT Q w a d.bl d.e
structure Ea(Q:Np)(w:Wl)(b o:Nat)(d:uh):Prop where
 f:∃a c,w.cell? (Ad b o)=some (Sl a d.nl c)/\wB Q .u8 w a d.nl d.f
 h:w.cell? (Ad b (o+1))=some (.bool d.h)
 e:∃a c,w.cell? (Ad b (o+2))=some (Sl a d.bl c)/\wT Q w a d.bl d.e
def Bq(Q:Np)(w:Wl)(a:Oa)(n:Nat)(R:Nat->uh):Prop :=
 n=0\/∃b off,a=some (Ad b off)/\Q b/\∀i,i<n->Ch Q w b (off+i*2) (R i)
def Da(Q:Np)(w:Wl)(a:Oa)(n:Nat)(R:Nat->uh):Prop :=
 n=0\/∃b off,a=some (Ad b off)/\Q b/\∀i,i<n->Ea Q w b (off+i*3) (R i)
def wQ(Q:Np)(w w':Wl):Prop:=∀b,Q b->w'.heap[b]?=w.heap[b]?
def wQ.p{Q w w'}(h:wQ Q w w'){b o}(a:Q b):w'.cell? (Ad b o)=w.cell? (Ad b o) :=
 zI (w:=w) (h b a)
def wQ.c{Q w w' d}(h:wQ Q w w')(k:wQ Q w' d):wQ Q w d:=λb a=>(k b a).trans (h b a)
variable {Q Q':Np} {w w':Wl}
def wB.on{k:IntKind}{a:Oa}{n:Nat}{S:Nat->Int}(h:wB Q k w a n S)(t:wQ Q w w'):wB Q k w' a n S:=by
 rcases h with h|⟨b,off,e,c,h⟩
 ·exact .inl h
 exact .inr ⟨b,off,e,c,λi d=>(t.p c).trans (h i d)⟩
def wB.g{k:IntKind}{a:Oa}{n:Nat}{S:Nat->Int}(h:wB Q k w a n S)(t:∀b,Q b->Q' b):wB Q' k w a n S:=by
 rcases h with h|⟨b,off,e,c,h⟩
 ·exact .inl h
 exact .inr ⟨b,off,e,t b c,h⟩
def Em.on{b o:Nat}{d:OpD}(h:Em Q w b o d)(e:Q b)(t:wQ Q w w'):Em Q w' b o d:=by
 obtain⟨f,⟨a,c,g,i⟩,j⟩:=h;exact⟨(t.p e).trans f,⟨a,c,(t.p e).trans g,i.on t⟩,(t.p e).trans j⟩
def Em.g{b o:Nat}{d:OpD}(h:Em Q w b o d)(t:∀b,Q b->Q' b):Em Q' w b o d:=by
 obtain⟨e,⟨a,c,f,i⟩,j⟩:=h;exact⟨e,⟨a,c,f,i.g t⟩,j⟩
def wT.on{a:Oa}{n:Nat}{B:Nat->OpD}(h:wT Q w a n B)(t:wQ Q w w'):wT Q w' a n B:=by
 rcases h with h|⟨b,off,e,c,h⟩
 ·exact .inl h
 exact .inr ⟨b,off,e,c,λi d=>(h i d).on c t⟩
def wT.g{a:Oa}{n:Nat}{B:Nat->OpD}(h:wT Q w a n B)(t:∀b,Q b->Q' b):wT Q' w a n B:=by
 rcases h with h|⟨b,off,e,d,h⟩
 ·exact .inl h
 exact .inr ⟨b,off,e,t b d,λi c=>(h i c).g t⟩
def Ch.on{b o:Nat}{d:uh}(h:Ch Q w b o d)(e:Q b)(t:wQ Q w w'):Ch Q w' b o d:=by
 obtain⟨⟨a,c,i,j⟩,⟨f,g,k,l⟩⟩:=h;exact⟨⟨a,c,(t.p e).trans i,j.on t⟩,⟨f,g,(t.p e).trans k,l.on t⟩⟩
def Ch.g{b o:Nat}{d:uh}(h:Ch Q w b o d)(t:∀b,Q b->Q' b):Ch Q' w b o d:=by
 obtain⟨⟨a,c,i,j⟩,⟨e,f,k,l⟩⟩:=h;exact⟨⟨a,c,i,j.g t⟩,⟨e,f,k,l.g t⟩⟩
def Ea.on{b o:Nat}{d:uh}(h:Ea Q w b o d)(e:Q b)(t:wQ Q w w'):Ea Q w' b o d:=by
 obtain⟨⟨a,c,j,k⟩,i,⟨f,g,l,m⟩⟩:=h;exact⟨⟨a,c,(t.p e).trans j,k.on t⟩,(t.p e).trans i,⟨f,g,(t.p e).trans l,m.on t⟩⟩
def Ea.g{b o:Nat}{d:uh}(h:Ea Q w b o d)(t:∀b,Q b->Q' b):Ea Q' w b o d:=by
 obtain⟨⟨a,c,j,k⟩,i,⟨e,f,l,m⟩⟩:=h;exact⟨⟨a,c,j,k.g t⟩,i,⟨e,f,l,m.g t⟩⟩
def Bq.g{a:Oa}{n:Nat}{R:Nat->uh}(h:Bq Q w a n R)(t:∀b,Q b->Q' b):Bq Q' w a n R:=by
 rcases h with h|⟨b,off,e,d,h⟩
 ·exact .inl h
 exact .inr ⟨b,off,e,t b d,λi c=>(h i c).g t⟩
def Da.g{a:Oa}{n:Nat}{R:Nat->uh}(h:Da Q w a n R)(t:∀b,Q b->Q' b):Da Q' w a n R:=by
 rcases h with h|⟨b,off,e,d,h⟩
 ·exact .inl h
 exact .inr ⟨b,off,e,t b d,λi c=>(h i c).g t⟩
def wB.q{k:IntKind}{a:Oa}{n:Nat}{S:Nat->Int}(h:wB Q k w a n S)(t:Bw w w'):wB Q k w' a n S:=by
 rcases h with h|⟨b,off,e,d,h⟩
 ·exact .inl h
 exact .inr ⟨b,off,e,d,λi c=>ue (h i c) t⟩
def Em.q{b o:Nat}{d:OpD}(h:Em Q w b o d)(t:Bw w w'):Em Q w' b o d:=by
 obtain⟨e,⟨a,c,f,g⟩,i⟩:=h;exact⟨ue e t,⟨a,c,ue f t,g.q t⟩,ue i t⟩
def wT.q{a:Oa}{n:Nat}{B:Nat->OpD}(h:wT Q w a n B)(t:Bw w w'):wT Q w' a n B:=by
 rcases h with h|⟨b,off,e,d,h⟩
 ·exact .inl h
 exact .inr ⟨b,off,e,d,λi c=>(h i c).q t⟩
def Ch.q{b o:Nat}{d:uh}(h:Ch Q w b o d)(t:Bw w w'):Ch Q w' b o d:=by
 obtain⟨⟨a,c,g,i⟩,⟨e,f,j,k⟩⟩:=h;exact⟨⟨a,c,ue g t,i.q t⟩,⟨e,f,ue j t,k.q t⟩⟩
def Ea.q{b o:Nat}{d:uh}(h:Ea Q w b o d)(t:Bw w w'):Ea Q w' b o d:=by
 obtain⟨⟨a,c,i,j⟩,g,⟨e,f,k,l⟩⟩:=h;exact⟨⟨a,c,ue i t,j.q t⟩,ue g t,⟨e,f,ue k t,l.q t⟩⟩
def Bq.q{a:Oa}{n:Nat}{R:Nat->uh}(h:Bq Q w a n R)(t:Bw w w'):Bq Q w' a n R:=by
 rcases h with h|⟨b,off,e,d,h⟩
 ·exact .inl h
 exact .inr ⟨b,off,e,d,λi c=>(h i c).q t⟩
def Da.q{a:Oa}{n:Nat}{R:Nat->uh}(h:Da Q w a n R)(t:Bw w w'):Da Q w' a n R:=by
 rcases h with h|⟨b,off,e,d,h⟩
 ·exact .inl h
 exact .inr ⟨b,off,e,d,λi c=>(h i c).q t⟩
def uk w o:Bw w (w.alloc o):=(wI w).alloc wF o
def wG w{o}:=uk w o
def vy w o p:Bw w ((w.alloc o).alloc p):=(uk w o).alloc sM p
def Bn w{o p}:=vy w o p
def Mp w o p q:Bw w (((w.alloc o).alloc p).alloc q):=(vy w o p).alloc sO q
def uf{a b c}(h:Bw a b)(k:Bw b c):Bw a c:=h.trans (k.mono h.size)
def Of(w:Wl):Nat->Prop:=λb=>b<w.heap.size
end
def jS{P:Prop}(h:P):(true=true↔P):=⟨λ_=>h,λ_=>rfl⟩
def vh{P:Prop}(h:¬P):(false=true↔P):=⟨(λe=>aB e dC),λq=>aB q h⟩
def Ex(P:Prop)(w:Wl)(e:Ending)(w':Wl):Prop:=(∃r:Bool,e=Rt (.bool r)/\(r=true↔P))/\w=w'
def yz(P:Prop)(w:Wl)(e:Ending)(w':Wl):Prop:=(∃r:Bool,e=Rt (.bool r)/\(r=true↔P))/\Bw w w'
def Ex.b{P:Prop}{w w' e}(h:Ex P w e w'):yz P w e w':=by
 obtain⟨a,rfl⟩:=h;exact⟨a,wI _⟩
def SW(c:Int):c<65\/(65<=c/\c<=90)\/(90<c/\c<95)\/c=95\/c=96\/(97<=c/\c<=122)\/122<c:=oM
def SX(c:Int):c<48\/(48<=c/\c<=57)\/57<c:=oM
def yR c{w}(b:0<=c)(d:c<=255) :
  Cs 194 #[Bv c] w (Ex (M.bH c) w):=by
 rcases SW c with h|⟨h,a⟩|⟨h,a⟩|h|h|⟨h,a⟩|h;all_goals (try subst h)
 all_goals (
  go_enter func194,ntmps194;go_wp2;go_ret;exact⟨⟨_,rfl,by simp[M.bH]<;>omega⟩,rfl⟩)
def uX c{w}(b:0<=c)(d:c<=255) :
  Cs 82 #[Bv c] w (Ex (M.bH c) w):=by
 rcases SW c with h|⟨h,a⟩|⟨h,a⟩|h|h|⟨h,a⟩|h;all_goals (try subst h)
 all_goals (
  go_enter func82,ntmps82;go_wp2;go_ret;exact⟨⟨_,rfl,by simp[M.bH]<;>omega⟩,rfl⟩)
def jb c{w}(b:0<=c)(d:c<=255) :
  Cs 83 #[Bv c] w (Ex (M.bN c) w):=by
 rcases SX c with h|⟨h,a⟩|h;all_goals (
  go_enter func83,ntmps83;go_wp2;go_ret;exact⟨⟨_,rfl,by simp[M.bN]<;>omega⟩,rfl⟩)
def yS c w(d:0<=c)(f:c<=255) :
  Cs 195 #[Bv c] w (Ex (M.bH c\/M.bN c) w):=by
 by_cases g:M.bH c
 ·have a:Hid (M.bH c):=g;go_enter func195,ntmps195;go_wp2_with (go_at_call 194;refine(yR c d f).mono ?_;rintro e W ⟨⟨r,rfl,b⟩,i⟩;subst W;obtain rfl:r=true:=b.2 a;clear b);go_ret;exact⟨⟨true,rfl,jS (.inl a)⟩,rfl⟩
 have a:Hid (¬M.bH c):=g;rcases SX c with h|⟨h,j⟩|h;all_goals (
  go_enter func195,ntmps195;go_wp2_with (go_at_call 194;refine(yR c d f).mono ?_;rintro e W ⟨⟨r,rfl,b⟩,i⟩;subst W;obtain rfl:r=false:=by { cases r;rfl;exact aB (b.1 rfl) a };clear b);go_ret;exact⟨⟨_,rfl,by simp[a.o,M.bN]<;>omega⟩,rfl⟩)
def SY(k:Int):k<4\/k=4\/k=5\/k=6\/k=7\/7<k:=oM
def yT{k}{w} :
  Cs 170 #[Iv k] w λe w'=>e=Rt (Iv (M.ar k))/\w=w':=by
 rcases SY k with h|h|h|h|h|h;all_goals (try subst h)
 all_goals (
  try (
   have a:(k==4)=false:=sO;have b:(k==5)=false:=sO;have c:(k==6)=false:=sO;have d:(k==7)=false:=by simp;omega)
  go_enter func170,ntmps170;go_wp2;go_ret;exact⟨uW (by unfold M.ar;first|rfl|(rw[Zn oM,Zn oM])),rfl⟩)
def SZ{k}{w} :
  Cs 92 #[Iv k] w λe w'=>e=Rt (Iv (M.ar k))/\w=w':=by
 rcases SY k with h|h|h|h|h|h;all_goals (try subst h)
 all_goals (
  try (
   have a:(k==4)=false:=sO;have b:(k==5)=false:=sO;have c:(k==6)=false:=sO;have d:(k==7)=false:=by simp;omega)
  go_enter func92,ntmps92;go_wp2;go_ret;exact⟨uW (by unfold M.ar;first|rfl|(rw[Zn oM,Zn oM])),rfl⟩)
end Go.Proofs.YtoihadcablknpaaGreatDoor
