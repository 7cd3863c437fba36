import Derived.RangeFuncNested
import Derived.RangeFuncBound
import Derived.Lib.ConvBytes
import Derived.Deep.OwnRows
import Derived.Test.YtmlblamikgkdcaaGreatChecked
import Derived.WalkSpells
import Derived.WalkLawsBesides
import Derived.BigQuiet
import Derived.Lib.BytesEntry
import Derived.Deep.RegionWith
set_option linter.unusedVariables false
set_option linter.unusedSimpArgs false
set_option linter.defProp false
set_option maxHeartbeats 40000000
set_option maxRecDepth 100000
namespace Go.RowKit
theorem Hid.o {p : Prop} (h : Hid p) : p := h
end Go.RowKit
namespace Go.Proofs.YtmlblamikgkdcaaGreat
open Go.RowKit
open Go.Proofs.Tryz
def nm{α:Sort _}(x:α):∃y,x=y:=⟨x,rfl⟩
def ua{p:Prop}(h:p):Hid p:=h
section
structure zA(C:Nat->Prop)(W W':World):Prop where
 os:W'.os=W.os
 g:W'.tape=W.tape
 f:W'.output=W.output
 l:W.heap.size<=W'.heap.size
 d:∀k,k<W.heap.size->¬C k->W'.heap[k]?=W.heap[k]?
def zA.e C W:zA C W W:=⟨rfl,rfl,rfl,Nat.le_refl _,λ_ _ _=>rfl⟩
def Cc{C W}:=zA.e C W
def zA.c{C A B E}(h:zA C A B)(k:zA C B E):zA C A E :=
 ⟨k.os.trans h.os,k.g.trans h.g,k.f.trans h.f,Nat.le_trans h.l k.l,λi b a=>(k.d i (Nat.lt_of_lt_of_le b h.l) a).trans (h.d i b a)⟩
def zA.h{C a A B}(h:zA C A B)(b:∀k,C k->a k):zA a A B :=
 ⟨h.os,h.g,h.f,h.l,λi c e=>h.d i c (λq=>e (b i q))⟩
def zA.a C W o:zA C W (W.alloc o) :=
 ⟨rfl,rfl,rfl,by simp,λk b _=>Below.heap_alloc W o k b⟩
def Gh C{W}:=zA.a C W
def zY{C W o}:=zA.a C W o
def zA.i C W:zA C W W.drew:=⟨rfl,rfl,rfl,Nat.le_refl _,λ_ _ _=>rfl⟩
def Ik{C}:=zA.i C
def Cj{C W}:=zA.i C W
def zA.b{C}W a v(h:C a.block):zA C W (W.setCell a v) :=
 ⟨rfl,rfl,rfl,by simp[World.setCell],λk _ c=>Below.heap_setCell _ _ _ _ (λe=>c (e▸h))⟩
def Dh{C W a v}:=zA.b (C:=C) W a v
def zA.s{C}W r o(h:C r):zA C W (W.putObj r o) :=
 ⟨rfl,rfl,rfl,by simp,λk _ a=>World.putObj_heap_other (λe=>a (e▸h))⟩
def zA.j{C B W W'}(h:Below B W W')(a:∀k,k<W.heap.size->¬C k->k<B):zA C W W' :=
 ⟨h.os,h.tape,h.output,h.size,λk b c=>h.block k (a k b c)⟩
def zA.below{C B W W'}(h:zA C W W')(c:B<=W.heap.size)(a:∀k,k<B->¬C k):Below B W W' :=
 ⟨h.os,h.g,h.f,h.l,λk b=>h.d k (by omega) (a k b)⟩
def zA.p{C W W'}(h:zA C W W'){p}(b:p.block<W.heap.size)(a:¬C p.block):W'.cell? p=W.cell? p :=
 World.cell?_of_block (h.d p.block b a)
def jw(W:World)(v:Value)(t:TypeId):(W.alloc (.cells #[v] t)).cell? ⟨W.heap.size,0,none⟩=some v:=by
 have h:=World.alloc_heap_new W (.cells #[v] t);simp only[World.cell?,h];rfl
def AJ(W:World)(v:Value)(t:TypeId):(W.alloc (.cells #[v] t)).frozen? ⟨W.heap.size,0,none⟩=false:=by
 have h:=World.alloc_heap_new W (.cells #[v] t);simp only[World.frozen?,h];rfl
def uG{W:World}{a:Addr}{v:Value}(o:Obj)(h:W.cell? a=some v):(W.alloc o).cell? a=some v:=cell_kept h (World.grownBy_alloc W o none) (λr e=>by cases e)
def Xd{W:World}{a:Addr}{v:Value}{o:Obj}(h:W.cell? a=some v)(b:W.frozen? a=false):(W.alloc o).frozen? a=false:=(frozen_kept h (World.grownBy_alloc W o none) (λr e=>by cases e)).trans b
def qf{B d}W o(h:B<=d)(a:B<=W.heap.size):Below B W (W.putObj d o) :=
 (Below.refl _ W).grown (grownBy_putObj' W d o) a (λk e=>by cases e;exact h)
def Ab{σ:Type}(B:Nat)(J:σ->World->Prop):Prop:=∀s A E,J s A->Below B A E->J s E
def US{σ:Type}(P:Program)(g:Nat)(lb:Array Value)(s0:σ)(b:σ->Prop)(c:σ->σ)(enc:σ->Array Value)(D:Nat->Prop)(w:World):Prop :=
 ∀(l:Nat) (C:Nat->Prop) (J a:σ->World->Prop) (W:World),w.heap.size<=W.heap.size->(∀k,D k->W.heap[k]?=w.heap[k]?)->(∀k,D k->¬C k)->(∀k,W.heap.size<=k->¬C k) ->
  Ab W.heap.size J->Ab W.heap.size a ->
  (∀s W1,J s W1->b s->YieldAt Fence.wide 0 P l (enc s) W1 λe W' =>
   (e=.returned (.bool true)/\J (c s) W'/\zA C W1 W')\/(e=.returned (.bool false)/\a s W'/\zA C W1 W')) ->
  J s0 W ->
  CallsIn Fence.wide 0 P g (#[.func (.yield l) #[] #[]]++lb) W λe W'=>(∃v,e=.returned v)/\((∃s,¬b s/\J s W')\/(∃s,b s/\a s W'))
def unG{σ:Type}(C:Nat->Prop)(I a:σ->World->Prop)(s s':σ)(W:World):Exit->Act->World->Prop
 |.normal,_,W'=>zA C W W'/\I s' W'
 |.ret,_,W'=>zA C W W'/\a s W'
 |_,_,_=>False
def Lp{σ:Type}(n:Nat)(u:Obj)(J:σ->World->Prop)(s:σ)(W:World):Prop:=J s W/\W.heap[n+1]?=some u/\W.heap[n]?=some (.deferred (some []))
def yY{W:World}{k:Nat}{u:Obj}(h:W.heap[k]?=some u):k<W.heap.size:=(Array.getElem?_eq_some_iff.1 h).1
def Uh{σ:Type}(d:Nat)(J:σ->World->Prop):Prop:=∀s A E,J s A->d<=A.heap.size->zA (λk=>k=d\/k=d+1) A E->J s E
section
variable {P:Program} {σ:Type} {g:Operand} {ps:Array Tmp} {assign body:Code} {Q:Exit->Act->World->Prop} {a:Act} {w:World} {gf:Nat} {lb:Array Value} {s0:σ} {more:σ->Prop} {next:σ->σ} {enc:σ->Array Value} {D:Nat->Prop}
def HX(P:Program)(ps:Array Tmp)(e g:Code)(a:Act)(w:World)(h:σ->Prop)(i:σ->σ)(enc:σ->Array Value)(C:Nat->Prop)(I d:σ->World->Prop):Prop :=
 ∀(l:Nat) (s:σ) (W:World),w.heap.size<=l->l<W.heap.size->I s W->h s ->
   e.wpIn (Fence.wide.inRound l) 0 P (Exit.then (λf c=>zA C W c/\I s c/\∀b,zA (λk=>k=l) c b->b.heap.size=c.heap.size->I s b ->
     g.wpIn (Fence.wide.inRound l) 0 P (unG C I d s (i s) b) f b) (λ_ _ _=>False))
    { tmps:=(ps.zip (enc s)).foldl (λt (p,v)=>t.setIfInBounds p v) a.tmps,defers:=[] } W
def Dn(P:Program)(Q:Exit->Act->World->Prop)(a:Act)(w:World)(b:σ->Prop)(I:σ->World->Prop):Prop :=
 ∀(d:Nat) (s:σ) (W:World),w.heap.size<=d->¬b s->I s W->W.heap[d]?=some (.deferred (some []))->Q .normal { a with defers:={ target:=.collected d,args:=#[] } :: a.defers } W
def UT(hg:a.eval g=.func (.func gf) #[] lb)(eg:∀args w,(callFunc gf args).run P w=.ok (.enter gf args) w)(am:∀s,(enc s).size=ps.size){C:Nat->Prop}(V:¬C w.heap.size)(X:¬C (w.heap.size+1))
  {I r:σ->World->Prop} (B:Uh w.heap.size I) (Y:Uh w.heap.size r) (h0:I s0 w)
  (ap:∀(u v:Obj) (W:World),W.heap.size=w.heap.size+2->Below w.heap.size w W ->
   (∀s W1,Lp w.heap.size u I s W1->more s->YieldAt Fence.wide 0 P (w.heap.size+1) (enc s) W1 λe W' =>
    (e=.returned (.bool true)/\Lp w.heap.size u I (next s) W'/\zA (λk=>C k\/k=w.heap.size+1) W1 W')\/(e=.returned (.bool false)/\Lp w.heap.size v r s W'/\zA (λk=>C k\/k=w.heap.size+1) W1 W')) ->
   Lp w.heap.size u I s0 W ->
   CallsIn Fence.wide 0 P gf (#[.func (.yield (w.heap.size+1)) #[] #[]]++lb) W λe W'=>(∃v,e=.returned v)/\((∃s,¬more s/\Lp w.heap.size u I s W')\/(∃s,more s/\Lp w.heap.size v r s W')))
  (an:HX P ps assign body a w more next enc C I r) (ah:Dn P Q a w more I)
  (aq:∀(d:Nat) (s:σ) (W:World),w.heap.size<=d->more s->r s W->W.heap[d]?=some (.deferred (some []))->Code.ret.wpIn Fence.wide 0 P Q { a with defers:={ target:=.collected d,args:=#[] } :: a.defers } W) :
  (Code.rangeFunc g ps assign body).wpIn Fence.wide 0 P Q a w:=by
 refine wpIn_rangeFunc ?_;intro fn ai;obtain⟨b,n⟩:∃b:LoopState->Option Code->Loop,b=λst pe=>{ state:=st,pending:=pe,fn,tmps:=a.tmps,params:=ps,assign,body,defers:=w.heap.size }:=⟨_,rfl⟩;let⟨W1,t⟩:=nm ((w.alloc (.deferred (some []))).alloc (.loop (b .ready none)));have ao:W1.heap.size=w.heap.size+2:=by rw[<-t];simp
 have ae:W1.heap[w.heap.size+1]?=some (.loop (b .ready none)):=by
  rw[<-t];have:=World.alloc_heap_new (w.alloc (.deferred (some []))) (.loop (b .ready none));rwa [World.size_alloc]at this
 have ad:W1.heap[w.heap.size]?=some (.deferred (some [])):=by
  rw[<-t];exact(Below.heap_alloc _ _ _ (by simp)).trans (World.alloc_heap_new w _)
 have Z:Below w.heap.size w W1:=by
  rw[<-t];exact((Below.refl _ w).alloc (Nat.le_refl _) _).alloc (by simp) _
 have F:∀{J:σ->World->Prop},Uh w.heap.size J->∀{s W},w.heap.size+1<W.heap.size->J s W->∀o,J s (W.putObj (w.heap.size+1) o):=λh s W E q o=>h _ _ _ q (by omega) (zA.s _ _ _ (.inr rfl));refine⟨w.heap.size+1,[{ target:=.collected w.heap.size,args:=#[] }],W1,{ target:=.fn (.func gf) lb,args:=#[.func (.yield (w.heap.size+1)) #[] #[]] },W1,gf,
  #[.func (.yield (w.heap.size + 1)) #[] #[]] ++ lb, W1, ?_, ?_, ?_, ?_, ?_, ?_⟩
 .rw[<-t,n];exact run_enterLoop_outer _ _ _ _ _
 .simp only[resolve,hg];simp[go_sem]
 .intro f' _;trivial
 .simp[invoke,go_sem,eg]
 .intro h;simp[Fence.wide]at h
 refine(ap (.loop (b .ready none)) (.loop (b .done (some .ret))) W1 ao Z ?_ ⟨B _ _ _ h0 (Nat.le_refl _) (zA.j Z (λ_ h _=>h)),ae,ad⟩).mono ?_
 ·
  rintro s W ⟨y,f,z⟩ A;have E:=yY f;have hy:=run_yield (P:=P) (args:=enc s) f (by rw[n];exact am s);rw[n]at hy;refine⟨fn,_,assign,body,hy,roundIn_of_wpIn ai (wpIn_mono (an _ s W (by omega) E y A) ?_)⟩;intro e a₁ G i;cases e with
  |normal =>
   obtain⟨D,aj,hb⟩:=i;have al:=(D.d _ E X).trans f;have ag:=(D.d _ (by omega) V).trans z;have ac:w.heap.size+1<G.heap.size:=Nat.lt_of_lt_of_le E D.l;refine⟨_,run_beginRound al (by rw[n]),?_⟩;let⟨H,x⟩:=nm (G.putObj (w.heap.size+1) (.loop { b .ready none with state:=.busy }));have T:∀(C:Nat->Prop),C (w.heap.size+1)->zA C G H:=λC h=>x▸zA.s _ _ _ h;have ab:=x▸World.putObj_heap_same (o:=.loop { b .ready none with state:=.busy }) ac;have aa:=((T (λk=>k=w.heap.size+1) rfl).d _ (by omega) (by omega)).trans ag;have ak:=x▸F B ac aj (.loop { b .ready none with state:=.busy });rw[x];refine wpIn_mono (hb H (T _ rfl) (by rw[<-x];simp) ak) ?_;have U:∀(p:Option Code) (m:World),zA C H m->∃W4,(Instr.endRound (w.heap.size+1) p).run P m=.ok (.bool p.isNone) W4/\(∀{J:σ->World->Prop},Uh w.heap.size J->∀{s},J s m->Lp w.heap.size (.loop (b (if p.isNone then .ready else .done) p)) J s W4)/\zA (λk=>C k\/k=w.heap.size+1) W W4:=λp m N=>by
    have R:=(N.d _ (yY ab) X).trans ab;have af:=(N.d _ (yY aa) V).trans aa;have:=run_endRound (P:=P) p R;rw[n]at this ⊢;exact⟨_,this,λh s q=>⟨F h (yY R) q _,World.putObj_heap_same (yY R),(World.putObj_heap_other (by omega)).trans af⟩,
     (((D.h λ_=>.inl).c (T _ (.inr rfl))).c (N.h λ_=>.inl)).c (zA.s _ _ _ (.inr rfl))⟩
   rintro e a3 m i;cases e with
   |normal =>
    let⟨W4,S,L,O⟩:=U none m i.1;exact⟨_,_,S,.inl ⟨rfl,L B i.2,O⟩⟩
   |ret =>
    let⟨W4,S,L,O⟩:=U (some .ret) m i.1;exact⟨_,_,S,.inr ⟨rfl,L Y i.2,O⟩⟩
   |_=>exact i.elim
  |_=>exact i.elim
 rintro e W2 ⟨⟨v,rfl⟩,(⟨s,A,y,f,z⟩|⟨s,A,y,f,z⟩)⟩;all_goals
  have:=run_endLoop (P:=P) f (by rw[n];simp);rw[n]at this
 .exact⟨none,_,this,ah _ s _ (Nat.le_refl _) A (F B (yY f) y _) ((World.putObj_heap_other (by omega)).trans z)⟩
 exact⟨some .ret,_,this,aq _ s _ (Nat.le_refl _) A (F Y (yY f) y _) ((World.putObj_heap_other (by omega)).trans z)⟩
def Ab.d{d:Nat}{J:σ->World->Prop}(h:Ab d J):Uh d J:=λs A E q a k=>h s A E q (k.below a (λk b=>by omega))
def Ab.lp{d:Nat}{u:Obj}{J:σ->World->Prop}(h:Ab d J):Ab (d+2) (Lp d u J):=λs A E q a=>⟨h s A E q.1 (a.mono (by omega)),(a.block _ (by omega)).trans q.2.1,(a.block _ (by omega)).trans q.2.2⟩
def UU(t:a.eval g=.func (.func gf) #[] lb)(n:∀args w,(callFunc gf args).run P w=.ok (.enter gf args) w)(z:US P gf lb s0 more next enc D w)(x:∀s,(enc s).size=ps.size)(i:∀k,D k->k<w.heap.size)
  (C:Nat->Prop) (p:∀k,D k->¬C k) (f:∀k,w.heap.size<=k->¬C k) (I c:σ->World->Prop) (j:Ab w.heap.size I) (l:Ab w.heap.size c) (o:I s0 w)
  (y:HX P ps assign body a w more next enc C I c) (r:Dn P Q a w more I)
  (A:∀(d:Nat) (s:σ) (W:World),w.heap.size<=d->more s->c s W->W.heap[d]?=some (.deferred (some []))->Code.ret.wpIn Fence.wide 0 P Q { a with defers:={ target:=.collected d,args:=#[] } :: a.defers } W) :
  (Code.rangeFunc g ps assign body).wpIn Fence.wide 0 P Q a w :=
 UT t n x (f _ (Nat.le_refl _)) (f _ (by omega)) j.d l.d o (λu v W m q=>z (w.heap.size+1) _ _ _ W (by omega) (λk b=>q.block k (i k b)) (λk b h=>h.elim (p k b) (λe=>by have:=i k b;omega)) (λk b h=>h.elim (f k (by omega)) (λe=>by omega))
  (m▸j.lp) (m▸l.lp)) y r A
end
end
abbrev Iv(x:Int):Value:=.int .i64 x
abbrev Ad(b o:Nat):Addr:=⟨b,o,none⟩
abbrev Pt(b o:Nat):Value:=.pointer (some ⟨b,o,none⟩)
abbrev Cs(f:Nat)(xs:Array Value)(w:World)(Q:Ending->World->Prop):Prop:=Calls Tryz.prog f xs w Q
abbrev Kf(w W:World):Prop:=zA (λ_=>False) w W
abbrev Bw(w W:World):Prop:=Below w.heap.size w W
abbrev Oa:=Option Addr
abbrev Np:=Nat->Prop
abbrev Ew:=Ending->World->Prop
def zJ:=@List.length_append
def Ya:=@Nat.le_refl
def Bb:=@List.getElem?_eq_getElem
def Ba:=@Nat.lt_of_lt_of_le
def Bd:=@World.cell?_of_block
def Bz:=@List.getElem?_eq_some_iff
def zL:=@bodyPost_ret
def Gw:=@Array.getElem?_eq_some_iff
def Qt:=@Below.refl
def zP:=@Nat.le_trans
def Na:=@Below.heap_setCell
def LL:=@Nat.zero_le
def Ce:=@List.append_assoc
def Dd:=@List.length_singleton
def Cn:=@List.mem_of_getElem?
def Db:=@List.length_cons
def Es:=@List.getElem?_append_left
def Bl:=@List.length_map
def Ck:=@World.size_alloc
def Bu:=@List.mem_singleton
def El:=@List.getD_eq_getElem?_getD
def Fb:=@List.getElem?_append_right
def Bp:=@Nat.zero_add
def Kc:=@Option.isSome_iff_exists
def Et:=@World.frozen?_setCell
def By:=@List.mem_append
def Eo:=@World.alloc_heap_new
def Fc:=@List.cons_append
def Dp:=@World.frozen?_of_block
def Dl:=@List.append_nil
def Dq:=@ByteArray.size_append
def Iu:=@Below.heap_alloc
def Dt:=@List.map_append
def Eu:=@List.flatMap_cons
def Ic:=@List.eq_nil_of_length_eq_zero
def Dy:=@Nat.add_zero
def Ge:=@Nat.not_lt_zero
def CQ:=@ByteArray.append_empty
def E2:=@ByteArray.append_assoc
def Ev:=@List.getElem?_map
def Hm:=@List.nil_append
def Jk:=@Array.getElem?_setIfInBounds_ne
def Dm:=@List.mem_cons
def Hn:=@Option.map_eq_some_iff
def Nb:=@Array.replicate_succ
def Nc:=@Array.replicate_zero
def Nd:=@List.append_toArray
def Iw:=@List.length_nil
def Ma:=@List.size_toArray
def Nf:=@List.push_toArray
def Ix:=@decide_eq_false
def Mb:=@List.singleton_append
def Ke:=@decide_eq_true
def Gi:=@List.getElem_mem
def Kg:=@List.take_of_length_le
def Fw:=@List.length_take
abbrev Sl(a:Option Addr)(n c:Nat):Value:=.slice a n c
abbrev nS:Value:=.slice none 0 0
abbrev Sm(b o:Nat):Option Addr:=some ⟨b,o,none⟩
abbrev Uv(x:Int):Value:=.int .u64 x
abbrev Bv(x:Int):Value:=.int .u8 x
abbrev Bt:Value:=.bool true
abbrev Bf:Value:=.bool false
abbrev Rt(v:Value):Ending:=.returned v
abbrev LI:=List Int
abbrev Av:=Array Value
abbrev Oc(xs:Array Value)(t:TypeId):Obj:=.cells xs t
abbrev Wl:=World
abbrev Vl:=Value
def aB{a b:Prop}(h:a)(k:¬a):b:=absurd h k
def oH{q p:Prop}(x:q)(h:q->p:=by intro;omega):p:=h x
def oG{r q p:Prop}(x:q)(y:r)(h:q->r->p:=by intros;omega):p:=h x y
def oM{p:Prop}(h:p:=by omega):p:=h
def sM{p:Prop}(h:p:=by simp):p:=h
def rR{p:Prop}(h:p:=by kernel_rfl):p:=h
def dC{p:Prop}(h:p:=by decide):p:=h
def sO{p:Prop}(h:p:=by simp;omega):p:=h
def iR{p:Prop}(h:p:=by intros;kernel_rfl):p:=h
def aS{p:Prop}(h:p:=by assumption):p:=h
def Zn:=@if_neg
def Zp:=@if_pos
def Be:=@below_drewN
def Bj:=@congrArg
def Ft:=@Int.le_refl
def Gf:=@Nat.zero_mul
def Gj:=@List.mem_map
def Gx:=@Nat.le_succ
def Gy:=@Nat.add_assoc
def Hb:=@List.length_set
def Ho:=@Calls.quiet_of_same
def Hp:=@Nat.add_mul
def Ie:=@List.getElem?_set_self
def If:=@Nat.mod_lt
def Iy:=@Nat.lt_succ_self
def Jl:=@List.take_add_one
def E3:=@World.cell?_setCell_same'
def CR:=@World.cell?_setCell_other
def Kh:=@World.rowIs_made
def Ki:=@List.drop_of_length_le
def Kj:=@List.mem_flatMap
def Kz:=@Nat.mul_le_mul_right
def Mc:=@List.drop_zero
def Ng:=@Bool.and_eq_true
def Nh:=@Bool.false_eq_true
def Ni:=@Bool.eq_iff_iff
def Nj:=@Nat.add_sub_cancel
def Nk:=@List.not_mem_nil
def Nl:=@Sem.run_bind
def Nm:=@Sem.run_pure
def Nn:=@Nat.eq_zero_or_pos
def No:=@Prod.mk.injEq
def Nq:=@Nat.lt_irrefl
def Nr:=@List.map_cons
def Ox:=@List.length_replicate
def Oy:=@List.ext_getElem?
def Oz:=@List.getElem?_set_ne
def Pa:=@List.take_length
def Pb:=@Nat.mul_one
def Pd:=@List.map_set
def Pf:=@Result.andThen_ok
def Ph:=@Array.length_toList
def Pi:=@Nat.mul_pos
def Pj:=@Int.toNat_natCast
def Pl:=@Bool.or_eq_true
def Qu:=@Option.some.inj
def Qv:=@Array.getElem?_eq_getElem
def Qw:=@World.drewN_drewN
def Qx:=@Bool.or_false
def Qy:=@List.mem_cons_self
def Qz:=@Bool.false_or
def Ra:=@beq_eq_false_iff_ne
def Rb:=@Int.eq_ofNat_of_zero_le
def Sz:=@List.mem_of_mem_take
def Ta:=@List.mem_cons_of_mem
def Tb:=@List.drop_eq_getElem_cons
def Tc:=@List.pairwise_append
def Td:=@List.length_drop
def Te:=@Int.natCast_add
def Tf:=@List.getLast?_concat
def Th:=@List.mem_filter
def Ve:=@List.set_append_right
def Vf:=@Array.getElem?_modify
def Vg:=@List.mem_or_eq_of_mem_set
def Vh:=@List.getElem?_mapIdx
def Vi:=@List.map_congr_left
def Vj:=@Lib.run_convert_string_bytes
def Vk:=@Lib.bytesWorld_size
def Vm:=@Lib.bytesWorld_at_old
def Vn:=@List.length_dropLast
def Yb:=@Array.getElem?_setIfInBounds_self_of_lt
def Yc:=@Int.tmod_eq_emod_of_nonneg
def Jm{a b c}:=E3 a b c
def La{a b c d}:=CR a b c d
def zD{a}:=Ya a
def zH{a}:=Qt a
def Bn{a b c d}:=Na a b c d
def Gz{a b c}:=Na a b c
def zK{a}:=LL a
def Jn{a b c d}:=Et a b c d
def Jo{a b c}:=Iu a b c
namespace M
structure OpD where
 e:Int
 sl:Nat
 set:Nat->Int
 f:Int
structure ug where
 nl:Nat
 f:Nat->Int
 j:Bool
 bl:Nat
 e:Nat->OpD
structure Gr where
 nr:Nat
 a:Nat->ug
 nb:Nat
 d:Nat->ug
instance:Inhabited OpD:=⟨⟨0,0,λ_=>0,0⟩⟩
instance:Inhabited ug:=⟨⟨0,λ_=>0,false,0,λ_=>default⟩⟩
def cS(S:Nat->Int)(i:Nat):Prop :=
 0<=S i/\S i<=255/\(i%2=1->S (i-1)<=S i)/\(0<i/\i%2=0->S (i-1)+2<=S i)
def bH(m:Nat)(S:Nat->Int):Prop:=m%2=0/\∀i,i<m->cS S i
def bN(S:Nat->Int)(k:Nat):Int:=if k=0 then 0 else S (2*k-1)+2
def uvE(S:Nat->Int)(k:Nat):Prop:=bN S k<=S (2*k)/\S (2*k)<=S (2*k+1)/\S (2*k+1)<=255
def dP S h:(∀k,k<h->uvE S k)↔∀i,i<2*h->cS S i:=by
 constructor
 .intro H;have f:∀k,k<h->0<=S (2*k):=by
   intro k b;induction k with
   |zero=>have:=(H 0 b).1;simpa[bN] using this
   |succ k j =>
    have a:=(H (k+1) b).1;have c:=(H k oM).2.1;have d:=j oM;unfold bN at a;rw[Zn oM,show 2*(k+1)-1=2*k+1 by omega]at a;omega
  intro i l;rcases Nat.mod_two_eq_zero_or_one i with e|e
  .obtain⟨k,rfl⟩:∃k,i=2*k:=⟨i / 2,oM⟩;have b:k<h:=oM;let⟨a,c,d⟩:=H k b;refine⟨f k b,oM,λh=>oM,λg=>?_⟩;unfold bN at a;rw[Zn oM]at a;exact a
  obtain⟨k,rfl⟩:∃k,i=2*k+1:=⟨i / 2,oM⟩;have b:k<h:=oM;let⟨a,c,d⟩:=H k b;have:=f k b;exact⟨oM,d,λ_=>c,λg=>oM⟩
 intro H k b;have a:=H (2*k) oM;have c:=H (2*k+1) oM;refine⟨?_,by have:=c.2.2.1 oM;simpa using this,c.2.1⟩;unfold bN;by_cases e:k=0
 .subst e;simpa using a.1
 rw[Zn e];exact a.2.2.2 ⟨oM,oM⟩
def bD(c:Int):Prop:=(97<=c/\c<=122)\/(65<=c/\c<=90)\/c=95
def bK(c:Int):Prop:=48<=c/\c<=57
def NameB(n:Nat)(T:Nat->Int):Prop:=(∀i,i<n->bD (T i)\/bK (T i))/\0<n/\bD (T 0)
def bU(n:Nat)(T:Nat->Int):Prop:=n<=32/\NameB n T
def ar(k:Int):Int:=if k=4\/k=5 then 2 else if k=6\/k=7 then 1 else 0
def cB k:0<=ar k/\ar k<=2:=by unfold ar;split<;>(try split)<;>omega
def dep(B:Nat->OpD):Nat->Int
 |0=>0
 |i+1=>dep B i+(1-ar (B i).e)
def bM(B:Nat->OpD)(n:Nat):Nat->Int
 |0=>1
 |j+1=>bM B n j+(ar (B (n-1-j)).e-1)
def cL(n:Nat)(B:Nat->OpD):Prop:=(∀i,i<n->ar (B i).e<=dep B i)/\dep B n=1
def uvF(n:Nat)(B:Nat->OpD):Prop:=(∀j,j<n->bM B n j≠0)/\bM B n n=0
def dB B n j(b:j<=n):bM B n j=1-dep B n+dep B (n-j):=by
 induction j with
 |zero=>simp[bM]
 |succ j a =>
  rw[bM,a oM];have e:n-j=(n-1-j)+1:=oM;rw[show n-(j+1)=n-1-j by omega,e,dep];omega
def dR n B:uvF n B↔cL n B:=by
 constructor
 .rintro⟨b,a⟩;have e:dep B n=1:=by
   have:=dB B n n zD;rw[a,Nat.sub_self,dep]at this;omega
  have pos:∀j,j<n->1<=dep B (n-j):=by
   intro j c;induction j with
   |zero=>rw[Nat.sub_zero];omega
   |succ j h =>
    have g:=h oM;have f:=b (j+1) c;rw[dB B n (j+1) oM]at f;have d:n-j=(n-(j+1))+1:=oM;rw[d,dep]at g;have:=cB (B (n-(j+1))).e;omega
  refine⟨λi k=>?_,e⟩;have:=pos (n-(i+1)) oM;rw[show n-(n-(i+1))=i+1 by omega,dep]at this;omega
 rintro⟨b,a⟩;refine⟨λj c=>?_,?_⟩
 .rw[dB B n j oM,a];have e:n-j=(n-1-j)+1:=oM;have:=b (n-1-j) oM;rw[e,dep];omega
 rw[dB B n n zD,a,Nat.sub_self,dep];omega
def dW B n i(d:i<=n)(h:∀j,j<i->ar (B j).e<=dep B j):0<=dep B i/\dep B i<=i:=by
 induction i with
 |zero=>simp[dep]
 |succ i a =>
  have b:=a oM (λj f=>h j oM);have c:=h i oM;have:=cB (B i).e;rw[dep];omega
def need_bd B n j(h:∀k,k<j->bM B n k≠0):0<=bM B n j/\bM B n j<=j+1:=by
 induction j with
 |zero=>simp[bM]
 |succ j a =>
  have b:=a (λk d=>h k oM);have c:=h j oM;have:=cB (B (n-1-j)).e;rw[bM];omega
def bF(nr a:Nat)(k:Int):Int:=if k=3 then a else if k=2 then nr else 1
def bB(nr a:Nat)(o:OpD):Prop :=
 0<=o.e/\o.e<=7/\(o.e=1->bH o.sl o.set)/\(o.e≠1->o.sl=0)/\0<=o.f/\o.f<bF nr a o.e
def bC(nr a n:Nat)(B:Nat->OpD):Prop:=(∀i,i<n->bB nr a (B i))/\cL n B
def bQ(n:Nat)(B:Nat->OpD)(l:Nat):Prop:=∃i,i<n/\(B i).e=3/\(B i).f=l
def cR(a b:ug):Prop:=a.nl=b.nl/\∀i,i<a.nl->a.f i=b.f i
def LessT(n:Nat)(S:Nat->Int)(m:Nat)(T:Nat->Int):Prop :=
 ∃k,(∀i,i<k->S i=T i)/\k<=n/\k<=m/\((k<n/\k<m/\S k<T k)\/(k=n/\k<m))
def cU(a b:ug):Prop:=LessT a.nl a.f b.nl b.f
def sum(f:Nat->Nat):Nat->Nat
 |0=>0
 |n+1=>sum f n+f n
def cF f{i n}(h:i<=n):sum f i<=sum f n:=by
 induction n with
 |zero =>
   have:i=0:=oM;subst this;exact zD
 |succ n a =>
  by_cases e:i=n+1
  .subst e;exact zD
  rw[sum];have:=a oM;omega
def cQ f{i n}(h:i<n):f i<=sum f n:=by
 have:=cF f (show i+1<=n by omega);rw[sum]at this;omega
def ops(g:Gr):Nat:=sum (λi=>(g.a i).bl) g.nr+sum (λi=>(g.d i).bl) g.nb
structure Valid(g:Gr):Prop where
 r1:0<g.nr
 r2:g.nr<=100
 l2:g.nb<=100
 rn:∀i,i<g.nr->bU (g.a i).nl (g.a i).f
 ru:∀i,i<g.nr->∀j,j<i->¬cR (g.a i) (g.a j)
 ln:∀i,i<g.nb->bU (g.d i).nl (g.d i).f
 la:∀i,i<g.nb->0<i->cU (g.d (i-1)) (g.d i)
 rb:∀i,i<g.nr->bC g.nr g.nb (g.a i).bl (g.a i).e
 lb:∀i,i<g.nb->(g.d i).j=true->bC g.nr g.nb (g.d i).bl (g.d i).e
 lz:∀i,i<g.nb->(g.d i).j=false->(g.d i).bl=0
 lt:∀i,i<g.nb->(g.d i).j=false->(∃j,j<g.nr/\bQ (g.a j).bl (g.a j).e i)\/∃j,j<g.nb/\bQ (g.d j).bl (g.d j).e i
 ol:ops g<=2000
end M
namespace M
def stp{α:Type}[Inhabited α](f:OpD->α->α->α)(o:OpD)(i:Nat)(s:List (Nat×α)):List (Nat×α) :=
 if ar o.e=2 then
  match s with
  |(_,y)::(s1,x)::r=>(s1,f o x y)::r
  |_=>[]
 else if ar o.e=1 then
  match s with
  |(s1,x)::r=>(s1,f o x default)::r
  |_=>[]
 else (i,f o default default)::s
def stk{α:Type}[Inhabited α](f:OpD->α->α->α)(B:Nat->OpD):Nat->List (Nat×α)
 |0=>[]
 |i+1=>stp f (B i) i (stk f B i)
def cH k:ar k=0\/ar k=1\/ar k=2:=by unfold ar;split<;>(try split)<;>simp
def Fed(B:Nat->OpD)(i:Nat):Prop:=∀j,j<i->ar (B j).e<=dep B j
def Fed.h{B i j}(h:Fed B i)(a:j<=i):Fed B j:=λk b=>h k oM
section
variable {α:Type} [Inhabited α] (f:OpD->α->α->α) (B:Nat->OpD)
def bO(i:Nat)(h:Fed B i):((stk f B i).length:Int)=dep B i:=by
 induction i with
 |zero=>rfl
 |succ i g =>
  have e:=g (h.h oM);have d:=h i oM;rw[stk,dep];generalize stk f B i=l at *;rcases cH (B i).e with c|c|c
  .simp[stp,c];omega
  .rw[c]at d;match l,e with
   |[],e=>simp at e;omega
   |(a,x)::r,e=>simp[stp,c]at *;omega
  rw[c]at d;match l,e with
  |[],e=>simp at e;omega
  |[(a,x)],e=>simp at e;omega
  |(a,x)::(b,y)::r,e=>simp[stp,c]at *;omega
def cC(i:Nat)(h:Fed B i)(s:Nat)(x:α)(r:List (Nat×α))(e:stk f B i=(s,x)::r) :
  s<i/\r=stk f B s/\∀j,s<j->j<=i->dep B i<=dep B j:=by
 induction i using Nat.strongRecOn generalizing s x r with
 |_ i k =>
  match i,k,e with
  |0,k,e=>simp[stk]at e
  |i+1,k,e =>
   have d:=bO f B i (h.h oM);have z:=h i oM;have w:dep B (i+1)=dep B i+(1-ar (B i).e):=rfl;rw[stk]at e;cases a:stk f B i with
   |nil =>
    rw[a]at e d;simp at d;have b:ar (B i).e=0:=oH (cB (B i).e);simp[stp,b]at e;obtain⟨⟨rfl,_⟩,rfl⟩:=e;refine⟨oM,a.symm,λj g n=>?_⟩;obtain rfl:j=i+1:=oM;exact Ft _
   |cons p r1 =>
    obtain⟨l,y⟩:=p;let⟨v,c,o⟩:=k i oM (h.h oM) l y r1 a;rw[a]at e;rcases cH (B i).e with b|b|b
    .simp[stp,b]at e;obtain⟨⟨rfl,_⟩,rfl⟩:=e;refine⟨oM,a.symm,λj g n=>?_⟩;obtain rfl:j=i+1:=oM;exact Ft _
    .simp[stp,b]at e;obtain⟨⟨rfl,_⟩,rfl⟩:=e;refine⟨oM,c,λj g n=>?_⟩;by_cases m:j=i+1
     .subst m;exact Ft _
     have:=o j g oM;omega
    match r1,c,e,a with
    |[],c,e,a=>rw[a]at d;simp at d;omega
    |(s1,x1)::r2,c,e,a =>
     simp[stp,b]at e;obtain⟨⟨rfl,_⟩,rfl⟩:=e;let⟨b1,q,t⟩:=k l oM (h.h oM) s1 x1 r2 c.symm;have l2:=bO f B l (h.h oM);rw[<-c]at l2;rw[a]at d;simp at l2 d;refine⟨oM,q,λj g n=>?_⟩;by_cases m:j=i+1
     .subst m;exact Ft _
     by_cases u:j<=l
     .have:=t j g u;omega
     have:=o j oM oM;omega
end
def dN{α β}[Inhabited α][Inhabited β](f:OpD->α->α->α)(c:OpD->β->β->β)(π:α->β)(d:π default=default)(h:∀o x y,π (f o x y)=c o (π x) (π y))(B:Nat->OpD)(i:Nat) :
  stk c B i=(stk f B i).map (λp=>(p.1,π p.2)):=by
 induction i with
 |zero=>rfl
 |succ i e =>
  rw[stk,stk,e];generalize stk f B i=l;unfold stp;split
  .match l with
   |[]=>rfl
   |[(a,x)]=>rfl
   |(a,x)::(b,y)::r=>simp[h]
  split
  .match l with
   |[]=>rfl
   |(a,x)::r=>simp[h,d]
  simp[h,d]
def tg(nr:Nat)(o:OpD):Nat:=if o.e=3 then nr+o.f.toNat else o.f.toNat
def bE(o:OpD):Prop:=o.e=2\/o.e=3
instance (o:OpD):Decidable (bE o):=inferInstanceAs (Decidable (_\/_))
def fN(nr:Nat)(mk:Nat->Bool)(o:OpD)(x y:Bool):Bool :=
 if o.e=1 then false else if bE o then mk (tg nr o) else if o.e=4 then x&&y else if o.e=5 then x||y else if o.e=0\/o.e=6\/o.e=7 then true else false
def top{α:Type}[Inhabited α](l:List (Nat×α)):α:=match l with|(_,x)::_=>x|[]=>default
def bZ(nr:Nat)(mk:Nat->Bool)(n:Nat)(B:Nat->OpD):Bool:=top (stk (fN nr mk) B n)
def Uses(nr n:Nat)(B:Nat->OpD)(v:Nat):Prop:=∃j,j<n/\bE (B j)/\tg nr (B j)=v
structure Mono(n:Nat)(F:(Nat->Bool)->Nat->Bool):Prop where
 h:∀m m',(∀v,v<n->m v=true->m' v=true)->∀v,v<n->F m v=true->F m' v=true
structure Y4(n:Nat)(F:(Nat->Bool)->Nat->Bool)(m:Nat->Bool):Prop where
 b:∀v,v<n->F m v=true->m v=true
 a:∀t:Nat->Bool,(∀v,v<n->F t v=true->t v=true)->∀v,v<n->m v=true->t v=true
def cnt(m:Nat->Bool):Nat->Nat
 |0=>0
 |n+1=>cnt m n+(if m n then 1 else 0)
def dM m n:cnt m n<=n:=by
 induction n with
 |zero=>simp[cnt]
 |succ n a=>rw[cnt];split<;>omega
def cZ m a n(h:∀v,v<n->m v=true->a v=true):cnt m n<=cnt a n:=by
 induction n with
 |zero=>simp[cnt]
 |succ n b =>
  have:=b (λv c=>h v oM);have:=h n oM;rw[cnt,cnt];split<;>split<;>simp_all<;>omega
def dX m b n(h:∀v,v<n->m v=true->b v=true)(e:cnt m n=cnt b n):∀v,v<n->b v=true->m v=true:=by
 induction n with
 |zero=>intro v c;omega
 |succ n g =>
  intro v c d;have i:=cZ m b n (λv c=>h v oM);have f:=h n oM;rw[cnt,cnt]at e;by_cases q:v=n
  .subst q;rw[Zp d]at e;by_cases a:m v=true
   .exact a
   rw[Zn a]at e;omega
  refine g (λv c=>h v oM) ?_ v oM d;by_cases a:m n=true
  .rw[Zp a,Zp (f a)]at e;omega
  rw[Zn a]at e;split at e<;>omega
def dY m v n(h:v<n)(b:m v=false):cnt (λu=>m u||u==v) n=cnt m n+1:=by
 have c:∀k,k<=v->cnt (λu=>m u||u==v) k=cnt m k:=by
  intro k d;induction k with
  |zero=>rfl
  |succ k a=>rw[cnt,cnt,a oM];simp[show ¬k=v by omega]
 induction n with
 |zero=>omega
 |succ n a =>
  rw[cnt,cnt];by_cases e:v=n
  .subst e;rw[c v (zD)];simp[b]
  rw[a oM];simp[show ¬n=v by omega];omega
def rnd(F:(Nat->Bool)->Nat->Bool):Nat->Nat->Bool
 |0=>λ_=>false
 |k+1=>F (rnd F k)
def dA{n}{F:(Nat->Bool)->Nat->Bool}(h:Mono n F)k:∀v,v<n->rnd F k v=true->rnd F (k+1) v=true:=by
 induction k with
 |zero=>intro v b e;simp[rnd]at e
 |succ k a=>exact h.h _ _ a
def eK{n}{F:(Nat->Bool)->Nat->Bool}(h:Mono n F):Y4 n F (rnd F n):=by
 have g:∀k,(∃j,j<=k/\∀v,v<n->rnd F (j+1) v=true->rnd F j v=true)\/k<cnt (rnd F (k+1)) n:=by
  intro k;induction k with
  |zero =>
   by_cases q:cnt (rnd F 1) n=0
   .refine .inl ⟨0,zD,?_⟩;refine dX _ _ n (dA h 0) ?_;rw[q];have:cnt (rnd F 0) n<=cnt (rnd F 1) n:=cZ _ _ n (dA h 0);omega
   exact .inr (Nat.pos_of_ne_zero q)
  |succ k a =>
   rcases a with⟨j,b,q⟩|a
   .exact .inl ⟨j,oM,q⟩
   by_cases q:cnt (rnd F (k+1)) n=cnt (rnd F (k+1+1)) n
   .exact .inl ⟨k+1,zD,dX _ _ n (dA h _) q⟩
   have:=cZ _ _ n (dA h (k+1));exact .inr oM
 have f:∀j,(∀v,v<n->rnd F (j+1) v=true->rnd F j v=true)->∀d,∀v,v<n->rnd F (j+d+1) v=true->rnd F (j+d) v=true:=by
  intro j b d;induction d with
  |zero=>exact b
  |succ d a=>exact h.h _ _ a
 refine⟨?_,?_⟩
 .rcases g n with⟨j,b,q⟩|q
  .have:=f j q (n-j);rw[show j+(n-j)=n by omega]at this;exact this
  have:=dM (rnd F (n+1)) n;omega
 intro t i;have:∀k,∀v,v<n->rnd F k v=true->t v=true:=by
  intro k;induction k with
  |zero=>intro v c e;simp[rnd]at e
  |succ k a=>intro v c e;exact i v c (h.h _ _ a v c e)
 exact this n
def bI(n:Nat)(m:Nat->Bool)(a:Nat):Nat:=(n-cnt m n)*(n+1)+a
def eU{n m a x b us}(g:x<n)(h:m x=false)(f:∀v,v<n->a v=(m v||v==x))(l:us<=n):bI n a (b+us)<bI n m (b+1):=by
 have e:cnt a n=cnt m n+1:=by
  rw[<-dY m x n g h];have:∀k,k<=n->cnt a k=cnt (λu=>m u||u==x) k:=by
   intro k j;induction k with
   |zero=>rfl
   |succ k i=>rw[cnt,cnt,i oM,f k oM]
  exact this n zD
 have:=dM a n;unfold bI;rw[e]at this ⊢;obtain⟨d,c⟩:∃d,n-cnt m n=d+1:=⟨n-cnt m n-1,oM⟩;rw[show n-(cnt m n+1)=d by omega,c,Hp];omega
end M
section
open M (OpD ug Gr)
def xR{a b}(h:a=b):Rt (.bool a)=Rt (.bool b):=by rw[h]
def vk{k a b}(h:a=b):Rt (.int k a)=Rt (.int k b):=by rw[h]
def ud{w:Wl}{a:Addr}{v:Vl}(h:w.cell? a=some v):a.block<w.heap.size:=by
 unfold World.cell? at h;cases b:w.heap[a.block]? with
 |none=>simp[b]at h
 |some o=>exact(Gw.1 b).1
def ue{w w' a v}(h:w.cell? a=some v)(k:Bw w w'):w'.cell? a=some v :=
 (k.cell (p:=a) (ud h)).trans h
def Ints(Q:Np)(k:IntKind)(w:Wl)(a:Oa)(n:Nat)(S:Nat->Int):Prop :=
 n=0\/∃b off,a=some (Ad b off)/\Q b/\∀i,i<n->w.cell? (Ad b (off+i))=some (.int k (S i))
structure Em(Q:Np)(w:Wl)(b o:Nat)(d:OpD):Prop where
 e:w.cell? (Ad b o)=some (Iv d.e)
 set:∃a c,w.cell? (Ad b (o+1))=some (Sl a d.sl c)/\Ints Q .i64 w a d.sl d.set
 f:w.cell? (Ad b (o+2))=some (Iv d.f)
def zM(Q:Np)(w:Wl)(a:Oa)(n:Nat)(B:Nat->OpD):Prop :=
 n=0\/∃b off,a=some (Ad b off)/\Q b/\∀i,i<n->Em Q w b (off+i*3) (B i)
structure Dw(Q:Np)(w:Wl)(b o:Nat)(d:ug):Prop where
 f:∃a c,w.cell? (Ad b o)=some (Sl a d.nl c)/\Ints Q .u8 w a d.nl d.f
 e:∃a c,w.cell? (Ad b (o+1))=some (Sl a d.bl c)/\zM Q w a d.bl d.e
structure Fh(Q:Np)(w:Wl)(b o:Nat)(d:ug):Prop where
 f:∃a c,w.cell? (Ad b o)=some (Sl a d.nl c)/\Ints Q .u8 w a d.nl d.f
 j:w.cell? (Ad b (o+1))=some (.bool d.j)
 e:∃a c,w.cell? (Ad b (o+2))=some (Sl a d.bl c)/\zM Q w a d.bl d.e
def Ci(Q:Np)(w:Wl)(a:Oa)(n:Nat)(R:Nat->ug):Prop :=
 n=0\/∃b off,a=some (Ad b off)/\Q b/\∀i,i<n->Dw Q w b (off+i*2) (R i)
def Dk(Q:Np)(w:Wl)(a:Oa)(n:Nat)(R:Nat->ug):Prop :=
 n=0\/∃b off,a=some (Ad b off)/\Q b/\∀i,i<n->Fh Q w b (off+i*3) (R i)
def zS(Q:Np)(w w':Wl):Prop:=∀b,Q b->w'.heap[b]?=w.heap[b]?
def zS.p{Q w w'}(h:zS Q w w'){b o}(a:Q b):w'.cell? (Ad b o)=w.cell? (Ad b o) :=
 Bd (w:=w) (h b a)
def zS.c{Q w w' d}(h:zS Q w w')(k:zS Q w' d):zS Q w d:=λb a=>(k b a).trans (h b a)
variable {Q Q':Np} {w w':Wl}
def Ints.on{k:IntKind}{a:Oa}{n:Nat}{S:Nat->Int}(h:Ints Q k w a n S)(t:zS Q w w'):Ints Q k w' a n S:=by
 rcases h with h|⟨b,off,e,c,h⟩
 .exact .inl h
 exact .inr ⟨b,off,e,c,λi d=>(t.p c).trans (h i d)⟩
def Ints.g{k:IntKind}{a:Oa}{n:Nat}{S:Nat->Int}(h:Ints Q k w a n S)(t:∀b,Q b->Q' b):Ints Q' k w a n S:=by
 rcases h with h|⟨b,off,e,c,h⟩
 .exact .inl h
 exact .inr ⟨b,off,e,t b c,h⟩
def Em.on{b o:Nat}{d:OpD}(h:Em Q w b o d)(e:Q b)(t:zS Q w w'):Em Q w' b o d:=by
 obtain⟨f,⟨a,c,g,i⟩,j⟩:=h;exact⟨(t.p e).trans f,⟨a,c,(t.p e).trans g,i.on t⟩,(t.p e).trans j⟩
def Em.g{b o:Nat}{d:OpD}(h:Em Q w b o d)(t:∀b,Q b->Q' b):Em Q' w b o d:=by
 obtain⟨e,⟨a,c,f,i⟩,j⟩:=h;exact⟨e,⟨a,c,f,i.g t⟩,j⟩
def zM.on{a:Oa}{n:Nat}{B:Nat->OpD}(h:zM Q w a n B)(t:zS Q w w'):zM Q w' a n B:=by
 rcases h with h|⟨b,off,e,c,h⟩
 .exact .inl h
 exact .inr ⟨b,off,e,c,λi d=>(h i d).on c t⟩
def zM.g{a:Oa}{n:Nat}{B:Nat->OpD}(h:zM Q w a n B)(t:∀b,Q b->Q' b):zM Q' w a n B:=by
 rcases h with h|⟨b,off,e,d,h⟩
 .exact .inl h
 exact .inr ⟨b,off,e,t b d,λi c=>(h i c).g t⟩
def Dw.on{b o:Nat}{d:ug}(h:Dw Q w b o d)(e:Q b)(t:zS Q w w'):Dw Q w' b o d:=by
 obtain⟨⟨a,c,g,i⟩,⟨f,c',j,k⟩⟩:=h;exact⟨⟨a,c,(t.p e).trans g,i.on t⟩,⟨f,c',(t.p e).trans j,k.on t⟩⟩
def Dw.g{b o:Nat}{d:ug}(h:Dw Q w b o d)(t:∀b,Q b->Q' b):Dw Q' w b o d:=by
 obtain⟨⟨a,c,f,i⟩,⟨e,c',j,k⟩⟩:=h;exact⟨⟨a,c,f,i.g t⟩,⟨e,c',j,k.g t⟩⟩
def Fh.on{b o:Nat}{d:ug}(h:Fh Q w b o d)(e:Q b)(t:zS Q w w'):Fh Q w' b o d:=by
 obtain⟨⟨a,c,i,j⟩,g,⟨f,c',k,l⟩⟩:=h;exact⟨⟨a,c,(t.p e).trans i,j.on t⟩,(t.p e).trans g,⟨f,c',(t.p e).trans k,l.on t⟩⟩
def Fh.g{b o:Nat}{d:ug}(h:Fh Q w b o d)(t:∀b,Q b->Q' b):Fh Q' w b o d:=by
 obtain⟨⟨a,c,i,j⟩,f,⟨e,c',k,l⟩⟩:=h;exact⟨⟨a,c,i,j.g t⟩,f,⟨e,c',k,l.g t⟩⟩
def Ci.on{a:Oa}{n:Nat}{R:Nat->ug}(h:Ci Q w a n R)(t:zS Q w w'):Ci Q w' a n R:=by
 rcases h with h|⟨b,off,e,c,h⟩
 .exact .inl h
 exact .inr ⟨b,off,e,c,λi d=>(h i d).on c t⟩
def Ci.g{a:Oa}{n:Nat}{R:Nat->ug}(h:Ci Q w a n R)(t:∀b,Q b->Q' b):Ci Q' w a n R:=by
 rcases h with h|⟨b,off,e,d,h⟩
 .exact .inl h
 exact .inr ⟨b,off,e,t b d,λi c=>(h i c).g t⟩
def Dk.on{a:Oa}{n:Nat}{R:Nat->ug}(h:Dk Q w a n R)(t:zS Q w w'):Dk Q w' a n R:=by
 rcases h with h|⟨b,off,e,c,h⟩
 .exact .inl h
 exact .inr ⟨b,off,e,c,λi d=>(h i d).on c t⟩
def Dk.g{a:Oa}{n:Nat}{R:Nat->ug}(h:Dk Q w a n R)(t:∀b,Q b->Q' b):Dk Q' w a n R:=by
 rcases h with h|⟨b,off,e,d,h⟩
 .exact .inl h
 exact .inr ⟨b,off,e,t b d,λi c=>(h i c).g t⟩
def Ints.h{k:IntKind}{a:Oa}{n:Nat}{S:Nat->Int}(h:Ints Q k w a n S)(t:Bw w w'):Ints Q k w' a n S:=by
 rcases h with h|⟨b,off,e,d,h⟩
 .exact .inl h
 exact .inr ⟨b,off,e,d,λi c=>ue (h i c) t⟩
def Em.h{b o:Nat}{d:OpD}(h:Em Q w b o d)(t:Bw w w'):Em Q w' b o d:=by
 obtain⟨e,⟨a,c,f,g⟩,i⟩:=h;exact⟨ue e t,⟨a,c,ue f t,g.h t⟩,ue i t⟩
def zM.h{a:Oa}{n:Nat}{B:Nat->OpD}(h:zM Q w a n B)(t:Bw w w'):zM Q w' a n B:=by
 rcases h with h|⟨b,off,e,d,h⟩
 .exact .inl h
 exact .inr ⟨b,off,e,d,λi c=>(h i c).h t⟩
def Dw.h{b o:Nat}{d:ug}(h:Dw Q w b o d)(t:Bw w w'):Dw Q w' b o d:=by
 obtain⟨⟨a,c,f,g⟩,⟨e,c',i,j⟩⟩:=h;exact⟨⟨a,c,ue f t,g.h t⟩,⟨e,c',ue i t,j.h t⟩⟩
def Fh.h{b o:Nat}{d:ug}(h:Fh Q w b o d)(t:Bw w w'):Fh Q w' b o d:=by
 obtain⟨⟨a,c,g,i⟩,f,⟨e,c',j,k⟩⟩:=h;exact⟨⟨a,c,ue g t,i.h t⟩,ue f t,⟨e,c',ue j t,k.h t⟩⟩
def Ci.h{a:Oa}{n:Nat}{R:Nat->ug}(h:Ci Q w a n R)(t:Bw w w'):Ci Q w' a n R:=by
 rcases h with h|⟨b,off,e,d,h⟩
 .exact .inl h
 exact .inr ⟨b,off,e,d,λi c=>(h i c).h t⟩
def Dk.h{a:Oa}{n:Nat}{R:Nat->ug}(h:Dk Q w a n R)(t:Bw w w'):Dk Q w' a n R:=by
 rcases h with h|⟨b,off,e,d,h⟩
 .exact .inl h
 exact .inr ⟨b,off,e,d,λi c=>(h i c).h t⟩
def uk w o:Bw w (w.alloc o):=(zH w).alloc zD o
def zO w{o}:=uk w o
def Bi{w o}:=uk w o
def uS w o p:Bw w ((w.alloc o).alloc p):=(uk w o).alloc sM p
def Bm w{o p}:=uS w o p
def Lk w o p q:Bw w (((w.alloc o).alloc p).alloc q):=(uS w o p).alloc sO q
def uf{a b c}(h:Bw a b)(k:Bw b c):Bw a c:=h.trans (k.mono h.size)
def Of(w:Wl):Nat->Prop:=λb=>b<w.heap.size
end
def Qp{P:Prop}(h:P):(true=true↔P):=⟨λ_=>h,λ_=>rfl⟩
def xU{P:Prop}(h:¬P):(false=true↔P):=⟨(λe=>aB e dC),λq=>aB q h⟩
def Gu(P:Prop)(w:Wl)(e:Ending)(w':Wl):Prop:=(∃r:Bool,e=Rt (.bool r)/\(r=true↔P))/\w=w'
def Qq(P:Prop)(w:Wl)(e:Ending)(w':Wl):Prop:=(∃r:Bool,e=Rt (.bool r)/\(r=true↔P))/\Bw w w'
def Gu.b{P:Prop}{w w' e}(h:Gu P w e w'):Qq P w e w':=by
 obtain⟨a,rfl⟩:=h;exact⟨a,zH _⟩
def B5(c:Int):c<65\/(65<=c/\c<=90)\/(90<c/\c<95)\/c=95\/c=96\/(97<=c/\c<=122)\/122<c:=oM
def B6(c:Int):c<48\/(48<=c/\c<=57)\/57<c:=oM
def xp c{w}(b:0<=c)(d:c<=255) :
  Cs 191 #[Bv c] w (Gu (M.bD c) w):=by
 rcases B5 c with h|⟨h,a⟩|⟨h,a⟩|h|h|⟨h,a⟩|h;all_goals (try subst h)
 all_goals (
  go_enter func191,ntmps191;go_wp2;go_ret;exact⟨⟨_,rfl,by simp[M.bD]<;>omega⟩,rfl⟩)
def vm c{w}(b:0<=c)(d:c<=255) :
  Cs 170 #[Bv c] w (Gu (M.bD c) w):=by
 rcases B5 c with h|⟨h,a⟩|⟨h,a⟩|h|h|⟨h,a⟩|h;all_goals (try subst h)
 all_goals (
  go_enter func170,ntmps170;go_wp2;go_ret;exact⟨⟨_,rfl,by simp[M.bD]<;>omega⟩,rfl⟩)
def jC c{w}(b:0<=c)(d:c<=255) :
  Cs 171 #[Bv c] w (Gu (M.bK c) w):=by
 rcases B6 c with h|⟨h,a⟩|h;all_goals (
  go_enter func171,ntmps171;go_wp2;go_ret;exact⟨⟨_,rfl,by simp[M.bK]<;>omega⟩,rfl⟩)
def jD c w(d:0<=c)(f:c<=255) :
  Cs 192 #[Bv c] w (Gu (M.bD c\/M.bK c) w):=by
 by_cases g:M.bD c
 .have a:Hid (M.bD c):=g;go_enter func192,ntmps192;go_wp2_with (go_at_call 191;refine(xp c d f).mono ?_;rintro e W ⟨⟨r,rfl,b⟩,i⟩;subst W;obtain rfl:r=true:=b.2 a;clear b);go_ret;exact⟨⟨true,rfl,Qp (.inl a)⟩,rfl⟩
 have a:Hid (¬M.bD c):=g;rcases B6 c with h|⟨h,j⟩|h;all_goals (
  go_enter func192,ntmps192;go_wp2_with (go_at_call 191;refine(xp c d f).mono ?_;rintro e W ⟨⟨r,rfl,b⟩,i⟩;subst W;obtain rfl:r=false:=by { cases r;rfl;exact aB (b.1 rfl) a };clear b);go_ret;exact⟨⟨_,rfl,by simp[a.o,M.bK]<;>omega⟩,rfl⟩)
def B7(k:Int):k<4\/k=4\/k=5\/k=6\/k=7\/7<k:=oM
def jf{k}{w} :
  Cs 154 #[Iv k] w λe w'=>e=Rt (Iv (M.ar k))/\w=w':=by
 rcases B7 k with h|h|h|h|h|h;all_goals (try subst h)
 all_goals (
  try (
   have a:(k==4)=false:=sO;have b:(k==5)=false:=sO;have c:(k==6)=false:=sO;have d:(k==7)=false:=by simp;omega)
  go_enter func154,ntmps154;go_wp2;go_ret;exact⟨vk (by unfold M.ar;first|rfl|(rw[Zn oM,Zn oM])),rfl⟩)
def B8{k}{w} :
  Cs 174 #[Iv k] w λe w'=>e=Rt (Iv (M.ar k))/\w=w':=by
 rcases B7 k with h|h|h|h|h|h;all_goals (try subst h)
 all_goals (
  try (
   have a:(k==4)=false:=sO;have b:(k==5)=false:=sO;have c:(k==6)=false:=sO;have d:(k==7)=false:=by simp;omega)
  go_enter func174,ntmps174;go_wp2;go_ret;exact⟨vk (by unfold M.ar;first|rfl|(rw[Zn oM,Zn oM])),rfl⟩)
def Ov(w:Wl)(e:Ending)(w':Wl):Prop:=e=Rt Bt/\Bw w w'
def utu(n:Nat)(h:n%2=1):((n:Int)%2 != 0)=true:=by
 have:(n:Int)%2=1:=oM;rw[this];decide
def B3(n:Nat)(h:n%2=0):((n:Int)%2 != 0)=false:=by
 have:(n:Int)%2=0:=oM;rw[this];decide
def uv6(n:Nat)(h:n%2=1):((n:Int)%2==1)=true:=by
 have:(n:Int)%2=1:=oM;rw[this];decide
def uv7(n:Nat)(h:n%2=0):((n:Int)%2==1)=false:=by
 have:(n:Int)%2=0:=oM;rw[this];decide
def uv8(n:Nat)(h:n%2=0):((n:Int)%2==0)=true:=by
 have:(n:Int)%2=0:=oM;rw[this];decide
def uv9(n:Nat)(h:n%2=1):((n:Int)%2==0)=false:=by
 have:(n:Int)%2=1:=oM;rw[this];decide
def KR S k:M.bN S (k+1)=S (2*k+1)+2:=by
 unfold M.bN;rw[Zn oM,show 2*(k+1)-1=2*k+1 by omega]
def xm{k a b}(h:a=b):Value.int k a=.int k b:=by rw[h]
def uwa(w:Wl)(n:Nat)(S:Nat->Int)(l i:Vl)(wr:Wl):Prop :=
 ∃k d:Nat,2*k<=n/\l=Iv (M.bN S k)/\i=Iv ((2*k:Nat):Int)/\wr=w.drewN d/\0<=M.bN S k/\M.bN S k<=257
def ufz Q a n c S w(f:Ints Q .i64 w a n S)(y:n<=1048576)(e:M.bH n S) :
  Cs 218 #[Sl a n c] w (Ov w):=by
 obtain⟨h,e⟩:=e;have t:=B3 n h;have g:=ua ((M.dP S (n / 2)).2 (λi s=>e i oM));clear e;go_enter func218,ntmps218;go_wp2;go_loopw [3,4] (λl i wr=>uwa w n S l i wr) (λl i _=>n-(intOf i).toNat)
 .exact⟨0,0,oM,rfl,rfl,rfl,by simp[M.bN],by simp[M.bN]⟩
 obtain⟨k,d,u,rfl,rfl,rfl,v,x⟩:=hrel;by_cases j:2*k<n
 .rcases f with p|⟨b,off,rfl,z,f⟩
  .omega
  have q:=f (2*k) j;have r:=f (2*k+1) oM;have A:((2*k+1:Nat):Int)=((2*k:Nat):Int)+1:=oM;have B:((2*k:Nat):Int)<(n:Int):=oM;have C:((2*k:Nat):Int)+1<(n:Int):=oM;let⟨m,o,c3⟩:=g.o k oM;go_wp2_with fail;go_quiet (fail);go_wp2;go_roundw
  .exact⟨k+1,_,oM,xm (KR S k).symm,by go_num,rfl,by rw[KR];omega,by rw[KR];omega⟩
  simp[intOf];omega
 have D:¬((2*k:Nat):Int)<(n:Int):=oM;go_wp2;go_ret;exact⟨rfl,Be (zH _) _⟩
def uwb(w:Wl)(n:Nat)(S:Nat->Int)(i:Vl)(wr:Wl):Prop :=
 ∃k d:Nat,k<=n/\i=Iv (k:Int)/\wr=w.drewN d/\∀j,j<k->M.cS S j
def CD{n S k}(a:k<n)(h:¬M.cS S k):¬M.bH n S:=λq=>h (q.2 k a)
def B4 Q a n c S w(o:Ints Q .i64 w a n S)(N:n<=1048576) :
  Cs 172 #[Sl a n c] w (Qq (M.bH n S) w):=by
 rcases(Nat.mod_two_eq_zero_or_one n).symm with r|r
 .have t:=utu n r;go_enter func172,ntmps172;go_wp2;go_ret;exact⟨⟨false,rfl,xU λq=>by have:=q.1;omega⟩,zH _⟩
 have t:=B3 n r;go_enter func172,ntmps172;go_wp2;go_loopw [3] (λi wr=>uwb w n S i wr) (λi _=>n-(intOf i).toNat)
 .exact⟨0,0,oM,rfl,rfl,λj s=>aB s (Ge _)⟩
 obtain⟨k,d,I,rfl,rfl,x⟩:=hrel;have m:=ua x;by_cases l:k<n
 .rcases o with G|⟨b,off,rfl,O,o⟩
  .omega
  have y:=o k l;have P:(k:Int)<(n:Int):=oM;by_cases D:S k<0
  .go_wp2;go_ret;exact⟨⟨false,rfl,xU (CD l λq=>oH q.1)⟩,by first|exact Be (zH _) _|exact Be (Be (zH _) _) _|exact Be (Be (Be (zH _) _) _) _⟩
  by_cases E:255<S k
  .go_wp2;go_ret;exact⟨⟨false,rfl,xU (CD l λq=>oH q.2.1)⟩,by first|exact Be (zH _) _|exact Be (Be (zH _) _) _|exact Be (Be (Be (zH _) _) _) _⟩
  by_cases z:k=0
  .subst z;rw[Dy]at y;go_wp2_with fail;go_quiet (fail);go_wp2_with fail;go_quiet (fail);go_wp2;go_roundw
   .refine⟨1,_,oM,by go_num,rfl,λj s=>?_⟩;obtain rfl:j=0:=oM;exact⟨oM,oM,λh=>oM,λh=>oM⟩
   simp[intOf];omega
  obtain⟨p,v⟩:∃p,k=p+1:=⟨k-1,oM⟩;have g:=ua v;have L:(0:Int)<(k:Int):=oM;have J:0<k:=oM;have H:=o p (oH g);have u:=m p (oH g);have C:=u.1;have b1:=u.2.1;clear u;have F:(k:Int)-1=(p:Int):=oM;clear v;rcases Nat.mod_two_eq_zero_or_one k with f|f
  .have B:=uv7 k f;have A:=uv8 k f;by_cases c3:S k<S p+2
   .go_wp2_with fail;go_quiet (fail);go_wp2_with fail;go_quiet (fail);go_wp2;go_ret;exact⟨⟨false,rfl,xU (CD l λq=>by have:=q.2.2.2 ⟨oM,f⟩;rw[g.o]at this c3;simp at this;omega)⟩,by first|exact Be (zH _) _|exact Be (Be (zH _) _) _|exact Be (Be (Be (zH _) _) _) _⟩
   go_wp2_with fail;go_quiet (fail);go_wp2_with fail;go_quiet (fail);go_wp2;go_roundw
   .refine⟨k+1,_,oM,by go_num,rfl,λj s=>?_⟩;by_cases e:j=k
    .subst j;exact⟨oM,oM,λh=>oM,λh=>by rw[g.o]at c3 ⊢;simp;omega⟩
    exact m j oM
   simp[intOf];omega
  have B:=uv6 k f;have A:=uv9 k f;by_cases c3:S k<S p
  .go_wp2_with fail;go_quiet (fail);go_wp2;go_ret;exact⟨⟨false,rfl,xU (CD l λq=>by have:=q.2.2.1 f;rw[g.o]at this c3;simp at this;omega)⟩,by first|exact Be (zH _) _|exact Be (Be (zH _) _) _|exact Be (Be (Be (zH _) _) _) _⟩
  go_wp2_with fail;go_quiet (fail);go_wp2_with fail;go_quiet (fail);go_wp2;go_roundw
  .refine⟨k+1,_,oM,by go_num,rfl,λj s=>?_⟩;by_cases e:j=k
   .subst j;exact⟨oM,oM,λh=>by rw[g.o]at c3 ⊢;simp;omega,λh=>oM⟩
   exact m j oM
  simp[intOf];omega
 obtain rfl:k=n:=oM;go_wp2;go_ret;exact⟨⟨true,rfl,Qp ⟨r,m⟩⟩,by first|exact Be (zH _) _|exact Be (Be (zH _) _) _|exact Be (Be (Be (zH _) _) _) _⟩
open M (OpD ug Gr)
def qr Q a(n c l:Nat)B w(p:zM Q w a n B)(E:n<=1048576) :
  Cs 116 #[Sl a n c,Iv l] w (Gu (M.bQ n B l) w):=by
 go_enter func116,ntmps116;go_wp2;go_loopw [5] (λi wr=>∃k:Nat,k<=n/\i=Iv k/\wr=w/\∀j,j<k->¬((B j).e=3/\(B j).f=l)) (λi _=>n-(intOf i).toNat)
 .exact⟨0,zK,rfl,rfl,λj r=>aB r (Ge _)⟩
 obtain⟨k,D,rfl,rfl,v⟩:=hrel;have o:=ua v;by_cases s:k<n
 .rcases p with C|⟨b,off,rfl,F,p⟩
  .omega
  let⟨y,⟨sa,sc,z,G⟩,A⟩:=p k s;by_cases d:(B k).e=3
  .have t:((B k).e==3)=true:=(by simp[d]);have h:=ua d;by_cases g:(B k).f=l
   .have u:((B k).f==(l:Int))=true:=(by simp[g]);have m:=ua g;go_wp2;go_ret;exact⟨⟨true,rfl,Qp ⟨k,s,h,m⟩⟩,rfl⟩
   have u:((B k).f==(l:Int))=false:=(by simp[g]);have m:=ua g;go_wp2;go_roundw
   .exact⟨k+1,oM,by go_num,by trivial,λj r=>if e:j=k then e▸λq=>m q.2 else o j oM⟩
   simp[intOf];omega
  have t:((B k).e==3)=false:=by simp[d]
  have h:=ua d;go_wp2;go_roundw
  .exact⟨k+1,oM,by go_num,by trivial,λj r=>if e:j=k then e▸λq=>h q.1 else o j oM⟩
  simp[intOf];omega
 obtain rfl:k=n:=oM;go_wp2;go_ret;exact⟨⟨false,rfl,xU λ⟨i,x,q⟩=>o i x q⟩,rfl⟩
def G1(w:Wl)(n:Nat)(B:Nat->OpD)(d i:Vl)(wr:Wl):Prop :=
 ∃j:Nat,j<=n/\d=Iv (M.bM B n j)/\i=Iv ((n:Int)-1-j)/\wr=w/\∀t,t<j->M.bM B n t≠0
def G2 Q a n c B w(k:zM Q w a n B)(H:n<=1048576) :
  Cs 173 #[Sl a n c] w (Gu (M.cL n B) w):=by
 go_enter func173,ntmps173;go_wp2;go_loopw [3,4] (λd i wr=>G1 w n B d i wr) (λd i _=>(intOf i+1).toNat)
 .exact⟨0,zK,rfl,sM,rfl,λj o=>aB o (Ge _)⟩
 obtain⟨j,o,rfl,rfl,rfl,m⟩:=hrel;have A:=M.need_bd B n j m;have l:=ua m;by_cases v:j<n
 .rcases k with F|⟨b,off,rfl,J,k⟩
  .omega
  let⟨p,x⟩:=nm (n-1-j);have r:=ua x;have h:(n:Int)-1-j=p:=oM;have y:p<n:=oM;have I:(p:Int)<n:=oM;rw[h];let⟨C,⟨sa,sc,D,L⟩,E⟩:=k p y;have z:M.bM B n (j+1)=M.bM B n j+(M.ar (B p).e-1):=by rw[M.bM,r.o]
  have G:=M.cB (B p).e;have s:=ua z;by_cases f:M.bM B n j=0
  .have u:(M.bM B n j==0)=true:=(by simp[f]);have g:=ua f;go_wp2;go_ret;exact⟨⟨false,rfl,xU λq=>((M.dR n B).2 q).1 j v g⟩,rfl⟩
  have u:(M.bM B n j==0)=false:=by simp[f]
  have g:=ua f;go_wp2_with (go_at_call 174;refine(B8).mono ?_;rintro e W ⟨rfl,O⟩;subst W);go_roundw
  .exact⟨j+1,oM,xm s.symm,xm oM,by trivial,λt N=>if e:t=j then e▸g.o else l t oM⟩
  simp[intOf]<;>omega
 obtain rfl:j=n:=oM;have h:(j:Int)-1-j = -1:=oM;rw[h];go_wp2;go_ret;refine⟨⟨_,rfl,?_⟩,rfl⟩;rw[<-M.dR];simp only[beq_iff_eq];exact⟨λq=>⟨l,q⟩,λq=>q.2⟩
def Zc nr e b S a:M.bB nr e ⟨1,b,S,a⟩↔a=0/\M.bH b S:=by
 unfold M.bB M.bF;constructor
 .rintro⟨_,_,h,_,c,d⟩;exact⟨by simp at c d;omega,h rfl⟩
 rintro⟨rfl,h⟩;refine⟨?_,?_,λ_=>h,λq=>aB rfl q,?_,?_⟩<;>simp
def FI nr c b S a:M.bB nr c ⟨2,b,S,a⟩↔0<=a/\a<nr/\b=0:=by
 unfold M.bB M.bF;simp;omega
def Zd nr b c S a:M.bB nr b ⟨3,c,S,a⟩↔0<=a/\a<b/\c=0:=by
 unfold M.bB M.bF;simp;omega
def FJ nr d c S a b(h:a=0\/a=4\/a=5\/a=6\/a=7):M.bB nr d ⟨a,c,S,b⟩↔b=0/\c=0:=by
 unfold M.bB M.bF;rcases h with rfl|rfl|rfl|rfl|rfl<;>(simp;omega)
def PZ{nr}{e}{f}{S}{a}{b}(h:a<0\/7<a):¬M.bB nr e ⟨a,f,S,b⟩:=λq=>by
 have c:=q.1;have d:=q.2.1;simp at c d;omega
def QA(k:Int):k=1\/k=2\/k=3\/(k=0\/k=4\/k=5\/k=6\/k=7)\/(k<0\/7<k):=oM
def W4 Q ra la sa nr rc b lc a sc S f c w(i:Ints Q .i64 w sa a S)(q:nr<=1048576)(r:b<=1048576)(p:a<=1048576)(h:M.bB nr b ⟨f,a,S,c⟩) :
  Cs 199 #[.agg #[Sl ra nr rc,Sl la b lc],.agg #[Iv f,Sl sa a sc,Iv c]] w (Ov w):=by
 rcases QA f with rfl|rfl|rfl|d|d
 .obtain⟨rfl,g⟩:=(Zc nr b a S c).1 h;have l:=ua g;have m:=ua i;clear g h i;go_enter func199,ntmps199;go_wp2_with (go_at_call 218;refine(ufz Q sa a sc S _ (m.h (Bm w)) p l.o).mono ?_;rintro e W ⟨rfl,j⟩;have k:=ua j;clear j);go_ret;exact⟨rfl,uf (Bm w) k⟩
 .obtain⟨n,o,rfl⟩:=(FI nr b a S c).1 h;go_enter func199,ntmps199;go_wp2;go_ret;exact⟨rfl,Bm w⟩
 .obtain⟨n,o,rfl⟩:=(Zd nr b a S c).1 h;go_enter func199,ntmps199;go_wp2;go_ret;exact⟨rfl,Bm w⟩
 .obtain⟨rfl,rfl⟩:=(FJ nr b a S f c d).1 h;rcases d with rfl|rfl|rfl|rfl|rfl;all_goals
   go_enter func199,ntmps199;go_wp2;go_ret;exact⟨rfl,Bm w⟩
 exact aB h (PZ d)
def xx(n:Nat)(B:Nat->OpD):Prop:=n<=1048576/\∀i,i<n->(B i).sl<=1048576
def QI Q ra la a nr rc g lc n c B w(l:zM Q w a n B)(I:nr<=1048576)(J:g<=1048576)(L:xx n B)(P:M.bC nr g n B) :
  Cs 151 #[.agg #[Sl ra nr rc,Sl la g lc],Sl a n c] w (Ov w):=by
 obtain⟨hn,p⟩:=L;obtain⟨x,v2,v3⟩:=P;have y:=ua l;have C:=ua p;have F:=ua x;have s:=ua v2;have t:=ua v3;clear l p x v2 v3;go_enter func151,ntmps151;go_wp2;go_loopw [5,10] (λd i wr=>∃k:Nat,k<=n/\d=Iv (M.dep B k)/\i=Iv k/\Below (w.heap.size+1) (w.alloc (Oc #[Sl ra nr rc,Sl la g lc] 34)) wr) (λd i _=>n-(intOf i).toNat)
 .exact⟨0,zK,rfl,rfl,zH _⟩
 obtain⟨k,N,rfl,rfl,m⟩:=hrel;have R:=M.dW B n k N (λj hj=>s.o j oM);have r:=(zO w).trans (m.mono (Gx _));by_cases o:k<n
 .rcases y.h r with Y|⟨b,off,rfl,hq,l⟩
  .omega
  let⟨G,⟨sa,sc,S,u⟩,T⟩:=l k o;have p:=C.o k o;have aa:=ud G;have H:wr.cell? (Ad w.heap.size 0)=some (Sl ra nr rc):=(m.cell (Iy _)).trans sM;have V:wr.cell? (Ad w.heap.size 1)=some (Sl la g lc):=(m.cell (Iy _)).trans sM;have O:w.heap.size<wr.heap.size:=ud H;have Z:=M.cB (B k).e;have hd:=s.o k o;have D:Hid (M.dep B (k+1)=M.dep B k+(1-M.ar (B k).e)):=rfl;have z:=ua m;have A:=ua u;clear r m l u;go_wp2_with (first|(go_at_call 199;refine(W4 Q ra la sa nr rc g lc (B k).sl sc (B k).set (B k).e (B k).f _ (A.h (zO wr)) I J p (F.o k o)).mono ?_;rintro e W ⟨rfl,q⟩;have X:=(ue (a:=(Ad wr.heap.size 0)) (v:=Iv (B k).e) sM q);have E:=ua q;clear q)|(go_at_call 154;refine(jf).mono ?_;rintro e W' ⟨rfl,hw⟩;subst W'));go_roundw
  .exact⟨k+1,oM,xm D.symm,by go_num,z.o.trans ((uf (zO wr) E.o).mono O)⟩
  simp[intOf];omega
 obtain rfl:k=n:=oM;have U:=t.o;go_wp2;go_ret;exact⟨by rw[t.o];rfl,r⟩
open M (LessT)
def Cz(n:Nat)(T:Nat->Int):Prop:=∀i,i<n->0<=T i/\T i<=255
def Ek(n:Nat)(T:Nat->Int):List UInt8:=(List.range n).map λi=>UInt8.ofNat (T i).toNat
def str(n:Nat)(T:Nat->Int):ByteArray:=strOfNums ((List.range n).map T)
def Xv n T:(str n T).toList=Ek n T:=by
 rw[ByteArray.toList_eq,str,strOfNums_data,Ek,List.map_map];rfl
def xV{n}{T}:(str n T).data.toList=Ek n T:=by
 rw[str,strOfNums_data,Ek,List.map_map];rfl
def qo n T:(str n T).size=n:=by rw[str,strOfNums_size];simp
def jg n T:Ek (n+1) T=UInt8.ofNat (T 0).toNat::Ek n (λi=>T (i+1)):=by
 simp[Ek,List.range_succ_eq_map,Function.comp_def]
def uxG{x y:Int}(a:0<=x/\x<=255)(b:0<=y/\y<=255):UInt8.ofNat x.toNat<UInt8.ofNat y.toNat↔x<y:=by
 rw[UInt8.lt_iff_toNat_lt];simp only[UInt8.toNat_ofNat'];omega
def B9{x y:Int}(a:0<=x/\x<=255)(b:0<=y/\y<=255):UInt8.ofNat x.toNat=UInt8.ofNat y.toNat↔x=y:=by
 rw[<-UInt8.toNat_inj];simp only[UInt8.toNat_ofNat'];omega
def ucZ n S T:¬LessT n S 0 T:=by
 rintro⟨k,_,_,_,⟨_,h,_⟩|⟨_,h⟩⟩<;>omega
def udy m S T:LessT 0 S (m+1) T:=⟨0,λi a=>oM,oM,oM,.inr ⟨rfl,oM⟩⟩
def ulo n m S T:LessT (n+1) S (m+1) T↔S 0<T 0\/(S 0=T 0/\LessT n (λi=>S (i+1)) m (λi=>T (i+1))):=by
 constructor
 .rintro⟨k,c,f,g,h⟩;by_cases o:k=0
  .subst o;rcases h with⟨_,_,h⟩|⟨h,_⟩
   .exact .inl h
   omega
  obtain⟨q,rfl⟩:∃q,k=q+1:=⟨k-1,oM⟩;refine .inr ⟨c 0 oM,q,λi d=>c (i+1) oM,oM,oM,?_⟩;rcases h with⟨a,b,h⟩|⟨a,b⟩
  .exact .inl ⟨oM,oM,h⟩
  exact .inr ⟨oM,oM⟩
 rintro (h|⟨h,q,c,f,g,l⟩)
 .exact⟨0,λi d=>oM,oM,oM,.inl ⟨oM,oM,h⟩⟩
 refine⟨q+1,λi d=>?_,oM,oM,?_⟩
 .by_cases e:i=0
  .subst e;exact h
  obtain⟨j,rfl⟩:∃j,i=j+1:=⟨i-1,oM⟩;exact c j oM
 rcases l with⟨a,b,h⟩|⟨a,b⟩
 .exact .inl ⟨oM,oM,h⟩
 exact .inr ⟨oM,oM⟩
def KU:∀(n m:Nat) (S T:Nat->Int),Cz n S->Cz m T->(Op.bytesLess (Ek n S) (Ek m T)=true↔LessT n S m T)
 |n,0,S,T,_,_=>by
  have:Ek 0 T = []:=rfl;rw[this];cases Ek n S<;>simp[Op.bytesLess,ucZ]
 |0,m+1,S,T,_,_=>by
  rw[jg];have:Ek 0 S = []:=rfl;rw[this];simp[Op.bytesLess,udy]
 |n+1,m+1,S,T,hS,hT=>by
  have b:=KU n m (λi=>S (i+1)) (λi=>T (i+1)) (λi a=>hS (i+1) oM) (λi a=>hT (i+1) oM);rw[jg,jg,Op.bytesLess,ulo,<-b];simp only[Pl,Ng,decide_eq_true_eq,beq_iff_eq];rw[uxG (hS 0 oM) (hT 0 oM),B9 (hS 0 oM) (hT 0 oM)]
def C0:∀(d ys:List UInt8),-1<=Lib.compareBytes d ys/\Lib.compareBytes d ys<=1/\(Lib.compareBytes d ys<0↔Op.bytesLess d ys=true)
 |[],[]=>by simp[Lib.compareBytes,Op.bytesLess]
 |[],_::_=>by simp[Lib.compareBytes,Op.bytesLess]
 |_::_,[]=>by simp[Lib.compareBytes,Op.bytesLess]
 |a::x,b::y=>by
  let⟨f,g,h⟩:=C0 x y;rw[Lib.compareBytes,Op.bytesLess];by_cases e:a<b
  .simp[e]
  by_cases c:b<a
  .have j:¬a=b:=λq=>e (by rw[q]at c ⊢;exact c);simp[e,c,j]
  have i:a=b:=UInt8.le_antisymm (UInt8.not_lt.1 c) (UInt8.not_lt.1 e);subst i;simp[e];exact⟨f,g,h⟩
def KV:∀(n m:Nat) (S T:Nat->Int),Cz n S->Cz m T->(Ek n S=Ek m T↔n=m/\∀i,i<n->S i=T i)
 |0,0,S,T,_,_=>⟨λ_=>⟨rfl,λi b=>oM⟩,λ_=>rfl⟩
 |0,m+1,S,T,_,_=>by
  rw[jg];exact⟨λh=>aB h (by simp[Ek]),λh=>oM⟩
 |n+1,0,S,T,_,_=>by
  rw[jg];exact⟨λh=>aB h (by simp[Ek]),λh=>oM⟩
 |n+1,m+1,S,T,hS,hT=>by
  have f:=KV n m (λi=>S (i+1)) (λi=>T (i+1)) (λi b=>hS (i+1) oM) (λi b=>hT (i+1) oM);rw[jg,jg,List.cons.injEq,f,B9 (hS 0 oM) (hT 0 oM)];constructor
  .rintro⟨c,d,a⟩;refine⟨oM,λi b=>?_⟩;by_cases e:i=0
   .subst e;exact c
   obtain⟨j,rfl⟩:∃j,i=j+1:=⟨i-1,oM⟩;exact a j oM
  rintro⟨d,a⟩;exact⟨a 0 oM,oM,λi b=>a (i+1) oM⟩
def uwd n m S T(a:Cz n S)(b:Cz m T):str n S=str m T↔n=m/\∀i,i<n->S i=T i:=by
 rw[<-KV n m S T a b,<-xV,<-xV];constructor
 .intro h;rw[h]
 intro h;apply ByteArray.ext;exact Array.ext' h
def un7 w x:(loadCells x 0).run prog w=.ok #[] w:=by
 have:=run_loadCells_list (P:=prog) w x [] (λj v h=>by simp at h);simpa using this
def vg Q a n c T w(h:Ints Q .u8 w a n T):(convert 22 9 (Sl a n c)).run prog w=.ok (.string (str n T)) w:=by
 by_cases e:n=0
 .subst e;cases a with
  |none=>exact run_convert_bytes_nil w 22 5 underlying22 underlying5 0 c 9 underlying9
  |some x =>
   rw[run_convert_bytes_string w 22 9 5 _ 0 c underlying22 underlying5 underlying9,run_bytesToString w x 0 c [] (by simpa using un7 w x)];rfl
 rcases h with h|⟨b,off,rfl,f,h⟩
 .omega
 exact run_convert_bytes_arg w 22 5 underlying22 underlying5 b off n c ((List.range n).map T) sM (λi d=>by rw[h i d];simp[d]) 9 underlying9
def KW Q a b n c m c' S T w(h:Ints Q .u8 w a n S)(i:Ints Q .u8 w b m T)(g:Cz n S)(bT:Cz m T) :
  Cs 115 #[Sl a n c,Sl b m c'] w (Gu (LessT n S m T) w):=by
 have r1:=vg Q a n c S w h;have r2:=vg Q b m c' T w i;have d:=ua (KU n m S T g bT);have e:=ua (Xv n S);have f:=ua (Xv m T);generalize str n S=j at *;generalize str m T=k at *;go_enter func115,ntmps115;go_wp2;go_ret;exact⟨⟨_,rfl,by rw[e.o,f.o];exact d⟩,rfl⟩
def C1 Q a n c T w(h:Ints Q .u8 w a n T):(Extern.Bytes.bytesOf (Sl a n c)).run prog w=.ok (str n T) w:=by
 have k:(⟨ByteArray.empty.data++(Lib.bytesOf ((List.range n).map T)).toArray⟩:ByteArray)=str n T:=by
  apply ByteArray.ext;show(#[]:Array UInt8)++(Lib.bytesOf ((List.range n).map T)).toArray=_;simp[Lib.bytesOf,str,strOfNums]
 by_cases i:n=0
 .subst i;cases a with
  |none=>rfl
  |some x =>
   have:=Lib.run_loadBytesX (P:=prog) w [] x .empty (λj y h=>by simp at h);exact this
 rcases h with h|⟨b,off,rfl,l,h⟩
 .omega
 have g:=Lib.run_loadBytesX (P:=prog) w ((List.range n).map T) (Ad b off) .empty (λj x d=>by
  have f:j<n:=by simpa using (Bz.1 d).1
  have e:((Ad b off):Addr).add j=(Ad b (off+j)):=by unfold Addr.add;split<;>simp_all
  rw[e,h j f];simp[f]at d;rw[d])
 rw[k,show((List.range n).map T).length=n by simp]at g;exact g
def ujD Q a b n c m c' S T w(d:Ints Q .u8 w a n S)(e:Ints Q .u8 w b m T) :
  (Extern.BytealgCompare.compare #[Sl a n c,Sl b m c']).run prog w=.ok (Iv (Lib.compareBytes (Ek n S) (Ek m T))) w:=by
 change Sem.run prog (do pure (goInt (Extern.BytealgCompare.cmp (<-Extern.Bytes.bytesOf (Sl a n c)) (<-Extern.Bytes.bytesOf (Sl b m c'))))) w=_;simp only[Nl,C1 Q a n c S w d,C1 Q b m c' T w e,Nm,Result.andThen];rw[Lib.cmp_eq,xV,xV];rfl
def ujE n m S T(f:Cz n S)(bT:Cz m T):∃r:Int,-1<=r/\r<=1/\(r<0↔LessT n S m T) /\
  ∀(Q:Np) (a b:Oa) (c c':Nat) (w:Wl),Ints Q .u8 w a n S->Ints Q .u8 w b m T->Cs 150 #[Sl a n c,Sl b m c'] w λe w'=>e=Rt (Iv r)/\w'=w:=by
 let⟨g,h,i⟩:=C0 (Ek n S) (Ek m T);refine⟨_,g,h,i.trans (KU n m S T f bT),λQ a b c c' w j k=>?_⟩;have d:=ua (ujD Q a b n c m c' S T w j k);go_enter func150,ntmps150;go_wp2;rw[run_callFunc_extern func198 rR rR rR (e:=Extern.BytealgCompare.compare) rR,d.o];simp only[Result.andThen];rw[Oper.upon_value];go_wp2;go_ret;exact⟨rfl,rfl⟩
namespace M
structure uw where
 e:Int
 f:Int
 to:Int
 sl:Nat
 set:Nat->Int
def ins(k a t:Int):uw:=⟨k,a,t,0,λ_=>0⟩
inductive EX where
 |empty
 |set (n:Nat) (S:Nat->Int)
 |ref (n:Nat)
 |thr (l n:Nat)
 |seq (x y:EX)
 |alt (x y:EX)
 |star (x:EX)
 |not (x:EX)
instance:Inhabited EX:=⟨.empty⟩
def EX.c:EX->Nat
 |.empty=>0
 |.set _ _=>1
 |.ref _=>1
 |.thr _ _=>1
 |.seq x y=>x.c+y.c
 |.alt x y=>x.c+y.c+2
 |.star x=>x.c+2
 |.not x=>x.c+2
def uT(r:Nat->Int):EX->Nat->List uw
 |.empty,_=>[]
 |.set n S,_=>[⟨0,0,0,n,S⟩]
 |.ref n,_=>[ins 6 0 (r n)]
 |.thr l n,_=>[ins 8 l (r n)]
 |.seq x y,p=>uT r x p++uT r y (p+x.c)
 |.alt x y,p=>ins 1 0 ((p+x.c+2:Nat):Int)::(uT r x (p+1)++ins 2 0 ((p+x.c+y.c+2:Nat):Int)::uT r y (p+x.c+2))
 |.star x,p=>ins 1 0 ((p+x.c+2:Nat):Int)::(uT r x (p+1)++[ins 3 0 ((p+1:Nat):Int)])
 |.not x,p=>ins 4 0 ((p+x.c+2:Nat):Int)::(uT r x (p+1)++[ins 5 0 0])
def emit_len r t:∀p,(uT r t p).length=t.c:=by
 induction t with
 |empty|set n S|ref n|thr l n=>intro p;rfl
 |seq x y a b=>intro p;simp[uT,EX.c,a,b]
 |alt x y a b=>intro p;simp[uT,EX.c,a,b];omega
 |star x ih|not x ih=>intro p;simp[uT,EX.c,ih]
def lk(f:Int->Int)(i:uw):uw:=if i.e=6\/i.e=8 then { i with to:=f i.to } else i
def eR r f t:∀p,(uT r t p).map (lk f)=uT (λn=>f (r n)) t p:=by
 induction t with
 |empty=>intro p;rfl
 |set n S=>intro p;simp[uT,lk]
 |ref n|thr l n=>intro p;simp[uT,lk,ins]
 |seq x y a b=>intro p;simp[uT,a,b]
 |alt x y a b=>intro p;simp[uT,a,b];simp[lk,ins]
 |star x ih|not x ih=>intro p;simp[uT,ih];simp[lk,ins]
def EX.a(m:Nat):EX->Prop
 |.ref n=>n<m
 |.thr _ n=>n<m
 |.seq x y=>x.a m/\y.a m
 |.alt x y=>x.a m/\y.a m
 |.star x=>x.a m
 |.not x=>x.a m
 |_=>True
def bA(nr:Nat)(o:OpD)(x y:EX):EX :=
 if o.e=1 then .set o.sl o.set else if o.e=2 then .ref o.f.toNat else if o.e=3 then .thr o.f.toNat (nr+o.f.toNat)
 else if o.e=4 then .seq x y else if o.e=5 then .alt x y else if o.e=6 then .star x else if o.e=7 then .not x else .empty
def bR(nr n:Nat)(B:Nat->OpD):EX:=top (stk (bA nr) B n)
def wt(k:Int):Nat:=if k=1\/k=2\/k=3 then 1 else if k=5\/k=6\/k=7 then 2 else 0
def uag(B:Nat->OpD):Nat->Nat
 |0=>0
 |n+1=>uag B n+wt (B n).e
def cX B n:uag B n<=2*n:=by
 induction n with
 |zero=>exact zD
 |succ n a =>
  have:wt (B n).e<=2:=by unfold wt;split<;>(try split)<;>omega
  rw[uag];omega
def cM:List (Nat×EX)->Nat
 |[]=>0
 |(_,t)::r=>t.c+cM r
def cO nr o x y:(ar o.e=2->(bA nr o x y).c=x.c+y.c+wt o.e)/\(ar o.e=1->(bA nr o x y).c=x.c+wt o.e)/\(ar o.e=0->(bA nr o x y).c=wt o.e):=by
 unfold bA ar wt;by_cases a:o.e=1
 .simp[a,EX.c]
 by_cases b:o.e=2
 .simp[b,EX.c]
 by_cases d:o.e=3
 .simp[d,EX.c]
 by_cases f:o.e=4
 .simp[f,EX.c]
 by_cases g:o.e=5
 .simp[g,EX.c]
 by_cases h:o.e=6
 .simp[h,EX.c]
 by_cases i:o.e=7
 .simp[i,EX.c]
 simp[a,b,d,f,g,h,i,EX.c]
def dU nr B n(h:Fed B n):cM (stk (bA nr) B n)=uag B n:=by
 induction n with
 |zero=>rfl
 |succ n g =>
  have e:=g (h.h oM);have d:=bO (bA nr) B n (h.h oM);have f:=h n oM;rw[stk,uag];generalize stk (bA nr) B n=l at *;rcases cH (B n).e with c|c|c
  .have:=(cO nr (B n) default default).2.2 c;simp[stp,c,cM,this];omega
  .rw[c]at f;match l,e,d with
   |[],e,d=>simp at d;omega
   |(a,x)::r,e,d =>
    have:=(cO nr (B n) x default).2.1 c;simp[stp,c,cM,this]at *;omega
  rw[c]at f;match l,e,d with
  |[],e,d=>simp at d;omega
  |[(a,x)],e,d=>simp at d;omega
  |(a,y)::(b,x)::r,e,d =>
   have:=(cO nr (B n) x y).1 c;simp[stp,c,cM,this]at *;omega
def dV nr B a lo x(d:Fed B a)(e:stk (bA nr) B a=(lo,x)::stk (bA nr) B lo)(f:lo<=a):x.c+uag B lo=uag B a:=by
 have b:=dU nr B a d;have g:=dU nr B lo (d.h f);rw[e]at b;simp only[cM]at b;omega
def dL{nr b o}(k:bB nr b o){x y}(d:x.a (nr+b))(j:y.a (nr+b)):(bA nr o x y).a (nr+b):=by
 obtain⟨l,m,n,p,q,c⟩:=k;unfold bA;by_cases i:o.e=1
 .rw[Zp i];trivial
 rw[Zn i];by_cases g:o.e=2
 .rw[Zp g];unfold bF at c;rw[Zn oM,Zp g]at c;show o.f.toNat<nr+b;omega
 rw[Zn g];by_cases h:o.e=3
 .rw[Zp h];unfold bF at c;rw[Zp h]at c;show nr+o.f.toNat<nr+b;omega
 rw[Zn h];split
 .exact⟨d,j⟩
 split
 .exact⟨d,j⟩
 split
 .exact d
 split
 .exact d
 trivial
def eS{nr e}B n(f:∀i,i<n->bB nr e (B i)):∀p,p∈stk (bA nr) B n->p.2.a (nr+e):=by
 induction n with
 |zero=>intro p b;simp[stk]at b
 |succ n g =>
  have ih':=g (λi h=>f i oM);have d:=f n oM;have c:(default:EX).a (nr+e):=trivial;rw[stk];generalize stk (bA nr) B n=l at *;intro p b;unfold stp at b;split at b
  .match l,ih',b with
   |[],_,b=>simp at b
   |[_],_,b=>simp at b
   |(s2,y)::(s1,x)::r,ih',b =>
    rcases Dm.1 b with rfl|b
    .exact dL d (ih' (s1,x) sM) (ih' (s2,y) sM)
    exact ih' p (by simp[b])
  split at b
  .match l,ih',b with
   |[],_,b=>simp at b
   |(s1,x)::r,ih',b =>
    rcases Dm.1 b with rfl|b
    .exact dL d (ih' (s1,x) sM) c
    exact ih' p (by simp[b])
  rcases Dm.1 b with rfl|b
  .exact dL d c c
  exact ih' p b
def eM{nr b n B}(c:∀i,i<n->bB nr b (B i)):(bR nr n B).a (nr+b):=by
 unfold bR;have:=eS B n c;generalize stk (bA nr) B n=l at *;match l,this with
 |[],_=>trivial
 |(s,t)::r,h=>exact h (s,t) sM
def nodeC(r:Nat->Int)(o:uw)(t:EX)(p:Nat):List uw:=o::(uT r t (p+1)++[ins 11 0 0,ins 7 0 0])
def dK r o t p:(nodeC r o t p).length=t.c+3:=by simp[nodeC,emit_len]
def bG(r:Nat->Int)(b:Nat->uw)(c:Nat->EX)(a:Nat->Bool):Nat->List uw
 |0=>[ins 6 0 (r 0),ins 12 0 0]
 |k+1=>if a k then bG r b c a k++nodeC r (b k) (c k) (bG r b c a k).length else bG r b c a k
def dI r e c d a k:(bG r c d a k).length=(bG e c d a k).length:=by
 induction k with
 |zero=>rfl
 |succ k b =>
  rw[bG,bG];split
  .rw[zJ,zJ,dK,dK,b]
  exact b
def dS(b:Nat->uw)(c:Nat->EX)(a:Nat->Bool)(p:Nat):Int:=if a p then ((bG (λ_=>0) b c a p).length:Int) else -1
def eL r f a d b(h:∀p,(a p).e=9\/(a p).e=10)k:(bG r a d b k).map (lk f)=bG (λn=>f (r n)) a d b k:=by
 induction k with
 |zero=>simp[bG,lk,ins]
 |succ k c =>
  rw[bG,bG];split
  .rw[Dt,c,dI (λn=>f (r n)) r];congr 1;unfold nodeC;simp only[Nr,Dt,List.map_nil,eR];have g:lk f (a k)=a k:=by
    unfold lk;rw[Zn];rcases h k with q|q<;>omega
   rw[g];simp[lk,ins]
  exact c
end M
structure Tx where
 n:Nat
 T:Nat->Int
 h:∀i,0<=T i/\T i<=255
 le:n<=1048576
def Ei(Q:Np)(w:Wl)(a:Oa)(t:Tx):Prop:=Ints Q .u8 w a t.n t.T
def Ei.at{Q w a t}(h:Ei Q w a t){i}(c:i<t.n):∃b off,a=some (Ad b off)/\Q b/\∀j,j<t.n->w.cell? (Ad b (off+j))=some (Bv (t.T j)):=by
 rcases h with h|h
 .omega
 exact h
def Kq(c:Int):Option Nat:=if 48<=c/\c<=57 then some (c-48).toNat else if 97<=c/\c<=102 then some (c-87).toNat else if 65<=c/\c<=70 then some (c-55).toNat else none
def xM(c:Int):Int:=match Kq c with|some x=>x|none=>-1
def Rx(c:Int):Prop:=c=92\/c=34\/c=91\/c=93\/c=45\/c=94
instance (c:Int):Decidable (Rx c):=by unfold Rx;infer_instance
def Hg(t:Tx)(i:Nat):Int×Nat :=
 if t.n<=i+1\/t.T i≠92 then (0,0)
 else if t.T (i+1)=110 then (10,2)
 else if t.T (i+1)=116 then (9,2)
 else if t.T (i+1)=114 then (13,2)
 else if Rx (t.T (i+1)) then (t.T (i+1),2)
 else if t.T (i+1)=120/\i+3<t.n/\0<=xM (t.T (i+2))/\0<=xM (t.T (i+3)) then (xM (t.T (i+2))*16+xM (t.T (i+3)),4)
 else (0,0)
def Bc(t:Tx)(i:Nat)(cls:Bool):Int×Nat :=
 if t.n<=i\/t.T i=10 then (0,0)
 else if t.T i=92 then Hg t i
 else if cls=true/\(t.T i=93\/t.T i=45\/t.T i=94) then (0,0)
 else if cls=false/\t.T i=34 then (0,0)
 else (t.T i,1)
def Hw(t:Tx):Nat->Nat->Nat
 |0,i=>i
 |f+1,i=>if i<t.n/\t.T i≠10 then Hw t f (i+1) else i
def Qb(c:Int):Prop:=c=32\/c=9\/c=13\/c=10
instance (c:Int):Decidable (Qb c):=by unfold Qb;infer_instance
def Hh(t:Tx):Nat->Nat->Nat
 |0,i=>i
 |f+1,i=>if i<t.n then (if Qb (t.T i) then Hh t f (i+1) else if t.T i=35 then Hh t f (Hw t (t.n-i) i) else i) else i
def skip(t:Tx)(i:Nat):Nat:=Hh t (t.n-i) i
def GD t:∀f i,i<=Hw t f i
 |0,i=>zD
 |f+1,i=>by
  rw[Hw];split
  .exact zP (Gx i) (GD t f (i+1))
  exact zD
def GE t:∀f i,i<=t.n->Hw t f i<=t.n
 |0,i,h=>h
 |f+1,i,h=>by
  rw[Hw];split
  .exact GE t f (i+1) oM
  exact h
def RB t:∀f g i,t.n-i<=f->t.n-i<=g->Hw t f i=Hw t g i
 |f,g,i,h,k=>by
  by_cases a:i<t.n
  .obtain⟨f,rfl⟩:∃q,f=q+1:=⟨f-1,oM⟩;obtain⟨g,rfl⟩:∃q,g=q+1:=⟨g-1,oM⟩;rw[Hw,Hw,RB t f g (i+1) oM oM]
  cases f<;>cases g<;>simp[Hw,a]
def jY(t:Tx)(i:Nat):Nat:=Hw t (t.n-i) i
def GF t i:jY t i=if i<t.n/\t.T i≠10 then jY t (i+1) else i:=by
 unfold jY;by_cases a:i<t.n
 .rw[RB t (t.n-i) ((t.n-(i+1))+1) i oM oM,Hw]
 rw[show t.n-i=0 by omega,Zn (λq=>a q.1),Hw]
def Zo t{i}(h:i<t.n)(a:t.T i=35):i<jY t i/\jY t i<=t.n:=by
 rw[GF,Zp ⟨h,oM⟩];exact⟨GD t _ (i+1),GE t _ (i+1) oM⟩
def Zq t:∀f g i,t.n-i<=f->t.n-i<=g->Hh t f i=Hh t g i
 |f,g,i,h,k=>by
  by_cases a:i<t.n
  .obtain⟨f,rfl⟩:∃q,f=q+1:=⟨f-1,oM⟩;obtain⟨g,rfl⟩:∃q,g=q+1:=⟨g-1,oM⟩;rw[Hh,Hh,Zp a,Zp a,Zq t f g (i+1) oM oM];by_cases b:t.T i=35
   .have:=Zo t a b;rw[Zq t f g (Hw t (t.n-i) i) (by unfold jY at this;omega) (by unfold jY at this;omega)]
   simp[b]
  cases f<;>cases g<;>simp[Hh,a]
def RD t i:skip t i=if i<t.n then (if Qb (t.T i) then skip t (i+1) else if t.T i=35 then skip t (jY t i) else i) else i:=by
 unfold skip;by_cases a:i<t.n
 .rw[Zp a,Zq t (t.n-i) ((t.n-(i+1))+1) i oM oM,Hh,Zp a];by_cases b:t.T i=35
  .have:=Zo t a b;rw[show Hw t (t.n-i) i=jY t i from rfl,Zq t (t.n-(i+1)) (t.n-jY t i) (jY t i) oM oM]
  simp[b]
 rw[Zn a,show t.n-i=0 by omega,Hh]
def Ub(k:Nat):Int:=if k<10 then 48+k else 87+k
def Uc(k:Nat):Int:=if k<10 then 48+k else 55+k
def zm{c k}(b:k<16)(h:c=Ub k\/c=Uc k):Kq c=some k:=by
 unfold Ub Uc at h;unfold Kq;by_cases a:k<10
 .simp only[Zp a,or_self]at h;rw[Zp oM];congr 1;omega
 simp only[Zn a]at h;rcases h with h|h
 .rw[Zn oM,Zp oM];congr 1;omega
 rw[Zn oM,Zn oM,Zp oM];congr 1;omega
def FX{c k}(h:Kq c=some k):k<16/\(c=Ub k\/c=Uc k):=by
 unfold Kq at h;unfold Ub Uc;by_cases a:48<=c/\c<=57
 .rw[Zp a]at h;injection h with h;subst h;refine⟨oM,.inl ?_⟩;rw[Zp oM];omega
 rw[Zn a]at h;by_cases b:97<=c/\c<=102
 .rw[Zp b]at h;injection h with h;subst h;refine⟨oM,.inl ?_⟩;rw[Zn oM];omega
 rw[Zn b]at h;by_cases d:65<=c/\c<=70
 .rw[Zp d]at h;injection h with h;subst h;refine⟨oM,.inr ?_⟩;rw[Zn oM];omega
 rw[Zn d]at h;cases h
def QU{c k}(h:Kq c=some k):xM c=k:=by unfold xM;rw[h]
def QV{c}(h:Kq c=none):xM c = -1:=by unfold xM;rw[h]
def Zj c : -1<=xM c/\xM c<=15:=by
 cases h:Kq c with
 |none=>rw[QV h];omega
 |some k=>rw[QU h];have:=(FX h).1;omega
def QW c w(l:0<=c)(m:c<=255) :
  Cs 238 #[Bv c] w λe w'=>e=Rt (Iv (xM c))/\w'=w:=by
 go_enter func238,ntmps238;go_wp2;go_loopw [5] (λi wr=>∃k:Nat,k<=16/\i=Iv k/\wr=w/\∀x,Kq c=some x->k<=x) (λi _=>16-(intOf i).toNat)
 .exact⟨0,zK,rfl,rfl,λx _=>zK⟩
 obtain⟨k,n,rfl,rfl,a⟩:=hrel;have d:=ua a;by_cases j:k<16
 .have b:Hid (c=Ub k\/c=Uc k->xM c=k):=λh=>QU (zm j h);have f:Hid (c≠Ub k->c≠Uc k->∀x,Kq c=some x->k+1<=x):=λh g x a=>by
   have:=d x a;have:=(FX a).2;by_cases e:x=k
   .subst e;exact aB ‹_\/_› (λq=>q.elim h g)
   omega
  rcases(show k=0\/k=1\/k=2\/k=3\/k=4\/k=5\/k=6\/k=7\/k=8\/k=9\/k=10\/k=11\/k=12\/k=13\/k=14\/k=15 by omega) with rfl|rfl|rfl|rfl|rfl|rfl|rfl|rfl|rfl|rfl|rfl|rfl|rfl|rfl|rfl|rfl;all_goals go_wp2
  all_goals first
   |(go_ret;rename_i h;exact⟨vk (b (.inl (h.symm.trans rfl))).symm,rfl⟩)
   |(go_ret;rename_i h;exact⟨vk (b (h.elim (λq=>.inl ((eq_of_beq q).symm.trans rfl)) (λq=>.inr ((eq_of_beq q).symm.trans rfl)))).symm,rfl⟩)
   |(rename_i h;refine⟨⟨_,?_,rfl,trivial,f (λq=>?_) (λq=>?_)⟩,by simp[intOf]⟩;decide;(subst q;exact aB h.1 dC);(subst q;exact aB h.2 dC))
 obtain rfl:k=16:=oM;go_wp2;go_ret;refine⟨vk ?_,rfl⟩;cases h:Kq c with
 |none=>exact(QV h).symm
 |some x=>have:=d x h;have:=(FX h).1;omega
def Rq(x y:Int)(w:Wl)(e:Ending)(w':Wl):Prop:=e=Rt (.tuple #[Iv x,Iv y])/\∃m,w'=w.drewN m
def xZ{x y w}:Rq x y w (Rt (.tuple #[Iv x,Iv y])) w:=⟨rfl,0,rfl⟩
def Ei.i{Q t a w}(h:Ei Q w a t)m:Ei Q (w.drewN m) a t:=Ints.h h (Be (zH w) m)
def Rr{x}(h:0<=x)(a:x<=4000000):IntKind.i64.wrap x=x:=by
 unfold IntKind.wrap;have b:x%(2 ^ IntKind.i64.bits:Int)=x:=Int.emod_eq_of_lt h (Int.lt_of_le_of_lt a dC);have c:¬(x ≥ (2 ^ (IntKind.i64.bits-1):Int)):=λq=>aB (Int.le_trans q a) dC;simp only[b,c,decide_false,Bool.and_false,Zn,Nh,not_false_iff]
def zc Q t a c i w(z:Ei Q w a t)(L:i<=t.n) :
  Cs 222 #[Sl a t.n c,Iv i] w (Rq (Hg t i).1 ((Hg t i).2:Nat) w):=by
 have N:=t.le;unfold Hg;by_cases D:t.n<=i+1
 .rw[Zp (.inl D)];have E:(t.n:Int)<=(i:Int)+1:=oM;go_enter func222,ntmps222;go_wp2;go_ret2;exact xZ
 have E:¬(t.n:Int)<=(i:Int)+1:=oM;obtain⟨b,off,rfl,O,j⟩:=z.at (i:=i) oM;have F:=j i oM;have P:=j (i+1) oM;have b1:=t.h (i+1);by_cases g:t.T i=92
 .rw[Zn oM];rw[g]at F;have r:=ua j;have o:=ua t.h;clear j z;generalize t.T (i+1)=x at *;by_cases k:x=110
  .subst k;go_enter func222,ntmps222;go_wp2;go_ret2;exact xZ
  by_cases l:x=116
  .subst l;go_enter func222,ntmps222;go_wp2;go_ret2;exact xZ
  by_cases m:x=114
  .subst m;go_enter func222,ntmps222;go_wp2;go_ret2;exact xZ
  rw[Zn k,Zn l,Zn m];have x1':(x==110)=false:=by simpa using k
  have x2':(x==116)=false:=by simpa using l
  have x3':(x==114)=false:=by simpa using m
  by_cases d:Rx x
  .rw[Zp d];rcases d with rfl|rfl|rfl|rfl|rfl|rfl;all_goals (
    go_enter func222,ntmps222;go_wp2;go_ret2;exact xZ)
  rw[Zn d];obtain⟨y1,y2,G,H,I,J⟩:(x==92)=false/\(x==34)=false/\(x==91)=false/\(x==93)=false/\(x==45)=false/\(x==94)=false:=by
   unfold Rx at d;simp only[not_or]at d;simpa using d
  clear d;by_cases u:x=120
  .subst u;by_cases A:i+3<t.n
   .have x6':(i:Int)+3<(t.n:Int):=oM;have U:(i:Int)+2<(t.n:Int):=oM;have v2:IntKind.i64.wrap ((i:Int)+2)=((i+2:Nat):Int):=(Rr oM oM).trans oM;have v3:IntKind.i64.wrap ((i:Int)+3)=((i+3:Nat):Int):=(Rr oM oM).trans oM;have v4:(0:Int)<=(i:Int)+2:=oM;have v5:(0:Int)<=(i:Int)+3:=oM;have v6:((i:Int)+2).toNat=i+2:=oM;have v7:((i:Int)+3).toNat=i+3:=oM;have R:=r (i+2) oM;have S:=r (i+3) oM;have v:=o (i+2);have y:=o (i+3);have f:Hid (∀w,Cs 238 #[Bv (t.T (i+2))] w λe w'=>e=Rt (Iv (xM (t.T (i+2))))/\w'=w):=λw=>QW _ w v.1 v.2;have s:Hid (∀w,Cs 238 #[Bv (t.T (i+3))] w λe w'=>e=Rt (Iv (xM (t.T (i+3))))/\w'=w):=λw=>QW _ w y.1 y.2;have V:=Zj (t.T (i+2));have X:=Zj (t.T (i+3));generalize xM (t.T (i+2))=p at *;generalize xM (t.T (i+3))=q at *;generalize t.T (i+2)=u2 at *;generalize t.T (i+3)=u3 at *;clear r o k l m x1' x2' x3' y1 y2 G H I J g;by_cases B:0<=p
    .by_cases C:0<=q
     .rw[Zp ⟨rfl,A,B,C⟩];go_enter func222,ntmps222;go_wp2_with fail;refine(f _).mono ?_;rintro e W ⟨rfl,rfl⟩;go_wp2_with fail;refine(s _).mono ?_;rintro e W ⟨rfl,rfl⟩;go_wp2;go_quiet (first|(go_at_call_of 238 (Bv u2);exact Ho (f _))|(go_at_call_of 238 (Bv u3);exact Ho (s _)));go_wp2;go_ret2;exact⟨rfl,_,rfl⟩
     rw[Zn (λq=>C q.2.2.2)];go_enter func222,ntmps222;go_wp2_with fail;refine(f _).mono ?_;rintro e W ⟨rfl,rfl⟩;go_wp2_with fail;refine(s _).mono ?_;rintro e W ⟨rfl,rfl⟩;go_wp2;go_ret2;exact xZ
    rw[Zn (λq=>B q.2.2.1)];go_enter func222,ntmps222;go_wp2_with fail;refine(f _).mono ?_;rintro e W ⟨rfl,rfl⟩;go_wp2;go_ret2;exact xZ
   rw[Zn (λq=>A q.2.1)];have x6':¬(i:Int)+3<(t.n:Int):=oM;go_enter func222,ntmps222;go_wp2;go_ret2;exact xZ
  rw[Zn (λq=>u q.1)];have x5':(x==120)=false:=by simpa using u
  go_enter func222,ntmps222;go_wp2;go_ret2;exact xZ
 rw[Zp (.inr g)];have c1':(t.T i==92)=false:=by simpa using g
 go_enter func222,ntmps222;go_wp2;go_ret2;exact xZ
def GP Q t a c i cls w(g:Ei Q w a t)(u:i<=t.n) :
  Cs 209 #[Sl a t.n c,Iv i,.bool cls] w (Rq (Bc t i cls).1 ((Bc t i cls).2:Nat) w):=by
 have y:=t.le;unfold Bc;by_cases o:t.n<=i
 .rw[Zp (.inl o)];have p:(t.n:Int)<=(i:Int):=oM;go_enter func209,ntmps209;go_wp2;go_ret2;exact xZ
 have p:¬(t.n:Int)<=(i:Int):=oM;have k:Hid (∀w,Ei Q w a t->Cs 222 #[Sl a t.n c,Iv i] w (Rq (Hg t i).1 ((Hg t i).2:Nat) w)):=λw h=>zc Q t a c i w h u;have l:=ua g;obtain⟨b,off,rfl,z,s⟩:=g.at (i:=i) oM;have A:=s i oM;have v:=t.h i;generalize t.T i=x at *;by_cases j:x=10
 .subst j;rw[Zp (.inr rfl)];go_enter func209,ntmps209;go_wp2;go_ret2;exact xZ
 have x1':(x==10)=false:=by simpa using j
 rw[Zn oM];by_cases f:x=92
 .subst f;rw[Zp rfl];generalize Hg t i=r at *;go_enter func209,ntmps209;go_wp2_with fail;refine(k w l).mono ?_;rintro e W ⟨rfl,m,rfl⟩;go_wp2;go_ret2;exact⟨rfl,m,rfl⟩
 rw[Zn f];have x2':(x==92)=false:=by simpa using f
 cases cls with
 |true =>
  by_cases d:x=93\/x=45\/x=94
  .rw[Zp ⟨rfl,d⟩];rcases d with rfl|rfl|rfl;all_goals (
    go_enter func209,ntmps209;go_wp2;go_ret2;exact xZ)
  rw[Zn (λq=>d q.2),Zn (λq=>Bool.noConfusion q.1)];obtain⟨y1,y2,B⟩:(x==93)=false/\(x==45)=false/\(x==94)=false:=by
   simp only[not_or]at d;simpa using d
  go_enter func209,ntmps209;go_wp2;go_ret2;exact xZ
 |false =>
  rw[Zn (λq=>Bool.noConfusion q.1)];by_cases d:x=34
  .subst d;rw[Zp ⟨rfl,rfl⟩];go_enter func209,ntmps209;go_wp2;go_ret2;exact xZ
  rw[Zn (λq=>d q.2)];have y1:(x==34)=false:=by simpa using d
  go_enter func209,ntmps209;go_wp2;go_ret2;exact xZ
def SM Q t a c i w(D:Ei Q w a t)(E:i<=t.n) :
  Cs 130 #[Sl a t.n c,Iv i] w λe w'=>e=Rt (Iv (skip t i:Nat))/\w'=w:=by
 have L:=t.le;have C:=ua D;go_enter func130,ntmps130;go_wp2;go_loopw [1] (λu wr=>∃k:Nat,k<=t.n/\u=Iv k/\wr=w/\skip t k=skip t i) (λu _=>t.n-(intOf u).toNat)
 .exact⟨i,E,rfl,rfl,rfl⟩
 obtain⟨k,F,rfl,rfl,y⟩:=hrel;have f:=ua y;have d:=ua (RD t k);by_cases l:k<t.n
 .have hlt':(k:Int)<t.n:=oM;obtain⟨b,off,rfl,N,v⟩:=C.at l;have G:=v k l;have I:=t.h k;have A:=Zo t l;have z:=ua v;clear v;by_cases o:Qb (t.T k)
  .have g:Hid (skip t (k+1)=skip t i):=(by show _=_;rw[<-f.o,d.o,Zp l,Zp o]);clear f d A z;generalize t.T k=x at *;rcases o with rfl|rfl|rfl|rfl;all_goals (
    go_wp2;go_roundw
    .exact⟨k+1,l,by go_num,by trivial,g⟩
    simp[intOf];omega)
  by_cases p:t.T k=35
  .have g:Hid (skip t (jY t k)=skip t i):=(by show _=_;rw[<-f.o,d.o,Zp l,Zn o,Zp p]);have HG':=ua (A p);rw[p]at G;go_wp2;go_loopw [1] (λu w'=>∃j:Nat,k<=j/\j<=t.n/\u=Iv j/\w'=wr/\jY t j=jY t k) (λu _=>t.n-(intOf u).toNat)
   .exact⟨k,zD,F,rfl,rfl,rfl⟩
   obtain⟨j,J,B,rfl,rfl,y⟩:=hrel;have f:=ua y;have d:=ua (GF t j);by_cases s:j<t.n
   .have hjl':(j:Int)<t.n:=oM;have H:=z j s;have b1:=t.h j;by_cases r:t.T j=10
    .have m:Hid (j=jY t k):=(by show _=_;rw[<-f.o,d.o,Zn (λq=>q.2 r)]);rw[r]at H;go_wp2;go_roundw
     .exact⟨j,B,rfl,by trivial,by rw[m.o];exact g⟩
     have:=m.o;have:=HG'.o;simp[intOf];omega
    have m:Hid (jY t (j+1)=jY t k):=(by show _=_;rw[<-f.o,d.o,Zp ⟨s,r⟩]);have y1:(t.T j==10)=false:=(by simpa using r);go_wp2;go_roundw
    .exact⟨j+1,oM,s,by go_num,by trivial,m⟩
    simp[intOf];omega
   have m:Hid (j=jY t k):=(by show _=_;rw[<-f.o,d.o,Zn (λq=>s q.1)]);have hjl':¬(j:Int)<t.n:=oM;go_wp2;go_roundw
   .exact⟨j,B,rfl,by trivial,by rw[m.o];exact g⟩
   have:=m;have:=HG';simp[intOf];omega
  obtain⟨y1,y2,O,P⟩:(t.T k==32)=false/\(t.T k==9)=false/\(t.T k==13)=false/\(t.T k==10)=false:=by
   unfold Qb at o;simp only[not_or]at o;simpa using o
  have R:(t.T k==35)=false:=by simpa using p
  have g:Hid (k=skip t i):=by show _=_;rw[<-f.o,d.o,Zp l,Zn o,Zn p]
  go_wp2;go_ret;exact⟨vk (by rw[<-g.o]),rfl⟩
 obtain rfl:k=t.n:=oM;have g:Hid (t.n=skip t i):=by show _=_;rw[<-f.o,d.o,Zn l]
 go_wp2;go_ret;exact⟨vk (by rw[<-g.o]),rfl⟩
end Go.Proofs.YtmlblamikgkdcaaGreat
