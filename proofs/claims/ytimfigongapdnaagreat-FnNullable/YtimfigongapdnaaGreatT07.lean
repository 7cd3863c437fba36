import Derived.Test.YtimfigongapdnaaGreatT06
import Derived.Deep.RegionLaw
set_option linter.unusedVariables false
set_option linter.unusedSimpArgs false
set_option maxHeartbeats 40000000
set_option maxRecDepth 100000
namespace Go.Proofs.YtimfigongapdnaaGreat
section
open Go.RowKit
open M (OpD ug Gr)
structure RuleX(Q:Nat->Prop)(w:World)(b o:Nat)(d:ug):Prop where
 c:RuleC Q w b o d
 cap:∃a c,w.cell? ⟨b,o+1,none⟩=some (.slice a d.bl c)/\d.bl<=c
structure LabX(Q:Nat->Prop)(w:World)(b o:Nat)(d:ug):Prop where
 c:LabC Q w b o d
 cap:∃a c,w.cell? ⟨b,o+2,none⟩=some (.slice a d.bl c)/\d.bl<=c
def RulesX(Q:Nat->Prop)(w:World)(a:Option Addr)(n:Nat)(R:Nat->ug):Prop :=
 n=0\/∃b off,a=some ⟨b,off,none⟩/\Q b/\∀i,i<n->RuleX Q w b (off+i*2) (R i)
def LabsX(Q:Nat->Prop)(w:World)(a:Option Addr)(n:Nat)(R:Nat->ug):Prop :=
 n=0\/∃b off,a=some ⟨b,off,none⟩/\Q b/\∀i,i<n->LabX Q w b (off+i*3) (R i)
section
variable {Q Q':Nat->Prop} {w w':World}
theorem RuleX.on{b o:Nat}{d:ug}(h:RuleX Q w b o d)(e:Q b)(t:Stay Q w w'):RuleX Q w' b o d :=
 ⟨h.c.on e t,let ⟨a,c,h1,h2⟩:=h.cap;⟨a,c,(t.cell e).trans h1,h2⟩⟩
theorem RuleX.wide{b o:Nat}{d:ug}(h:RuleX Q w b o d)(t:∀b,Q b->Q' b):RuleX Q' w b o d:=⟨h.c.wide t,h.cap⟩
theorem RuleX.later{b o:Nat}{d:ug}(h:RuleX Q w b o d)(t:Below w.heap.size w w'):RuleX Q w' b o d :=
 ⟨h.c.later t,let ⟨a,c,h1,h2⟩:=h.cap;⟨a,c,ue h1 t,h2⟩⟩
theorem LabX.on{b o:Nat}{d:ug}(h:LabX Q w b o d)(e:Q b)(t:Stay Q w w'):LabX Q w' b o d :=
 ⟨h.c.on e t,let ⟨a,c,h1,h2⟩:=h.cap;⟨a,c,(t.cell e).trans h1,h2⟩⟩
theorem LabX.wide{b o:Nat}{d:ug}(h:LabX Q w b o d)(t:∀b,Q b->Q' b):LabX Q' w b o d:=⟨h.c.wide t,h.cap⟩
theorem LabX.later{b o:Nat}{d:ug}(h:LabX Q w b o d)(t:Below w.heap.size w w'):LabX Q w' b o d :=
 ⟨h.c.later t,let ⟨a,c,h1,h2⟩:=h.cap;⟨a,c,ue h1 t,h2⟩⟩
theorem RulesX.on{a:Option Addr}{n:Nat}{R:Nat->ug}(h:RulesX Q w a n R)(t:Stay Q w w'):RulesX Q w' a n R:=by
 rcases h with h|⟨b,off,e,c,h⟩
 ·exact .inl h
 exact .inr ⟨b,off,e,c,λi d=>(h i d).on c t⟩
theorem RulesX.wide{a:Option Addr}{n:Nat}{R:Nat->ug}(h:RulesX Q w a n R)(t:∀b,Q b->Q' b):RulesX Q' w a n R:=by
 rcases h with h|⟨b,off,e,d,h⟩
 ·exact .inl h
 exact .inr ⟨b,off,e,t b d,λi c=>(h i c).wide t⟩
theorem RulesX.later{a:Option Addr}{n:Nat}{R:Nat->ug}(h:RulesX Q w a n R)(t:Below w.heap.size w w'):RulesX Q w' a n R:=by
 rcases h with h|⟨b,off,e,d,h⟩
 ·exact .inl h
 exact .inr ⟨b,off,e,d,λi c=>(h i c).later t⟩
theorem LabsX.on{a:Option Addr}{n:Nat}{R:Nat->ug}(h:LabsX Q w a n R)(t:Stay Q w w'):LabsX Q w' a n R:=by
 rcases h with h|⟨b,off,e,c,h⟩
 ·exact .inl h
 exact .inr ⟨b,off,e,c,λi d=>(h i d).on c t⟩
theorem LabsX.wide{a:Option Addr}{n:Nat}{R:Nat->ug}(h:LabsX Q w a n R)(t:∀b,Q b->Q' b):LabsX Q' w a n R:=by
 rcases h with h|⟨b,off,e,d,h⟩
 ·exact .inl h
 exact .inr ⟨b,off,e,t b d,λi c=>(h i c).wide t⟩
theorem LabsX.later{a:Option Addr}{n:Nat}{R:Nat->ug}(h:LabsX Q w a n R)(t:Below w.heap.size w w'):LabsX Q w' a n R:=by
 rcases h with h|⟨b,off,e,d,h⟩
 ·exact .inl h
 exact .inr ⟨b,off,e,d,λi c=>(h i c).later t⟩
theorem RulesX.plain{a:Option Addr}{n:Nat}{R:Nat->ug}(h:RulesX Q w a n R):RulesA Q w a n R:=by
 rcases h with h|⟨b,off,e,f,h⟩
 ·exact .inl h
 exact .inr ⟨b,off,e,f,λi d=>(h i d).c⟩
theorem LabsX.plain{a:Option Addr}{n:Nat}{R:Nat->ug}(h:LabsX Q w a n R):LabsA Q w a n R:=by
 rcases h with h|⟨b,off,e,f,h⟩
 ·exact .inl h
 exact .inr ⟨b,off,e,f,λi d=>(h i d).c⟩
end
structure GramX(Q:Nat->Prop)(w:World)(ra la:Option Addr)(g:Gr):Prop where
 rules:RulesX Q w ra g.nr g.rule
 labs:LabsX Q w la g.nb g.lab
theorem GramX.plain{Q w a la g}(h:GramX Q w a la g):GramA Q w a la g:=⟨h.rules.plain,h.labs.plain⟩
theorem GramX.later{Q w w' a la g}(h:GramX Q w a la g)(t:Below w.heap.size w w'):GramX Q w' a la g:=⟨h.rules.later t,h.labs.later t⟩
end
section
open Go.RowKit
open M (OpD ug Gr)
theorem ugZ g j:(⟨g,0,none⟩:Addr).add j=⟨g,j,none⟩:=by
 by_cases a:j=0
 ·subst a;simp[Addr.add]
 simp[Addr.add,a]
section
variable {α:Type} (f:α->List Value) (k:Nat) (hk:∀x,(f x).length=k)
include hk
theorem yi(l:List α):(l.flatMap f).length=l.length*k:=by
 induction l with
 |nil=>simp
 |cons x l a=>rw[List.flatMap_cons,List.length_append,a,hk,List.length_cons,Nat.add_mul];omega
theorem vw:∀(l:List α) (i j:Nat) (x:α),l[i]?=some x->j<k->(l.flatMap f)[i*k+j]?=(f x)[j]?
 |[],i,j,x,h,_=>by simp at h
 |y::l,0,j,x,h,hj=>by
  simp at h;subst h;rw[List.flatMap_cons,List.getElem?_append_left (by rw[hk];omega)];simp
 |y::l,i+1,j,x,h,hj=>by
  simp at h;rw[List.flatMap_cons,List.getElem?_append_right (by rw[hk,Nat.add_mul];omega),hk,show(i+1)*k+j-k=i*k+j by rw[Nat.add_mul];omega];exact vw l i j x h hj
theorem ubo:∀(l:List α) (i j:Nat) (x y:α) (u:Value),l[i]?=some x->j<k->f y=(f x).set j u->(l.flatMap f).set (i*k+j) u=(l.set i y).flatMap f
 |[],i,j,x,y,u,h,_,_=>by simp at h
 |z::l,0,j,x,y,u,h,hj,e=>by
  simp at h;subst h;rw[List.flatMap_cons,List.set_cons_zero,List.flatMap_cons,e,List.set_append_left _ _ (by rw[hk];omega)];simp
 |z::l,i+1,j,x,y,u,h,hj,e=>by
  simp at h;rw[List.flatMap_cons,List.set_cons_succ,List.flatMap_cons,<-ubo l i j x y u h hj e,List.set_append_right _ _ (by rw[hk,Nat.add_mul];omega),hk,show(i+1)*k+j-k=i*k+j by rw[Nat.add_mul];omega]
end
theorem OwnC.put{Q w g n c m cs j}(h:OwnC Q w (.slice (some ⟨g,0,none⟩) n c) m n cs)(d:j<cs.length)u:OwnC Q (w.setCell ⟨g,j,none⟩ u) (.slice (some ⟨g,0,none⟩) n c) m n (cs.set j u):=by
 rcases h with⟨e,_⟩|⟨s,cap,e,r,p,o,b,l⟩
 ·cases e
 cases e;have k:(w.cell? ⟨g,j,none⟩).isSome=true:=by rw[b j d,List.getElem?_eq_getElem d];rfl
 have f:∀{i:Nat},i≠j->(⟨g,j,none⟩:Addr)≠⟨g,i,none⟩:=λh q=>h (by injection q with _ q;exact q.symm)
 refine .inr ⟨g,c,rfl,r,by rw[List.length_set,p],o,λi a=>?_,λi a=>⟨?_,?_⟩⟩
 ·rw[List.length_set]at a;by_cases e:i=j
  ·subst e;rw[World.cell?_setCell_same' _ _ _ k,List.getElem?_set_self a]
  rw[World.cell?_setCell_other _ _ _ _ (f e),List.getElem?_set_ne (by omega)];exact b i a
 ·by_cases e:i=j
  ·subst e;rw[World.cell?_setCell_same' _ _ _ k];rfl
  rw[World.cell?_setCell_other _ _ _ _ (f e)];exact(l i a).1
 rw[World.frozen?_setCell];exact(l i a).2
theorem OwnC.at_{Q w v n a cs}(h:OwnC Q w v a n cs)(m:0<n):∃g c,v=.slice (some ⟨g,0,none⟩) n c/\Q g/\n<=c/\(∀j,j<cs.length->w.cell? ⟨g,j,none⟩=cs[j]?/\w.frozen? ⟨g,j,none⟩=false):=by
 rcases h with⟨_,h,_⟩|⟨g,cap,e,i,l,b,d,k⟩
 ·omega
 refine⟨g,cap,e,i,b,λj f=>⟨d j f,(k j ?_).2⟩⟩;have:n*a<=cap*a:=Nat.mul_le_mul_right _ b;omega
theorem udi{Q w a f n c cs i e}(b:Tryz.prog.underlying i=some (.slice e))(h:OwnC Q w (.slice a n c) f n cs)(p:∀u∈cs,u.oneCell'=true):Src Tryz.prog f i (.slice a n c) n cs w:=by
 rcases h with⟨e,k,l⟩|⟨g,cap,e,s,m,q,o,r⟩
 ·obtain rfl:a=none:=by injection e
  rw[k,l];exact Src.ofNil _ b c
 obtain rfl:a=some ⟨g,0,none⟩:=by injection e
 refine Src.ofSlice (P:=Tryz.prog) _ b ⟨g,0,none⟩ _ c cs m (λj u d=>?_) p;rw[ugZ,o j (List.getElem?_eq_some_iff.1 d).1];exact d
theorem Ints.srcD{Q k w a n c S d e}(b:Tryz.prog.underlying d=some (.slice e))(h:Ints Q k w a n S):Src Tryz.prog 1 d (.slice a n c) n (uS k S n) w:=by
 cases a with
 |some x=>exact h.src b
 |none =>
  have f:n=0:=by
   rcases h with h|⟨_,_,e,_⟩
   ·exact h
   cases e
  subst f;exact Src.ofNil w b c
theorem yp{w g a b c e}(d:Tryz.prog.underlying c=some (.slice e))(f:a.length=1*b)(h:∀j u,a[j]?=some u->w.cell? ⟨g,j,none⟩=some u)(i:∀u∈a,u.oneCell'=true):Src Tryz.prog b c (.slice (some ⟨g,0,none⟩) 1 1) 1 a w:=by
 refine Src.ofSlice (P:=Tryz.prog) _ d ⟨g,0,none⟩ 1 1 a f (λj u k=>?_) i;rw[ugZ];exact h j u k
structure OC where
 d:OpD
 a:Option Addr
 c:Nat
def ocv(x:OC):List Value:=[.int .i64 x.d.kind,.slice x.a x.d.sl x.c,.int .i64 x.d.arg]
theorem ujK x:(ocv x).length=3:=rfl
def uW(l:List OC):List Value:=l.flatMap ocv
theorem uaP l:(uW l).length=l.length*3:=yi ocv 3 ujK l
theorem uaQ l:∀u∈uW l,u.oneCell'=true:=λu a=>by
 obtain⟨x,_,h⟩:=List.mem_flatMap.1 a;simp[ocv]at h;rcases h with rfl|rfl|rfl<;>rfl
structure Bod(P:Nat->Prop)(L:Nat->Nat)(w:World)(v:Value)(l:List OC):Prop where
 own:OwnC (λb=>P b/\L b=0) w v 3 l.length (uW l)
 sets:∀i x,l[i]?=some x->OwnC (λb=>P b/\L b=i+1) w (.slice x.a x.d.sl x.c) 1 x.d.sl (uS .i64 x.d.set x.d.sl)
theorem Bod.on{P L w w' v l}(h:Bod P L w v l)(t:Stay P w w'):Bod P L w' v l :=
 ⟨h.own.on (λb a=>t b a.1),λi x c=>(h.sets i x c).on (λb a=>t b a.1)⟩
theorem Bod.wide{P d L c w v l}(h:Bod P L w v l)(t:∀b,P b->d b/\c b=L b):Bod d c w v l :=
 ⟨uC h.own (λb a=>⟨(t b a.1).1,(t b a.1).2.trans a.2⟩),λi x e=>uC (h.sets i x e) (λb a=>⟨(t b a.1).1,(t b a.1).2.trans a.2⟩)⟩
def df(D:List OpD):Nat->OpD:=λi=>D.getD i default
theorem uco{D i x}(h:D[i]?=some x):df D i=x:=by unfold df;rw[List.getD_eq_getElem?_getD,h];rfl
theorem ure{l:List OC}{i:Nat}{x:OC}(h:l[i]?=some x):df (l.map (·.d)) i=x.d:=uco (by rw[List.getElem?_map,h];rfl)
theorem yZ{Q k w a n c S}(h:OwnC Q w (.slice a n c) 1 n (uS k S n)):Ints Q k w a n S:=by
 obtain⟨b,d,e,h⟩:=h.ints;cases e;exact h
theorem Bod.ops{P L w a n c l}(h:Bod P L w (.slice a n c) l):OpsA P w a l.length (df (l.map (·.d))):=by
 rcases h.own with⟨_,e,_⟩|⟨g,cap,e,r,t,s,o,u⟩
 ·exact .inl e
 obtain rfl:a=some ⟨g,0,none⟩:=by injection e
 refine .inr ⟨g,0,rfl,r.1,λi p=>?_⟩;have k:=List.getElem?_eq_getElem p;have f:∀j,j<3->w.cell? ⟨g,0+i*3+j,none⟩=(ocv l[i])[j]?:=λj q=>by
  rw[show 0+i*3+j=i*3+j by omega,o _ (by rw[uaP];omega)];exact vw ocv 3 ujK l i j _ k q
 rw[ure k];exact⟨f 0 (by omega),⟨l[i].a,l[i].c,f 1 (by omega),(yZ (h.sets i _ k)).wide (λb m=>m.1)⟩,f 2 (by omega)⟩
def BodP(P:Nat->Prop)(w:World)(v:Value)(D:List OpD):Prop:=∃L l,Bod P L w v l/\l.map (·.d)=D
theorem BodP.on{P w w' v D}(h:BodP P w v D)(t:Stay P w w'):BodP P w' v D:=by
 obtain⟨L,l,h,e⟩:=h;exact⟨L,l,h.on t,e⟩
theorem BodP.wide{P a w v D}(h:BodP P w v D)(t:∀b,P b->a b):BodP a w v D:=by
 obtain⟨L,l,h,e⟩:=h;exact⟨L,l,h.wide (λb c=>⟨t b c,rfl⟩),e⟩
theorem BodP.shape{P w v D}(h:BodP P w v D):∃a c,v=.slice a D.length c/\D.length<=c:=by
 obtain⟨L,l,h,e⟩:=h;have d:l.length=D.length:=by rw[<-e,List.length_map]
 rw[<-d];rcases h.own with⟨rfl,e,_⟩|⟨g,cap,rfl,j,i,b,f,k⟩
 ·exact⟨none,0,by rw[e],by omega⟩
 exact⟨_,_,rfl,b⟩
theorem BodP.ops{P w a n c D}(h:BodP P w (.slice a n c) D):OpsA P w a D.length (df D):=by
 obtain⟨L,l,h,rfl⟩:=h;rw[List.length_map];exact h.ops
theorem Lil.small{n D}(h:Lil n D)(b:n<=1048576):xG D.length (df D):=by
 refine⟨Nat.le_trans h.1 b,λi a=>?_⟩;rw[uco (List.getElem?_eq_getElem a)];exact Nat.le_trans (h.2 _ (List.getElem_mem a)) (by omega)
end
open Go.RowKit
open M (OpD ug Gr)
theorem uc6 {Q w v x a l n m cs news t j e}ty(f : vG t e a l)(i : OwnC Q w v a n cs)(d : Src Tryz.prog a j x m news w)(s : n+m<=16777216) :
    ∃ k w',(Builtin.append_ #[t,j] ty #[v,x]).run Tryz.prog w = .ok k w'/\OwnC (fun b=>Q b\/w.heap.size<=b) w' k a (n+m) (cs ++ news)/\Grew (fun b=>Q b) w w'/\w'.heap.size<=w.heap.size+1:=by
  by_cases c:v = .slice none 0 0->0<m
  · exact ym ty f i d s c
  · have u:v = .slice none 0 0:=Classical.byContradiction (fun h=>c (fun q=>absurd q h))
    obtain rfl:m=0:=by
      by_cases h:m=0
      · exact h
      · exact absurd (fun _=>by omega) c
    have z:=d.newsLen
    obtain rfl:news = []:=List.eq_nil_of_length_eq_zero (by omega)
    subst u
    have p:n=0/\cs = []:=by
      rcases i with ⟨_,h,o⟩ | ⟨g,cap,h,_⟩
      · exact ⟨h,o⟩
      · cases h
    obtain ⟨rfl,rfl⟩:=p
    exact ⟨_,_,ubf ty f d,.inl ⟨rfl,rfl,rfl⟩,⟨rfl,rfl,rfl,Nat.le_refl _,fun _ _ _=>rfl,fun _ _ _=>rfl,fun _ _ y r=>absurd r (by omega)⟩,by omega⟩
theorem uaL {ops : Array Oper} {rest : List Oper} {o : Oper} {a : Act} {f : Exit->Act->World->Prop} {w : World} (r : o.guard=none) (s x : Operand) (t g : TypeId) (z : o.op = .call { callee:=.builtin .append,args:=#[s,x],argTypes:=#[t,g] })
    {Q:Nat->Prop} {v y:Value} {e:TypeId} {c i n m:Nat} {cs news:List Value} (C:a.eval s=v) (E:a.eval x=y) (p:vG t e c i) (A:OwnC Q w v c n cs) (D:Src Tryz.prog c g y m news w) (u:n+m<=16777216)
    (h:∀ d w',OwnC (fun b=>Q b\/w.heap.size<=b) w' d c (n+m) (cs ++ news)->Grew (fun b=>Q b) w w'->w'.heap.size<=w.heap.size+1->wpList Tryz.prog ops f rest (a.put o.dst d) w'):wpList Tryz.prog ops f (o :: rest) a w:=by
  refine wpList_plain r fun K q=>?_
  obtain ⟨d,w',B,j,k,l⟩:=uc6 o.type p A D u
  unfold Oper.wp execOp
  simp only [z,resolve,invoke,builtin,Sem.run_bind,Sem.run_pure,Result.andThen_ok,List.map_toArray,List.map_cons,List.map_nil,C,E,B]
  exact q _ _ (h d w' j k l)
theorem Keep.stay {C w w'}(h : Keep C w w'){P}(a : ∀ b,P b->b<w.heap.size/\¬ C b) : Stay P w w':=fun b c=>h.block b (a b c).1 (a b c).2
theorem Grew.kept {Q w w'}(h : Grew Q w w') : Keep Q w w':=⟨h.os,h.tape,h.output,h.size,h.block⟩
theorem Keep.bel {w w'}(h : Keep (fun _=>False) w w') : Below w.heap.size w w':=h.below (Nat.le_refl _) (fun _ _ q=>q)
theorem Below.kept {w w'}(h : Below w.heap.size w w') : Keep (fun _=>False) w w':=⟨h.os,h.tape,h.output,h.size,fun b a _=>h.block b a⟩
theorem ye {w W a Q}(k : Keep (fun _=>False) w W)(g : Grew Q W a)(h : ∀ b,Q b->w.heap.size<=b) : Keep (fun _=>False) w a :=
  ⟨g.os.trans k.os,g.tape.trans k.tape,g.output.trans k.output,Nat.le_trans k.size g.size,fun b c q=>(g.block b (Nat.lt_of_lt_of_le c k.size) (fun d=>by have:=h b d;omega)).trans (k.block b c q)⟩
theorem ul8 P w k a : OwnC P w (.slice none (opd k a).sl 0) 1 (opd k a).sl (uS .i64 (opd k a).set (opd k a).sl):=.inl ⟨rfl,rfl,rfl⟩
theorem Bod.grow {w wr W2 W4}{L L2 : Nat->Nat}{v v4 l l2}(h : Bod (New w wr) L wr v l)(E : w.heap.size<=wr.heap.size)(k : Keep (fun _=>False) wr W2)(p : ∀ i x,l2[i]? = some x->OwnC (fun b=>New wr W2 b/\L2 b=i+1) W2 (.slice x.a x.d.sl x.c) 1 x.d.sl (uS .i64 x.d.set x.d.sl))(own : OwnC (fun b=>(New w wr b/\L b=0)\/W2.heap.size<=b) W4 v4 3 (l.length+l2.length) (uW l ++ uW l2))(g4 : Grew (fun b=>New w wr b/\L b=0) W2 W4)(F : W4.heap.size<=W2.heap.size+1)(D : 0<l2.length) :
    Bod (New w W4) (fun b=>if b<wr.heap.size then L b else if b<W2.heap.size then L2 b+l.length else 0) W4 v4 (l ++ l2):=by
  have G:=k.size
  have H:=g4.size
  refine ⟨?_,fun i x j=>?_⟩
  · have y:l.length+l2.length=(l ++ l2).length:=by simp
    have u:uW l ++ uW l2=uW (l ++ l2):=by simp [uW]
    rw [<- y,<- u]
    rcases own with ⟨_,q,_⟩ | ⟨g,cap,e,z,r,s,m,t⟩
    · omega
    refine .inr ⟨g,cap,e,?_,r,s,m,t⟩
    have n:g<W4.heap.size:=by
      have o:0<(uW l ++ uW l2).length:=by rw [List.length_append,uaP,uaP];omega
      have h:=m 0 o
      rw [List.getElem?_eq_getElem o] at h
      exact ud h
    rcases z with ⟨⟨A,B⟩,C⟩ | q
    · exact ⟨⟨A,n⟩,by simp only [if_pos B,C]⟩
    · refine ⟨⟨by omega,n⟩,?_⟩
      simp only [if_neg (show ¬ g<wr.heap.size by omega),if_neg (show ¬ g<W2.heap.size by omega)]
  · by_cases e:i<l.length
    · rw [List.getElem?_append_left e] at j
      refine uC (((h.sets i x j).on (w':=W2) (fun b f=>k.block b f.1.2 (fun q=>q))).on (w':=W4) (fun b f=>g4.block b (by have:=f.1.2;omega) (fun q=>by have:=f.2;have:=q.2;omega))) (fun b f=>⟨⟨f.1.1,by have:=f.1.2;omega⟩,?_⟩)
      simp only [if_pos f.1.2,f.2]
    · rw [List.getElem?_append_right (by omega)] at j
      refine uC ((p _ x j).on (w':=W4) (fun b f=>g4.block b f.1.2 (fun q=>by have:=f.1.1;have:=q.1.2;omega))) (fun b f=>⟨⟨by have:=f.1.1;omega,by have:=f.1.2;omega⟩,?_⟩)
      have:=f.1.1
      simp only [if_neg (show ¬ b<wr.heap.size by omega),if_pos f.1.2,f.2]
      omega
def Mk (D : List OpD) (w : World) (e : Ending) (w' : World) : Prop:=∃ a c,e = .returned (.slice a D.length c)/\BodP (New w w') w' (.slice a D.length c) D/\Keep (fun _=>False) w w'
theorem ul9 {w W}{x : OC}(k : Keep (fun _=>False) w W)(l : OwnC (fun b=>New w W b) W (.slice x.a x.d.sl x.c) 1 x.d.sl (uS .i64 x.d.set x.d.sl)){t : TypeId} :
    Mk [x.d] w (.returned (.slice (some ⟨W.heap.size,0,none⟩) 1 1)) (W.alloc (.cells #[.int .i64 x.d.kind,.slice x.a x.d.sl x.c,.int .i64 x.d.arg] t)):=by
  have z:=k.size
  have h:Keep (fun _=>False) W (W.alloc (.cells #[.int .i64 x.d.kind,.slice x.a x.d.sl x.c,.int .i64 x.d.arg] t)):=Keep.alloc _ _ _
  have m:(W.alloc (.cells #[.int .i64 x.d.kind,.slice x.a x.d.sl x.c,.int .i64 x.d.arg] t)).heap.size=W.heap.size+1:=by simp
  have e:=World.alloc_heap_new W (.cells #[.int .i64 x.d.kind,.slice x.a x.d.sl x.c,.int .i64 x.d.arg] t)
  refine ⟨_,_,rfl,⟨fun b=>if b<W.heap.size then 1 else 0,[x],⟨.inr ⟨W.heap.size,1,rfl,⟨⟨z,by omega⟩,by simp⟩,rfl,Nat.le_refl _,fun j f=>?_,fun j f=>⟨?_,?_⟩⟩,fun i y g=>?_⟩,rfl⟩,k.trans h⟩
  · simp only [World.cell?,e]
    match j,f with
    | 0,_=>rfl
    | 1,_=>rfl
    | 2,_=>rfl
  · simp only [World.cell?,e]
    match j,f with
    | 0,_=>rfl
    | 1,_=>rfl
    | 2,_=>rfl
  · simp only [World.frozen?,e]
    rfl
  · match i,g with
    | 0,g =>
      cases g
      refine uC (l.on (fun b e=>h.block b e.2 (fun q=>q))) (fun b e=>⟨⟨e.1,by have:=e.2;omega⟩,by simp only [if_pos e.2]⟩)
theorem uma {w x b l m news t k e}ty(i : vG t e b l)(u : 0<b)(a : Src Tryz.prog b k x m news w)(B : m<=16777216) :
    ∃ c w',(Builtin.append_ #[t,k] ty #[.slice none 0 0,x]).run Tryz.prog w = .ok c w'/\OwnC (New w w') w' c b m news/\Keep (fun _=>False) w w':=by
  by_cases r:0<m
  · obtain ⟨c,w',o,f,p,A⟩:=uc6 (Q:=fun _=>False) (n:=0) (cs:=[]) ty i (.inl ⟨rfl,rfl,rfl⟩) a (by omega)
    rw [Nat.zero_add,List.nil_append] at f
    refine ⟨c,w',o,?_,p.kept⟩
    rcases f with q | ⟨g,cap,e,s,v,y,j,z⟩
    · exact .inl q
    · refine .inr ⟨g,cap,e,⟨?_,?_⟩,v,y,j,z⟩
      · rcases s with q | q
        · exact q.elim
        · exact q
      · have d:0<news.length:=by rw [a.newsLen];exact Nat.mul_pos r u
        have h:=j 0 d
        rw [List.getElem?_eq_getElem d] at h
        exact ud h
  · obtain rfl:m=0:=by omega
    have d:=a.newsLen
    obtain rfl:news = []:=List.eq_nil_of_length_eq_zero (by omega)
    exact ⟨_,_,ubf ty i a,.inl ⟨rfl,rfl,rfl⟩,Keep.refl _ _⟩
theorem usB {ops : Array Oper} {rest : List Oper} {o : Oper} {a : Act} {d : Exit->Act->World->Prop} {w : World} (n : o.guard=none) (s x : Operand) (t f : TypeId) (q : o.op = .call { callee:=.builtin .append,args:=#[s,x],argTypes:=#[t,f] })
    {y:Value} {e:TypeId} {b g m:Nat} {news:List Value} (u:a.eval s = .slice none 0 0) (A:a.eval x=y) (k:vG t e b g) (z:0<b) (v:Src Tryz.prog b f y m news w) (p:m<=16777216)
    (h:∀ c w',OwnC (New w w') w' c b m news->Keep (fun _=>False) w w'->wpList Tryz.prog ops d rest (a.put o.dst c) w'):wpList Tryz.prog ops d (o :: rest) a w:=by
  refine wpList_plain n fun K l=>?_
  obtain ⟨c,w',r,i,j⟩:=uma o.type k z v p
  unfold Oper.wp execOp
  simp only [q,resolve,invoke,builtin,Sem.run_bind,Sem.run_pure,Result.andThen_ok,List.map_toArray,List.map_cons,List.map_nil,u,A,r]
  exact l _ _ (h c w' i j)
theorem ubi {ops : Array Oper} {o : Oper} {a : Act} {w : World} {K : Act->World->Prop} {g : Exit->Act->World->Prop} {E : Prop} (q : o.guard=none) (s x : Operand) (t f : TypeId) (u : o.op = .call { callee:=.builtin .append,args:=#[s,x],argTypes:=#[t,f] })
    {Q:Nat->Prop} {v y:Value} {e:TypeId} {c i n m:Nat} {cs news:List Value} (B:a.eval s=v) (F:a.eval x=y) (p:vG t e c i) (z:OwnC Q w v c n cs) (C:Src Tryz.prog c f y m news w) (r:n+m<=16777216)
    (h:∀ d w',OwnC (fun b=>Q b\/w.heap.size<=b) w' d c (n+m) (cs ++ news)->Grew (fun b=>Q b) w w'->w'.heap.size<=w.heap.size+1->K (a.put o.dst d) w'):if Region.wanted o (yielded ops a.tmps)=true then Oper.wp Tryz.prog o a w K g else E:=by
  have D:Region.wanted o (yielded ops a.tmps)=true:=by simp [Region.wanted,q]
  rw [if_pos D]
  obtain ⟨d,w',A,j,k,l⟩:=uc6 o.type p z C r
  unfold Oper.wp execOp
  simp only [u,resolve,invoke,builtin,Sem.run_bind,Sem.run_pure,Result.andThen_ok,List.map_toArray,List.map_cons,List.map_nil,B,F,A]
  exact h d w' j k l
theorem vQ k x w : Calls Tryz.prog 45 #[.int .i64 k,.int .i64 x] w (Mk (uq k x) w):=by
  go_enter Tryz.func45,Tryz.ntmps45
  go_wp2
  go_ret
  exact ul9 (x:=⟨opd k x,none,0⟩) (Keep.refl _ _) (ul8 _ _ k x)
theorem ji Q a c s w(h : Ints Q .i64 w a s.length (lf s))(l : s.length<=1048576) :
    Calls Tryz.prog 43 #[.slice a s.length c] w (Mk (uF s) w):=by
  have i:=ua h
  generalize k:s.length=m at *
  go_enter Tryz.func43,Tryz.ntmps43
  go_wp2_with (at_builtin;refine usB rfl _ _ 36 36 rfl rfl rfl elem36 (by omega) (Ints.srcD Tryz.underlying36 i) (by omega) ?_;intro n W1 b f;obtain ⟨d,e,rfl⟩:=uk b;have j:Hid (OwnC (New w W1) W1 (.slice d m e) 1 m (uS .i64 (lf s) m)):=b;have g:Hid (Keep (fun _=>False) w W1):=f;clear b f)
  go_ret
  subst k
  exact ul9 (x:=⟨sod s,d,e⟩) g j
theorem uJ b w : Calls Tryz.prog 44 #[.int .i64 b] w fun e w'=>e = .returned (.slice (some ⟨w.heap.size,0,none⟩) 2 2)/\w'=w.alloc (.cells #[.int .i64 b,.int .i64 b] 3):=by
  go_enter Tryz.func44,Tryz.ntmps44
  go_wp2
  go_ret
  exact ⟨rfl,rfl⟩
theorem umb {W g x t}(e : W.heap[g]? = some (.cells #[.int .i64 x.d.kind,.slice x.a x.d.sl x.c,.int .i64 x.d.arg] t)) : Src Tryz.prog 3 68 (.slice (some ⟨g,0,none⟩) 1 1) 1 (ocv x) W:=by
  refine yp Tryz.underlying68 rfl (fun j u b=>?_) (fun u b=>uaQ [x] u (by simpa [uW] using b))
  simp only [World.cell?,e]
  rw [<- b]
  simp [ocv]
theorem ufs {W g k x t}(a : W.heap[g]? = some (.cells #[.int .i64 k,.slice none 0 0,.int .i64 x] t)) : Src Tryz.prog 3 68 (.slice (some ⟨g,0,none⟩) 1 1) 1 (uW [⟨opd k x,none,0⟩]) W :=
  umb (x:=⟨opd k x,none,0⟩) a
def usC (w : World) (D : List OpD) (v i : Value) (wr : World) : Prop :=
  ∃ (k:Nat) (L:Nat->Nat) (l:List OC),k<=D.length/\i = .int .i64 (k:Int)/\Bod (New w wr) L wr v l/\l.map (·.d)=D.take k/\Keep (fun _=>False) w wr
theorem umc {w wr W1 W4 D d m n L l p e r f v4 a t}(c : Bod (New w wr) L wr (.slice p m r) l)(k : Keep (fun _=>False) w wr)(j : Keep (fun _=>False) wr W1)(A : OwnC (New wr W1) W1 (.slice e d.sl f) 1 d.sl (uS .i64 d.set d.sl))(u : l.map (·.d)=D.take m/\l.length=m/\D.length=n)(h : D[m]? = some d)(B : OwnC (fun b=>(New w wr b/\L b=0)\/(W1.drew.alloc (.cells a t)).heap.size<=b) W4 v4 3 (m+1) (uW l ++ ocv ⟨d,e,f⟩))(g4 : Grew (fun b=>New w wr b/\L b=0) (W1.drew.alloc (.cells a t)) W4)(C : W4.heap.size<=(W1.drew.alloc (.cells a t)).heap.size+1) :
    usC w D v4 (.int .i64 ((m+1:Nat):Int)) W4:=by
  obtain ⟨v,y,E⟩:=u
  have z:=(List.getElem?_eq_some_iff.1 h).1
  have F:=j.size
  have o:Keep (fun _=>False) wr (W1.drew.alloc (.cells a t)):=j.trans ((Keep.drew _ W1).trans (Keep.alloc _ _ _))
  have s:(W1.drew.alloc (.cells a t)).heap.size=W1.heap.size+1:=by simp
  refine ⟨m+1,_,l ++ [⟨d,e,f⟩],z,rfl,Bod.grow (L2:=fun _=>1) c k.size o (fun i x g=>?_) (by rw [y,show uW [(⟨d,e,f⟩:OC)]=ocv ⟨d,e,f⟩ by simp [uW]];exact B) g4 C (by simp),?_,?_⟩
  · match i,g with
    | 0,g =>
      cases g
      exact uC (A.on (w':=W1.drew.alloc (.cells a t)) (fun b c=>Below.heap_alloc W1.drew _ _ c.2)) (fun b c=>⟨⟨c.1,by rw [s];have:=c.2;omega⟩,rfl⟩)
  · rw [List.map_append,v,List.take_add_one,h]
    rfl
  · exact ye (k.trans o) g4 (fun b q=>q.1.1)
theorem uaM Q a c D w(k : OpsA Q w a D.length (df D))(z : xG D.length (df D)) :
    Calls Tryz.prog 82 #[.slice a D.length c] w (Mk D w):=by
  obtain ⟨hn,N⟩:=z
  have P:=ua k
  have X:=ua N
  generalize p:D.length=n at *
  go_enter Tryz.func82,Tryz.ntmps82
  go_wp2
  go_loopw [3,4] (fun v i wr=>usC w D v i wr) (fun _ i _=>n-(intOf i).toNat)
  case atStart=>exact ⟨0,fun _=>0,[],Nat.zero_le _,rfl,⟨.inl ⟨rfl,rfl,rfl⟩,fun i x A=>by simp at A⟩,rfl,Keep.refl _ _⟩
  case round =>
    obtain ⟨m,L,l,hm,rfl,q,r,e⟩:=hrel
    rw [p] at hm
    have t:l.length=m:=by rw [<- List.length_map (f:=(·.d)),r,List.length_take,p];omega
    by_cases I:m<n
    · have k:=P.later e.bel
      rcases k with h0 | ⟨b,off,rfl,hq,k⟩
      · omega
      obtain ⟨Y,⟨sa,sc,c1,z⟩,Z⟩:=k m I
      have V:=ua z
      have N:=X m I
      have hlt':(m:Int)<(n:Int):=by omega
      have o:=q.own
      rw [t] at o
      obtain ⟨F,G,rfl⟩:=uk o
      have B:=ua q
      have T:=ua e
      have E:Hid (l.map (·.d)=D.take m/\l.length=m/\D.length=n):=⟨r,t,p⟩
      have R:Hid (D[m]? = some (df D m)):=by
        show D[m]? = some (df D m)
        rw [List.getElem?_eq_getElem (by omega),uco (List.getElem?_eq_getElem (by omega))]
      generalize df D m=d at *
      go_wp2_with (at_builtin;refine usB rfl _ _ 36 36 rfl rfl rfl elem36 (by omega) (Ints.srcD Tryz.underlying36 V) (by omega) ?_;intro v1 W1 u e;obtain ⟨g,j,rfl⟩:=uk u;have U:Hid (OwnC (New wr W1) W1 (.slice g d.sl j) 1 d.sl (uS .i64 d.set d.sl)):=u;have C:Hid (Keep (fun _=>False) wr W1):=e;clear u e)
      have s:=ua C.bel
      have d0:=ue Y s
      have d2:=ue Z s
      go_region_law (refine ubi rfl (.tmp 19) (.tmp 32) 68 68 rfl (v:=.slice F m G) (y:=.slice (some ⟨W1.heap.size,0,none⟩) 1 1) (by simp [Act.eval]) (by simp [Act.eval]) ubY (Q:=fun b=>New w wr b/\L b=0) (n:=m) (cs:=uW l) (news:=ocv ⟨d,g,j⟩) (by have h:=B.own;rw [E.out.2.1] at h;exact h.on (w':=W1.drew.alloc (.cells #[.int .i64 d.kind,.slice g d.sl j,.int .i64 d.arg] 118)) (fun x A=>(uf s.drew (ui W1.drew _)).block x A.1.2)) (umb (W:=W1.drew.alloc (.cells #[.int .i64 d.kind,.slice g d.sl j,.int .i64 d.arg] 118)) (x:=⟨d,g,j⟩) (World.alloc_heap_new W1.drew _)) (by omega) ?_
                     intro v4 W4 J H O
                     have S:=ua (umc B T C U E R J H O)
                     clear J H O)
      all_goals go_goals
      all_goals go_wp2
      all_goals go_roundw
      all_goals first | exact S | (simp [intOf];omega)
    · obtain rfl:m=n:=by omega
      go_wp2
      go_ret
      have o:=q.own
      rw [t,<- p] at o
      obtain ⟨F,G,rfl⟩:=uk o
      rw [List.take_of_length_le (by omega)] at r
      exact ⟨_,_,rfl,⟨L,l,q,r⟩,e⟩
theorem uoT {P : Nat->Prop}{L : Nat->Nat}{W}(k a : Int) : ∀ i x,[(⟨opd k a,none,0⟩ : OC)][i]? = some x->OwnC (fun b=>P b/\L b=i+1) W (.slice x.a x.d.sl x.c) 1 x.d.sl (uS .i64 x.d.set x.d.sl):=fun i x e=>by
  match i,e with
  | 0,e=>cases e;exact .inl ⟨rfl,rfl,rfl⟩
theorem uft {w wr W2 W4 L v v4 l D n}k x(h : Bod (New w wr) L wr v l)(g : Keep (fun _=>False) w wr)(j : Keep (fun _=>False) wr W2)(e : l.map (·.d)=D)(i : l.length=n)(own : OwnC (fun b=>(New w wr b/\L b=0)\/W2.heap.size<=b) W4 v4 3 (n+1) (uW l ++ uW [⟨opd k x,none,0⟩]))(g4 : Grew (fun b=>New w wr b/\L b=0) W2 W4)(o : W4.heap.size<=W2.heap.size+1) : Mk (D ++ [opd k x]) w (.returned v4) W4:=by
  have f:=Bod.grow (L2:=fun _=>0) h g.size j (uoT k x) (by rw [i];exact own) g4 o (by simp)
  have m:(D ++ [opd k x]).length=n+1:=by rw [<- e,<- i];simp
  obtain ⟨a,c,rfl⟩:=uk own
  rw [<- m] at f ⊢
  exact ⟨a,c,rfl,⟨_,_,f,by rw [List.map_append,e];rfl⟩,ye (g.trans j) g4 (fun b q=>q.1.1)⟩
theorem jj Q k a c D w(u : OpsA Q w a D.length (df D))(o : xG D.length (df D)) :
    Calls Tryz.prog 88 #[.int .i64 k,.slice a D.length c] w (Mk (unD k D) w):=by
  have E:=o.1
  have q:=ua u
  have t:=ua o
  go_enter Tryz.func88,Tryz.ntmps88
  go_wp2_with fail
  refine (uaM Q a c D w q t).mono ?_
  rintro e w1 ⟨B,C,rfl,⟨L,l,v,j⟩,y⟩
  have z:l.length=D.length:=by rw [<- j,List.length_map]
  have g:=ua v
  have s:=ua y
  have f:Hid (l.map (·.d)=D/\l.length=D.length):=⟨j,z⟩
  go_wp2_with (at_builtin;refine uaL rfl _ _ 68 68 rfl rfl rfl ubY (Q:=fun b=>New w w1 b/\L b=0) (n:=D.length) (cs:=uW l) (news:=uW [⟨opd k 0,none,0⟩]) (by have h:=g.own;rw [f.out.2] at h;exact h.on (fun x A=>Below.heap_alloc w1 _ _ A.1.2)) (ufs (World.alloc_heap_new w1 _)) (by omega) ?_;intro v4 W4 m i p;have r:Hid (Mk (unD k D) w (.returned v4) W4):=uft k 0 g s (Keep.alloc _ _ _) f.1 f.2 m i p;clear m i p)
  go_ret
  exact r
theorem jk Q Q' k a B c O D f w(P : OpsA Q w a D.length (df D))(C : xG D.length (df D))(R : OpsA Q' w B f.length (df f))(E : xG f.length (df f))(X : 0<f.length) :
    Calls Tryz.prog 42 #[.int .i64 k,.slice a D.length c,.slice B f.length O] w (Mk (uI k D f) w):=by
  have hn:=C.1
  have hn':=E.1
  have T:=ua P
  have W:=ua C
  have HB':=ua R
  have HS':=ua E
  clear P C R E
  go_enter Tryz.func42,Tryz.ntmps42
  go_wp2_with fail
  refine (uaM Q a c D w T W).mono ?_
  rintro e w1 ⟨Z,c1,rfl,⟨L,l,s,i⟩,t⟩
  have u:l.length=D.length:=by rw [<- i,List.length_map]
  have H:=ua s
  have z:=ua t
  have r:Hid (l.map (·.d)=D/\l.length=D.length):=⟨i,u⟩
  clear s t i u
  go_wp2_with fail
  refine (uaM Q' B O f w1 (HB'.later z.bel) HS').mono ?_
  rintro e Y ⟨a2,c2,rfl,⟨L2,l2,s,i⟩,t⟩
  have u:l2.length=f.length:=by rw [<- i,List.length_map]
  have I:=ua s
  have A:Hid (Keep (fun _=>False) w1 Y):=t
  have j:Hid (l2.map (·.d)=f/\l2.length=f.length):=⟨i,u⟩
  clear s t i u
  go_wp2_with (first | (at_builtin;refine uaL rfl _ _ 68 68 rfl rfl rfl ubY (Q:=fun b=>New w w1 b/\L b=0) (n:=D.length) (cs:=uW l) (m:=f.length) (news:=uW l2) (by have h:=H.out.own;rw [r.out.2] at h;exact h.on (fun x F=>A.out.block x F.1.2 (fun q=>q))) (by have h:=I.out.own;rw [j.out.2] at h;exact udi Tryz.underlying68 h (uaQ _)) (by omega) ?_;intro v3 g p o v;obtain ⟨N,c3,rfl⟩:=uk p;have G:Hid (∃ y,Bod (New w g) y g (.slice N (D.length+f.length) c3) (l ++ l2)):=⟨_,Bod.grow H.out z.out.size A.out I.out.sets (by rw [r.out.2,j.out.2];exact p) o v (by rw [j.out.2];exact X)⟩;have V:Hid (Keep (fun _=>False) w g):=ye (z.out.trans A.out) o (fun b q=>q.1.1);clear p o v;obtain ⟨y,S⟩:=G.out;have J:Hid (Bod (New w g) y g (.slice N (D.length+f.length) c3) (l ++ l2)):=S;clear G S) | (at_builtin;refine uaL rfl _ _ 68 68 rfl rfl rfl ubY (Q:=fun b=>New w g b/\y b=0) (n:=D.length+f.length) (cs:=uW (l ++ l2)) (news:=uW [⟨opd k 0,none,0⟩]) (by have h:=J.out.own;rw [List.length_append,r.out.2,j.out.2] at h;exact h.on (fun x F=>Below.heap_alloc g _ _ F.1.2)) (ufs (World.alloc_heap_new g _)) (by omega) ?_;intro v4 W4 p o v;have U:Hid (Mk (uI k D f) w (.returned v4) W4):=uft k 0 J.out V.out (Keep.alloc _ _ _) (by rw [List.map_append,r.out.1,j.out.1]) (by rw [List.length_append,r.out.2,j.out.2]) p o v;clear p o v))
  go_ret
  exact U
end Go.Proofs.YtimfigongapdnaaGreat
