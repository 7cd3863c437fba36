import Derived.Test.YtcbnnfnlilbjeaaGreatT25
set_option linter.unusedVariables false
set_option linter.unusedSimpArgs false
namespace Go.Proofs.YtcbnnfnlilbjeaaGreat
section
open M (OpD NodeD Gr InsD EX ins emit emit_len)
def Lies(n:Nat)(R:Nat→InsD)(p:Nat)(l:List InsD):Prop:=∀i x,l[i]? = some x→p+i<n∧R (p+i)=x
theorem Lies.left{n:Nat}{R:Nat→InsD}{p:Nat}{a b:List InsD}(h:Lies n R p (a++b)):Lies n R p a:=fun i x hx =>
 h i x (by rw[List.getElem?_append_left (List.getElem?_eq_some_iff.1 hx).1];exact hx)
theorem Lies.right{n:Nat}{R:Nat→InsD}{p:Nat}{a b:List InsD}(h:Lies n R p (a++b)):Lies n R (p+a.length) b:=fun i x hx=>by
 have:=h (a.length+i) x (by rw[List.getElem?_append_right (by omega),Nat.add_sub_cancel_left];exact hx)
 rw[Nat.add_assoc];exact this
theorem Lies.head{n:Nat}{R:Nat→InsD}{p:Nat}{x:InsD}{b:List InsD}(h:Lies n R p (x::b)):p<n∧R p=x:=h 0 x rfl
theorem Lies.tail{n:Nat}{R:Nat→InsD}{p:Nat}{x:InsD}{b:List InsD}(h:Lies n R p (x::b)):Lies n R (p+1) b:=fun i y hy=>by
 have:=h (i+1) y hy;rw[show p+1+i=p+(i+1) by omega];exact this
def AtN:EX→Nat→Nat→List (Int×Int)→Prop
 | .empty,p,q,s=>q=p∧s = []
 | .set _ _,p,q,s=>(q=p∨q=p+1)∧s = []
 | .ref _,p,q,s=>(q=p∨q=p+1)∧s = []
 | .thr _ _,p,q,s=>(q=p∨q=p+1)∧s = []
 | .seq x y,p,q,s=>AtN x p q s∨AtN y (p+x.len) q s
 | .alt x y,p,q,s=>(q=p∧s = [])∨(∃s',AtN x (p+1) q s'∧s=(0,((p+x.len+2:Nat):Int))::s')∨AtN y (p+x.len+2) q s
 | .star x,p,q,s=>(q=p∧s = [])∨(∃s',AtN x (p+1) q s'∧s=(0,((p+x.len+2:Nat):Int))::s')∨(q=p+x.len+2∧s = [])
 | .not x,p,q,s=>(q=p∧s = [])∨(∃s',AtN x (p+1) q s'∧s=(1,((p+x.len+2:Nat):Int))::s')∨(q=p+x.len+2∧s = [])
theorem at_in(t:EX):∀p,AtN t p p []:=by
 induction t with
 |empty=>exact fun p=>⟨rfl,rfl⟩
 |set n S=>exact fun p=>⟨.inl rfl,rfl⟩
 |ref n=>exact fun p=>⟨.inl rfl,rfl⟩
 |thr l n=>exact fun p=>⟨.inl rfl,rfl⟩
 |seq x y ihx _=>exact fun p=>.inl (ihx p)
 |alt x y _ _=>exact fun p=>.inl ⟨rfl,rfl⟩
 |star x _=>exact fun p=>.inl ⟨rfl,rfl⟩
 |not x _=>exact fun p=>.inl ⟨rfl,rfl⟩
theorem at_out(t:EX):∀p,AtN t p (p+t.len) []:=by
 induction t with
 |empty=>exact fun p=>⟨rfl,rfl⟩
 |set n S=>exact fun p=>⟨.inr rfl,rfl⟩
 |ref n=>exact fun p=>⟨.inr rfl,rfl⟩
 |thr l n=>exact fun p=>⟨.inr rfl,rfl⟩
 |seq x y _ ihy=>exact fun p=>.inr (by have:=ihy (p+x.len);rw[Nat.add_assoc]at this;exact this)
 |alt x y _ ihy=>exact fun p=>.inr (.inr (by have:=ihy (p+x.len+2);rw[show p+x.len+2+y.len=p+(EX.alt x y).len by simp[EX.len];omega]at this;exact this))
 |star x _=>exact fun p=>.inr (.inr ⟨by simp[EX.len];omega,rfl⟩)
 |not x _=>exact fun p=>.inr (.inr ⟨by simp[EX.len];omega,rfl⟩)
theorem at_back(t:EX):∀(p q:Nat) (s1:List (Int×Int)) (k u:Int) (s2:List (Int×Int)),AtN t p q (s1++(k,u)::s2)→∃v:Nat,u=(v:Int)∧AtN t p v s1:=by
 induction t with
 |empty=>intro p q s1 k u s2 h;exact absurd h.2 (by simp)
 |set n S=>intro p q s1 k u s2 h;exact absurd h.2 (by simp)
 |ref n=>intro p q s1 k u s2 h;exact absurd h.2 (by simp)
 |thr l n=>intro p q s1 k u s2 h;exact absurd h.2 (by simp)
 |seq x y ihx ihy =>
  intro p q s1 k u s2 h;rcases h with h | h
  ·obtain⟨v,e,h⟩:=ihx _ _ _ _ _ _ h;exact⟨v,e,.inl h⟩
  ·obtain⟨v,e,h⟩:=ihy _ _ _ _ _ _ h;exact⟨v,e,.inr h⟩
 |alt x y ihx ihy =>
  intro p q s1 k u s2 h;rcases h with h | ⟨s',h,e⟩ | h
  ·exact absurd h.2 (by simp)
  ·cases s1 with
   |nil =>
    simp only[List.nil_append,List.cons.injEq,Prod.mk.injEq]at e;exact⟨_,e.1.2,.inr (.inr (at_in y _))⟩
   |cons a s1 =>
    simp only[List.cons_append,List.cons.injEq]at e;obtain⟨rfl,rfl⟩:=e;obtain⟨v,e,h⟩:=ihx _ _ _ _ _ _ h;exact⟨v,e,.inr (.inl ⟨s1,h,rfl⟩)⟩
  ·obtain⟨v,e,h⟩:=ihy _ _ _ _ _ _ h;exact⟨v,e,.inr (.inr h)⟩
 |star x ih =>
  intro p q s1 k u s2 h;rcases h with h | ⟨s',h,e⟩ | h
  ·exact absurd h.2 (by simp)
  ·cases s1 with
   |nil =>
    simp only[List.nil_append,List.cons.injEq,Prod.mk.injEq]at e;exact⟨_,e.1.2,.inr (.inr ⟨rfl,rfl⟩)⟩
   |cons a s1 =>
    simp only[List.cons_append,List.cons.injEq]at e;obtain⟨rfl,rfl⟩:=e;obtain⟨v,e,h⟩:=ih _ _ _ _ _ _ h;exact⟨v,e,.inr (.inl ⟨s1,h,rfl⟩)⟩
  ·exact absurd h.2 (by simp)
 |not x ih =>
  intro p q s1 k u s2 h;rcases h with h | ⟨s',h,e⟩ | h
  ·exact absurd h.2 (by simp)
  ·cases s1 with
   |nil =>
    simp only[List.nil_append,List.cons.injEq,Prod.mk.injEq]at e;exact⟨_,e.1.2,.inr (.inr ⟨rfl,rfl⟩)⟩
   |cons a s1 =>
    simp only[List.cons_append,List.cons.injEq]at e;obtain⟨rfl,rfl⟩:=e;obtain⟨v,e,h⟩:=ih _ _ _ _ _ _ h;exact⟨v,e,.inr (.inl ⟨s1,h,rfl⟩)⟩
  ·exact absurd h.2 (by simp)
def Step(r:Nat→Int)(m n:Nat)(R:Nat→InsD)(P:Nat→List (Int×Int)→Prop)(q:Nat)(s:List (Int×Int)):Prop :=
 q<n∧(((R q).kind=0∧P (q+1) s)∨((R q).kind=6∧(∃k,k<m∧(R q).to=r k)∧P (q+1) s)∨((R q).kind=8∧(∃k,k<m∧(R q).to=r k)∧P (q+1) s)
  ∨ ((R q).kind=1∧P (q+1) (s++[(0,(R q).to)]))∨((R q).kind=4∧P (q+1) (s++[(1,(R q).to)]))
  ∨ ((R q).kind=2∧∃s' u,s=s'++[(0,u)]∧∃v:Nat,(R q).to=(v:Int)∧P v s')∨((R q).kind=3∧∃s' u,s=s'++[(0,u)]∧∃v:Nat,(R q).to=(v:Int)∧P v s)
  ∨ ((R q).kind=5∧∃s' u,s=s'++[(1,u)]))
theorem Step.mono{r:Nat→Int}{m n:Nat}{R:Nat→InsD}{P P':Nat→List (Int×Int)→Prop}{q:Nat}{s:List (Int×Int)}(h:Step r m n R P q s)(k:∀q s,P q s→P' q s):Step r m n R P' q s:=by
 obtain⟨h0,h⟩:=h;refine⟨h0,?_⟩;rcases h with⟨a,b⟩|⟨a,c,b⟩|⟨a,c,b⟩|⟨a,b⟩|⟨a,b⟩|⟨a,s',u,e,v,e2,b⟩|⟨a,s',u,e,v,e2,b⟩ | h
 ·exact .inl ⟨a,k _ _ b⟩
 ·exact .inr (.inl ⟨a,c,k _ _ b⟩)
 ·exact .inr (.inr (.inl ⟨a,c,k _ _ b⟩))
 ·exact .inr (.inr (.inr (.inl ⟨a,k _ _ b⟩)))
 ·exact .inr (.inr (.inr (.inr (.inl ⟨a,k _ _ b⟩))))
 ·exact .inr (.inr (.inr (.inr (.inr (.inl ⟨a,s',u,e,v,e2,k _ _ b⟩)))))
 ·exact .inr (.inr (.inr (.inr (.inr (.inr (.inl ⟨a,s',u,e,v,e2,k _ _ b⟩))))))
 ·exact .inr (.inr (.inr (.inr (.inr (.inr (.inr h))))))
theorem Step.under{r:Nat→Int}{m n:Nat}{R:Nat→InsD}{P P':Nat→List (Int×Int)→Prop}{q:Nat}{s:List (Int×Int)}(c:Int×Int)(h:Step r m n R P q s)(k:∀q s,P q s→P' q (c::s)):Step r m n R P' q (c::s):=by
 obtain⟨h0,h⟩:=h;refine⟨h0,?_⟩;rcases h with⟨a,b⟩|⟨a,d,b⟩|⟨a,d,b⟩|⟨a,b⟩|⟨a,b⟩|⟨a,s',u,e,v,e2,b⟩|⟨a,s',u,e,v,e2,b⟩|⟨a,s',u,e⟩
 ·exact .inl ⟨a,k _ _ b⟩
 ·exact .inr (.inl ⟨a,d,k _ _ b⟩)
 ·exact .inr (.inr (.inl ⟨a,d,k _ _ b⟩))
 ·exact .inr (.inr (.inr (.inl ⟨a,k _ _ b⟩)))
 ·exact .inr (.inr (.inr (.inr (.inl ⟨a,k _ _ b⟩))))
 ·exact .inr (.inr (.inr (.inr (.inr (.inl ⟨a,c::s',u,by rw[e];rfl,v,e2,k _ _ b⟩)))))
 ·exact .inr (.inr (.inr (.inr (.inr (.inr (.inl ⟨a,c::s',u,by rw[e];rfl,v,e2,k _ _ b⟩))))))
 ·exact .inr (.inr (.inr (.inr (.inr (.inr (.inr ⟨a,c::s',u,by rw[e];rfl⟩))))))
theorem at_step(r:Nat→Int)(m n:Nat)(R:Nat→InsD)(t:EX):∀(p q:Nat) (s:List (Int×Int)),t.Below m→Lies n R p (emit r t p)→AtN t p q s→(q=p+t.len∧s = [])∨Step r m n R (AtN t p) q s:=by
 induction t with
 |empty=>intro p q s _ _ h;exact .inl ⟨h.1,h.2⟩
 |set k S =>
  intro p q s _ hl h;obtain⟨h1 | h1,h2⟩:=h
  ·subst h1 h2
   obtain⟨a,b⟩:=hl.head;exact .inr ⟨a,.inl ⟨by rw[b],.inr rfl,rfl⟩⟩
  ·exact .inl ⟨h1,h2⟩
 |ref k =>
  intro p q s hm hl h;obtain⟨h1 | h1,h2⟩:=h
  ·subst h1 h2
   obtain⟨a,b⟩:=hl.head;exact .inr ⟨a,.inr (.inl ⟨by rw[b];rfl,⟨k,hm,by rw[b];rfl⟩,.inr rfl,rfl⟩)⟩
  ·exact .inl ⟨h1,h2⟩
 |thr l k =>
  intro p q s hm hl h;obtain⟨h1 | h1,h2⟩:=h
  ·subst h1 h2
   obtain⟨a,b⟩:=hl.head;exact .inr ⟨a,.inr (.inr (.inl ⟨by rw[b];rfl,⟨k,hm,by rw[b];rfl⟩,.inr rfl,rfl⟩))⟩
  ·exact .inl ⟨h1,h2⟩
 |seq x y ihx ihy =>
  intro p q s hm hl h;have hl1:Lies n R p (emit r x p):=hl.left;have hl2:Lies n R (p+x.len) (emit r y (p+x.len)):=by have:=hl.right;rw[emit_len]at this;exact this
  have goy:AtN y (p+x.len) q s→(q=p+(EX.seq x y).len∧s = [])∨Step r m n R (AtN (.seq x y) p) q s:=fun h=>by
   rcases ihy _ _ _ hm.2 hl2 h with⟨e,e2⟩ | k
   ·exact .inl ⟨by rw[e];simp[EX.len];omega,e2⟩
   ·exact .inr (k.mono (fun _ _ h=>.inr h))
  rcases h with h | h
  ·rcases ihx _ _ _ hm.1 hl1 h with⟨rfl,rfl⟩ | k
   ·exact goy (at_in y _)
   ·exact .inr (k.mono (fun _ _ h=>.inl h))
  ·exact goy h
 |alt x y ihx ihy =>
  intro p q s hm hl h;have hh:=hl.head;have hl1:Lies n R (p+1) (emit r x (p+1)):=hl.tail.left;have hl2:=hl.tail.right;rw[emit_len]at hl2;have hc:=hl2.head;have hl3:Lies n R (p+x.len+2) (emit r y (p+x.len+2)):=by have:=hl2.tail;rw[show p+1+x.len+1=p+x.len+2 by omega]at this;exact this
  rcases h with⟨rfl,rfl⟩|⟨s',h,rfl⟩ | h
  ·refine .inr ⟨hh.1,.inr (.inr (.inr (.inl ⟨by rw[hh.2];rfl,.inr (.inl ⟨[],at_in x _,?_⟩)⟩)))⟩
   rw[hh.2];rfl
  ·rcases ihx _ _ _ hm.1 hl1 h with⟨rfl,rfl⟩ | k
   ·refine .inr ⟨hc.1,.inr (.inr (.inr (.inr (.inr (.inl ⟨by rw[hc.2];rfl,[],_,rfl,p+x.len+y.len+2,by rw[hc.2];rfl,?_⟩)))))⟩
    have:=at_out (.alt x y) p;rw[show p+(EX.alt x y).len=p+x.len+y.len+2 by simp[EX.len];omega]at this
    exact this
   ·exact .inr (k.under _ (fun _ s h=>.inr (.inl ⟨s,h,rfl⟩)))
  ·rcases ihy _ _ _ hm.2 hl3 h with⟨e,e2⟩ | k
   ·exact .inl ⟨by rw[e];simp[EX.len];omega,e2⟩
   ·exact .inr (k.mono (fun _ _ h=>.inr (.inr h)))
 |star x ih =>
  intro p q s hm hl h;have hh:=hl.head;have hl1:Lies n R (p+1) (emit r x (p+1)):=hl.tail.left;have hl2:=hl.tail.right;rw[emit_len]at hl2;have hc:=hl2.head;rcases h with⟨rfl,rfl⟩|⟨s',h,rfl⟩ | h
  ·refine .inr ⟨hh.1,.inr (.inr (.inr (.inl ⟨by rw[hh.2];rfl,.inr (.inl ⟨[],at_in x _,?_⟩)⟩)))⟩
   rw[hh.2];rfl
  ·rcases ih _ _ _ hm hl1 h with⟨rfl,rfl⟩ | k
   ·exact .inr ⟨hc.1,.inr (.inr (.inr (.inr (.inr (.inr (.inl ⟨by rw[hc.2];rfl,[],_,rfl,p+1,by rw[hc.2];rfl,.inr (.inl ⟨[],at_in x _,rfl⟩)⟩))))))⟩
   ·exact .inr (k.under _ (fun _ s h=>.inr (.inl ⟨s,h,rfl⟩)))
  ·exact .inl ⟨by rw[h.1];simp[EX.len];omega,h.2⟩
 |not x ih =>
  intro p q s hm hl h;have hh:=hl.head;have hl1:Lies n R (p+1) (emit r x (p+1)):=hl.tail.left;have hl2:=hl.tail.right;rw[emit_len]at hl2;have hc:=hl2.head;rcases h with⟨rfl,rfl⟩|⟨s',h,rfl⟩ | h
  ·refine .inr ⟨hh.1,.inr (.inr (.inr (.inr (.inl ⟨by rw[hh.2];rfl,.inr (.inl ⟨[],at_in x _,?_⟩)⟩))))⟩
   rw[hh.2];rfl
  ·rcases ih _ _ _ hm hl1 h with⟨rfl,rfl⟩ | k
   ·exact .inr ⟨hc.1,.inr (.inr (.inr (.inr (.inr (.inr (.inr ⟨by rw[hc.2];rfl,[],_,rfl⟩))))))⟩
   ·exact .inr (k.under _ (fun _ s h=>.inr (.inl ⟨s,h,rfl⟩)))
  ·exact .inl ⟨by rw[h.1];simp[EX.len];omega,h.2⟩
theorem at_kinds(t:EX):∀(p q:Nat) (s:List (Int×Int)),AtN t p q s→∀c,c∈s→c.1=0∨c.1=1:=by
 induction t with
 |empty=>intro p q s h c hc;rw[h.2]at hc;simp at hc
 |set n S=>intro p q s h c hc;rw[h.2]at hc;simp at hc
 |ref n=>intro p q s h c hc;rw[h.2]at hc;simp at hc
 |thr l n=>intro p q s h c hc;rw[h.2]at hc;simp at hc
 |seq x y ihx ihy =>
  intro p q s h;rcases h with h | h
  ·exact ihx _ _ _ h
  ·exact ihy _ _ _ h
 |alt x y ihx ihy =>
  intro p q s h c hc;rcases h with h | ⟨s',h,rfl⟩ | h
  ·rw[h.2]at hc;simp at hc
  ·rcases List.mem_cons.1 hc with rfl | hc
   ·exact .inl rfl
   ·exact ihx _ _ _ h c hc
  ·exact ihy _ _ _ h c hc
 |star x ih =>
  intro p q s h c hc;rcases h with h | ⟨s',h,rfl⟩ | h
  ·rw[h.2]at hc;simp at hc
  ·rcases List.mem_cons.1 hc with rfl | hc
   ·exact .inl rfl
   ·exact ih _ _ _ h c hc
  ·rw[h.2]at hc;simp at hc
 |not x ih =>
  intro p q s h c hc;rcases h with h | ⟨s',h,rfl⟩ | h
  ·rw[h.2]at hc;simp at hc
  ·rcases List.mem_cons.1 hc with rfl | hc
   ·exact .inr rfl
   ·exact ih _ _ _ h c hc
  ·rw[h.2]at hc;simp at hc
structure Nod(r:Nat→Int)(m n:Nat)(R:Nat→InsD)(t:EX)(p:Nat):Prop where
 below:t.Below m
 code:Lies n R p (emit r t p)
 pos:0<p
 op:p-1<n∧((R (p-1)).kind=9∨(R (p-1)).kind=10)
 close:p+t.len<n∧(R (p+t.len)).kind=11
 ret:p+t.len+1<n∧(R (p+t.len+1)).kind=7
structure Prg(r:Nat→Int)(m n:Nat)(R:Nat→InsD):Prop where
 start:0<n∧(R 0).kind=6∧(R 0).to=r 0
 fin:1<n∧(R 1).kind=12
 m0:0<m
 node:∀k,k<m→0≤r k→∃t p,Nod r m n R t p∧r k=((p-1:Nat):Int)
 call:∀q,q<n→(R q).kind=6→0≤(R q).to
def fm(F:List FrD):List (Int×Int):=F.map (fun f=>(f.kind,f.to))
inductive Cf(r:Nat→Int)(m n:Nat)(R:Nat→InsD):Nat→List FrD→Prop
 |start:Cf r m n R 0 []
 |fin:Cf r m n R 1 []
 |body {t:EX} {p q q':Nat} {st F:List FrD} {g:FrD}:Nod r m n R t p→AtN t p q (fm F)→Cf r m n R q' st→g.kind=2→g.to=(q':Int)→Cf r m n R q (st++g::F)
 |opn {t:EX} {p q':Nat} {st:List FrD} {g:FrD}:Nod r m n R t p→Cf r m n R q' st→g.kind=2→g.to=(q':Int)→Cf r m n R (p-1) (st++[g])
 |ret {t:EX} {p q':Nat} {st:List FrD} {g:FrD}:Nod r m n R t p→Cf r m n R q' st→g.kind=2→g.to=(q':Int)→Cf r m n R (p+t.len+1) (st++[g])
theorem fm_last{F:List FrD}{s':List (Int×Int)}{k u:Int}(h:fm F=s'++[(k,u)]):∃F' f,F=F'++[f]∧fm F'=s'∧f.kind=k∧f.to=u:=by
 rcases List.eq_nil_or_concat F with rfl | ⟨F',f,rfl⟩
 ·simp[fm]at h
 ·simp only[List.concat_eq_append,fm,List.map_append,List.map_cons,List.map_nil]at h
  have h1:=List.append_inj_left' h rfl;have h2:=List.append_inj_right' h rfl;simp only[List.cons.injEq,Prod.mk.injEq,and_true]at h2;exact⟨F',f,by simp,h1,h2.1,h2.2⟩
theorem dropLast_two{st F':List FrD}{g f:FrD}:(st++g::(F'++[f])).dropLast=st++g::F':=by
 rw[show st++g::(F'++[f])=(st++g::F')++[f] by simp,List.dropLast_concat]
theorem getLast_two{st F':List FrD}{g f:FrD}:(st++g::(F'++[f])).getLast? = some f:=by
 rw[show st++g::(F'++[f])=(st++g::F')++[f] by simp,List.getLast?_concat]
theorem unwind_cf{r:Nat→Int}{m n:Nat}{R:Nat→InsD}{q:Nat}{st:List FrD}(h:Cf r m n R q st):unwind st.reverse=none∨∃f l,unwind st.reverse=some (f,l)∧∃v:Nat,f.to=(v:Int)∧Cf r m n R v l.reverse:=by
 have one:∀{st:List FrD} {g:FrD},g.kind=2→unwind (st++[g]).reverse=unwind st.reverse:=fun hg=>unwind_snoc _ _ hg
 induction h with
 |start=>exact .inl rfl
 |fin=>exact .inl rfl
 | @body t p q q' st F g hN hA hC hg hto ih =>
  rcases List.eq_nil_or_concat F with rfl | ⟨F',f,rfl⟩
  ·rw[one hg];exact ih
  ·have hk:f.kind=0∨f.kind=1:=at_kinds t p q _ hA (f.kind,f.to) (by simp[fm])
   have hA':AtN t p q (fm F'++(f.kind,f.to) :: []):=by simpa[fm] using hA
   obtain⟨v,hv,hA2⟩:=at_back t p q (fm F') f.kind f.to [] hA';refine .inr ⟨f,(st++g::F').reverse,?_,v,hv,?_⟩
   ·rw[List.concat_eq_append,show st++g::(F'++[f])=(st++g::F')++[f] by simp,List.reverse_append]
    show unwind (f::(st++g::F').reverse)=_;rw[unwind,if_neg (by rcases hk with q | q<;>omega)]
   ·rw[List.reverse_reverse]
    exact .body hN hA2 hC hg hto
 |opn _ _ hg _ ih=>rw[one hg];exact ih
 |ret _ _ hg _ ih=>rw[one hg];exact ih
def Fine(r:Nat→Int)(m n:Nat)(R:Nat→InsD)(t:MSt):Prop:=(t.done=true∧t.code≠4)∨(t.done=false∧∃v:Nat,t.at_=(v:Int)∧Cf r m n R v t.st)
theorem fine_fail{r:Nat→Int}{m n:Nat}{R:Nat→InsD}{q:Nat}{s:MSt}(hd:s.done=false)(h:Cf r m n R q s.st):Fine r m n R s.fail:=by
 unfold MSt.fail;rcases unwind_cf h with e | ⟨f,l,e,v,hv,hC⟩
 ·rw[e];exact .inl ⟨rfl,by show (1:Int)≠4;decide⟩
 ·rw[e];exact .inr ⟨hd,v,hv,hC⟩
theorem fine_push{r:Nat→Int}{m n:Nat}{R:Nat→InsD}{s:MSt}{f:FrD}{most:Int}{v:Nat}(hd:s.done=false)(hv:s.at_=(v:Int))(h:Cf r m n R v (s.st++[f])):Fine r m n R (s.push f most):=by
 unfold MSt.push;split
 ·exact .inl ⟨rfl,by show (3:Int)≠4;decide⟩
 ·exact .inr ⟨hd,v,hv,h⟩
theorem note_eq(s:MSt)(n:Nat)(S:Nat→Int):(s.note n S).st=s.st∧(s.note n S).done=s.done:=by unfold MSt.note;split<;>(try split)<;>exact⟨rfl,rfl⟩
theorem fine_enter{r:Nat→Int}{m n:Nat}{R:Nat→InsD}(hP:Prg r m n R){q:Nat}{s:MSt}{x:InsD}{most:Int}(hd:s.done=false)(hq:s.at_=(q:Int))(hx:∃k,k<m∧x.to=r k)(h0:0≤x.to)(h:Cf r m n R (q+1) s.st):Fine r m n R (s.enter x most):=by
 obtain⟨k,hk,e⟩:=hx;obtain⟨t,p,hN,hp⟩:=hP.node k hk (by rw[←e];exact h0)
 unfold MSt.enter;refine fine_push (v:=p-1) hd (by show x.to=_;rw[e,hp]) ?_
 exact .opn hN h rfl (by show s.at_+1=_;rw[hq];rfl)
theorem cf_act{r:Nat→Int}{m n:Nat}{R:Nat→InsD}(hP:Prg r m n R){q:Nat}{s:MSt}(il:Nat)(I:Nat→Int)(most:Int)(hd:s.done=false)(hq:s.at_=(q:Int))(h:Cf r m n R q s.st):q<n∧Fine r m n R (s.act (R q) il I most):=by
 generalize hst:s.st=l at h;cases h with
 |start =>
  obtain⟨h0,hk,ht⟩:=hP.start;refine⟨h0,?_⟩;have e:s.act (R 0) il I most=s.enter (R 0) most:=by unfold MSt.act;simp only[hk];simp
  rw[e];exact fine_enter hP hd hq ⟨0,hP.m0,ht⟩ (hP.call 0 h0 hk) (by rw[hst];exact .fin)
 |fin =>
  obtain⟨h0,hk⟩:=hP.fin;refine⟨h0,?_⟩;have e:s.act (R 1) il I most=s.fin 0:=by unfold MSt.act;simp only[hk,hst];simp
  rw[e];exact .inl ⟨rfl,by show (0:Int)≠4;decide⟩
 | @opn t p q' st g hN hC hg hto =>
  obtain⟨h0,hk⟩:=hN.op;refine⟨h0,?_⟩;have hb:Cf r m n R p s.st:=by rw[hst];exact .body (F:=[]) hN (at_in t p) hC hg hto
  have hp:=hN.pos;rcases hk with hk | hk
  ·have e:s.act (R (p-1)) il I most=s.put 0 (R (p-1)).arg:=by unfold MSt.act;simp only[hk];simp
   rw[e];exact .inr ⟨hd,p,by show s.at_+1=_;rw[hq];omega,hb⟩
  ·have e:s.act (R (p-1)) il I most=s.put 1 (R (p-1)).arg:=by unfold MSt.act;simp only[hk];simp
   rw[e];exact .inr ⟨hd,p,by show s.at_+1=_;rw[hq];omega,hb⟩
 | @ret t p q' st g hN hC hg hto =>
  obtain⟨h0,hk⟩:=hN.ret;refine⟨h0,?_⟩;have ht:s.top 2=true:=by unfold MSt.top;rw[hst];simp[hg]
  have e:s.act (R (p+t.len+1)) il I most={ s.pop with at_:=topTo s.st }:=by unfold MSt.act;simp only[hk,ht];simp
  rw[e];refine .inr ⟨hd,q',?_,?_⟩
  ·show topTo s.st=_
   unfold topTo;rw[hst];simp[hto]
  ·show Cf r m n R q' s.st.dropLast
   rw[hst];simpa using hC
 | @body t p _ q' st F g hN hA hC hg hto =>
  have mk:∀{v:Nat} {F:List FrD},AtN t p v (fm F)→Cf r m n R v (st++g::F):=fun h=>.body hN h hC hg hto
  rcases at_step r m n R t p q (fm F) hN.below hN.code hA with⟨rfl,hF⟩|⟨h0,hs⟩
  ·obtain⟨h0,hk⟩:=hN.close
   refine⟨h0,?_⟩;have hF':F = []:=by simpa[fm] using hF
   subst hF';have e:s.act (R (p+t.len)) il I most=s.put 2 (R (p+t.len)).arg:=by unfold MSt.act;simp only[hk];simp
   rw[e];exact .inr ⟨hd,p+t.len+1,by show s.at_+1=_;rw[hq];rfl,by show Cf r m n R _ s.st;rw[hst];exact .ret hN hC hg hto⟩
  ·refine⟨h0,?_⟩
   have hnow:Cf r m n R q s.st:=by rw[hst];exact mk hA
   rcases hs with⟨hk,b⟩|⟨hk,c,b⟩|⟨hk,c,b⟩|⟨hk,b⟩|⟨hk,b⟩|⟨hk,s',u,e,v,e2,b⟩|⟨hk,s',u,e,v,e2,b⟩|⟨hk,s',u,e⟩
   ·have e:s.act (R q) il I most=s.test (R q).sl (R q).set il I:=by unfold MSt.act;simp only[hk];simp
    rw[e];unfold MSt.test;split
    ·exact .inr ⟨hd,q+1,by show s.at_+1=_;rw[hq];rfl,by show Cf r m n R _ s.st;rw[hst];exact mk b⟩
    ·split
     ·exact fine_fail hd hnow
     ·obtain⟨e1,e2⟩:=note_eq s (R q).sl (R q).set
      exact fine_fail (q:=q) (by rw[e2];exact hd) (by rw[e1];exact hnow)
   ·have e:s.act (R q) il I most=s.enter (R q) most:=by unfold MSt.act;simp only[hk];simp
    rw[e];exact fine_enter hP hd hq c (hP.call q h0 hk) (by rw[hst];exact mk b)
   ·have e:s.act (R q) il I most=if s.inNot then s.fail else if (R q).to<0 then ({ s with throws:=s.throws+1,label:=(R q).arg }).fin 2 else ({ s with throws:=s.throws+1 }).enter (R q) most:=by unfold MSt.act;simp only[hk];simp
    rw[e];split
    ·exact fine_fail hd hnow
    ·split
     ·exact .inl ⟨rfl,by show (2:Int)≠4;decide⟩
     ·exact fine_enter hP (s:={ s with throws:=s.throws+1 }) hd hq c (by omega) (by show Cf r m n R _ s.st;rw[hst];exact mk b)
   ·have e:s.act (R q) il I most=s.hold 0 (R q).to most:=by unfold MSt.act;simp only[hk];simp
    rw[e];unfold MSt.hold;refine fine_push (v:=q+1) hd (by show s.at_+1=_;rw[hq];rfl) ?_
    show Cf r m n R (q+1) (s.st++[_]);rw[hst,List.append_assoc];exact mk (F:=F++[(⟨0,(R q).to,s.pos,s.log.length⟩:FrD)]) (by simpa[fm] using b)
   ·have e:s.act (R q) il I most=s.hold 1 (R q).to most:=by unfold MSt.act;simp only[hk];simp
    rw[e];unfold MSt.hold;refine fine_push (v:=q+1) hd (by show s.at_+1=_;rw[hq];rfl) ?_
    show Cf r m n R (q+1) (s.st++[_]);rw[hst,List.append_assoc];exact mk (F:=F++[(⟨1,(R q).to,s.pos,s.log.length⟩:FrD)]) (by simpa[fm] using b)
   ·obtain⟨F',f,rfl,hF',hf⟩:=fm_last e
    have ht:s.top 0=true:=by unfold MSt.top;rw[hst,getLast_two];simp[hf.1]
    have e:s.act (R q) il I most={ s.pop with at_:=(R q).to }:=by unfold MSt.act;simp only[hk,ht];simp
    rw[e];refine .inr ⟨hd,v,e2,?_⟩;show Cf r m n R v s.st.dropLast;rw[hst,dropLast_two];exact mk (by rw[hF'];exact b)
   ·obtain⟨F',f,rfl,hF',hf⟩:=fm_last e
    have ht:s.top 0=true:=by unfold MSt.top;rw[hst,getLast_two];simp[hf.1]
    have e3:s.act (R q) il I most=({ s.pop with at_:=(R q).to }).push ⟨0,topTo s.st,s.pos,s.log.length⟩ most:=by unfold MSt.act;simp only[hk,ht];simp
    rw[e3];refine fine_push (v:=v) hd e2 ?_;show Cf r m n R v (s.st.dropLast++[_]);have hto2:topTo s.st=u:=by unfold topTo;rw[hst,getLast_two];exact hf.2
    rw[hto2,hst,dropLast_two,List.append_assoc];refine mk (F:=F'++[_]) ?_;have:fm (F'++[(⟨0,u,s.pos,s.log.length⟩:FrD)])=s'++[(0,u)]:=by rw[←hF'];simp[fm]
    rw[this,←e];exact b
   ·obtain⟨F',f,rfl,hF',hf⟩:=fm_last e
    have ht:s.top 1=true:=by unfold MSt.top;rw[hst,getLast_two];simp[hf.1]
    have e3:s.act (R q) il I most=s.pop.fail:=by unfold MSt.act;simp only[hk,ht];simp
    rw[e3];have hA':AtN t p q (fm F'++(f.kind,f.to) :: []):=by simpa[fm] using hA
    obtain⟨v,_,hA2⟩:=at_back t p q (fm F') f.kind f.to [] hA';refine fine_fail (q:=v) (s:=s.pop) hd ?_;show Cf r m n R v s.st.dropLast;rw[hst,dropLast_two];exact mk hA2
theorem cf_next{r:Nat→Int}{m n:Nat}{R:Nat→InsD}(hP:Prg r m n R){s:MSt}(il:Nat)(I:Nat→Int)(fuel most:Int)(h:Fine r m n R s)(hd:s.done=false):Fine r m n R (s.next n R il I fuel most):=by
 rcases h with⟨q,_⟩|⟨_,v,hv,hC⟩
 ·rw[hd]at q;cases q
 ·obtain⟨h0,h⟩:=cf_act hP (s:={ s with steps:=s.steps+1 }) il I most hd hv hC
  unfold MSt.next;rw[if_neg (by rw[hv];omega)]
  split
  ·exact .inl ⟨rfl,by show (3:Int)≠4;decide⟩
  ·have e:s.at_.toNat=v:=by rw[hv];rfl
   rw[e];exact h
theorem never_bad{r:Nat→Int}{m n:Nat}{R:Nat→InsD}(hP:Prg r m n R){il:Nat}{I:Nat→Int}{fuel most:Int}{s t:MSt}(h:Ends n R il I fuel most s t):Fine r m n R s→t.code≠4:=by
 induction h with
 |over hd =>
  intro h;rcases h with⟨_,q⟩|⟨q,_⟩
  ·exact q
  ·rw[hd]at q;cases q
 |go hd _ ih=>exact fun h=>ih (cf_next hP il I fuel most h hd)
end
section
open M (OpD NodeD Gr InsD EX ins emit emit_len nodeC nodeC_len progC progC_len placeC)
def RefOK(H:Nat→Prop):EX→Prop
 | .ref k=>H k
 | .seq x y=>RefOK H x∧RefOK H y
 | .alt x y=>RefOK H x∧RefOK H y
 | .star x=>RefOK H x
 | .not x=>RefOK H x
 |_=>True
theorem emit_calls(r:Nat→Int)(H:Nat→Prop)(hH:∀k,H k→0≤r k)(t:EX):∀p,RefOK H t→∀x,x∈emit r t p→x.kind=6→0≤x.to:=by
 induction t with
 |empty=>intro p _ x hx;simp[emit]at hx
 |set n S=>intro p _ x hx hk;simp[emit]at hx;subst hx;simp at hk
 |ref n=>intro p h x hx hk;simp[emit]at hx;subst hx;exact hH n h
 |thr l n=>intro p _ x hx hk;simp[emit]at hx;subst hx;simp[ins]at hk
 |seq x y ihx ihy =>
  intro p h z hz hk;simp only[emit,List.mem_append]at hz;rcases hz with hz | hz
  ·exact ihx _ h.1 z hz hk
  ·exact ihy _ h.2 z hz hk
 |alt x y ihx ihy =>
  intro p h z hz hk;simp only[emit,List.mem_cons,List.mem_append]at hz;rcases hz with rfl | hz | rfl | hz
  ·simp[ins]at hk
  ·exact ihx _ h.1 z hz hk
  ·simp[ins]at hk
  ·exact ihy _ h.2 z hz hk
 |star x ih =>
  intro p h z hz hk;simp only[emit,List.mem_cons,List.mem_append,List.mem_nil_iff,or_false]at hz;rcases hz with rfl | hz | rfl
  ·simp[ins]at hk
  ·exact ih _ h z hz hk
  ·simp[ins]at hk
 |not x ih =>
  intro p h z hz hk;simp only[emit,List.mem_cons,List.mem_append,List.mem_nil_iff,or_false]at hz;rcases hz with rfl | hz | rfl
  ·simp[ins]at hk
  ·exact ih _ h z hz hk
  ·simp[ins]at hk
theorem progC_pre(r:Nat→Int)(op:Nat→InsD)(tr:Nat→EX)(has:Nat→Bool){k m:Nat}(h:k≤m):∃l,progC r op tr has m=progC r op tr has k++l:=by
 induction m with
 |zero =>
   obtain rfl:k=0:=by omega
   exact⟨[],by simp⟩
 |succ m ih =>
  by_cases e:k=m+1
  ·subst e;exact⟨[],by simp⟩
  ·obtain⟨l,hl⟩:=ih (by omega)
   rw[progC,hl];split
   ·exact⟨l++nodeC r (op m) (tr m) (progC r op tr has k++l).length,by rw[List.append_assoc]⟩
   ·exact⟨l,rfl⟩
theorem progC_calls(r:Nat→Int)(H:Nat→Prop)(hH:∀k,H k→0≤r k)(op:Nat→InsD)(tr:Nat→EX)(has:Nat→Bool)(h0:0≤r 0)(ho:∀p,(op p).kind=9∨(op p).kind=10)(m:Nat)(ht:∀i,i<m→has i=true→RefOK H (tr i)):∀x,x∈progC r op tr has m→x.kind=6→0≤x.to:=by
 induction m with
 |zero =>
  intro x hx hk;simp[progC]at hx;rcases hx with rfl | rfl
  ·exact h0
  ·simp[ins]at hk
 |succ m ih =>
  intro x hx hk;rw[progC]at hx;split at hx
  ·rename_i hm
   rcases List.mem_append.1 hx with hx | hx
   ·exact ih (fun i hi=>ht i (by omega)) x hx hk
   ·simp only[nodeC,List.mem_cons,List.mem_append,List.mem_nil_iff,or_false]at hx
    rcases hx with rfl | hx | rfl | rfl
    ·rcases ho m with q | q<;>omega
    ·exact emit_calls r H hH (tr m) _ (ht m (by omega) hm) x hx hk
    ·simp[ins]at hk
    ·simp[ins]at hk
  ·exact ih (fun i hi=>ht i (by omega)) x hx hk
def lget(l:List InsD)(i:Nat):InsD:=l.getD i (ins 0 0 0)
theorem lies_all(l:List InsD)(a b c:List InsD)(h:l=a++(b++c)):Lies l.length (lget l) a.length b:=fun i x hx=>by
 have hi:i<b.length:=(List.getElem?_eq_some_iff.1 hx).1;refine⟨by rw[h];simp;omega,?_⟩
 unfold lget;rw[h,List.getD_eq_getElem?_getD,List.getElem?_append_right (by omega),Nat.add_sub_cancel_left,List.getElem?_append_left hi,hx]
 rfl
theorem prog_prg(op:Nat→InsD)(tr:Nat→EX)(has:Nat→Bool)(m:Nat)(H:Nat→Prop)(hm:0<m)(h0:has 0=true)(hH:∀k,H k→has k=true)(ho:∀p,(op p).kind=9∨(op p).kind=10)(hb:∀i,i<m→has i=true→(tr i).Below m)(hr:∀i,i<m→has i=true→RefOK H (tr i)) :
  Prg (placeC op tr has) m (progC (placeC op tr has) op tr has m).length (lget (progC (placeC op tr has) op tr has m)):=by
 have hpl:∀k,has k=true→placeC op tr has k=((progC (placeC op tr has) op tr has k).length:Int):=fun k hk=>by
  unfold placeC;rw[if_pos hk,progC_len (fun _=>0) _ op tr has k]
 generalize hrr:placeC op tr has=r at *;have hn0:0≤r 0:=by rw[hpl 0 h0];omega
 have hHr:∀k,H k→0≤r k:=fun k hk=>by rw[hpl k (hH k hk)];omega
 obtain⟨l,hl⟩:=progC_pre r op tr has (k:=0) (m:=m) (by omega)
 have hst:Lies (progC r op tr has m).length (lget (progC r op tr has m)) 0 (progC r op tr has 0):=lies_all _ [] _ l (by rw[hl];rfl)
 refine⟨?_,?_,hm,fun k hk hk0=>?_,fun q hq hk=>?_⟩
 ·have h:=hst 0 (ins 6 0 (r 0)) rfl
  exact⟨h.1,by rw[h.2];rfl,by rw[h.2];rfl⟩
 ·have h:=hst 1 (ins 12 0 0) rfl
  exact⟨h.1,by rw[h.2];rfl⟩
 ·have hk1:has k=true:=by
   cases e:has k with
   |true=>rfl
   |false =>
    have:r k = -1:=by rw[←hrr];unfold placeC;rw[e];rfl
    omega
  obtain⟨l2,hl2⟩:=progC_pre r op tr has (k:=k+1) (m:=m) (by omega)
  rw[progC,if_pos hk1,List.append_assoc]at hl2;have hN:Lies (progC r op tr has m).length (lget (progC r op tr has m)) (progC r op tr has k).length (nodeC r (op k) (tr k) (progC r op tr has k).length):=lies_all _ _ _ l2 hl2;have hp:=hpl k hk1;generalize (progC r op tr has k).length=p at *;refine⟨tr k,p+1,⟨hb k hk hk1,hN.tail.left,by omega,⟨hN.head.1,by rw[Nat.add_sub_cancel,hN.head.2];exact ho k⟩,?_,?_⟩,by rw[hp];rfl⟩
  ·have h:=hN.tail.right
   rw[emit_len]at h;exact⟨h.head.1,by rw[h.head.2];rfl⟩
  ·have h:=hN.tail.right
   rw[emit_len]at h;exact⟨h.tail.head.1,by rw[h.tail.head.2];rfl⟩
 ·refine progC_calls r H hHr op tr has hn0 ho m hr _ ?_ hk
  unfold lget;rw[List.getD_eq_getElem?_getD,List.getElem?_eq_getElem hq];exact List.getElem_mem hq
theorem start_fine{r:Nat→Int}{m n:Nat}{R:Nat→InsD}:Fine r m n R ⟨0,0,[],[],0,fun _=>false,0,0,false,0,0⟩:=.inr ⟨rfl,0,rfl,.start⟩
open M (ElemOK nodeE treeE stk stp most) in
theorem node_ref{nr nb:Nat}{o:OpD}(ho:ElemOK nr nb o){x y:EX}(hx:RefOK (fun k=>k<nr) x)(hy:RefOK (fun k=>k<nr) y):RefOK (fun k=>k<nr) (nodeE nr o x y):=by
 obtain⟨h1,h2,h3,h4,h5,h6⟩:=ho;unfold nodeE;by_cases e1:o.kind=1
 ·rw[if_pos e1];trivial
 ·rw[if_neg e1]
  by_cases e2:o.kind=2
  ·rw[if_pos e2]
   unfold most at h6;rw[if_neg (by omega),if_pos e2]at h6
   show o.arg.toNat<nr;omega
  ·rw[if_neg e2]
   by_cases e3:o.kind=3
   ·rw[if_pos e3];trivial
   ·rw[if_neg e3]
    split
    ·exact⟨hx,hy⟩
    ·split
     ·exact⟨hx,hy⟩
     ·split
      ·exact hx
      ·split
       ·exact hx
       ·trivial
open M (ElemOK nodeE treeE stk stp most) in
theorem stk_ref{nr nb:Nat}(B:Nat→OpD)(n:Nat)(hB:∀i,i<n→ElemOK nr nb (B i)):∀p,p∈stk (nodeE nr) B n→RefOK (fun k=>k<nr) p.2:=by
 induction n with
 |zero=>intro p hp;simp[stk]at hp
 |succ n ih =>
  have ih':=ih (fun i hi=>hB i (by omega))
  have ho:=hB n (by omega)
  have hd:RefOK (fun k=>k<nr) (default:EX):=trivial
  rw[stk];generalize stk (nodeE nr) B n=l at *;intro p hp;unfold stp at hp;split at hp
  ·match l,ih',hp with
   | [],_,hp=>simp at hp
   | [_],_,hp=>simp at hp
   | (s2,y)::(s1,x)::r,ih',hp =>
    rcases List.mem_cons.1 hp with rfl | hp
    ·exact node_ref ho (ih' (s1,x) (by simp)) (ih' (s2,y) (by simp))
    ·exact ih' p (by simp[hp])
  ·split at hp
   ·match l,ih',hp with
    | [],_,hp=>simp at hp
    | (s1,x)::r,ih',hp =>
     rcases List.mem_cons.1 hp with rfl | hp
     ·exact node_ref ho (ih' (s1,x) (by simp)) hd
     ·exact ih' p (by simp[hp])
   ·rcases List.mem_cons.1 hp with rfl | hp
    ·exact node_ref ho hd hd
    ·exact ih' p hp
open M (ElemOK nodeE treeE stk stp most) in
theorem tree_ref{nr nb n:Nat}{B:Nat→OpD}(hB:∀i,i<n→ElemOK nr nb (B i)):RefOK (fun k=>k<nr) (treeE nr n B):=by
 unfold treeE;have:=stk_ref B n hB;generalize stk (nodeE nr) B n=l at *;match l,this with
 | [],_=>trivial
 | (s,t)::r,h=>exact h (s,t) (by simp)
end
end Go.Proofs.YtcbnnfnlilbjeaaGreat
