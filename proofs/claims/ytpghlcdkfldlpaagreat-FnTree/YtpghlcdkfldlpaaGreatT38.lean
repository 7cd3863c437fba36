import Derived.Test.YtpghlcdkfldlpaaGreatT06
set_option linter.unusedVariables false
set_option linter.unusedSimpArgs false
set_option maxHeartbeats 40000000
set_option maxRecDepth 100000
namespace Go.Proofs.YtpghlcdkfldlpaaGreat
open M (OpD ue Gr um EX ins uG emit_len nodeC nodeC_len progC progC_len placeC)
def Lies(n:Nat)(R:Nat->um)(p:Nat)(l:List um):Prop:=∀i x,l[i]?=some x->p+i<n/\R (p+i)=x
theorem Lies.left{n R p a b}(h:Lies n R p (a++b)):Lies n R p a:=λi x c =>
 h i x (by rw[List.getElem?_append_left (List.getElem?_eq_some_iff.1 c).1];exact c)
theorem Lies.right{n R p a b}(h:Lies n R p (a++b)):Lies n R (p+a.length) b:=λi x c=>by
 have:=h (a.length+i) x (by rw[List.getElem?_append_right (by omega),Nat.add_sub_cancel_left];exact c);rw[Nat.add_assoc];exact this
theorem Lies.head{n R p x b}(h:Lies n R p (x::b)):p<n/\R p=x:=h 0 x rfl
theorem Lies.tail{n R p x b}(h:Lies n R p (x::b)):Lies n R (p+1) b:=λi y a=>by
 have:=h (i+1) y a;rw[show p+1+i=p+(i+1) by omega];exact this
def AtN:EX->Nat->Nat->List (Int×Int)->Prop
 |.empty,p,q,s=>q=p/\s = []
 |.set _ _,p,q,s=>(q=p\/q=p+1)/\s = []
 |.ref _,p,q,s=>(q=p\/q=p+1)/\s = []
 |.thr _ _,p,q,s=>(q=p\/q=p+1)/\s = []
 |.seq x y,p,q,s=>AtN x p q s\/AtN y (p+x.len) q s
 |.alt x y,p,q,s=>(q=p/\s = [])\/(∃s',AtN x (p+1) q s'/\s=(0,((p+x.len+2:Nat):Int))::s')\/AtN y (p+x.len+2) q s
 |.star x,p,q,s=>(q=p/\s = [])\/(∃s',AtN x (p+1) q s'/\s=(0,((p+x.len+2:Nat):Int))::s')\/(q=p+x.len+2/\s = [])
 |.not x,p,q,s=>(q=p/\s = [])\/(∃s',AtN x (p+1) q s'/\s=(1,((p+x.len+2:Nat):Int))::s')\/(q=p+x.len+2/\s = [])
theorem ucq t:∀p,AtN t p p []:=by
 induction t with
 |empty=>exact λp=>⟨rfl,rfl⟩
 |set n S=>exact λp=>⟨.inl rfl,rfl⟩
 |ref n=>exact λp=>⟨.inl rfl,rfl⟩
 |thr l n=>exact λp=>⟨.inl rfl,rfl⟩
 |seq x y a _=>exact λp=>.inl (a p)
 |alt x y _ _=>exact λp=>.inl ⟨rfl,rfl⟩
 |star x _=>exact λp=>.inl ⟨rfl,rfl⟩
 |not x _=>exact λp=>.inl ⟨rfl,rfl⟩
theorem uqS t:∀p,AtN t p (p+t.len) []:=by
 induction t with
 |empty=>exact λp=>⟨rfl,rfl⟩
 |set n S=>exact λp=>⟨.inr rfl,rfl⟩
 |ref n=>exact λp=>⟨.inr rfl,rfl⟩
 |thr l n=>exact λp=>⟨.inr rfl,rfl⟩
 |seq x y _ a=>exact λp=>.inr (by have:=a (p+x.len);rw[Nat.add_assoc]at this;exact this)
 |alt x y _ a=>exact λp=>.inr (.inr (by have:=a (p+x.len+2);rw[show p+x.len+2+y.len=p+(EX.alt x y).len by simp[EX.len];omega]at this;exact this))
 |star x _=>exact λp=>.inr (.inr ⟨by simp[EX.len];omega,rfl⟩)
 |not x _=>exact λp=>.inr (.inr ⟨by simp[EX.len];omega,rfl⟩)
theorem ujU t:∀(p q:Nat) (b:List (Int×Int)) (k u:Int) (c:List (Int×Int)),AtN t p q (b++(k,u)::c)->∃v:Nat,u=(v:Int)/\AtN t p v b:=by
 induction t with
 |empty=>intro p q b k u c h;exact absurd h.2 (by simp)
 |set n S=>intro p q b k u c h;exact absurd h.2 (by simp)
 |ref n=>intro p q b k u c h;exact absurd h.2 (by simp)
 |thr l n=>intro p q b k u c h;exact absurd h.2 (by simp)
 |seq x y f g =>
  intro p q b k u c h;rcases h with h|h
  ·obtain⟨v,e,h⟩:=f _ _ _ _ _ _ h;exact⟨v,e,.inl h⟩
  obtain⟨v,e,h⟩:=g _ _ _ _ _ _ h;exact⟨v,e,.inr h⟩
 |alt x y f g =>
  intro p q b k u c h;rcases h with h|⟨s',h,e⟩|h
  ·exact absurd h.2 (by simp)
  ·cases b with
   |nil =>
    simp only[List.nil_append,List.cons.injEq,Prod.mk.injEq]at e;exact⟨_,e.1.2,.inr (.inr (ucq y _))⟩
   |cons a b =>
    simp only[List.cons_append,List.cons.injEq]at e;obtain⟨rfl,rfl⟩:=e;obtain⟨v,e,h⟩:=f _ _ _ _ _ _ h;exact⟨v,e,.inr (.inl ⟨b,h,rfl⟩)⟩
  obtain⟨v,e,h⟩:=g _ _ _ _ _ _ h;exact⟨v,e,.inr (.inr h)⟩
 |star x d =>
  intro p q b k u c h;rcases h with h|⟨s',h,e⟩|h
  ·exact absurd h.2 (by simp)
  ·cases b with
   |nil =>
    simp only[List.nil_append,List.cons.injEq,Prod.mk.injEq]at e;exact⟨_,e.1.2,.inr (.inr ⟨rfl,rfl⟩)⟩
   |cons a b =>
    simp only[List.cons_append,List.cons.injEq]at e;obtain⟨rfl,rfl⟩:=e;obtain⟨v,e,h⟩:=d _ _ _ _ _ _ h;exact⟨v,e,.inr (.inl ⟨b,h,rfl⟩)⟩
  exact absurd h.2 (by simp)
 |not x d =>
  intro p q b k u c h;rcases h with h|⟨s',h,e⟩|h
  ·exact absurd h.2 (by simp)
  ·cases b with
   |nil =>
    simp only[List.nil_append,List.cons.injEq,Prod.mk.injEq]at e;exact⟨_,e.1.2,.inr (.inr ⟨rfl,rfl⟩)⟩
   |cons a b =>
    simp only[List.cons_append,List.cons.injEq]at e;obtain⟨rfl,rfl⟩:=e;obtain⟨v,e,h⟩:=d _ _ _ _ _ _ h;exact⟨v,e,.inr (.inl ⟨b,h,rfl⟩)⟩
  exact absurd h.2 (by simp)
def Step(r:Nat->Int)(m n:Nat)(R:Nat->um)(P:Nat->List (Int×Int)->Prop)(q:Nat)(s:List (Int×Int)):Prop :=
 q<n/\(((R q).kind=0/\P (q+1) s)\/((R q).kind=6/\(∃k,k<m/\(R q).to=r k)/\P (q+1) s)\/((R q).kind=8/\(∃k,k<m/\(R q).to=r k)/\P (q+1) s)
  \/ ((R q).kind=1/\P (q+1) (s++[(0,(R q).to)]))\/((R q).kind=4/\P (q+1) (s++[(1,(R q).to)]))
  \/ ((R q).kind=2/\∃s' u,s=s'++[(0,u)]/\∃v:Nat,(R q).to=(v:Int)/\P v s')\/((R q).kind=3/\∃s' u,s=s'++[(0,u)]/\∃v:Nat,(R q).to=(v:Int)/\P v s)
  \/ ((R q).kind=5/\∃s' u,s=s'++[(1,u)]))
theorem Step.mono{r m n R}{P f:Nat->List (Int×Int)->Prop}{q s}(h:Step r m n R P q s)(k:∀q s,P q s->f q s):Step r m n R f q s:=by
 obtain⟨g,h⟩:=h;refine⟨g,?_⟩;rcases h with⟨a,b⟩|⟨a,c,b⟩|⟨a,c,b⟩|⟨a,b⟩|⟨a,b⟩|⟨a,s',u,e,v,d,b⟩|⟨a,s',u,e,v,d,b⟩|h
 ·exact .inl ⟨a,k _ _ b⟩
 ·exact .inr (.inl ⟨a,c,k _ _ b⟩)
 ·exact .inr (.inr (.inl ⟨a,c,k _ _ b⟩))
 ·exact .inr (.inr (.inr (.inl ⟨a,k _ _ b⟩)))
 ·exact .inr (.inr (.inr (.inr (.inl ⟨a,k _ _ b⟩))))
 ·exact .inr (.inr (.inr (.inr (.inr (.inl ⟨a,s',u,e,v,d,k _ _ b⟩)))))
 ·exact .inr (.inr (.inr (.inr (.inr (.inr (.inl ⟨a,s',u,e,v,d,k _ _ b⟩))))))
 exact .inr (.inr (.inr (.inr (.inr (.inr (.inr h))))))
theorem Step.under{r m n R}{P g:Nat->List (Int×Int)->Prop}{q s}(c:Int×Int)(h:Step r m n R P q s)(k:∀q s,P q s->g q (c::s)):Step r m n R g q (c::s):=by
 obtain⟨i,h⟩:=h;refine⟨i,?_⟩;rcases h with⟨a,b⟩|⟨a,d,b⟩|⟨a,d,b⟩|⟨a,b⟩|⟨a,b⟩|⟨a,s',u,e,v,f,b⟩|⟨a,s',u,e,v,f,b⟩|⟨a,s',u,e⟩
 ·exact .inl ⟨a,k _ _ b⟩
 ·exact .inr (.inl ⟨a,d,k _ _ b⟩)
 ·exact .inr (.inr (.inl ⟨a,d,k _ _ b⟩))
 ·exact .inr (.inr (.inr (.inl ⟨a,k _ _ b⟩)))
 ·exact .inr (.inr (.inr (.inr (.inl ⟨a,k _ _ b⟩))))
 ·exact .inr (.inr (.inr (.inr (.inr (.inl ⟨a,c::s',u,by rw[e];rfl,v,f,k _ _ b⟩)))))
 ·exact .inr (.inr (.inr (.inr (.inr (.inr (.inl ⟨a,c::s',u,by rw[e];rfl,v,f,k _ _ b⟩))))))
 exact .inr (.inr (.inr (.inr (.inr (.inr (.inr ⟨a,c::s',u,by rw[e];rfl⟩))))))
theorem uo5 r m n R t:∀(p q:Nat) (s:List (Int×Int)),t.Below m->Lies n R p (uG r t p)->AtN t p q s->(q=p+t.len/\s = [])\/Step r m n R (AtN t p) q s:=by
 induction t with
 |empty=>intro p q s _ _ h;exact .inl ⟨h.1,h.2⟩
 |set k S =>
  intro p q s _ c h;obtain⟨f|f,o⟩:=h
  ·subst f o;obtain⟨a,b⟩:=c.head;exact .inr ⟨a,.inl ⟨by rw[b],.inr rfl,rfl⟩⟩
  exact .inl ⟨f,o⟩
 |ref k =>
  intro p q s d c h;obtain⟨f|f,o⟩:=h
  ·subst f o;obtain⟨a,b⟩:=c.head;exact .inr ⟨a,.inr (.inl ⟨by rw[b];rfl,⟨k,d,by rw[b];rfl⟩,.inr rfl,rfl⟩)⟩
  exact .inl ⟨f,o⟩
 |thr l k =>
  intro p q s d c h;obtain⟨f|f,o⟩:=h
  ·subst f o;obtain⟨a,b⟩:=c.head;exact .inr ⟨a,.inr (.inr (.inl ⟨by rw[b];rfl,⟨k,d,by rw[b];rfl⟩,.inr rfl,rfl⟩))⟩
  exact .inl ⟨f,o⟩
 |seq x y z A =>
  intro p q s d c h;have u:=c.left;have i:Lies n R (p+x.len) (uG r y (p+x.len)):=by have:=c.right;rw[emit_len]at this;exact this
  have B:AtN y (p+x.len) q s->(q=p+(EX.seq x y).len/\s = [])\/Step r m n R (AtN (.seq x y) p) q s:=λh=>by
   rcases A _ _ _ d.2 i h with⟨e,v⟩|k
   ·exact .inl ⟨by rw[e];simp[EX.len];omega,v⟩
   exact .inr (k.mono (λ_ _ h=>.inr h))
  rcases h with h|h
  ·rcases z _ _ _ d.1 u h with⟨rfl,rfl⟩|k
   ·exact B (ucq y _)
   exact .inr (k.mono (λ_ _ h=>.inl h))
  exact B h
 |alt x y z A =>
  intro p q s d c h;have g:=c.head;have u:=c.tail.left;have i:=c.tail.right;rw[emit_len]at i;have j:=i.head;have C:Lies n R (p+x.len+2) (uG r y (p+x.len+2)):=by have:=i.tail;rw[show p+1+x.len+1=p+x.len+2 by omega]at this;exact this
  rcases h with⟨rfl,rfl⟩|⟨s',h,rfl⟩|h
  ·refine .inr ⟨g.1,.inr (.inr (.inr (.inl ⟨by rw[g.2];rfl,.inr (.inl ⟨[],ucq x _,?_⟩)⟩)))⟩;rw[g.2];rfl
  ·rcases z _ _ _ d.1 u h with⟨rfl,rfl⟩|k
   ·refine .inr ⟨j.1,.inr (.inr (.inr (.inr (.inr (.inl ⟨by rw[j.2];rfl,[],_,rfl,p+x.len+y.len+2,by rw[j.2];rfl,?_⟩)))))⟩;have:=uqS (.alt x y) p;rw[show p+(EX.alt x y).len=p+x.len+y.len+2 by simp[EX.len];omega]at this;exact this
   exact .inr (k.under _ (λ_ s h=>.inr (.inl ⟨s,h,rfl⟩)))
  rcases A _ _ _ d.2 C h with⟨e,v⟩|k
  ·exact .inl ⟨by rw[e];simp[EX.len];omega,v⟩
  exact .inr (k.mono (λ_ _ h=>.inr (.inr h)))
 |star x w =>
  intro p q s d c h;have g:=c.head;have u:=c.tail.left;have i:=c.tail.right;rw[emit_len]at i;have j:=i.head;rcases h with⟨rfl,rfl⟩|⟨s',h,rfl⟩|h
  ·refine .inr ⟨g.1,.inr (.inr (.inr (.inl ⟨by rw[g.2];rfl,.inr (.inl ⟨[],ucq x _,?_⟩)⟩)))⟩;rw[g.2];rfl
  ·rcases w _ _ _ d u h with⟨rfl,rfl⟩|k
   ·exact .inr ⟨j.1,.inr (.inr (.inr (.inr (.inr (.inr (.inl ⟨by rw[j.2];rfl,[],_,rfl,p+1,by rw[j.2];rfl,.inr (.inl ⟨[],ucq x _,rfl⟩)⟩))))))⟩
   exact .inr (k.under _ (λ_ s h=>.inr (.inl ⟨s,h,rfl⟩)))
  exact .inl ⟨by rw[h.1];simp[EX.len];omega,h.2⟩
 |not x w =>
  intro p q s d c h;have g:=c.head;have u:=c.tail.left;have i:=c.tail.right;rw[emit_len]at i;have j:=i.head;rcases h with⟨rfl,rfl⟩|⟨s',h,rfl⟩|h
  ·refine .inr ⟨g.1,.inr (.inr (.inr (.inr (.inl ⟨by rw[g.2];rfl,.inr (.inl ⟨[],ucq x _,?_⟩)⟩))))⟩;rw[g.2];rfl
  ·rcases w _ _ _ d u h with⟨rfl,rfl⟩|k
   ·exact .inr ⟨j.1,.inr (.inr (.inr (.inr (.inr (.inr (.inr ⟨by rw[j.2];rfl,[],_,rfl⟩))))))⟩
   exact .inr (k.under _ (λ_ s h=>.inr (.inl ⟨s,h,rfl⟩)))
  exact .inl ⟨by rw[h.1];simp[EX.len];omega,h.2⟩
theorem unc t:∀(p q:Nat) (s:List (Int×Int)),AtN t p q s->∀c,c∈s->c.1=0\/c.1=1:=by
 induction t with
 |empty=>intro p q s h c a;rw[h.2]at a;simp at a
 |set n S=>intro p q s h c a;rw[h.2]at a;simp at a
 |ref n=>intro p q s h c a;rw[h.2]at a;simp at a
 |thr l n=>intro p q s h c a;rw[h.2]at a;simp at a
 |seq x y d e =>
  intro p q s h;rcases h with h|h
  ·exact d _ _ _ h
  exact e _ _ _ h
 |alt x y d e =>
  intro p q s h c a;rcases h with h|⟨s',h,rfl⟩|h
  ·rw[h.2]at a;simp at a
  ·rcases List.mem_cons.1 a with rfl|a
   ·exact .inl rfl
   exact d _ _ _ h c a
  exact e _ _ _ h c a
 |star x b =>
  intro p q s h c a;rcases h with h|⟨s',h,rfl⟩|h
  ·rw[h.2]at a;simp at a
  ·rcases List.mem_cons.1 a with rfl|a
   ·exact .inl rfl
   exact b _ _ _ h c a
  rw[h.2]at a;simp at a
 |not x b =>
  intro p q s h c a;rcases h with h|⟨s',h,rfl⟩|h
  ·rw[h.2]at a;simp at a
  ·rcases List.mem_cons.1 a with rfl|a
   ·exact .inr rfl
   exact b _ _ _ h c a
  rw[h.2]at a;simp at a
def dpL:List EvD->Int
 |[]=>0
 |e::l=>(if e.kind=2 then -1 else 1)+dpL l
theorem uhl l e:dpL (l++[e])=dpL l+(if e.kind=2 then -1 else 1):=by
 induction l with
 |nil=>simp[dpL]
 |cons x l a=>simp only[List.cons_append,dpL,a];omega
structure LogOK(d:Nat)(L:List EvD)(pos:Nat):Prop where
 kinds:∀e,e∈L->0<=e.kind/\e.kind<=2/\0<=e.pos/\e.pos<=pos
 asc:L.Pairwise (λa b=>a.pos<=b.pos)
 dep:dpL L=d
 pre:∀k,0<k->k<L.length->1<=dpL (L.take k)
 hd:∃l,L=⟨0,0,0⟩::l
theorem LogOK.adv{d L pos b}(h:LogOK d L pos)(k:pos<=b):LogOK d L b :=
 ⟨λe a=>⟨(h.kinds e a).1,(h.kinds e a).2.1,(h.kinds e a).2.2.1,by have:=(h.kinds e a).2.2.2;omega⟩,h.asc,h.dep,h.pre,h.hd⟩
theorem LogOK.put{d f:Nat}{L}{pos:Nat}(h:LogOK d L pos)(o:1<=d)(k a:Int)(g:0<=k)(b:k<=2)(c:(d:Int)+(if k=2 then -1 else 1)=f):LogOK f (L++[⟨k,a,pos⟩]) pos:=by
 refine⟨λe c=>?_,?_,by rw[uhl,h.dep];exact c,λi j b=>?_,?_⟩
 ·rcases List.mem_append.1 c with q|q
  ·exact h.kinds e q
  obtain rfl:=List.mem_singleton.1 q;exact⟨g,b,by show(0:Int)<=(pos:Int);omega,Int.le_refl _⟩
 ·refine List.pairwise_append.2 ⟨h.asc,List.pairwise_singleton _ _,λx m y n=>?_⟩;obtain rfl:=List.mem_singleton.1 n;exact(h.kinds x m).2.2.2
 ·rw[List.length_append,List.length_singleton]at b;rw[List.take_append_of_le_length (by omega)];by_cases e:i=L.length
  ·rw[e,List.take_length,h.dep];omega
  exact h.pre i j (by omega)
 obtain⟨l,rfl⟩:=h.hd;exact⟨l++[⟨k,a,pos⟩],rfl⟩
theorem uo6:LogOK 1 [⟨0,0,0⟩] 0:=⟨λe b=>by obtain rfl:=List.mem_singleton.1 b;decide,List.pairwise_singleton _ _,rfl,λk c a=>by simp at a;omega,[],rfl⟩
def vG(l:List FrD):Nat:=l.countP (λf=>f.kind==2)
def LI:List FrD->List EvD->Prop
 |[],_=>True
 |f::r,L=>if f.kind=2 then LI r L else f.log<=L.length/\LogOK (vG r) (L.take f.log) f.pos/\LI r (L.take f.log)
theorem LI.app:∀{st:List FrD} {L:List EvD},LI st L->∀M,LI st (L++M)
 |[],_,_,_=>trivial
 |f::r,L,h,M=>by
  rw[LI]at h ⊢;split at h
  ·rename_i e;rw[if_pos e];exact h.app M
  rename_i e;rw[if_neg e];rw[List.take_append_of_le_length h.1,List.length_append];exact⟨by omega,h.2⟩
theorem LI.of_take{st L k}(h:LI st (L.take k)):LI st L:=by
 have:=h.app (L.drop k);rwa [List.take_append_drop]at this
theorem LI.unw:∀{st:List FrD} {L:List EvD} {f:FrD} {l:List FrD},LI st L->uT st=some (f,l)->LogOK (vG l) (L.take f.log) f.pos/\LI l (L.take f.log)
 |[],_,_,_,_,e=>by cases e
 |g::r,L,f,l,h,e=>by
  rw[LI]at h;rw[uT]at e;split at h
  ·rename_i q;rw[if_pos q]at e;exact h.unw e
  rename_i q;rw[if_neg q]at e;cases e;exact h.2
theorem LI.pop{f st L}(h:LI (f::st) L):LI st L:=by
 rw[LI]at h;split at h
 ·exact h
 exact h.2.2.of_take
theorem LI.hold{f st L}(h:LI st L)(c:f.log=L.length)(b:LogOK (vG st) L f.pos)(a:f.kind≠2):LI (f::st) L:=by
 rw[LI,if_neg a,c,List.take_length];exact⟨Nat.le_refl _,b,h⟩
theorem LI.call{f st L}(h:LI st L)(a:f.kind=2):LI (f::st) L:=by rw[LI,if_pos a];exact h
theorem ue8 l:vG l.reverse=vG l:=List.countP_reverse
theorem yZ a b:vG (a++b)=vG a+vG b:=List.countP_append
theorem xD{f}l(h:f.kind=2):vG (f::l)=vG l+1:=by unfold vG;rw[List.countP_cons_of_pos (by simp[h])]
theorem ua5{f}l(h:f.kind≠2):vG (f::l)=vG l:=by unfold vG;rw[List.countP_cons_of_neg (by simp[h])]
structure Nod(r:Nat->Int)(m n:Nat)(R:Nat->um)(t:EX)(p:Nat):Prop where
 below:t.Below m
 code:Lies n R p (uG r t p)
 pos:0<p
 op:p-1<n/\((R (p-1)).kind=9\/(R (p-1)).kind=10)
 close:p+t.len<n/\(R (p+t.len)).kind=11
 ret:p+t.len+1<n/\(R (p+t.len+1)).kind=7
structure Prg(r:Nat->Int)(m n:Nat)(R:Nat->um):Prop where
 start:0<n/\(R 0).kind=6/\(R 0).to=r 0
 fin:1<n/\(R 1).kind=12
 node:∀k,k<m->0<=r k->∃t p,Nod r m n R t p/\r k=((p-1:Nat):Int)
 first:∃t p,Nod r m n R t p/\r 0=((p-1:Nat):Int)/\(R (p-1)).kind=9/\(R (p-1)).arg=0
def fm(F:List FrD):List (Int×Int):=F.map (λf=>(f.kind,f.to))
inductive Cf(r:Nat->Int)(m n:Nat)(R:Nat->um):Nat->List FrD->Nat->Prop
 |start:Cf r m n R 0 [] 0
 |fin:Cf r m n R 1 [] 1
 |body {t:EX} {p q q' ph:Nat} {st F:List FrD} {g:FrD}:Nod r m n R t p->AtN t p q (fm F)->Cf r m n R q' st ph->(ph=1\/ph=2)->g.kind=2->g.to=(q':Int)->Cf r m n R q (st++g::F) 2
 |opn {t:EX} {p q':Nat} {st:List FrD} {g:FrD}:Nod r m n R t p->Cf r m n R q' st 2->g.kind=2->g.to=(q':Int)->Cf r m n R (p-1) (st++[g]) 3
 |first {t:EX} {p:Nat} {g:FrD}:Nod r m n R t p->(R (p-1)).kind=9->(R (p-1)).arg=0->g.kind=2->g.to=1->Cf r m n R (p-1) [g] 5
 |ret {t:EX} {p q' ph:Nat} {st:List FrD} {g:FrD}:Nod r m n R t p->Cf r m n R q' st ph->(ph=1\/ph=2)->g.kind=2->g.to=(q':Int)->Cf r m n R (p+t.len+1) (st++[g]) 4
theorem uo7{F s' k u}(h:fm F=s'++[(k,u)]):∃a f,F=a++[f]/\fm a=s'/\f.kind=k/\f.to=u:=by
 rcases List.eq_nil_or_concat F with rfl|⟨a,f,rfl⟩
 ·simp[fm]at h
 simp only[List.concat_eq_append,fm,List.map_append,List.map_cons,List.map_nil]at h;have c:=List.append_inj_left' h rfl;have b:=List.append_inj_right' h rfl;simp only[List.cons.injEq,Prod.mk.injEq,and_true]at b;exact⟨a,f,by simp,c,b.1,b.2⟩
theorem une(st a:List FrD)(g f:FrD):st++g::(a++[f])=(st++g::a)++[f]:=by simp
theorem uk6{r m n R q i st}(h:Cf r m n R q st i):uT st.reverse=none\/∃f l,uT st.reverse=some (f,l)/\∃v:Nat,f.to=(v:Int)/\Cf r m n R v l.reverse 2:=by
 have d:∀{st:List FrD} {g:FrD},g.kind=2->uT (st++[g]).reverse=uT st.reverse:=λa=>uab _ _ a
 induction h with
 |start=>exact .inl rfl
 |fin=>exact .inl rfl
 |@body t p q y i st F g o e k u a w b =>
  rcases List.eq_nil_or_concat F with rfl|⟨c,f,rfl⟩
  ·rw[d a];exact b
  have s:f.kind=0\/f.kind=1:=unc t p q _ e (f.kind,f.to) (by simp[fm]);have hA':AtN t p q (fm c++(f.kind,f.to) :: []):=by simpa[fm] using e
  obtain⟨v,x,j⟩:=ujU t p q (fm c) f.kind f.to [] hA';refine .inr ⟨f,(st++g::c).reverse,?_,v,x,?_⟩
  ·rw[List.concat_eq_append,une,List.reverse_append];show uT (f::(st++g::c).reverse)=_;rw[uT,if_neg (by rcases s with q|q<;>omega)]
  rw[List.reverse_reverse];exact .body o j k u a w
 |opn _ _ a _ b=>rw[d a];exact b
 |first _ _ _ a _=>exact .inl (by rw[show [_] = []++[_] from rfl,d a];rfl)
 |ret _ _ _ a _ b=>rw[d a];exact b
theorem uhm{r m n R q st}(h:Cf r m n R q st 2):1<=vG st:=by
 cases h with
 |body _ _ _ _ a _=>rw[yZ,xD _ a];omega
def Lst(L:List EvD)(pos:Nat):Prop:=∃l e,L=l++[e]/\e.pos=(pos:Int)
structure Way(r:Nat->Int)(m n:Nat)(R:Nat->um)(v:Nat)(st:List FrD)(L:List EvD)(pos:Nat)(ph:Nat):Prop where
 cf:Cf r m n R v st ph
 zero:(ph=0\/ph=5)->L = []/\pos=0
 one:ph=1->LogOK 0 L pos
 two:ph=2->LogOK (vG st) L pos
 far:(ph=3\/ph=4)->LogOK (vG st-1) L pos
 li:LI st.reverse L
 lst:(ph=1\/ph=4)->Lst L pos
def Fine(r:Nat->Int)(m n:Nat)(R:Nat->um)(t:MSt):Prop:=(t.done=true/\(t.code=0->LogOK 0 t.log t.pos/\Lst t.log t.pos))\/(t.done=false/\(t.at_<0\/∃v a:Nat,t.at_=(v:Int)/\Way r m n R v t.st t.log t.pos a))
theorem Way.mk2{r m n R v st L pos}(h:Cf r m n R v st 2)(b:LogOK (vG st) L pos)(a:LI st.reverse L):Way r m n R v st L pos 2 :=
 ⟨h,λe=>by omega,λe=>by omega,λ_=>b,λe=>by omega,a,λe=>by omega⟩
theorem ue9{r}{m n:Nat}{R t}{v:Nat}(a:t.done=false)(d:t.at_=(v:Int))(h:Cf r m n R v t.st 2)(c:LogOK (vG t.st) t.log t.pos)(b:LI t.st.reverse t.log):Fine r m n R t:=.inr ⟨a,.inr ⟨v,2,d,.mk2 h c b⟩⟩
theorem uat{r:Nat->Int}{m n:Nat}{R:Nat->um}{q j:Nat}{s:MSt}(d:s.done=false)(h:Cf r m n R q s.st j)(g:LI s.st.reverse s.log):Fine r m n R s.fail:=by
 unfold MSt.fail;rcases uk6 h with e|⟨f,l,e,v,i,c⟩
 ·rw[e];exact .inl ⟨rfl,λq=>absurd q (by show ¬(1:Int)=0;decide)⟩
 rw[e];obtain⟨a,b⟩:=g.unw e;exact ue9 d i c (by rw[ue8];exact a) (by rw[List.reverse_reverse];exact b)
theorem ubZ{r:Nat->Int}{m n:Nat}{R:Nat->um}{s:MSt}{f:FrD}{most:Int}(h:Fine r m n R { s with st:=s.st++[f] }):Fine r m n R (s.push f most):=by
 unfold MSt.push;split
 ·exact .inl ⟨rfl,λq=>absurd q (by show ¬(3:Int)=0;decide)⟩
 exact h
theorem uo8(s:MSt)(n:Nat)(S:Nat->Int):(s.note n S).st=s.st/\(s.note n S).done=s.done/\(s.note n S).log=s.log:=by unfold MSt.note;split<;>(try split)<;>exact⟨rfl,rfl,rfl⟩
theorem udN{r:Nat->Int}{m n:Nat}{R:Nat->um}(d:Prg r m n R){q:Nat}{s:MSt}{x:um}{most:Int}(a:s.done=false)(l:s.at_=(q:Int))(o:∃k,k<m/\x.to=r k)(h:Cf r m n R (q+1) s.st 2)(i:LogOK (vG s.st) s.log s.pos)(f:LI s.st.reverse s.log):Fine r m n R (s.enter x most):=by
 unfold MSt.enter;refine ubZ ?_;by_cases b:x.to<0
 ·exact .inr ⟨a,.inl b⟩
 obtain⟨k,g,e⟩:=o;obtain⟨t,p,c,j⟩:=d.node k g (by rw[<-e];omega);refine .inr ⟨a,.inr ⟨p-1,3,by show x.to=_;rw[e,j],.opn c h rfl (by show s.at_+1=_;rw[l];rfl),λe=>by omega,λe=>by omega,λe=>by omega,λ_=>?_,?_,λe=>by omega⟩⟩
 ·show LogOK (vG (s.st++[_])-1) s.log s.pos;rw[yZ,xD _ rfl];exact i
 show LI (s.st++[_]).reverse s.log;rw[List.reverse_append];exact f.call rfl
theorem uqT{r:Nat->Int}{m n:Nat}{R:Nat->um}(O:Prg r m n R){q T:Nat}{s:MSt}(il:Nat)(I:Nat->Int)(most:Int)(o:s.done=false)(A:s.at_=(q:Int))(h:Way r m n R q s.st s.log s.pos T):q<n/\Fine r m n R (s.act (R q) il I most):=by
 obtain⟨h,z0,z1,z2,z3,z,z4⟩:=h;generalize i:s.st=l at h z0 z1 z2 z3 z;cases h with
 |start =>
  obtain⟨x,d,B⟩:=O.start;refine⟨x,?_⟩;have e:s.act (R 0) il I most=s.enter (R 0) most:=by unfold MSt.act;simp only[d];simp
  rw[e];obtain⟨t,p,j,H,k9,ka⟩:=O.first
  unfold MSt.enter;refine ubZ (.inr ⟨o,.inr ⟨p-1,5,by show(R 0).to=_;rw[B,H],?_,λ_=>z0 (.inl rfl),λe=>by omega,λe=>by omega,λe=>by omega,?_,λe=>by omega⟩⟩)
  ·show Cf r m n R (p-1) (s.st++[_]) 5;rw[i];exact .first j k9 ka rfl (by show s.at_+1=_;rw[A];rfl)
  show LI (s.st++[_]).reverse s.log;rw[i];exact LI.call trivial rfl
 |fin =>
  obtain⟨x,d⟩:=O.fin;refine⟨x,?_⟩;have e:s.act (R 1) il I most=s.fin 0:=by unfold MSt.act;simp only[d,i];simp
  rw[e];exact .inl ⟨rfl,λ_=>⟨z1 rfl,z4 (.inl rfl)⟩⟩
 |@opn t p Y st g j C w E =>
  obtain⟨x,d⟩:=j.op;refine⟨x,?_⟩;have hb:Cf r m n R p s.st 2:=by rw[i];exact .body (F:=[]) j (ucq t p) C (.inr rfl) w E
  have H:=j.pos;have h1:=uhm C;have y:=z3 (.inl rfl);rw[yZ,xD _ w]at y;have ae:∀k:Int,k=0\/k=1->Fine r m n R (s.put k (R (p-1)).arg):=λk d=>by
   refine ue9 (v:=p) o (by show s.at_+1=_;rw[A];omega) hb ?_ ?_
   ·show LogOK (vG s.st) (s.log++[_]) s.pos;rw[i,yZ,xD _ w];exact y.put (by omega) _ _ (by omega) (by omega) (by rw[if_neg (by omega)];omega)
   show LI s.st.reverse (s.log++[_]);rw[i];exact z.app _
  rcases d with d|d
  ·have e:s.act (R (p-1)) il I most=s.put 0 (R (p-1)).arg:=(by unfold MSt.act;simp only[d];simp);rw[e];exact ae 0 (.inl rfl)
  have e:s.act (R (p-1)) il I most=s.put 1 (R (p-1)).arg:=by unfold MSt.act;simp only[d];simp
  rw[e];exact ae 1 (.inr rfl)
 |@first t p g j d Z w E =>
  refine⟨j.op.1,?_⟩;have H:=j.pos;obtain⟨U,G⟩:=z0 (.inr rfl);have e:s.act (R (p-1)) il I most=s.put 0 (R (p-1)).arg:=by unfold MSt.act;simp only[d];simp
  rw[e,Z];refine ue9 (v:=p) o (by show s.at_+1=_;rw[A];omega) (by show Cf r m n R p s.st 2;rw[i];exact .body (st:=[]) (F:=[]) j (ucq t p) .fin (.inl rfl) w E) ?_ ?_
  ·show LogOK (vG s.st) (s.log++[⟨0,0,(s.pos:Int)⟩]) s.pos;rw[i,U,G,xD _ w];exact uo6
  show LI s.st.reverse (s.log++[_]);rw[i];exact LI.call trivial w
 |@ret t p Y T st g j C H w E =>
  obtain⟨x,d⟩:=j.ret;refine⟨x,?_⟩;have B:s.top 2=true:=by unfold MSt.top;rw[i];simp[w]
  have e:s.act (R (p+t.len+1)) il I most={ s.pop with at_:=xv s.st }:=by unfold MSt.act;simp only[d,B];simp
  rw[e];have y:=z3 (.inr rfl);rw[yZ,xD _ w]at y;rw[List.reverse_append]at z;refine .inr ⟨o,.inr ⟨Y,T,?_,?_⟩⟩
  ·show xv s.st=_;unfold xv;rw[i];simp[E]
  show Way r m n R Y s.st.dropLast s.log s.pos T;rw[i,List.dropLast_concat];refine⟨C,λe=>by omega,λe=>?_,λ_=>y,λe=>by omega,z.pop,λ_=>z4 (.inr rfl)⟩;subst e;cases C;exact y
 |@body t p _ Y T st F g j V C H w E =>
  have mk:∀{v:Nat} {F:List FrD},AtN t p v (fm F)->Cf r m n R v (st++g::F) 2:=λh=>.body j h C H w E
  have y:=z2 rfl;have h1:=uhm (mk V);rcases uo5 r m n R t p q (fm F) j.below j.code V with⟨rfl,hF⟩|⟨x,hs⟩
  ·obtain⟨x,d⟩:=j.close;refine⟨x,?_⟩;have W:F = []:=(by simpa[fm] using hF);subst W;have e:s.act (R (p+t.len)) il I most=s.put 2 (R (p+t.len)).arg:=(by unfold MSt.act;simp only[d];simp);rw[e];refine .inr ⟨o,.inr ⟨p+t.len+1,4,by show s.at_+1=_;rw[A];rfl,by show Cf r m n R _ s.st 4;rw[i];exact .ret j C H w E,λe=>by omega,λe=>by omega,λe=>by omega,λ_=>?_,?_,λ_=>⟨s.log,_,rfl,rfl⟩⟩⟩
   ·show LogOK (vG s.st-1) (s.log++[_]) s.pos;rw[i];exact y.put h1 _ _ (by omega) (by omega) (by rw[if_pos rfl];omega)
   show LI s.st.reverse (s.log++[_]);rw[i];exact z.app _
  refine⟨x,?_⟩;have aa:Cf r m n R q s.st 2:=by rw[i];exact mk V
  have L:LogOK (vG s.st) s.log s.pos:=by rw[i];exact y
  have D:LI s.st.reverse s.log:=by rw[i];exact z
  have ab:∀(k u:Int) (v:Nat) (s':List FrD) (a:Int),k≠2->a=(v:Int)->Cf r m n R v (s'++[⟨k,u,s.pos,s.log.length⟩]) 2->LI s'.reverse s.log->vG s'=vG s.st->Fine r m n R ((({ s with at_:=a,st:=s' }):MSt).push ⟨k,u,s.pos,s.log.length⟩ most):=λk u v s' a d Z hc ag P=>by
   refine ubZ (ue9 (v:=v) o Z hc ?_ ?_)
   ·show LogOK (vG (s'++[_])) s.log s.pos;rw[yZ,ua5 _ d,P];exact L
   show LI (s'++[_]).reverse s.log;rw[List.reverse_append];exact ag.hold rfl (by rw[ue8,P];exact L) d
  rcases hs with⟨d,b⟩|⟨d,c,b⟩|⟨d,c,b⟩|⟨d,b⟩|⟨d,b⟩|⟨d,s',u,e,v,G,b⟩|⟨d,s',u,e,v,G,b⟩|⟨d,s',u,e⟩
  ·have e:s.act (R q) il I most=s.test (R q).sl (R q).set il I:=(by unfold MSt.act;simp only[d];simp);rw[e];unfold MSt.test;split
   ·exact ue9 (v:=q+1) o (by show s.at_+1=_;rw[A];rfl) (by show Cf r m n R _ s.st 2;rw[i];exact mk b) (L.adv (Nat.le_succ _)) D
   split
   ·exact uat o aa D
   obtain⟨U,G,N⟩:=uo8 s (R q).sl (R q).set;exact uat (q:=q) (by rw[G];exact o) (by rw[U];exact aa) (by rw[U,N];exact D)
  ·have e:s.act (R q) il I most=s.enter (R q) most:=(by unfold MSt.act;simp only[d];simp);rw[e];exact udN O o A c (by rw[i];exact mk b) L D
  ·have e:s.act (R q) il I most=if s.inNot then s.fail else if (R q).to<0 then ({ s with throws:=s.throws+1,label:=(R q).arg }).fin 2 else ({ s with throws:=s.throws+1 }).enter (R q) most:=by unfold MSt.act;simp only[d];simp
   rw[e];split
   ·exact uat o aa D
   split
   ·exact .inl ⟨rfl,λq=>absurd q (by show ¬(2:Int)=0;decide)⟩
   exact udN O (s:={ s with throws:=s.throws+1 }) o A c (by show Cf r m n R _ s.st 2;rw[i];exact mk b) L D
  ·have e:s.act (R q) il I most=s.hold 0 (R q).to most:=(by unfold MSt.act;simp only[d];simp);rw[e];refine ab 0 _ (q+1) s.st (s.at_+1) (by decide) (by rw[A];rfl) ?_ D rfl;rw[i,List.append_assoc];exact mk (F:=F++[(⟨0,(R q).to,s.pos,s.log.length⟩:FrD)]) (by simpa[fm] using b)
  ·have e:s.act (R q) il I most=s.hold 1 (R q).to most:=(by unfold MSt.act;simp only[d];simp);rw[e];refine ab 1 _ (q+1) s.st (s.at_+1) (by decide) (by rw[A];rfl) ?_ D rfl;rw[i,List.append_assoc];exact mk (F:=F++[(⟨1,(R q).to,s.pos,s.log.length⟩:FrD)]) (by simpa[fm] using b)
  all_goals obtain⟨J,f,rfl,W,S⟩:=uo7 e
  all_goals rw[une]at i z y
  all_goals rw[List.reverse_append]at z
  all_goals have Q:s.st.dropLast=st++g::J:=by rw[i,List.dropLast_concat]
  all_goals have X:s.st.getLast? = some f:=by rw[i,List.getLast?_concat]
  all_goals have ad:f.kind≠2:=by rw[S.1];decide
  all_goals rw[yZ,ua5 _ ad]at y
  all_goals have ac:LI s.st.dropLast.reverse s.log:=by rw[Q];exact z.pop
  all_goals have P:vG s.st.dropLast=vG s.st:=by rw[Q,i,yZ (st++g::J),ua5 _ ad];rfl
  ·have B:s.top 0=true:=(by unfold MSt.top;rw[X];simp[S.1]);have e:s.act (R q) il I most={ s.pop with at_:=(R q).to }:=(by unfold MSt.act;simp only[d,B];simp);rw[e];exact ue9 (v:=v) o G (by show Cf r m n R v s.st.dropLast 2;rw[Q];exact mk (by rw[W];exact b)) (by show LogOK (vG s.st.dropLast) s.log s.pos;rw[P];exact L) ac
  ·have B:s.top 0=true:=(by unfold MSt.top;rw[X];simp[S.1]);have N:s.act (R q) il I most=({ s.pop with at_:=(R q).to }).push ⟨0,xv s.st,s.pos,s.log.length⟩ most:=(by unfold MSt.act;simp only[d,B];simp);rw[N];have ah:xv s.st=u:=(by unfold xv;rw[X];exact S.2);refine ab 0 _ v s.st.dropLast (R q).to (by decide) G ?_ ac P;rw[ah,Q,List.append_assoc];refine mk (F:=J++[_]) ?_;have:fm (J++[(⟨0,u,s.pos,s.log.length⟩:FrD)])=s'++[(0,u)]:=(by rw[<-W];simp[fm]);rw[this,<-e];exact b
  have B:s.top 1=true:=by unfold MSt.top;rw[X];simp[S.1]
  have N:s.act (R q) il I most=s.pop.fail:=by unfold MSt.act;simp only[d,B];simp
  rw[N];have hA':AtN t p q (fm J++(f.kind,f.to) :: []):=by simpa[fm] using V
  obtain⟨v,_,af⟩:=ujU t p q (fm J) f.kind f.to [] hA';exact uat (q:=v) (s:=s.pop) o (by show Cf r m n R v s.st.dropLast 2;rw[Q];exact mk af) ac
theorem uo9{r m n R}(d:Prg r m n R){s}il I fuel most(h:Fine r m n R s)(b:s.done=false):Fine r m n R (s.next n R il I fuel most):=by
 unfold MSt.next;rcases h with⟨q,_⟩|⟨_,h|⟨v,g,a,c⟩⟩
 ·rw[b]at q;cases q
 ·rw[if_pos (.inl h)];exact .inl ⟨rfl,λq=>absurd q (by show ¬(4:Int)=0;decide)⟩
 obtain⟨f,h⟩:=uqT d (s:={ s with steps:=s.steps+1 }) il I most b a c;rw[if_neg (by rw[a];omega)];split
 ·exact .inl ⟨rfl,λq=>absurd q (by show ¬(3:Int)=0;decide)⟩
 have e:s.at_.toNat=v:=by rw[a];rfl
 rw[e];exact h
theorem uiK{r m n R}(b:Prg r m n R){il I fuel most s t}(h:Ends n R il I fuel most s t):Fine r m n R s->t.code=0->LogOK 0 t.log t.pos/\Lst t.log t.pos:=by
 induction h with
 |over a =>
  intro h;rcases h with⟨_,q⟩|⟨q,_⟩
  ·exact q
  rw[a]at q;cases q
 |go a _ c=>exact λh=>c (uo9 b il I fuel most h a)
theorem uiL{r m n R}:Fine r m n R ⟨0,0,[],[],0,λ_=>false,0,0,false,0,0⟩:=.inr ⟨rfl,.inr ⟨0,0,rfl,.start,λ_=>⟨rfl,rfl⟩,λe=>by omega,λe=>by omega,λe=>by omega,trivial,λe=>by omega⟩⟩
theorem ufa r a b c{k m}(h:k<=m):∃l,progC r a b c m=progC r a b c k++l:=by
 induction m with
 |zero =>
   obtain rfl:k=0:=(by omega);exact⟨[],by simp⟩
 |succ m f =>
  by_cases e:k=m+1
  ·subst e;exact⟨[],by simp⟩
  obtain⟨l,d⟩:=f (by omega);rw[progC,d];split
  ·exact⟨l++nodeC r (a m) (b m) (progC r a b c k++l).length,by rw[List.append_assoc]⟩
  exact⟨l,rfl⟩
def uhn(l:List um)(i:Nat):um:=l.getD i (ins 0 0 0)
theorem uho l a b c(h:l=a++(b++c)):Lies l.length (uhn l) a.length b:=λi x d=>by
 have e:=(List.getElem?_eq_some_iff.1 d).1;refine⟨by rw[h];simp;omega,?_⟩;unfold uhn;rw[h,List.getD_eq_getElem?_getD,List.getElem?_append_right (by omega),Nat.add_sub_cancel_left,List.getElem?_append_left e,d];rfl
theorem unf b c a m(z:0<m)(w:a 0=true)(A:∀p,(b p).kind=9\/(b p).kind=10)(s:(b 0).kind=9/\(b 0).arg=0)(x:∀i,i<m->a i=true->(c i).Below m) :
  Prg (placeC b c a) m (progC (placeC b c a) b c a m).length (uhn (progC (placeC b c a) b c a m)):=by
 have C:∀k,a k=true->placeC b c a k=((progC (placeC b c a) b c a k).length:Int):=λk f=>by
  unfold placeC;rw[if_pos f,progC_len (λ_=>0) _ b c a k]
 generalize D:placeC b c a=r at *;obtain⟨l,y⟩:=ufa r b c a (k:=0) (m:=m) (by omega);have u:Lies (progC r b c a m).length (uhn (progC r b c a m)) 0 (progC r b c a 0):=uho _ [] _ l (by rw[y];rfl);have v:∀k,k<m->a k=true->∃t p,Nod r m (progC r b c a m).length (uhn (progC r b c a m)) t p/\r k=((p-1:Nat):Int)/\uhn (progC r b c a m) (p-1)=b k:=λk f g=>by
  obtain⟨l2,q⟩:=ufa r b c a (k:=k+1) (m:=m) (by omega);rw[progC,if_pos g,List.append_assoc]at q;have d:=uho _ _ _ l2 q;have B:=C k g;generalize (progC r b c a k).length=p at *;refine⟨c k,p+1,⟨x k f g,d.tail.left,by omega,⟨d.head.1,by rw[Nat.add_sub_cancel,d.head.2];exact A k⟩,?_,?_⟩,by rw[B];rfl,d.head.2⟩
  ·have h:=d.tail.right;rw[emit_len]at h;exact⟨h.head.1,by rw[h.head.2];rfl⟩
  have h:=d.tail.right;rw[emit_len]at h;exact⟨h.tail.head.1,by rw[h.tail.head.2];rfl⟩
 refine⟨?_,?_,λk f E=>?_,?_⟩
 ·have h:=u 0 (ins 6 0 (r 0)) rfl;exact⟨h.1,by rw[h.2];rfl,by rw[h.2];rfl⟩
 ·have h:=u 1 (ins 12 0 0) rfl;exact⟨h.1,by rw[h.2];rfl⟩
 ·have g:a k=true:=by
   cases e:a k with
   |true=>rfl
   |false =>
    have:r k = -1:=(by rw[<-D];unfold placeC;rw[e];rfl);omega
  obtain⟨t,p,j,n,_⟩:=v k f g;exact⟨t,p,j,n⟩
 obtain⟨t,p,j,n,o⟩:=v 0 z w;exact⟨t,p,j,n,by rw[o];exact s.1,by rw[o];exact s.2⟩
end Go.Proofs.YtpghlcdkfldlpaaGreat
