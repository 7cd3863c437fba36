import Derived.Test.YtimfigongapdnaaGreatT06
set_option linter.unusedVariables false
set_option linter.unusedSimpArgs false
set_option maxHeartbeats 40000000
set_option maxRecDepth 100000
namespace Go.Proofs.YtimfigongapdnaaGreat
section
open M (OpD ug Gr ur EX ins uH emit_len nodeC nodeC_len progC progC_len placeC)
def Lies(n:Nat)(R:Nat->ur)(p:Nat)(l:List ur):Prop:=∀i x,l[i]?=some x->p+i<n/\R (p+i)=x
section
variable {n:Nat} {R:Nat->ur} {p:Nat} {a b:List ur} {x:ur}
theorem Lies.left(h:Lies n R p (a++b)):Lies n R p a:=λi x c =>
 h i x (by rw[List.getElem?_append_left (List.getElem?_eq_some_iff.1 c).1];exact c)
theorem Lies.right(h:Lies n R p (a++b)):Lies n R (p+a.length) b:=λi x c=>by
 have:=h (a.length+i) x (by rw[List.getElem?_append_right (by omega),Nat.add_sub_cancel_left];exact c);rw[Nat.add_assoc];exact this
theorem Lies.head(h:Lies n R p (x::b)):p<n/\R p=x:=h 0 x rfl
theorem Lies.tail(h:Lies n R p (x::b)):Lies n R (p+1) b:=λi y a=>by
 have:=h (i+1) y a;rw[show p+1+i=p+(i+1) by omega];exact this
end
abbrev Fz:=List (Int×Int×Nat)
def qr(mk:Nat->Bool):EX->Bool
 |.empty=>true
 |.set _ _=>false
 |.ref n=>mk n
 |.thr _ n=>mk n
 |.seq x y=>qr mk x&&qr mk y
 |.alt x y=>qr mk x||qr mk y
 |.star _=>true
 |.not _=>true
def Dn(z:Bool)(b c:Nat):Prop:=b<c\/(b=c/\z=true)
theorem Dn.and{x y b m c}(h:Dn x b m)(k:Dn y m c):Dn (x&&y) b c:=by
 rcases h with h|⟨h,rfl⟩<;>rcases k with k|⟨k,rfl⟩
 ·exact .inl (by omega)
 ·exact .inl (by omega)
 ·exact .inl (by omega)
 exact .inr ⟨by omega,rfl⟩
theorem Dn.mono{x y b c}(h:Dn x b c)(k:x=true->y=true):Dn y b c:=h.imp id (λh=>⟨h.1,k h.2⟩)
theorem Dn.le{x b c}(h:Dn x b c):b<=c:=by rcases h with h|h<;>omega
def AtZ(mk:Nat->Bool):EX->Nat->Nat->Fz->Nat->Nat->Prop
 |.empty,_,_,_,_,_=>False
 |.seq x y,p,q,s,b,c=>AtZ mk x p q s b c\/∃m,Dn (qr mk x) b m/\AtZ mk y (p+x.len) q s m c
 |.alt x y,p,q,s,b,c=>(q=p/\s = []/\c=b)\/(∃s',(AtZ mk x (p+1) q s' b c\/q=p+1+x.len/\s' = []/\Dn (qr mk x) b c)/\s=(0,((p+x.len+2:Nat):Int),b)::s')\/AtZ mk y (p+x.len+2) q s b c
 |.star x,p,q,s,b,c=>(q=p/\s = []/\c=b)\/∃s' m,b<=m/\(AtZ mk x (p+1) q s' m c\/q=p+1+x.len/\s' = []/\Dn (qr mk x) m c)/\s=(0,((p+x.len+2:Nat):Int),m)::s'
 |.not x,p,q,s,b,c=>(q=p/\s = []/\c=b)\/∃s',(AtZ mk x (p+1) q s' b c\/q=p+1+x.len/\s' = []/\Dn (qr mk x) b c)/\s=(1,((p+x.len+2:Nat):Int),b)::s'
 |_,p,q,s,b,c=>q=p/\s = []/\c=b
def AtN(mk:Nat->Bool)(t:EX)(p q:Nat)(s:Fz)(b c:Nat):Prop:=AtZ mk t p q s b c\/q=p+t.len/\s = []/\Dn (qr mk t) b c
section
variable {mk:Nat->Bool} {x y:EX} {p q b c m:Nat} {s:Fz}
theorem unP(d:Dn (qr mk x) b m)(h:AtN mk y (p+x.len) q s m c):AtN mk (.seq x y) p q s b c:=by
 rcases h with h|⟨h,a,k⟩
 ·exact .inl (.inr ⟨m,d,h⟩)
 exact .inr ⟨by rw[h,EX.len];omega,a,d.and k⟩
theorem unQ(a:∀p b,AtN mk y p p [] b b)(h:AtN mk x p q s b c):AtN mk (.seq x y) p q s b c:=by
 rcases h with h|⟨rfl,rfl,k⟩
 ·exact .inl (.inl h)
 exact unP k (a _ _)
theorem unR(h:AtN mk x (p+1) q s b c):AtN mk (.alt x y) p q ([(0,((p+x.len+2:Nat):Int),b)]++s) b c:=.inl (.inr (.inl ⟨s,h,rfl⟩))
theorem unS(h:AtN mk y (p+x.len+2) q s b c):AtN mk (.alt x y) p q s b c:=by
 rcases h with h|⟨h,a,k⟩
 ·exact .inl (.inr (.inr h))
 exact .inr ⟨by rw[h,EX.len];omega,a,k.mono (λe=>by simp[qr,e])⟩
theorem uf7(a:b<=m)(h:AtN mk x (p+1) q s m c):AtN mk (.star x) p q ([(0,((p+x.len+2:Nat):Int),m)]++s) b c:=.inl (.inr ⟨s,m,a,h,rfl⟩)
theorem unT(h:AtN mk x (p+1) q s b c):AtN mk (.not x) p q ([(1,((p+x.len+2:Nat):Int),b)]++s) b c:=.inl (.inr ⟨s,h,rfl⟩)
end
theorem uct mk t:∀p b,AtN mk t p p [] b b:=by
 induction t with
 |empty=>exact λp b=>.inr ⟨rfl,rfl,.inr ⟨rfl,rfl⟩⟩
 |set n S=>exact λp b=>.inl ⟨rfl,rfl,rfl⟩
 |ref n=>exact λp b=>.inl ⟨rfl,rfl,rfl⟩
 |thr l n=>exact λp b=>.inl ⟨rfl,rfl,rfl⟩
 |seq x y a c=>exact λp b=>unQ c (a p b)
 |alt x y _ _=>exact λp b=>.inl (.inl ⟨rfl,rfl,rfl⟩)
 |star x _=>exact λp b=>.inl (.inl ⟨rfl,rfl,rfl⟩)
 |not x _=>exact λp b=>.inl (.inl ⟨rfl,rfl,rfl⟩)
theorem ukd mk t:∀(p q:Nat) (f:Fz) (k u:Int) (m:Nat) (j:Fz) (b c:Nat),AtN mk t p q (f++(k,u,m)::j) b c->k≠2/\∃v:Nat,u=(v:Int)/\AtN mk t p v f b m:=by
 have i:∀{f j:Fz} {z:Int×Int×Nat} {P:Prop},f++z::j = []->P:=λh=>absurd h (by simp)
 induction t with
 |seq x y n o =>
  rintro p q f k u m j b c ((h|⟨s,d,h⟩)|h)
  ·obtain⟨e,v,g,h⟩:=n _ _ _ _ _ _ _ _ _ (.inl h);exact⟨e,v,g,unQ (uct mk y) h⟩
  ·obtain⟨e,v,g,h⟩:=o _ _ _ _ _ _ _ _ _ (.inl h);exact⟨e,v,g,unP d h⟩
  exact i h.2.1
 |alt x y n o =>
  rintro p q f k u m j b c ((h|⟨s',h,e⟩|h)|h)
  ·exact i h.2.1
  ·cases f with
   |nil =>
    simp only[List.nil_append,List.cons.injEq,Prod.mk.injEq]at e;obtain⟨⟨rfl,rfl,rfl⟩,_⟩:=e;exact⟨by decide,_,rfl,unS (uct mk y _ _)⟩
   |cons a f =>
    simp only[List.cons_append,List.cons.injEq]at e;obtain⟨rfl,rfl⟩:=e;obtain⟨e,v,g,h⟩:=n _ _ _ _ _ _ _ _ _ h;exact⟨e,v,g,unR h⟩
  ·obtain⟨e,v,g,h⟩:=o _ _ _ _ _ _ _ _ _ (.inl h);exact⟨e,v,g,unS h⟩
  exact i h.2.1
 |star x l =>
  rintro p q f k u m j b c ((h|⟨s',s,r,h,e⟩)|h)
  ·exact i h.2.1
  ·cases f with
   |nil =>
    simp only[List.nil_append,List.cons.injEq,Prod.mk.injEq]at e;obtain⟨⟨rfl,rfl,rfl⟩,_⟩:=e;exact⟨by decide,_,rfl,.inr ⟨by simp[EX.len];omega,rfl,(Nat.lt_or_eq_of_le r).imp id (λe=>⟨e,rfl⟩)⟩⟩
   |cons a f =>
    simp only[List.cons_append,List.cons.injEq]at e;obtain⟨rfl,rfl⟩:=e;obtain⟨e,v,g,h⟩:=l _ _ _ _ _ _ _ _ _ h;exact⟨e,v,g,uf7 r h⟩
  exact i h.2.1
 |not x l =>
  rintro p q f k u m j b c ((h|⟨s',h,e⟩)|h)
  ·exact i h.2.1
  ·cases f with
   |nil =>
    simp only[List.nil_append,List.cons.injEq,Prod.mk.injEq]at e;obtain⟨⟨rfl,rfl,rfl⟩,_⟩:=e;exact⟨by decide,_,rfl,.inr ⟨by simp[EX.len];omega,rfl,.inr ⟨rfl,rfl⟩⟩⟩
   |cons a f =>
    simp only[List.cons_append,List.cons.injEq]at e;obtain⟨rfl,rfl⟩:=e;obtain⟨e,v,g,h⟩:=l _ _ _ _ _ _ _ _ _ h;exact⟨e,v,g,unT h⟩
  exact i h.2.1
 |empty=>rintro p q f k u m j b c (h|h);exact h.elim;exact i h.2.1
 |_=>rintro p q f k u m j b c (h|h)<;>exact i h.2.1
inductive Step(r:Nat->Int)(m:Nat)(mk:Nat->Bool)(x:ur)(P:Nat->Fz->Nat->Prop)(q:Nat):Fz->Nat->Prop
 |tst {s c}:x.kind=0->P (q+1) s (c+1)->Step r m mk x P q s c
 |cal {s c} (k:Nat):x.kind=6\/x.kind=8->k<m->x.to=r k->(∀c',Dn (mk k) c c'->P (q+1) s c')->Step r m mk x P q s c
 |hld {s c} (k:Int):(x.kind=1/\k=0\/x.kind=4/\k=1)->P (q+1) (s++[(k,x.to,c)]) c->Step r m mk x P q s c
 |cmt {s c} (v:Nat) (u:Int) (m':Nat):x.kind=2->x.to=(v:Int)->P v s c->Step r m mk x P q (s++[(0,u,m')]) c
 |prt {s c} (v:Nat) (u:Int) (m':Nat):x.kind=3->x.to=(v:Int)->P v (s++[(0,u,c)]) c->Step r m mk x P q (s++[(0,u,m')]) c
 |twi {s c} (u:Int) (m':Nat):x.kind=5->Step r m mk x P q (s++[(1,u,m')]) c
theorem Step.map{r m mk x P g q c s}(h:Step r m mk x P q s c)l(k:∀q s c,P q s c->g q (l++s) c):Step r m mk x g q (l++s) c:=by
 cases h with
 |tst a h=>exact .tst a (k _ _ _ h)
 |cal i a b e h=>exact .cal i a b e (λj d=>k _ _ _ (h j d))
 |hld i a h=>exact .hld i a (by rw[List.append_assoc];exact k _ _ _ h)
 |cmt v u f a e h=>rw[<-List.append_assoc];exact .cmt v u f a e (k _ _ _ h)
 |prt v u f a e h=>rw[<-List.append_assoc];exact .prt v u f a e (by rw[List.append_assoc];exact k _ _ _ h)
 |twi u f a=>rw[<-List.append_assoc];exact .twi u f a
theorem upY r m n R mk t:∀(p q:Nat) (s:Fz) (b c:Nat),t.Below m->Lies n R p (uH r t p)->AtZ mk t p q s b c->q<n/\Step r m mk (R q) (λq s c=>AtN mk t p q s b c) q s c:=by
 induction t with
 |empty=>intro p q s b c _ _ h;exact h.elim
 |set k S =>
  rintro p q s b c _ f ⟨rfl,rfl,rfl⟩;obtain⟨a,e⟩:=f.head;exact⟨a,.tst (by rw[e]) (.inr ⟨rfl,rfl,.inl (Nat.lt_succ_self _)⟩)⟩
 |ref k =>
  rintro p q s b c g f ⟨rfl,rfl,rfl⟩;obtain⟨a,e⟩:=f.head;exact⟨a,.cal k (.inl (by rw[e];rfl)) g (by rw[e];rfl) (λB d=>.inr ⟨rfl,rfl,d⟩)⟩
 |thr l k =>
  rintro p q s b c g f ⟨rfl,rfl,rfl⟩;obtain⟨a,e⟩:=f.head;exact⟨a,.cal k (.inr (by rw[e];rfl)) g (by rw[e];rfl) (λB d=>.inr ⟨rfl,rfl,d⟩)⟩
 |seq x y v w =>
  rintro p q s b c g f (h|⟨C,d,h⟩)
  ·have h:=v _ _ _ _ _ g.1 f.left h;exact⟨h.1,h.2.map [] (λ_ _ _ h=>unQ (uct mk y) h)⟩
  have i:=f.right;rw[emit_len]at i;have h:=w _ _ _ _ _ g.2 i h;exact⟨h.1,h.2.map [] (λ_ _ _ h=>unP d h)⟩
 |alt x y v w =>
  intro p q s b c g f h;have j:=f.head;have i:=f.tail.right;rw[emit_len]at i;have o:=i.head;have z:=i.tail;rw[show p+1+x.len+1=p+x.len+2 by omega]at z;rcases h with⟨rfl,rfl,rfl⟩|⟨s',h|⟨rfl,rfl,h⟩,rfl⟩|h
  ·exact⟨j.1,.hld 0 (.inl ⟨by rw[j.2];rfl,rfl⟩) (by rw[j.2];exact unR (uct mk x _ _))⟩
  ·have h:=v _ _ _ _ _ g.1 f.tail.left h;exact⟨h.1,h.2.map [_] (λ_ _ _ h=>unR h)⟩
  ·exact⟨o.1,.cmt (s:=[]) (p+x.len+y.len+2) _ _ (by rw[o.2];rfl) (by rw[o.2];rfl) (.inr ⟨by simp[EX.len];omega,rfl,h.mono (λe=>by simp[qr,e])⟩)⟩
  have h:=w _ _ _ _ _ g.2 z h;exact⟨h.1,h.2.map [] (λ_ _ _ h=>unS h)⟩
 |star x u =>
  intro p q s b c g f h;have j:=f.head;have i:=f.tail.right;rw[emit_len]at i;have o:=i.head;rcases h with⟨rfl,rfl,rfl⟩|⟨s',C,A,h|⟨rfl,rfl,h⟩,rfl⟩
  ·exact⟨j.1,.hld 0 (.inl ⟨by rw[j.2];rfl,rfl⟩) (by rw[j.2];exact uf7 (Nat.le_refl _) (uct mk x _ _))⟩
  ·have h:=u _ _ _ _ _ g f.tail.left h;exact⟨h.1,h.2.map [_] (λ_ _ _ h=>uf7 A h)⟩
  exact⟨o.1,.prt (s:=[]) (p+1) _ _ (by rw[o.2];rfl) (by rw[o.2];rfl) (uf7 (Nat.le_trans A h.le) (uct mk x _ _))⟩
 |not x u =>
  intro p q s b c g f h;have j:=f.head;have i:=f.tail.right;rw[emit_len]at i;have o:=i.head;rcases h with⟨rfl,rfl,rfl⟩|⟨s',h|⟨rfl,rfl,h⟩,rfl⟩
  ·exact⟨j.1,.hld 1 (.inr ⟨by rw[j.2];rfl,rfl⟩) (by rw[j.2];exact unT (uct mk x _ _))⟩
  ·have h:=u _ _ _ _ _ g f.tail.left h;exact⟨h.1,h.2.map [_] (λ_ _ _ h=>unT h)⟩
  exact⟨o.1,.twi (s:=[]) _ _ (by rw[o.2];rfl)⟩
structure Nod(r:Nat->Int)(m n:Nat)(R:Nat->ur)(mk:Nat->Bool)(k:Nat)(t:EX)(p:Nat):Prop where
 below:t.Below m
 code:Lies n R p (uH r t p)
 pos:0<p
 op:p-1<n/\((R (p-1)).kind=9\/(R (p-1)).kind=10)
 close:p+t.len<n/\(R (p+t.len)).kind=11
 ret:p+t.len+1<n/\(R (p+t.len+1)).kind=7
 nul:qr mk t=true->mk k=true
structure Prg(r:Nat->Int)(m n:Nat)(R:Nat->ur)(mk:Nat->Bool):Prop where
 start:0<n/\(R 0).kind=6/\(R 0).to=r 0
 fin:1<n/\(R 1).kind=12
 node:∀k,k<m->0<=r k->∃t p,Nod r m n R mk k t p/\r k=((p-1:Nat):Int)
 first:0<m
def fm(F:List FrD):Fz:=F.map (λf=>(f.kind,f.to,f.pos))
section
variable (r:Nat->Int) (m n:Nat) (R:Nat->ur) (mk:Nat->Bool)
inductive Cf:Nat->List FrD->Nat->Prop
 |start:Cf 0 [] 0
 |fin {c:Nat}:Dn (mk 0) 0 c->Cf 1 [] c
 |body {k:Nat} {t:EX} {p q q' b c:Nat} {st F:List FrD} {g:FrD}:Nod r m n R mk k t p->AtN mk t p q (fm F) b c->(∀c',Dn (mk k) b c'->Cf q' st c')->g.kind=2->g.to=(q':Int)->Cf q (st++g::F) c
 |opn {k:Nat} {t:EX} {p q' c:Nat} {st:List FrD} {g:FrD}:Nod r m n R mk k t p->(∀c',Dn (mk k) c c'->Cf q' st c')->g.kind=2->g.to=(q':Int)->Cf (p-1) (st++[g]) c
 |ret {k:Nat} {t:EX} {p q' c:Nat} {st:List FrD} {g:FrD}:Nod r m n R mk k t p->Cf q' st c->g.kind=2->g.to=(q':Int)->Cf (p+t.len+1) (st++[g]) c
def ucO(t:MSt):Prop:=(t.done=true/\(t.code=0->Dn (mk 0) 0 t.pos))\/(t.done=false/\(t.at_<0\/∃v:Nat,t.at_=(v:Int)/\Cf r m n R mk v t.st t.pos))
end
theorem uf8{F s' k u m}(h:fm F=s'++[(k,u,m)]):∃a f,F=a++[f]/\fm a=s'/\f.kind=k/\f.to=u/\f.pos=m:=by
 rcases List.eq_nil_or_concat F with rfl|⟨a,f,rfl⟩
 ·simp[fm]at h
 simp only[List.concat_eq_append,fm,List.map_append,List.map_cons,List.map_nil]at h;have c:=List.append_inj_left' h rfl;have b:=List.append_inj_right' h rfl;simp only[List.cons.injEq,Prod.mk.injEq,and_true]at b;exact⟨a,f,by simp,c,b⟩
theorem uf9(st a:List FrD)(g f:FrD):st++g::(a++[f])=(st++g::a)++[f]:=by simp
theorem upZ(s:MSt)(n:Nat)(S:Nat->Int):(s.note n S).st=s.st/\(s.note n S).done=s.done:=by unfold MSt.note;split<;>(try split)<;>exact⟨rfl,rfl⟩
section
variable {r:Nat->Int} {m n:Nat} {R:Nat->ur} {mk:Nat->Bool} {most:Int} {il:Nat} {I:Nat->Int} {fuel:Int}
theorem ulu{q c:Nat}{st:List FrD}(h:Cf r m n R mk q st c):uU st.reverse=none\/∃f l,uU st.reverse=some (f,l)/\∃v:Nat,f.to=(v:Int)/\Cf r m n R mk v l.reverse f.pos:=by
 have i:∀{st:List FrD} {g:FrD},g.kind=2->uU (st++[g]).reverse=uU st.reverse:=λa=>qU _ _ a
 induction h with
 |start=>exact .inl rfl
 |fin=>exact .inl rfl
 |@body k t p q z b c st F g o u j a s d =>
  rcases List.eq_nil_or_concat F with rfl|⟨e,f,rfl⟩
  ·rw[i a];exact d (b+1) (.inl (Nat.lt_succ_self _))
  have hA':AtN mk t p q (fm e++(f.kind,f.to,f.pos) :: []) b c:=by simpa[fm] using u
  obtain⟨x,v,y,w⟩:=ukd mk t p q (fm e) f.kind f.to f.pos [] b c hA';refine .inr ⟨f,(st++g::e).reverse,?_,v,y,?_⟩
  ·rw[List.concat_eq_append,uf9,List.reverse_append];show uU (f::(st++g::e).reverse)=_;rw[uU,if_neg x]
  rw[List.reverse_reverse];exact .body o w j a s
 |@opn k t p z c st g o j a s d=>rw[i a];exact d (c+1) (.inl (Nat.lt_succ_self _))
 |ret _ _ a _ d=>rw[i a];exact d
theorem xz{t:MSt}{v:Nat}(a:t.done=false)(b:t.at_=(v:Int))(h:Cf r m n R mk v t.st t.pos):ucO r m n R mk t:=.inr ⟨a,.inr ⟨v,b,h⟩⟩
theorem qQ(s:MSt){z:Int}(h:z≠0):ucO r m n R mk (s.fin z):=.inl ⟨rfl,λq=>absurd q h⟩
theorem uar{q c:Nat}{s:MSt}(b:s.done=false)(h:Cf r m n R mk q s.st c):ucO r m n R mk s.fail:=by
 unfold MSt.fail;rcases ulu h with e|⟨f,l,e,v,d,a⟩
 ·rw[e];exact qQ s (by decide)
 rw[e];exact xz b d a
theorem ub9{s:MSt}{f:FrD}(h:ucO r m n R mk { s with st:=s.st++[f] }):ucO r m n R mk (s.push f most):=by
 unfold MSt.push;split
 ·exact qQ s (by decide)
 exact h
theorem ua3(f:Prg r m n R mk){q k:Nat}{s:MSt}{x:ur}(b:s.done=false)(j:s.at_=(q:Int))(g:k<m)(e:x.to=r k)(h:∀a,Dn (mk k) s.pos a->Cf r m n R mk (q+1) s.st a):ucO r m n R mk (s.enter x most):=by
 unfold MSt.enter;refine ub9 ?_;by_cases c:x.to<0
 ·exact .inr ⟨b,.inl c⟩
 obtain⟨t,p,d,i⟩:=f.node k g (by rw[<-e];omega);exact xz (v:=p-1) b (by show x.to=_;rw[e,i]) (.opn d h rfl (by show s.at_+1=_;rw[j];rfl))
theorem urY(E:Prg r m n R mk){q:Nat}{s:MSt}(o:s.done=false)(B:s.at_=(q:Int))(h:Cf r m n R mk q s.st s.pos):q<n/\ucO r m n R mk (s.act (R q) il I most):=by
 generalize j:s.st=l at h;generalize x:s.pos=c at h;cases h with
 |start =>
  obtain⟨z,a,y⟩:=E.start;refine⟨z,?_⟩;have e:s.act (R 0) il I most=s.enter (R 0) most:=by unfold MSt.act;simp only[a];simp
  rw[e];exact ua3 E o B E.first y (λN d=>by rw[j];rw[x]at d;exact .fin d)
 |fin d =>
  obtain⟨z,a⟩:=E.fin;refine⟨z,?_⟩;have e:s.act (R 1) il I most=s.fin 0:=by unfold MSt.act;simp only[a,j];simp
  rw[e];exact .inl ⟨rfl,λ_=>by show Dn _ _ s.pos;rw[x];exact d⟩
 |@opn k t p Q _ st g w C H J =>
  obtain⟨z,a⟩:=w.op;refine⟨z,?_⟩;have hp:=w.pos;have V:∀k:Int,ucO r m n R mk (s.put k (R (p-1)).arg):=λk =>
   xz (v:=p) o (by show s.at_+1=_;rw[B];omega) (by show Cf r m n R mk p s.st s.pos;rw[j,x];exact .body (F:=[]) w (uct mk t p _) C H J)
  rcases a with a|a
  ·have e:s.act (R (p-1)) il I most=s.put 0 (R (p-1)).arg:=(by unfold MSt.act;simp only[a];simp);rw[e];exact V 0
  have e:s.act (R (p-1)) il I most=s.put 1 (R (p-1)).arg:=by unfold MSt.act;simp only[a];simp
  rw[e];exact V 1
 |@ret k t p Q _ st g w C H J =>
  obtain⟨z,a⟩:=w.ret;refine⟨z,?_⟩;have y:s.top 2=true:=by unfold MSt.top;rw[j];simp[H]
  have e:s.act (R (p+t.len+1)) il I most={ s.pop with at_:=kX s.st }:=by unfold MSt.act;simp only[a,y];simp
  rw[e];exact xz (v:=Q) o (by show kX s.st=_;unfold kX;rw[j];simp[J]) (by show Cf r m n R mk Q s.st.dropLast s.pos;rw[j,List.dropLast_concat,x];exact C)
 |@body k t p _ Q b _ st F g w P C H J =>
  have mk':∀{v:Nat} {F:List FrD} {c:Nat},AtN mk t p v (fm F) b c->Cf r m n R mk v (st++g::F) c:=λh=>.body w h C H J
  rcases P with P|⟨rfl,A,d⟩
  ·obtain⟨z,W⟩:=upY r m n R mk t p q (fm F) b c w.below w.code P;refine⟨z,?_⟩;have S:Cf r m n R mk q s.st s.pos:=(by rw[j,x];exact mk' (.inl P));generalize A:fm F=fs at W;cases W with
   |tst a h =>
    have e:s.act (R q) il I most=s.test (R q).sl (R q).set il I:=(by unfold MSt.act;simp only[a];simp);rw[e];unfold MSt.test;split
    ·exact xz (v:=q+1) o (by show s.at_+1=_;rw[B];rfl) (by show Cf r m n R mk _ s.st (s.pos+1);rw[j,x];exact mk' (by rw[A];exact h))
    split
    ·exact uar o S
    obtain⟨Y,O⟩:=upZ s (R q).sl (R q).set;exact uar (q:=q) (c:=s.pos) (by rw[O];exact o) (by rw[Y];exact S)
   |cal i a U y h =>
    have T:∀N,Dn (mk i) s.pos N->Cf r m n R mk (q+1) s.st N:=λN d=>by
     rw[x]at d;rw[j];exact mk' (by rw[A];exact h N d)
    rcases a with a|a
    ·have e:s.act (R q) il I most=s.enter (R q) most:=(by unfold MSt.act;simp only[a];simp);rw[e];exact ua3 E o B U y T
    have e:s.act (R q) il I most=if s.inNot then s.fail else if (R q).to<0 then ({ s with throws:=s.throws+1,label:=(R q).arg }).fin 2 else ({ s with throws:=s.throws+1 }).enter (R q) most:=by unfold MSt.act;simp only[a];simp
    rw[e];split
    ·exact uar o S
    split
    ·exact qQ _ (by decide)
    exact ua3 E (s:={ s with throws:=s.throws+1 }) o B U y T
   |hld i a h =>
    have e:s.act (R q) il I most=s.hold i (R q).to most:=by
     rcases a with⟨a,rfl⟩|⟨a,rfl⟩<;>(unfold MSt.act;simp only[a];simp)
    rw[e];refine ub9 (xz (v:=q+1) o (by show s.at_+1=_;rw[B];rfl) ?_);show Cf r m n R mk (q+1) (s.st++[_]) s.pos;rw[j,x,List.append_assoc];exact mk' (F:=F++[(⟨i,(R q).to,c,s.log.length⟩:FrD)]) (by rw[<-A]at h;simpa[fm] using h)
   |cmt v u X a O h =>
    obtain⟨L,f,rfl,D,G⟩:=uf8 A;rw[uf9]at j;have y:s.top 0=true:=(by unfold MSt.top;rw[j,List.getLast?_concat];simp[G.1]);have e:s.act (R q) il I most={ s.pop with at_:=(R q).to }:=(by unfold MSt.act;simp only[a,y];simp);rw[e];exact xz (v:=v) o O (by show Cf r m n R mk v s.st.dropLast s.pos;rw[j,List.dropLast_concat,x];exact mk' (by rw[D];exact h))
   |prt v u X a O h =>
    obtain⟨L,f,rfl,D,G⟩:=uf8 A;rw[uf9]at j;have y:s.top 0=true:=(by unfold MSt.top;rw[j,List.getLast?_concat];simp[G.1]);have e:s.act (R q) il I most=({ s.pop with at_:=(R q).to }).push ⟨0,kX s.st,s.pos,s.log.length⟩ most:=(by unfold MSt.act;simp only[a,y];simp);have aa:kX s.st=u:=(by unfold kX;rw[j,List.getLast?_concat];exact G.2.1);rw[e,aa,x];refine ub9 (xz (v:=v) o O ?_);show Cf r m n R mk v (s.st.dropLast++[_]) s.pos;rw[j,List.dropLast_concat,x,List.append_assoc];refine mk' (F:=L++[_]) ?_;rw[<-D]at h;simpa[fm] using h
   |twi u X a =>
    obtain⟨L,f,rfl,D,G⟩:=uf8 A;rw[uf9]at j;have y:s.top 1=true:=(by unfold MSt.top;rw[j,List.getLast?_concat];simp[G.1]);have e:s.act (R q) il I most=s.pop.fail:=(by unfold MSt.act;simp only[a,y];simp);rw[e];have hA':AtN mk t p q (fm L++(f.kind,f.to,f.pos) :: []) b c:=.inl (by simpa[fm] using P);obtain⟨_,v,_,Z⟩:=ukd mk t p q (fm L) f.kind f.to f.pos [] b c hA';exact uar (q:=v) (c:=f.pos) (s:=s.pop) o (by show Cf r m n R mk v s.st.dropLast _;rw[j,List.dropLast_concat];exact mk' Z)
  obtain⟨z,a⟩:=w.close;refine⟨z,?_⟩;have D:F = []:=by simpa[fm] using A
  subst D;have e:s.act (R (p+t.len)) il I most=s.put 2 (R (p+t.len)).arg:=by unfold MSt.act;simp only[a];simp
  rw[e];exact xz (v:=p+t.len+1) o (by show s.at_+1=_;rw[B];rfl) (by show Cf r m n R mk _ s.st s.pos;rw[j,x];exact .ret w (C _ (d.mono w.nul)) H J)
theorem up0(d:Prg r m n R mk){s:MSt}(h:ucO r m n R mk s)(b:s.done=false):ucO r m n R mk (s.next n R il I fuel most):=by
 unfold MSt.next;rcases h with⟨q,_⟩|⟨_,h|⟨v,a,c⟩⟩
 ·rw[b]at q;cases q
 ·rw[if_pos (.inl h)];exact qQ s (by decide)
 obtain⟨f,h⟩:=urY d (s:={ s with steps:=s.steps+1 }) (il:=il) (I:=I) (most:=most) b a c;rw[if_neg (by rw[a];omega)];split
 ·exact qQ s (by decide)
 have e:s.at_.toNat=v:=by rw[a];rfl
 rw[e];exact h
theorem unU(b:Prg r m n R mk){s t:MSt}(h:Ends n R il I fuel most s t):ucO r m n R mk s->t.code=0->Dn (mk 0) 0 t.pos:=by
 induction h with
 |over a =>
  intro h;rcases h with⟨_,q⟩|⟨q,_⟩
  ·exact q
  rw[a]at q;cases q
 |go a _ c=>exact λh=>c (up0 b h a)
theorem ui2:ucO r m n R mk ⟨0,0,[],[],0,λ_=>false,0,0,false,0,0⟩:=xz (v:=0) rfl rfl .start
end
theorem ufh r a b c{k m}(h:k<=m):∃l,progC r a b c m=progC r a b c k++l:=by
 induction m with
 |zero =>
   obtain rfl:k=0:=(by omega);exact⟨[],by simp⟩
 |succ m f =>
  by_cases e:k=m+1
  ·subst e;exact⟨[],by simp⟩
  obtain⟨l,d⟩:=f (by omega);rw[progC,d];split
  ·exact⟨l++nodeC r (a m) (b m) (progC r a b c k++l).length,by rw[List.append_assoc]⟩
  exact⟨l,rfl⟩
def ulv(l:List ur)(i:Nat):ur:=l.getD i (ins 0 0 0)
theorem uhL l a b c(h:l=a++(b++c)):Lies l.length (ulv l) a.length b:=λi x d=>by
 have e:=(List.getElem?_eq_some_iff.1 d).1;refine⟨by rw[h];simp;omega,?_⟩;unfold ulv;rw[h,List.getD_eq_getElem?_getD,List.getElem?_append_right (by omega),Nat.add_sub_cancel_left,List.getElem?_append_left e,d];rfl
theorem unV c b a mk m(s:0<m)(t:∀p,(c p).kind=9\/(c p).kind=10)(j:∀i,i<m->a i=true->(b i).Below m/\(qr mk (b i)=true->mk i=true)) :
  Prg (placeC c b a) m (progC (placeC c b a) c b a m).length (ulv (progC (placeC c b a) c b a m)) mk:=by
 have v:∀k,a k=true->placeC c b a k=((progC (placeC c b a) c b a k).length:Int):=λk f=>by
  unfold placeC;rw[if_pos f,progC_len (λ_=>0) _ c b a k]
 generalize w:placeC c b a=r at *;obtain⟨l,q⟩:=ufh r c b a (k:=0) (m:=m) (by omega);have o:Lies (progC r c b a m).length (ulv (progC r c b a m)) 0 (progC r c b a 0):=uhL _ [] _ l (by rw[q];rfl);refine⟨?_,?_,λk f x=>?_,s⟩
 ·have h:=o 0 (ins 6 0 (r 0)) rfl;exact⟨h.1,by rw[h.2];rfl,by rw[h.2];rfl⟩
 ·have h:=o 1 (ins 12 0 0) rfl;exact⟨h.1,by rw[h.2];rfl⟩
 have g:a k=true:=by
  cases e:a k with
  |true=>rfl
  |false =>
   have:r k = -1:=(by rw[<-w];unfold placeC;rw[e];rfl);omega
 obtain⟨l2,n⟩:=ufh r c b a (k:=k+1) (m:=m) (by omega);rw[progC,if_pos g,List.append_assoc]at n;have d:=uhL _ _ _ l2 n;have u:=v k g;generalize (progC r c b a k).length=p at *;have h:=d.tail.right;rw[emit_len]at h;exact⟨b k,p+1,⟨(j k f g).1,d.tail.left,by omega,⟨d.head.1,by rw[Nat.add_sub_cancel,d.head.2];exact t k⟩,⟨h.head.1,by rw[h.head.2];rfl⟩,⟨h.tail.head.1,by rw[h.tail.head.2];rfl⟩,(j k f g).2⟩,by rw[u];rfl⟩
end
end Go.Proofs.YtimfigongapdnaaGreat
