import Derived.Test.YtimfigongapdnaaGreatT27
set_option linter.unusedVariables false
set_option linter.unusedSimpArgs false
set_option maxHeartbeats 40000000
set_option maxRecDepth 100000
namespace Go.Proofs.YtimfigongapdnaaGreat
open Go.RowKit
open M (OpD ug Gr)
inductive PE where
 |ref (t:Tok)
 |thr (c t:Tok)
 |str (t:Tok)
 |cls (t:Tok)
 |dot (t:Tok)
 |grp (o:Tok) (e:PE) (c:Tok)
 |star (e:PE) (t:Tok)
 |opt (e:PE) (t:Tok)
 |not (t:Tok) (e:PE)
 |amp (t:Tok) (e:PE)
 |emp
 |seq (a b:PE)
 |alt (a:PE) (t:Tok) (b:PE)
def PE.tk:PE->List Tok
 |.ref t=>[t]
 |.thr c t=>[c,t]
 |.str t=>[t]
 |.cls t=>[t]
 |.dot t=>[t]
 |.grp o e c=>o::(e.tk++[c])
 |.star e t=>e.tk++[t]
 |.opt e t=>e.tk++[t]
 |.not t e=>t::e.tk
 |.amp t e=>t::e.tk
 |.emp=>[]
 |.seq a b=>a.tk++b.tk
 |.alt a t b=>a.tk++t::b.tk
def PE.ok:PE->Nat->Prop
 |.ref t,_=>t.kind=110
 |.thr c t,_=>c.kind=94/\t.kind=110
 |.str t,_=>t.kind=34
 |.cls t,_=>t.kind=91
 |.dot t,_=>t.kind=46
 |.grp o e c,_=>o.kind=40/\c.kind=41/\e.ok 5
 |.star e t,l=>1<=l/\t.kind=42/\e.ok 0
 |.opt e t,l=>1<=l/\t.kind=63/\e.ok 0
 |.not t e,l=>2<=l/\t.kind=33/\e.ok 2
 |.amp t e,l=>2<=l/\t.kind=38/\e.ok 2
 |.emp,l=>4<=l
 |.seq a b,l=>3<=l/\a.ok 3/\b.ok 2
 |.alt a t b,l=>5<=l/\t.kind=47/\a.ok 5/\b.ok 4
theorem PE.ok_mono:∀(e:PE) {l m:Nat},l<=m->e.ok l->e.ok m
 |.ref _,_,_,_,h=>h
 |.thr _ _,_,_,_,h=>h
 |.str _,_,_,_,h=>h
 |.cls _,_,_,_,h=>h
 |.dot _,_,_,_,h=>h
 |.grp _ _ _,_,_,_,h=>h
 |.star _ _,_,_,hl,h=>⟨Nat.le_trans h.1 hl,h.2⟩
 |.opt _ _,_,_,hl,h=>⟨Nat.le_trans h.1 hl,h.2⟩
 |.not _ _,_,_,hl,h=>⟨Nat.le_trans h.1 hl,h.2⟩
 |.amp _ _,_,_,hl,h=>⟨Nat.le_trans h.1 hl,h.2⟩
 |.emp,_,_,hl,h=>Nat.le_trans h hl
 |.seq _ _,_,_,hl,h=>⟨Nat.le_trans h.1 hl,h.2⟩
 |.alt _ _ _,_,_,hl,h=>⟨Nat.le_trans h.1 hl,h.2⟩
def ke:List Int->List OpD
 |[]=>uq 0 0
 |x::r=>r.foldl (λa y=>a++uF (vz y)++[opd 4 0]) (uF (vz x))
def PE.ops(d c:List (List Int)):PE->List OpD
 |.ref t=>uq 2 (xC t.nm d 0)
 |.thr _ t=>uq 3 (xC t.nm c 0)
 |.str t=>ke t.nm
 |.cls t=>uF t.set
 |.dot _=>uF [0,255]
 |.grp _ e _=>e.ops d c
 |.star e _=>unD 6 (e.ops d c)
 |.opt e _=>uI 5 (e.ops d c) (uq 0 0)
 |.not _ e=>unD 7 (e.ops d c)
 |.amp _ e=>unD 7 (unD 7 (e.ops d c))
 |.emp=>uq 0 0
 |.seq a b=>uI 4 (a.ops d c) (b.ops d c)
 |.alt a _ b=>uI 5 (a.ops d c) (b.ops d c)
def yO(k:Int)(d:Int):Int:=if k=40 then d+1 else if k=41 then d-1 else d
def vX:Int->List Tok->Nat
 |_,[]=>0
 |d,x::r=>if yO x.kind d=0 then 1 else vX (yO x.kind d) r+1
def vN:Nat->Int->Int->List Tok->Int
 |_,_,bar,[]=>bar
 |i,d,bar,x::r=>vN (i+1) (yO x.kind d) (if x.kind=47/\d=0 then i else bar) r
theorem uL{k}(h:k≠40)(a:k≠41)d:yO k d=d:=by unfold yO;rw[if_neg h,if_neg a]
theorem xO d:yO 40 d=d+1:=rfl
theorem kS d:yO 41 d=d-1:=rfl
theorem uaj{d x r}(h:yO x.kind d≠0):vX d (x::r)=vX (yO x.kind d) r+1:=by rw[vX,if_neg h]
theorem upC:∀(e:PE) (l:Nat),e.ok l->∀(d:Int) (r:List Tok),0<d->vX d (e.tk++r)=e.tk.length+vX d r:=by
 have j:∀(t:Tok) (d:Int) (r:List Tok),t.kind≠40->t.kind≠41->0<d->vX d (t::r)=vX d r+1:=λt d r h q f=>by
  rw[uaj (by rw[uL h q];omega),uL h q]
 intro e;induction e with
 |ref t=>intro l h d r f;have:t.kind=110:=h;rw[PE.tk,List.singleton_append,j t d r (by omega) (by omega) f,List.length_singleton];omega
 |str t=>intro l h d r f;have:t.kind=34:=h;rw[PE.tk,List.singleton_append,j t d r (by omega) (by omega) f,List.length_singleton];omega
 |cls t=>intro l h d r f;have:t.kind=91:=h;rw[PE.tk,List.singleton_append,j t d r (by omega) (by omega) f,List.length_singleton];omega
 |dot t=>intro l h d r f;have:t.kind=46:=h;rw[PE.tk,List.singleton_append,j t d r (by omega) (by omega) f,List.length_singleton];omega
 |thr c t =>
  intro l h d r f;obtain⟨m,i⟩:=h;show vX d (c::t::r)=2+_;rw[j c d _ (by omega) (by omega) f,j t d _ (by omega) (by omega) f];omega
 |grp o e c k =>
  intro l h d r f;obtain⟨m,i,g⟩:=h;show vX d (o::((e.tk++[c])++r))=(e.tk++[c]).length+1+_;rw[uaj (by rw[m,xO];omega),m,xO,List.append_assoc,k 5 g (d+1) _ (by omega)];show e.tk.length+vX (d+1) (c::r)+1=_;rw[uaj (by rw[i,kS];omega),i,kS,List.length_append,List.length_singleton,show d+1-1=d by omega];omega
 |star e t k =>
  intro l h d r f;obtain⟨_,i,g⟩:=h;show vX d ((e.tk++[t])++r)=(e.tk++[t]).length+_;rw[List.append_assoc,k 0 g d _ f,List.singleton_append,j t d r (by omega) (by omega) f,List.length_append,List.length_singleton];omega
 |opt e t k =>
  intro l h d r f;obtain⟨_,i,g⟩:=h;show vX d ((e.tk++[t])++r)=(e.tk++[t]).length+_;rw[List.append_assoc,k 0 g d _ f,List.singleton_append,j t d r (by omega) (by omega) f,List.length_append,List.length_singleton];omega
 |not t e k =>
  intro l h d r f;obtain⟨_,i,g⟩:=h;show vX d (t::(e.tk++r))=e.tk.length+1+_;rw[j t d _ (by omega) (by omega) f,k 2 g d r f];omega
 |amp t e k =>
  intro l h d r f;obtain⟨_,i,g⟩:=h;show vX d (t::(e.tk++r))=e.tk.length+1+_;rw[j t d _ (by omega) (by omega) f,k 2 g d r f];omega
 |emp=>intro l h d r f;show vX d r=0+_;omega
 |seq a b n p =>
  intro l h d r f;obtain⟨_,i,g⟩:=h;show vX d ((a.tk++b.tk)++r)=(a.tk++b.tk).length+_;rw[List.append_assoc,n 3 i d _ f,p 2 g d r f,List.length_append];omega
 |alt a t b n p =>
  intro l h d r f;obtain⟨_,m,i,g⟩:=h;show vX d ((a.tk++t::b.tk)++r)=(a.tk++t::b.tk).length+_;rw[List.append_assoc,n 5 i d _ f,List.cons_append,j t d _ (by omega) (by omega) f,p 4 g d r f,List.length_append,List.length_cons];omega
theorem xh i d a x r:vN i d a (x::r)=vN (i+1) (yO x.kind d) (if x.kind=47/\d=0 then i else a) r:=rfl
theorem uc0:∀(e:PE) (l:Nat),e.ok l->∀(i:Nat) (d f:Int) (r:List Tok),(l<=4\/0<d)->0<=d->vN i d f (e.tk++r)=vN (i+e.tk.length) d f r:=by
 have m:∀(t:Tok) (i:Nat) (d f:Int) (r:List Tok),t.kind≠40->t.kind≠41->t.kind≠47->vN i d f (t::r)=vN (i+1) d f r:=λt i d f r h w x=>by
  rw[xh,uL h w,if_neg (λq=>x q.1)]
 intro e;induction e with
 |ref t=>intro l h i d f r _ _;have:t.kind=110:=h;exact m t i d f r (by omega) (by omega) (by omega)
 |str t=>intro l h i d f r _ _;have:t.kind=34:=h;exact m t i d f r (by omega) (by omega) (by omega)
 |cls t=>intro l h i d f r _ _;have:t.kind=91:=h;exact m t i d f r (by omega) (by omega) (by omega)
 |dot t=>intro l h i d f r _ _;have:t.kind=46:=h;exact m t i d f r (by omega) (by omega) (by omega)
 |thr c t =>
  intro l h i d f r _ _;obtain⟨s,k⟩:=h;show vN i d f (c::t::r)=_;rw[m c i d f _ (by omega) (by omega) (by omega),m t _ d f _ (by omega) (by omega) (by omega)];rfl
 |grp o e c n =>
  intro l h i d f r _ g;obtain⟨s,k,j⟩:=h;show vN i d f (o::((e.tk++[c])++r))=vN (i+((e.tk++[c]).length+1)) d f r;rw[xh,if_neg (λq=>by omega),s,xO,List.append_assoc,n 5 j _ (d+1) _ _ (.inr (by omega)) (by omega)];show vN _ (d+1) f (c::r)=_;rw[xh,if_neg (λq=>by omega),k,kS,List.length_append,List.length_singleton,show d+1-1=d by omega];congr 1;omega
 |star e t n =>
  intro l h i d f r p g;obtain⟨_,k,j⟩:=h;show vN i d f ((e.tk++[t])++r)=vN (i+(e.tk++[t]).length) d f r;rw[List.append_assoc,n 0 j _ d _ _ (.inl (by omega)) g,List.singleton_append,m t _ d f r (by omega) (by omega) (by omega),List.length_append,List.length_singleton];congr 1
 |opt e t n =>
  intro l h i d f r p g;obtain⟨_,k,j⟩:=h;show vN i d f ((e.tk++[t])++r)=vN (i+(e.tk++[t]).length) d f r;rw[List.append_assoc,n 0 j _ d _ _ (.inl (by omega)) g,List.singleton_append,m t _ d f r (by omega) (by omega) (by omega),List.length_append,List.length_singleton];congr 1
 |not t e n =>
  intro l h i d f r p g;obtain⟨_,k,j⟩:=h;show vN i d f (t::(e.tk++r))=vN (i+(e.tk.length+1)) d f r;rw[m t i d f _ (by omega) (by omega) (by omega),n 2 j _ d _ _ (.inl (by omega)) g];congr 1;omega
 |amp t e n =>
  intro l h i d f r p g;obtain⟨_,k,j⟩:=h;show vN i d f (t::(e.tk++r))=vN (i+(e.tk.length+1)) d f r;rw[m t i d f _ (by omega) (by omega) (by omega),n 2 j _ d _ _ (.inl (by omega)) g];congr 1;omega
 |emp=>intro l h i d f r _ _;rfl
 |seq a b u v =>
  intro l h i d f r p g;obtain⟨_,k,j⟩:=h;show vN i d f ((a.tk++b.tk)++r)=vN (i+(a.tk++b.tk).length) d f r;rw[List.append_assoc,u 3 k _ d _ _ (.inl (by omega)) g,v 2 j _ d _ _ (.inl (by omega)) g,List.length_append];congr 1;omega
 |alt a t b u v =>
  intro l h i d f r p g;obtain⟨y,s,k,j⟩:=h;have hd':0<d:=by omega
  show vN i d f ((a.tk++t::b.tk)++r)=vN (i+(a.tk++t::b.tk).length) d f r;rw[List.append_assoc,u 5 k _ d _ _ (.inr hd') g,List.cons_append,xh,if_neg (λq=>by omega),uL (by omega) (by omega),v 4 j _ d _ _ (.inl (by omega)) g,List.length_append,List.length_cons];congr 1;omega
theorem ulb(e:PE)(h:e.ok 5)(i:Nat)(c:Int):∃d,∀r,vN i 0 c (e.tk++r)=vN (i+e.tk.length) 0 d r:=by
 induction e generalizing i c with
 |alt a t b l m =>
  obtain⟨_,g,j,k⟩:=h;obtain⟨b1,f⟩:=l j i c;refine⟨((i+a.tk.length:Nat):Int),λr=>?_⟩;show vN i 0 c ((a.tk++t::b.tk)++r)=vN (i+(a.tk++t::b.tk).length) 0 _ r;rw[List.append_assoc,f,List.cons_append,xh,if_pos ⟨g,rfl⟩,uL (by omega) (by omega),uc0 b 4 k _ 0 _ _ (.inl (by omega)) (by omega),List.length_append,List.length_cons];congr 1;omega
 |_=>exact⟨c,λr=>uc0 _ 4 (by first|exact h|exact⟨by omega,h.2⟩|exact Nat.le_refl 4) i 0 c r (.inl (by omega)) (by omega)⟩
theorem unb(e:PE)(h:e.ok 4):vN 0 0 (-1) e.tk = -1:=by
 have:=uc0 e 4 h 0 0 (-1) [] (.inl (by omega)) (by omega);rw[List.append_nil]at this;exact this
theorem upD a t b(h:(PE.alt a t b).ok 5):vN 0 0 (-1) (PE.alt a t b).tk=(a.tk.length:Int):=by
 obtain⟨_,d,e,f⟩:=h;obtain⟨b1,c⟩:=ulb a e 0 (-1);show vN 0 0 (-1) (a.tk++t::b.tk)=_;rw[c,xh,if_pos ⟨d,rfl⟩,uL (by omega) (by omega)];have:=uc0 b 4 f (0+a.tk.length+1) 0 ((0+a.tk.length:Nat):Int) [] (.inl (by omega)) (by omega);rw[List.append_nil]at this;rw[this,vN];omega
def kAt(l:List Tok)(i:Nat):Int:=match l[i]? with|some x=>x.kind|none=>0
def yP:List Tok->Nat
 |[]=>0
 |x::r=>if x.kind=33\/x.kind=38 then yP r+1 else 0
def qk(l:List Tok):Nat:=if kAt l 0=94 then 1+vX 0 (l.drop 1) else vX 0 l
def unc(l:List Tok)(i:Nat):Nat:=if kAt l i=42\/kAt l i=63 then i+1 else i
def kT(l:List Tok):Nat:=yP l+unc (l.drop (yP l)) (qk (l.drop (yP l)))
theorem qL(e:PE)(h:e.ok 0)(r:List Tok):yP (e.tk++r)=0/\qk (e.tk++r)=e.tk.length:=by
 have b:∀(t:Tok),t.kind≠33->t.kind≠38->t.kind≠94->t.kind≠40->t.kind≠41->yP (t::r)=0/\qk (t::r)=1:=λt a d f g i=>by
  refine⟨by rw[yP,if_neg (by omega)],?_⟩;unfold qk;rw[if_neg (by show ¬t.kind=94;exact f),vX,uL g i,if_pos rfl]
 cases e with
 |ref t=>have:t.kind=110:=h;exact b t (by omega) (by omega) (by omega) (by omega) (by omega)
 |str t=>have:t.kind=34:=h;exact b t (by omega) (by omega) (by omega) (by omega) (by omega)
 |cls t=>have:t.kind=91:=h;exact b t (by omega) (by omega) (by omega) (by omega) (by omega)
 |dot t=>have:t.kind=46:=h;exact b t (by omega) (by omega) (by omega) (by omega) (by omega)
 |thr c t =>
  obtain⟨a,d⟩:=h;refine⟨by show yP (c::t::r)=0;rw[yP,if_neg (by omega)],?_⟩;show qk (c::t::r)=2;unfold qk;rw[if_pos (by show c.kind=94;exact a)];show 1+vX 0 (t::r)=2;rw[vX,uL (by omega) (by omega),if_pos rfl]
 |grp o e c =>
  obtain⟨a,d,f⟩:=h;refine⟨by show yP (o::_)=0;rw[yP,if_neg (by omega)],?_⟩;show qk (o::((e.tk++[c])++r))=(e.tk++[c]).length+1;unfold qk;rw[if_neg (by show ¬o.kind=94;omega),uaj (by rw[a,xO];omega),a,xO,List.append_assoc,upC e 5 f _ _ (by omega)];show e.tk.length+vX (0+1) (c::r)+1=_;rw[vX,d,kS,if_pos (by omega),List.length_append,List.length_singleton]
 |star _ _=>exact absurd h.1 (by omega)
 |opt _ _=>exact absurd h.1 (by omega)
 |not _ _=>exact absurd h.1 (by omega)
 |amp _ _=>exact absurd h.1 (by omega)
 |emp=>exact absurd h (by show ¬(4<=0);omega)
 |seq _ _=>exact absurd h.1 (by omega)
 |alt _ _ _=>exact absurd h.1 (by omega)
theorem ue6 l r:kAt (l++r) l.length=kAt r 0:=by unfold kAt;rw[List.getElem?_append_right (Nat.le_refl _),Nat.sub_self]
theorem uhn:∀(e:PE),e.ok 2->∀(r:List Tok),kAt r 0≠42->kAt r 0≠63->kT (e.tk++r)=e.tk.length:=by
 have g:∀(e:PE),e.ok 0->∀(r:List Tok),kAt r 0≠42->kAt r 0≠63->kT (e.tk++r)=e.tk.length:=λe h r d f=>by
  obtain⟨p1,p2⟩:=qL e h r;unfold kT;rw[p1,List.drop_zero,p2];unfold unc;rw[ue6,if_neg (λq=>q.elim d f)];omega
 have n:∀(e:PE) (t:Tok),e.ok 0->(t.kind=42\/t.kind=63)->∀(r:List Tok),kT ((e.tk++[t])++r)=(e.tk++[t]).length:=λe t h k r=>by
  rw[List.append_assoc];obtain⟨p1,p2⟩:=qL e h ([t]++r);unfold kT;rw[p1,List.drop_zero,p2];unfold unc;rw[ue6,if_pos (by exact k),List.length_append,List.length_singleton];omega
 have pre:∀(t:Tok) (l:List Tok),(t.kind=33\/t.kind=38)->kT (t::l)=kT l+1:=λt l k=>by
  unfold kT;rw[yP,if_pos k];show yP l+1+unc (l.drop (yP l)) (qk (l.drop (yP l)))=_;omega
 intro e;induction e with
 |not t e m =>
  intro h r d f;obtain⟨_,i,j⟩:=h;show kT (t::(e.tk++r))=e.tk.length+1;rw[pre t _ (.inl i),m j r d f]
 |amp t e m =>
  intro h r d f;obtain⟨_,i,j⟩:=h;show kT (t::(e.tk++r))=e.tk.length+1;rw[pre t _ (.inr i),m j r d f]
 |star e t _=>intro h r _ _;exact n e t h.2.2 (.inl h.2.1) r
 |opt e t _=>intro h r _ _;exact n e t h.2.2 (.inr h.2.1) r
 |emp=>intro h;exact absurd h (by show ¬(4<=2);omega)
 |seq a b _ _=>intro h;exact absurd h.1 (by omega)
 |alt a t b _ _=>intro h;exact absurd h.1 (by omega)
 |ref t=>intro h r d f;exact g _ h r d f
 |thr c t=>intro h r d f;exact g _ h r d f
 |str t=>intro h r d f;exact g _ h r d f
 |cls t=>intro h r d f;exact g _ h r d f
 |dot t=>intro h r d f;exact g _ h r d f
 |grp o e c _=>intro h r d f;exact g _ h r d f
theorem vW:∀(e:PE),e.ok 2->∀(r:List Tok),kAt (e.tk++r) 0≠42/\kAt (e.tk++r) 0≠63/\0<e.tk.length:=by
 intro e;induction e with
 |not t e f=>intro h r;have d:=h.2.1;exact⟨by show t.kind≠42;omega,by show t.kind≠63;omega,by simp[PE.tk]⟩
 |amp t e f=>intro h r;have d:=h.2.1;exact⟨by show t.kind≠42;omega,by show t.kind≠63;omega,by simp[PE.tk]⟩
 |star e t f =>
  intro h r;have:=f (PE.ok_mono e (by omega) h.2.2) ([t]++r);show kAt ((e.tk++[t])++r) 0≠42/\kAt ((e.tk++[t])++r) 0≠63/\0<(e.tk++[t]).length;rw[List.append_assoc];exact⟨this.1,this.2.1,by simp⟩
 |opt e t f =>
  intro h r;have:=f (PE.ok_mono e (by omega) h.2.2) ([t]++r);show kAt ((e.tk++[t])++r) 0≠42/\kAt ((e.tk++[t])++r) 0≠63/\0<(e.tk++[t]).length;rw[List.append_assoc];exact⟨this.1,this.2.1,by simp⟩
 |emp=>intro h;exact absurd h (by show ¬(4<=2);omega)
 |seq a b _ _=>intro h;exact absurd h.1 (by omega)
 |alt a t b _ _=>intro h;exact absurd h.1 (by omega)
 |ref t=>intro h r;have d:t.kind=110:=h;exact⟨by show t.kind≠42;omega,by show t.kind≠63;omega,by simp[PE.tk]⟩
 |thr c t=>intro h r;have d:=h.1;exact⟨by show c.kind≠42;omega,by show c.kind≠63;omega,by simp[PE.tk]⟩
 |str t=>intro h r;have d:t.kind=34:=h;exact⟨by show t.kind≠42;omega,by show t.kind≠63;omega,by simp[PE.tk]⟩
 |cls t=>intro h r;have d:t.kind=91:=h;exact⟨by show t.kind≠42;omega,by show t.kind≠63;omega,by simp[PE.tk]⟩
 |dot t=>intro h r;have d:t.kind=46:=h;exact⟨by show t.kind≠42;omega,by show t.kind≠63;omega,by simp[PE.tk]⟩
 |grp o e c _=>intro h r;have d:=h.1;exact⟨by show o.kind≠42;omega,by show o.kind≠63;omega,by simp[PE.tk]⟩
def beg(k:Int):Prop:=k=33\/k=38\/k=94\/k=46\/k=40\/k=110\/k=34\/k=91
instance (k:Int):Decidable (beg k):=by unfold beg;infer_instance
def pos(n:Nat):List Tok->Nat
 |[]=>n
 |x::_=>x.at_
def rd(n:Nat):Nat->Nat->PE->List Tok->Sum Nat (PE×List Tok)
 |0,_,_,l=>.inl (pos n l)
 |f+1,0,_,l =>
  match l with
  |[]=>.inl n
  |x::r =>
   if x.kind=110 then .inr (.ref x,r)
   else if x.kind=34 then .inr (.str x,r)
   else if x.kind=91 then .inr (.cls x,r)
   else if x.kind=46 then .inr (.dot x,r)
   else if x.kind=94 then
    (match r with
    |[]=>.inl n
    |y::r'=>if y.kind=110 then .inr (.thr x y,r') else .inl y.at_)
   else if x.kind=40 then
    (match rd n f 5 .emp r with
    |.inl p=>.inl p
    |.inr (e,r') =>
     match r' with
     |[]=>.inl n
     |y::r''=>if y.kind=41 then .inr (.grp x e y,r'') else .inl y.at_)
   else .inl x.at_
 |f+1,1,_,l =>
  match rd n f 0 .emp l with
  |.inl p=>.inl p
  |.inr (e,r) =>
   match r with
   |[]=>.inr (e,[])
   |x::r'=>if x.kind=42 then .inr (.star e x,r') else if x.kind=63 then .inr (.opt e x,r') else .inr (e,x::r')
 |f+1,2,_,l =>
  match l with
  |[]=>.inl n
  |x::r =>
   if x.kind=33 then (match rd n f 2 .emp r with|.inl p=>.inl p|.inr (e,r')=>.inr (.not x e,r'))
   else if x.kind=38 then (match rd n f 2 .emp r with|.inl p=>.inl p|.inr (e,r')=>.inr (.amp x e,r'))
   else rd n f 1 .emp (x::r)
 |f+1,3,acc,l =>
  if beg (kAt l 0) then (match rd n f 2 .emp l with|.inl p=>.inl p|.inr (e,r)=>rd n f 3 (.seq acc e) r) else .inr (acc,l)
 |f+1,4,_,l =>
  if beg (kAt l 0) then (match rd n f 2 .emp l with|.inl p=>.inl p|.inr (e,r)=>rd n f 3 e r) else .inr (.emp,l)
 |f+1,5,_,l =>
  match rd n f 4 .emp l with
  |.inl p=>.inl p
  |.inr (e,r)=>rd n f 6 e r
 |f+1,6,acc,l =>
  match l with
  |[]=>.inr (acc,[])
  |x::r =>
   if x.kind=47 then (match rd n f 4 .emp r with|.inl p=>.inl p|.inr (e,r')=>rd n f 6 (.alt acc x e) r') else .inr (acc,x::r)
 |_+1,_+7,_,l=>.inl (pos n l)
theorem xf n{s}d(h:s≠0):uv n [] s d=n:=by rw[uv,if_neg h]
theorem xT n{x r s d}(h:x.kind=0\/(uN s d x.kind).1=7):uv n (x::r) s d=x.at_:=by
 rw[uv];by_cases a:x.kind=0
 ·rw[if_pos a]
 rw[if_neg a,if_pos (h.resolve_left a)]
theorem ve n{x r s d s' a}(b:x.kind≠0)(h:uN s d x.kind=(s',a))(c:s'≠7):uv n (x::r) s d=uv n r s' a:=by
 rw[uv,if_neg b,h,if_neg c]
def St(s:Nat):Prop:=s=3\/s=4\/s=6
theorem upo{s d k}(b:St s)(a:k=110\/k=34\/k=91\/k=46):uN s d k=(6,d):=by
 rcases b with rfl|rfl|rfl<;>rcases a with rfl|rfl|rfl|rfl<;>rfl
theorem urE{s d k}(b:St s)(a:k=33\/k=38):uN s d k=(4,d):=by
 rcases b with rfl|rfl|rfl<;>rcases a with rfl|rfl<;>rfl
theorem urF{s d}(a:St s):uN s d 94=(5,d):=by rcases a with rfl|rfl|rfl<;>rfl
theorem urG{s d}(a:St s):uN s d 40=(3,d+1):=by rcases a with rfl|rfl|rfl<;>rfl
theorem um3{d k}(a:k=42\/k=63):uN 6 d k=(3,d):=by rcases a with rfl|rfl<;>rfl
theorem urH{s d}(a:s=3\/s=6):uN s d 47=(3,d):=by rcases a with rfl|rfl<;>rfl
theorem urI{s d}(a:s=3\/s=6):uN s (d+1) 41=(6,d):=by rcases a with rfl|rfl<;>simp[uN]
theorem upp{d k}(a:¬beg k):(uN 4 d k).1=7:=by
 unfold beg at a;simp only[not_or]at a;obtain⟨b,c,e,f,g,h,i,j⟩:=a;simp[uN,b,c,e,f,g,h,i,j]
theorem upq{d k}(a:k≠110):(uN 5 d k).1=7:=by simp[uN,a]
theorem um4{s d k}(n:s=3\/s=6)(a:¬beg k)(h:k≠47)(g:k≠41)(o:s=6->k≠42/\k≠63):(uN s (d+1) k).1=7:=by
 unfold beg at a;simp only[not_or]at a;obtain⟨b,c,e,f,i,j,l,m⟩:=a;rcases n with rfl|rfl
 ·simp[uN,b,c,e,f,i,j,l,m,h,g]
 obtain⟨p,q⟩:=o rfl;simp[uN,b,c,e,f,i,j,l,m,h,g,p,q]
def Aft(s:Nat)(r:List Tok):Prop:=(s=3\/s=6)/\(s=6->kAt r 0≠42/\kAt r 0≠63)
theorem Aft.st{s r}(h:Aft s r):St s:=h.1.elim (λq=>.inl q) (λq=>.inr (.inr q))
def Bg(s:Nat)(l:List Tok):Prop:=St s/\(s=4\/beg (kAt l 0))
theorem st3:St 3:=.inl rfl
theorem st4:St 4:=.inr (.inl rfl)
theorem urJ r:Aft 3 r:=⟨.inl rfl,λq=>absurd q (by omega)⟩
def R0(n f:Nat):Prop:=∀l,kAt l 0≠33->kAt l 0≠38->8*l.length+1<f->(∀p,rd n f 0 .emp l=.inl p->∀s d,Bg s l->uv n l s d=(p:Int))/\(∀e r,rd n f 0 .emp l=.inr (e,r)->e.ok 0/\l=e.tk++r/\∀s d,Bg s l->uv n l s d=uv n r 6 d)
def R12(n m k f:Nat):Prop:=∀l,(m=1->kAt l 0≠33/\kAt l 0≠38)->8*l.length+k<f->(∀p,rd n f m .emp l=.inl p->∀s d,Bg s l->uv n l s d=(p:Int))/\(∀e r,rd n f m .emp l=.inr (e,r)->e.ok m/\l=e.tk++r/\∃s',Aft s' r/\∀s d,Bg s l->uv n l s d=uv n r s' d)
def R3(n f:Nat):Prop:=∀a l s0,a.ok 3->Aft s0 l->8*l.length+4<f->(∀p,rd n f 3 a l=.inl p->∀d,uv n l s0 d=(p:Int))/\(∀e r,rd n f 3 a l=.inr (e,r)->e.ok 3/\e.tk++r=a.tk++l/\¬beg (kAt r 0)/\∃s',Aft s' r/\∀d,uv n l s0 d=uv n r s' d)
def R4(n f:Nat):Prop:=∀l,8*l.length+4<f->(∀p,rd n f 4 .emp l=.inl p->∀d,uv n l 3 d=(p:Int))/\(∀e r,rd n f 4 .emp l=.inr (e,r)->e.ok 4/\l=e.tk++r/\¬beg (kAt r 0)/\∃s',Aft s' r/\∀d,uv n l 3 d=uv n r s' d)
def R5(n f:Nat):Prop:=∀l,8*l.length+6<f->(∀p,rd n f 5 .emp l=.inl p->∀d,uv n l 3 d=(p:Int))/\(∀e r,rd n f 5 .emp l=.inr (e,r)->e.ok 5/\l=e.tk++r/\¬beg (kAt r 0)/\kAt r 0≠47/\∃s',Aft s' r/\∀d,uv n l 3 d=uv n r s' d)
def R6(n f:Nat):Prop:=∀a l s0,a.ok 5->Aft s0 l->¬beg (kAt l 0)->8*l.length+5<f->(∀p,rd n f 6 a l=.inl p->∀d,uv n l s0 d=(p:Int))/\(∀e r,rd n f 6 a l=.inr (e,r)->e.ok 5/\e.tk++r=a.tk++l/\¬beg (kAt r 0)/\kAt r 0≠47/\∃s',Aft s' r/\∀d,uv n l s0 d=uv n r s' d)
theorem upr{n f}(J:R5 n f):R0 n (f+1):=by
 intro l H I L;cases l with
 |nil =>
  simp only[rd];exact⟨(λp h s d a=>by injection h with h;subst h;exact xf n d (by rcases a.1 with rfl|rfl|rfl<;>omega)),(λe r h=>by cases h)⟩
 |cons x r =>
  rw[List.length_cons]at L;simp only[rd];have leaf:∀(T:PE),T.ok 0->T.tk = [x]->(x.kind=110\/x.kind=34\/x.kind=91\/x.kind=46)->(∀p,(Sum.inr (T,r):Sum Nat (PE×List Tok))=.inl p->∀s d,Bg s (x::r)->uv n (x::r) s d=(p:Int))/\(∀e g,(Sum.inr (T,r):Sum Nat (PE×List Tok))=.inr (e,g)->e.ok 0/\x::r=e.tk++g/\∀s d,Bg s (x::r)->uv n (x::r) s d=uv n g 6 d):=λT z i G =>
   ⟨(λp h=>by cases h),(λe g h=>by
    injection h with h;injection h with ha c;subst ha c;exact⟨z,by rw[i];rfl,λs d a=>ve n (by omega) (upo a.1 G) (by omega)⟩)⟩
  by_cases j:x.kind=110
  ·rw[if_pos j];exact leaf (.ref x) j rfl (.inl j)
  rw[if_neg j];by_cases k:x.kind=34
  ·rw[if_pos k];exact leaf (.str x) k rfl (.inr (.inl k))
  rw[if_neg k];by_cases m:x.kind=91
  ·rw[if_pos m];exact leaf (.cls x) m rfl (.inr (.inr (.inl m)))
  rw[if_neg m];by_cases o:x.kind=46
  ·rw[if_pos o];exact leaf (.dot x) o rfl (.inr (.inr (.inr o)))
  rw[if_neg o];by_cases t:x.kind=94
  ·rw[if_pos t];have st:∀s d,St s->uv n (x::r) s d=uv n r 5 d:=λs d a=>ve n (by omega) (by rw[t];exact urF a) (by omega)
   cases r with
   |nil=>exact⟨(λp h s d a=>by injection h with h;subst h;rw[st s d a.1];exact xf n d (by omega)),(λe r h=>by cases h)⟩
   |cons y g =>
    simp only;by_cases b:y.kind=110
    ·rw[if_pos b];refine⟨(λp h=>by cases h),λe r2 h=>?_⟩;injection h with h;injection h with ha c;subst ha c;exact⟨⟨t,b⟩,rfl,λs d a=>by rw[st s d a.1];exact ve n (by omega) (by rw[b];rfl) (by omega)⟩
    rw[if_neg b];exact⟨(λp h s d a=>by injection h with h;subst h;rw[st s d a.1];exact xT n (.inr (upq b))),(λe r h=>by cases h)⟩
  rw[if_neg t];by_cases b:x.kind=40
  ·rw[if_pos b];have st:∀s d,St s->uv n (x::r) s d=uv n r 3 (d+1):=λs d a=>ve n (by omega) (by rw[b];exact urG a) (by omega)
   obtain⟨B,C⟩:=J r (by omega);cases A:rd n f 5 .emp r with
   |inl p =>
    simp only;exact⟨(λO h s d a=>by injection h with h;subst h;rw[st s d a.1];exact B p A _),(λe r h=>by cases h)⟩
   |inr q =>
    obtain⟨e,g⟩:=q;obtain⟨b1,D,E,F,s',v,w⟩:=C e g A;simp only;cases g with
    |nil=>exact⟨(λp h s d a=>by injection h with h;subst h;rw[st s d a.1,w];exact xf n _ (by rcases v.1 with rfl|rfl<;>omega)),(λe r h=>by cases h)⟩
    |cons y r2 =>
     simp only;by_cases u:y.kind=41
     ·rw[if_pos u];refine⟨(λp h=>by cases h),λN P h=>?_⟩;injection h with h;injection h with ha c;subst ha c;exact⟨⟨b,u,b1⟩,by rw[D];simp[PE.tk],λs d a=>by rw[st s d a.1,w];exact ve n (by omega) (by rw[u];exact urI v.1) (by omega)⟩
     rw[if_neg u];exact⟨(λp h s d a=>by injection h with h;subst h;rw[st s d a.1,w];exact xT n (.inr (um4 v.1 E F u v.2))),(λe r h=>by cases h)⟩
  rw[if_neg b];refine⟨(λp h s d a=>?_),(λe r h=>by cases h)⟩;injection h with h;subst h;obtain⟨z,i⟩:=a;by_cases c:beg x.kind
  ·rcases c with q|q|q|q|q|q|q|q
   ·exact absurd q H
   ·exact absurd q I
   ·exact absurd q t
   ·exact absurd q o
   ·exact absurd q b
   ·exact absurd q j
   ·exact absurd q k
   exact absurd q m
  rcases i with rfl|i
  ·exact xT n (.inr (upp c))
  exact absurd i c
theorem ups{n f}(u:R0 n f):R12 n 1 2 (f+1):=by
 intro l k w;obtain⟨o,t⟩:=u l (k rfl).1 (k rfl).2 (by omega);simp only[rd];cases m:rd n f 0 .emp l with
 |inl p=>exact⟨(λy h=>by injection h with h;subst h;exact o p m),(λe r h=>by cases h)⟩
 |inr q =>
  obtain⟨e,r⟩:=q;obtain⟨b1,c,g⟩:=t e r m;simp only;cases r with
  |nil =>
   refine⟨(λp h=>by cases h),λi v h=>?_⟩;injection h with h;injection h with ha hb;subst ha hb;exact⟨PE.ok_mono e (by omega) b1,c,6,⟨.inr rfl,λ_=>⟨by show(0:Int)≠42;omega,by show(0:Int)≠63;omega⟩⟩,g⟩
  |cons x v =>
   simp only;by_cases a:x.kind=42
   ·rw[if_pos a];refine⟨(λp h=>by cases h),λi r2 h=>?_⟩;injection h with h;injection h with ha hb;subst ha hb;exact⟨⟨by omega,a,b1⟩,by rw[c];simp[PE.tk],3,urJ _,λs d j=>by rw[g s d j];exact ve n (by omega) (um3 (.inl a)) (by omega)⟩
   rw[if_neg a];by_cases b:x.kind=63
   ·rw[if_pos b];refine⟨(λp h=>by cases h),λi r2 h=>?_⟩;injection h with h;injection h with ha hb;subst ha hb;exact⟨⟨by omega,b,b1⟩,by rw[c];simp[PE.tk],3,urJ _,λs d j=>by rw[g s d j];exact ve n (by omega) (um3 (.inr b)) (by omega)⟩
   rw[if_neg b];refine⟨(λp h=>by cases h),λi r2 h=>?_⟩;injection h with h;injection h with ha hb;subst ha hb;exact⟨PE.ok_mono e (by omega) b1,c,6,⟨.inr rfl,λ_=>⟨a,b⟩⟩,g⟩
theorem upt{n f}(w:R12 n 1 2 f)(y:R12 n 2 3 f):R12 n 2 3 (f+1):=by
 intro l _ B;cases l with
 |nil =>
  simp only[rd];exact⟨(λp h s d b=>by injection h with h;subst h;exact xf n d (by rcases b.1 with rfl|rfl|rfl<;>omega)),(λe r h=>by cases h)⟩
 |cons x r =>
  rw[List.length_cons]at B;simp only[rd];obtain⟨k,m⟩:=y r (λq=>absurd q (by omega)) (by omega);have pre:∀(T:PE->PE),(x.kind=33\/x.kind=38)->(∀e,e.ok 2->(T e).ok 2)->(∀e,(T e).tk=x::e.tk)->(∀p:Nat,(match rd n f 2 .emp r with|.inl p=>(.inl p:Sum Nat (PE×List Tok))|.inr (e,a)=>.inr (T e,a))=.inl p->∀s d,Bg s (x::r)->uv n (x::r) s d=(p:Int))/\(∀e a,(match rd n f 2 .emp r with|.inl p=>(.inl p:Sum Nat (PE×List Tok))|.inr (e,a)=>.inr (T e,a))=.inr (e,a)->e.ok 2/\x::r=e.tk++a/\∃s',Aft s' a/\∀s d,Bg s (x::r)->uv n (x::r) s d=uv n a s' d):=λT C z A=>by
   have st:∀s d,St s->uv n (x::r) s d=uv n r 4 d:=λs d b=>ve n (by omega) (urE b C) (by omega)
   cases j:rd n f 2 .emp r with
   |inl p=>exact⟨(λE h s d b=>by injection h with h;subst h;rw[st s d b.1];exact k p j 4 d ⟨st4,.inl rfl⟩),(λe r h=>by cases h)⟩
   |inr q =>
    obtain⟨e,a⟩:=q;obtain⟨b1,i,s',o,t⟩:=m e a j;refine⟨(λp h=>by cases h),λD r2 h=>?_⟩;injection h with h;injection h with ha hb;subst ha hb;exact⟨z e b1,by rw[A,i];rfl,s',o,λs d b=>by rw[st s d b.1];exact t 4 d ⟨st4,.inl rfl⟩⟩
  by_cases c:x.kind=33
  ·rw[if_pos c];exact pre (.not x) (.inl c) (λe h=>⟨by omega,c,h⟩) (λe=>rfl)
  rw[if_neg c];by_cases g:x.kind=38
  ·rw[if_pos g];exact pre (.amp x) (.inr g) (λe h=>⟨by omega,g,h⟩) (λe=>rfl)
  rw[if_neg g];obtain⟨b1,i⟩:=w (x::r) (λ_=>⟨c,g⟩) (by rw[List.length_cons];omega);exact⟨b1,λe a h=>by
   obtain⟨u,v⟩:=i e a h;exact⟨PE.ok_mono e (by omega) u,v⟩⟩
theorem upu{n f}(B:R12 n 2 3 f)(C:R3 n f):R3 n (f+1):=by
 intro o l s0 i b F;simp only[rd];by_cases a:beg (kAt l 0)
 ·rw[if_pos a];obtain⟨k,m⟩:=B l (λq=>absurd q (by omega)) (by omega);cases j:rd n f 2 .emp l with
  |inl p=>exact⟨(λI h d=>by injection h with h;subst h;exact k p j s0 d ⟨b.st,.inr a⟩),(λe r h=>by cases h)⟩
  |inr q =>
   obtain⟨e,r⟩:=q;obtain⟨b1,c,s',s,g⟩:=m e r j;have H:=(vW e b1 []).2.2;have G:l.length=e.tk.length+r.length:=(by rw[c,List.length_append]);obtain⟨t,u⟩:=C (.seq o e) r s' ⟨by omega,i,b1⟩ s (by omega);simp only;refine⟨λp h d=>by rw[g s0 d ⟨b.st,.inr a⟩];exact t p h d,λA D h=>?_⟩;obtain⟨v,w,x,E,y,z⟩:=u A D h;exact⟨v,by rw[w,c];simp[PE.tk],x,E,y,λd=>by rw[g s0 d ⟨b.st,.inr a⟩];exact z d⟩
 rw[if_neg a];refine⟨(λp h=>by cases h),λe r h=>?_⟩;injection h with h;injection h with hx hy;subst hx hy;exact⟨i,rfl,a,s0,b,λd=>rfl⟩
theorem upv{n f}(y:R12 n 2 3 f)(z:R3 n f):R4 n (f+1):=by
 intro l C;simp only[rd];by_cases a:beg (kAt l 0)
 ·rw[if_pos a];obtain⟨j,k⟩:=y l (λq=>absurd q (by omega)) (by omega);cases i:rd n f 2 .emp l with
  |inl p=>exact⟨(λF h d=>by injection h with h;subst h;exact j p i 3 d ⟨st3,.inr a⟩),(λe r h=>by cases h)⟩
  |inr q =>
   obtain⟨e,r⟩:=q;obtain⟨b1,b,s',m,c⟩:=k e r i;have E:=(vW e b1 []).2.2;have D:l.length=e.tk.length+r.length:=(by rw[b,List.length_append]);obtain⟨o,s⟩:=z e r s' (PE.ok_mono e (by omega) b1) m (by omega);simp only;refine⟨λp h d=>by rw[c 3 d ⟨st3,.inr a⟩];exact o p h d,λg A h=>?_⟩;obtain⟨t,u,v,B,w,x⟩:=s g A h;exact⟨PE.ok_mono g (by omega) t,by rw[u,b],v,B,w,λd=>by rw[c 3 d ⟨st3,.inr a⟩];exact x d⟩
 rw[if_neg a];refine⟨(λp h=>by cases h),λe r h=>?_⟩;injection h with h;injection h with hx hy;subst hx hy;exact⟨Nat.le_refl 4,rfl,a,3,urJ _,λd=>rfl⟩
theorem upw{n f}(G:R4 n f)(H:R6 n f):R6 n (f+1):=by
 intro t l s0 c b k I;cases l with
 |nil =>
  simp only[rd];refine⟨(λp h=>by cases h),λe r h=>?_⟩;injection h with h;injection h with hx hy;subst hx hy;exact⟨c,rfl,k,by show(0:Int)≠47;omega,s0,b,λd=>rfl⟩
 |cons x r =>
  rw[List.length_cons]at I;simp only[rd];by_cases a:x.kind=47
  ·rw[if_pos a];have st:∀d,uv n (x::r) s0 d=uv n r 3 d:=λd=>ve n (by omega) (by rw[a];exact urH b.1) (by omega)
   obtain⟨o,s⟩:=G r (by omega);cases m:rd n f 4 .emp r with
   |inl p=>exact⟨(λN h d=>by injection h with h;subst h;rw[st];exact o p m d),(λe r h=>by cases h)⟩
   |inr q =>
    obtain⟨e,g⟩:=q;obtain⟨b1,i,u,s',v,j⟩:=s e g m;have L:r.length=e.tk.length+g.length:=(by rw[i,List.length_append]);obtain⟨w,y⟩:=H (.alt t x e) g s' ⟨by omega,a,c,b1⟩ v u (by omega);simp only;refine⟨λp h d=>by rw[st,j];exact w p h d,λF r2 h=>?_⟩;obtain⟨z,A,B,C,J,D,E⟩:=y F r2 h;exact⟨z,by rw[A,i];simp[PE.tk],B,C,J,D,λd=>by rw[st,j];exact E d⟩
  rw[if_neg a];refine⟨(λp h=>by cases h),λe r2 h=>?_⟩;injection h with h;injection h with hx hy;subst hx hy;exact⟨c,rfl,k,a,s0,b,λd=>rfl⟩
theorem upx{n f}(z:R4 n f)(A:R6 n f):R5 n (f+1):=by
 intro l D;simp only[rd];obtain⟨g,i⟩:=z l (by omega);cases c:rd n f 4 .emp l with
 |inl p=>exact⟨(λF h d=>by injection h with h;subst h;exact g p c d),(λe r h=>by cases h)⟩
 |inr q =>
  obtain⟨e,r⟩:=q;obtain⟨b1,a,j,s',k,b⟩:=i e r c;have E:l.length=e.tk.length+r.length:=by rw[a,List.length_append]
  obtain⟨m,o⟩:=A e r s' (PE.ok_mono e (by omega) b1) k j (by omega);simp only;refine⟨λp h d=>by rw[b];exact m p h d,λy B h=>?_⟩;obtain⟨s,t,u,v,C,w,x⟩:=o y B h;exact⟨s,by rw[t,a],u,v,C,w,λd=>by rw[b];exact x d⟩
theorem um5 n:∀f,R0 n f/\R12 n 1 2 f/\R12 n 2 3 f/\R3 n f/\R4 n f/\R5 n f/\R6 n f
 |0=>⟨(λl _ _ h=>absurd h (by omega)),(λl _ h=>absurd h (by omega)),(λl _ h=>absurd h (by omega)),(λ_ l _ _ _ h=>absurd h (by omega)),(λl h=>absurd h (by omega)),(λl h=>absurd h (by omega)),(λ_ l _ _ _ _ h=>absurd h (by omega))⟩
 |f+1=>by
  obtain⟨e,g,a,b,c,i,d⟩:=um5 n f;exact⟨upr i,ups e,upt g a,upu a b,upv a b,upx c d,upw c d⟩
end Go.Proofs.YtimfigongapdnaaGreat
