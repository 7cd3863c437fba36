import Derived.Test.YtimfigongapdnaaGreatT45
set_option linter.unusedVariables false
set_option linter.unusedSimpArgs false
set_option maxHeartbeats 40000000
set_option maxRecDepth 100000
namespace Go.Proofs.YtimfigongapdnaaGreat
section
open Go.RowKit
open M (OpD ug Gr ur)
def evv(e:EvD):List Value:=[.int .i64 e.kind,.int .i64 e.arg,.int .i64 e.pos]
def vA(l:List EvD):List Value:=l.flatMap evv
theorem ucw l e:vA (l++[e])=vA l++evv e:=by simp[vA]
theorem uhO l j:vU (l.take j)=(vU l).take (j*4):=uca frv 4 (λ_=>rfl) l j
theorem ucx l j:vA (l.take j)=(vA l).take (j*3):=uca evv 3 (λ_=>rfl) l j
structure SpA(K L X:Nat->Prop)(w:World)(s:MSt)(ka:Option Addr)(kc:Nat)(la:Option Addr)(lc:Nat)(xa:Option Addr)(xn:Nat):Prop where
 st:OwnC K w (.slice ka s.st.length kc) 4 s.st.length (vU s.st)
 log:OwnC L w (.slice la s.log.length lc) 3 s.log.length (vA s.log)
 ex:ExA X w xa xn
 lt:∀b,K b\/L b\/X b->b<w.heap.size
 kl:∀b,K b->¬L b
 kx:∀b,K b->¬X b
 lx:∀b,L b->¬X b
theorem udY(s:MSt):s.fail=s.fin 1\/∃(j:Nat) (f:FrD),j<=s.st.length/\s.fail={ s with st:=s.st.take j,pos:=f.pos,log:=s.log.take f.log,at_:=f.to }:=by
 unfold MSt.fail;cases c:uU s.st.reverse with
 |none=>exact .inl rfl
 |some p =>
  obtain⟨f,r⟩:=p;obtain⟨d,p,b⟩:=ucB c;have a:s.st=r.reverse++(f::p.reverse):=by
   have:=congrArg List.reverse b;simpa using this
  refine .inr ⟨r.length,f,by rw[a,List.length_append,List.length_reverse];omega,?_⟩;have:s.st.take r.length=r.reverse:=by rw[a,List.take_left' (by simp)]
  rw[this]
theorem SpA.cut{K L X w s t ka kc la lc a b}(h:SpA K L X w s ka kc la lc a b){j i}(d:t.st=s.st.take j)(c:t.log=s.log.take i):SpA K L X w t ka kc la lc a b:=by
 refine⟨?_,?_,h.ex,h.lt,h.kl,h.kx,h.lx⟩
 ·have e:t.st=s.st.take (min j s.st.length):=by rw[d];by_cases q:j<=s.st.length;rw[Nat.min_eq_left q];rw[Nat.min_eq_right (by omega),List.take_of_length_le (by omega),List.take_of_length_le (Nat.le_refl _)]
  rw[e,uhO,List.length_take,Nat.min_eq_left (Nat.min_le_right _ _)];exact kz h.st (Nat.min_le_right _ _)
 have e:t.log=s.log.take (min i s.log.length):=by rw[c];by_cases q:i<=s.log.length;rw[Nat.min_eq_left q];rw[Nat.min_eq_right (by omega),List.take_of_length_le (by omega),List.take_of_length_le (Nat.le_refl _)]
 rw[e,ucx,List.length_take,Nat.min_eq_left (Nat.min_le_right _ _)];exact kz h.log (Nat.min_le_right _ _)
theorem SpA.same{K L X w s t ka kc la lc a b}(h:SpA K L X w s ka kc la lc a b)(d:t.st=s.st)(c:t.log=s.log):SpA K L X w t ka kc la lc a b:=by
 refine⟨?_,?_,h.ex,h.lt,h.kl,h.kx,h.lx⟩
 ·rw[d];exact h.st
 rw[c];exact h.log
theorem SpA.fail{K L X w s ka kc la lc a b}(h:SpA K L X w s ka kc la lc a b):SpA K L X w s.fail ka kc la lc a b:=by
 rcases udY s with e|⟨j,f,_,e⟩
 ·rw[e];exact h.same rfl rfl
 rw[e];exact h.cut (j:=j) (i:=f.log) rfl rfl
theorem SpA.pop{K L X w s ka kc la lc a b}(h:SpA K L X w s ka kc la lc a b):SpA K L X w s.pop ka kc la lc a b :=
 h.cut (j:=s.st.length-1) (i:=s.log.length) (by unfold MSt.pop;exact List.dropLast_eq_take) (by unfold MSt.pop;rw[List.take_of_length_le (Nat.le_refl _)])
theorem SpA.on{K L X w w' s ka kc la lc c d}(h:SpA K L X w s ka kc la lc c d)(k:∀b,K b\/L b\/X b->w'.heap[b]?=w.heap[b]?)(e:w.heap.size<=w'.heap.size):SpA K L X w' s ka kc la lc c d :=
 ⟨h.st.on (λb a=>k b (.inl a)),h.log.on (λb a=>k b (.inr (.inl a))),h.ex.on (λb a=>k b (.inr (.inr a))),λb a=>Nat.lt_of_lt_of_le (h.lt b a) e,h.kl,h.kx,h.lx⟩
structure Only(P:Nat->Prop)(w w':World):Prop where
 os:w'.os=w.os
 tape:w'.tape=w.tape
 output:w'.output=w.output
 size:w'.heap.size=w.heap.size
 block:∀b,¬P b->w'.heap[b]?=w.heap[b]?
theorem Only.refl P w:Only P w w:=⟨rfl,rfl,rfl,rfl,λ_ _=>rfl⟩
theorem Only.set{P w w'}(h:Only P w w')b o v(c:P b):Only P w (w'.setCell ⟨b,o,none⟩ v) :=
 ⟨h.os,h.tape,h.output,by rw[uj];exact h.size,λx a=>(Below.heap_setCell _ _ _ x (λe=>a (by simp at e;rw[e];exact c))).trans (h.block x a)⟩
def Bxs(w:World)(b:Nat):Prop:=w.heap.size<=b/\b<w.heap.size+3
def ucP(t:MSt)(K L X:Nat->Prop)(w:World)(e:Ending)(w':World):Prop :=
 ∃ka kc la lc f g h,∃a c d:Nat->Prop,e=.returned (stV t ka kc la lc f g h)/\SpA a c d w' t ka kc la lc f g /\
  (∀b,a b->K b\/New w w' b)/\(∀b,c b->L b\/New w w' b)/\(∀b,d b->X b\/New w w' b)/\Kept (λb=>K b\/L b) w w'
structure us5(K L X:Nat->Prop)(w:World)(s:MSt)(ka:Option Addr)(kc:Nat)(la:Option Addr)(lc:Nat)(xa:Option Addr)(xn:Nat):Prop where
 a:SpA K L X w s ka kc la lc xa xn
 len:s.st.length<=1000
 logl:s.log.length<=1048576
 last:∀f,f∈s.st->f.kind≠2->f.log<=s.log.length
 at0:0<=s.at_
 at1:s.at_<=1048576
 thr:s.throws<=1048576
theorem un8(s:MSt)(f:FrD)(m:Int):(s.push f m).log=s.log:=by unfold MSt.push;split<;>rfl
theorem un9{K L X w Z W s t ka h kc i la lc j k}(c:SpA K L X w s ka kc la lc j k)(d:Below w.heap.size w Z)(m:OwnC (λb=>K b\/New Z W b) W (.slice h t.st.length i) 4 t.st.length (vU t.st))(e:Kept K Z W)(n:t.log=s.log){lo}(p:w.heap.size<=lo)(l:lo<=Z.heap.size) :
  SpA (λb=>K b\/lo<=b/\b<W.heap.size) L X W t h i la lc j k/\Kept (λb=>K b\/L b) w W:=by
 have u:=d.size;have r:=e.size;refine⟨⟨uC m (λb a=>a.imp id (λq=>⟨Nat.le_trans l q.1,q.2⟩)),?_,?_,λb a=>?_,λb a f=>?_,λb a g=>?_,c.lx⟩,⟨e.os.trans d.os,e.tape.trans d.tape,e.output.trans d.output,by omega,λb a o=>(e.block b (by omega) (λq=>o (.inl q))).trans (d.block b a)⟩⟩
 ·rw[n];exact c.log.on (λb a=>(e.block b (by have:=c.lt b (.inr (.inl a));omega) (λq=>c.kl b q a)).trans (d.block b (c.lt b (.inr (.inl a)))))
 ·exact c.ex.on (λb a=>(e.block b (by have:=c.lt b (.inr (.inr a));omega) (λq=>c.kx b q a)).trans (d.block b (c.lt b (.inr (.inr a)))))
 ·rcases a with (a|a)|a
  ·have:=c.lt b (.inl a);omega
  ·exact a.2
  have:=c.lt b (.inr a);omega
 ·rcases a with a|a
  ·exact c.kl b a f
  have:=c.lt b (.inr (.inl f));have:=a.1;omega
 rcases a with a|a
 ·exact c.kx b a g
 have:=c.lt b (.inr (.inr g));have:=a.1;omega
theorem uqd(s:MSt)(n:Nat)(S:Nat->Int):(s.note n S).st=s.st:=by unfold MSt.note;split<;>(try split)<;>rfl
theorem uoa(s:MSt)(n:Nat)(S:Nat->Int):(s.note n S).log=s.log:=by unfold MSt.note;split<;>(try split)<;>rfl
theorem ufi(s:MSt):∃j i,s.fail.st=s.st.take j/\s.fail.log=s.log.take i:=by
 rcases udY s with e|⟨j,f,_,e⟩
 ·exact⟨s.st.length,s.log.length,by rw[e,List.take_of_length_le (Nat.le_refl _)];rfl,by rw[e,List.take_of_length_le (Nat.le_refl _)];rfl⟩
 exact⟨j,f.log,by rw[e],by rw[e]⟩
theorem ulC(s:MSt)(n:Nat)(S:Nat->Int)(il:Nat)(I:Nat->Int):∃j i,(s.test n S il I).st=s.st.take j/\(s.test n S il I).log=s.log.take i:=by
 unfold MSt.test;split
 ·exact⟨s.st.length,s.log.length,by rw[List.take_of_length_le (Nat.le_refl _)],by rw[List.take_of_length_le (Nat.le_refl _)]⟩
 split
 ·exact ufi s
 obtain⟨j,i,a,b⟩:=ufi (s.note n S);rw[uqd]at a;rw[uoa]at b;exact⟨j,i,a,b⟩
theorem uob{K L X f w W s t ka kc la lc x m y n}(a:SpA K L X w s ka kc la lc x y)(l:Below w.heap.size w W)(u:∃j i,t.st=s.st.take j/\t.log=s.log.take i)(v:ExA f W m n){lo}(z:w.heap.size<=lo)(o:∀b,f b->X b\/lo<=b/\b<W.heap.size) :
  SpA K L (λb=>X b\/lo<=b/\b<W.heap.size) W t ka kc la lc m n:=by
 obtain⟨j,i,r,p⟩:=u;have c:=a.on (λb e=>l.block b (a.lt b e)) l.size;have g:=c.cut (t:=t) (j:=j) (i:=i) r p;refine⟨g.st,g.log,v.wide o,λb e=>?_,a.kl,λb h d=>?_,λb k d=>?_⟩
 ·rcases e with q|q|q|q
  ·exact c.lt b (.inl q)
  ·exact c.lt b (.inr (.inl q))
  ·exact c.lt b (.inr (.inr q))
  exact q.2
 ·rcases d with q|q
  ·exact a.kx b h q
  have:=a.lt b (.inl h);have:=q.1;omega
 rcases d with q|q
 ·exact a.lx b k q
 have:=a.lt b (.inr (.inl k));have:=q.1;omega
theorem top_len{s:MSt}{k:Int}(h:s.top k=true):∃m f,s.st.length=m+1/\s.st[m]?=some f/\s.st.getLast? = some f/\f.kind=k:=by
 unfold MSt.top at h;cases a:s.st.getLast? with
 |none=>rw[a]at h;cases h
 |some f =>
  rw[a]at h;have c:s.st.length≠0:=λe=>by rw[List.eq_nil_of_length_eq_zero e]at a;cases a
  obtain⟨m,b⟩:∃m,s.st.length=m+1:=⟨s.st.length-1,by omega⟩;refine⟨m,f,b,?_,rfl,by simpa using h⟩;rw[List.getLast?_eq_getElem?,b]at a;simpa using a
theorem uqe{s:MSt}{m:Nat}(h:s.st.length=m+1):s.pop.st.length=m:=by unfold MSt.pop;rw[List.length_dropLast,h];rfl
theorem ur9:(Tryz.prog.info? 196).map (λi=>(i.zero,i.size,i.bytes))=some (some (.agg #[.int .i64 0,.int .i64 0,.int .i64 0]),3,24):=by kernel_rfl
theorem uoc:vG 37 196 3 24:=⟨Tryz.underlying37,⟨_,ur9,rfl⟩,by omega⟩
theorem usa(w:World)(k a p:Int)(y:Nat)(d:w.heap.size=y):Src Tryz.prog 3 37 (.slice (some ⟨y,0,none⟩) 1 1) 1 (evv ⟨k,a,p⟩) (w.alloc (.cells #[.int .i64 k,.int .i64 a,.int .i64 p] 196)):=by
 subst d;refine Src.ofSlice (P:=Tryz.prog) _ Tryz.underlying37 ⟨w.heap.size,0,none⟩ 1 1 (evv ⟨k,a,p⟩) rfl (λj u b=>?_) (λu b=>?_)
 ·have e':(⟨w.heap.size,0,none⟩:Addr).add j=⟨w.heap.size,j,none⟩:=by
   by_cases c:j=0
   ·subst c;simp[Addr.add]
   simp[Addr.add,c]
  rw[e'];match j,b with
  |0,b=>exact cN w.heap.size rfl b
  |1,b=>exact cN w.heap.size rfl b
  |2,b=>exact cN w.heap.size rfl b
  |j+3,b=>simp[evv]at b
 simp[evv]at b;rcases b with rfl|rfl|rfl<;>rfl
theorem uqf{K L X w Z W s t ka kc la l lc m n o}(c:SpA K L X w s ka kc la lc n o)(d:Below w.heap.size w Z)(r:OwnC (λb=>L b\/Z.heap.size<=b) W (.slice l t.log.length m) 3 t.log.length (vA t.log))(x:t.log.length≠0)(f:Grew (λb=>L b) Z W)(v:t.st=s.st){lo}(C:w.heap.size<=lo)(D:lo<=Z.heap.size) :
  SpA K (λb=>L b\/lo<=b/\b<W.heap.size) X W t ka kc l m n o/\Kept (λb=>K b\/L b) w W:=by
 have F:=d.size;have E:=f.size;refine⟨⟨?_,?_,?_,λb a=>?_,λb i p=>?_,c.kx,λb a j=>?_⟩,⟨f.os.trans d.os,f.tape.trans d.tape,f.output.trans d.output,by omega,λb a h=>(f.block b (by omega) (λq=>h (.inr q))).trans (d.block b a)⟩⟩
 ·rw[v];exact c.st.on (λb a=>(f.block b (by have:=c.lt b (.inl a);omega) (λq=>c.kl b a q)).trans (d.block b (c.lt b (.inl a))))
 ·rcases r with⟨_,e,_⟩|⟨g,cap,e,h,z,A,B,k⟩
  ·exact absurd e x
  refine .inr ⟨g,cap,e,?_,z,A,B,k⟩;obtain⟨u,y⟩:=Option.isSome_iff_exists.1 (k 0 (by omega)).1;exact h.imp id (λq=>⟨by omega,ud y⟩)
 ·exact c.ex.on (λb a=>(f.block b (by have:=c.lt b (.inr (.inr a));omega) (λq=>c.lx b q a)).trans (d.block b (c.lt b (.inr (.inr a)))))
 ·rcases a with a|(a|a)|a
  ·have:=c.lt b (.inl a);omega
  ·have:=c.lt b (.inr (.inl a));omega
  ·exact a.2
  have:=c.lt b (.inr (.inr a));omega
 ·rcases p with q|q
  ·exact c.kl b i q
  have:=c.lt b (.inl i);have:=q.1;omega
 rcases a with a|a
 ·exact c.lx b a j
 have:=c.lt b (.inr (.inr j));have:=a.1;omega
section
variable {K L X:Nat->Prop} {w W W' Z:World} {s t:MSt} {ka la xa:Option Addr} {kc lc xn xc n ln:Nat} {e:Ending}
theorem uod(h:SpA K L X Z t ka kc la lc xa xn)(a:Below Z.heap.size Z W):ucP t K L X Z (.returned (stV t ka kc la lc xa xn xc)) W :=
 ⟨ka,kc,la,lc,xa,xn,xc,K,L,X,rfl,h.on (λb c=>a.block b (h.lt b c)) a.size,λ_=>.inl,λ_=>.inl,λ_=>.inl,Kept.of a⟩
theorem ukj(h:SpA K L X Z s ka kc la lc xa xn)(g:s.st.length=n)(d:s.log.length=ln)(a:n<=1000)(b:∀f,f∈s.st->f.kind≠2->f.log<=s.log.length):Calls Tryz.prog 134 #[.agg (stC s ka n kc la ln lc xa xn xc)] Z (ucP s.fail K L X Z):=by
 subst g d;exact(ud0 s ka la xa kc lc xn xc Z (kC h.st) a (xA h.st) (xA h.log) b).mono (λe w' q=>by obtain⟨rfl,c⟩:=q;exact uod h.fail c)
theorem udZ(c:Int)(h:SpA K L X Z s ka kc la lc xa xn)(d:s.st.length=n)(b:s.log.length=ln):Calls Tryz.prog 92 #[.agg (stC s ka n kc la ln lc xa xn xc),.int .i64 c] Z (ucP (s.fin c) K L X Z):=by
 subst d b;exact(uav s ka la xa kc lc xn xc c Z).mono (λe w' q=>by obtain⟨rfl,a⟩:=q;exact uod (h.same rfl rfl) a)
theorem ubM(f:FrD)(most:Int)(h:SpA K L X Z s ka kc la lc xa xn)(k:s.st.length=n)(j:s.log.length=ln)(a:n<=1000):Calls Tryz.prog 132 #[.agg (stC s ka n kc la ln lc xa xn xc),.agg #[.int .i64 f.kind,.int .i64 f.to,.int .i64 (f.pos:Int),.int .i64 (f.log:Int)],.int .i64 most] Z (ucP (s.push f most) K L X Z):=by
 subst k j;exact(ui7 K s f most ka la xa kc lc xn xc Z h.st (λb g=>h.lt b (.inl g)) a).mono (λe w' q=>by
  obtain⟨m,o,rfl,l,i⟩:=q;obtain⟨c,d⟩:=un9 (lo:=Z.heap.size) h (Below.refl _ Z) l i (un8 _ _ _) (Nat.le_refl _) (Nat.le_refl _);exact⟨m,o,la,lc,xa,xn,xc,_,L,X,rfl,c,λ_ q=>q,λ_=>.inl,λ_=>.inl,d⟩)
theorem uqg{Q Q':Nat->Prop}{d:Option Addr}{a i:Nat}{S:Nat->Int}{c:Option Addr}{il ic:Nat}{I:Nat->Int}(h:SpA K L X Z s ka kc la lc xa xn)(v:s.st.length=n)(u:s.log.length=ln)(j:n<=1000)(k:∀f,f∈s.st->f.kind≠2->f.log<=s.log.length)(r:Ints Q .i64 Z d a S)(p:Ints Q' .u8 Z c il I)(o:Byt il I)(w:a<=1048576)(t:il<=1048576)(l:0<=s.at_)(m:s.at_<=1048576) :
  Calls Tryz.prog 131 #[.agg (stC s ka n kc la ln lc xa xn xc),.slice d a i,.slice c il ic] Z (ucP (s.test a S il I) K L X Z):=by
 subst v u;refine(ujb X Q Q' s ka la xa kc lc xn xc d a i S c il ic I Z (kC h.st) h.ex r p o j (xA h.st) (xA h.log) k w t l m).mono (λe w' q=>?_);obtain⟨y,A,z,rfl,x,g⟩:=q;exact⟨ka,kc,la,lc,y,A,z,K,L,_,rfl,uob (lo:=Z.heap.size) h g (ulC _ _ _ _ _) x (Nat.le_refl _) (λb q=>q),λ_=>.inl,λ_=>.inl,λ_ q=>q,Kept.of g⟩
theorem ubN(h:Only (Bxs w) W W')(b o:Nat)(v:Value)(a:w.heap.size<=b)(c:b<w.heap.size+3):Only (Bxs w) W (W'.setCell ⟨b,o,none⟩ v):=h.set b o v ⟨a,c⟩
theorem ugh(y:ucP t K L X Z e W)(f:Below w.heap.size w Z)(C:w.heap.size+3<=Z.heap.size)(g:∀b,K b\/L b\/X b->b<w.heap.size)(c:Only (Bxs w) W W'):ucP t K L X w e W':=by
 obtain⟨p,u,r,v,s,B,c3,j,k,l,rfl,x,m,n,o,d⟩:=y;have D:=d.size;have E:=c.size;have z:∀b,j b\/k b\/l b->¬Bxs w b:=λb a q=>by
  have F:=q.1;have G:=q.2;rcases a with a|a|a
  ·rcases m b a with h|h
   ·have:=g b (.inl h);omega
   have:=h.1;omega
  ·rcases n b a with h|h
   ·have:=g b (.inr (.inl h));omega
   have:=h.1;omega
  rcases o b a with h|h
  ·have:=g b (.inr (.inr h));omega
  have:=h.1;omega
 have i:∀b,New Z W b->New w W' b:=λb h=>⟨by have:=h.1;omega,by have:=h.2;omega⟩
 exact⟨p,u,r,v,s,B,c3,j,k,l,rfl,x.on (λb a=>c.block b (z b a)) (by omega),λb a=>(m b a).imp id (i b),λb a=>(n b a).imp id (i b),λb a=>(o b a).imp id (i b),
  c.os.trans (d.os.trans f.os),c.tape.trans (d.tape.trans f.tape),c.output.trans (d.output.trans f.output),by omega,λb a A=>(c.block b (λq=>by have:=q.1;omega)).trans ((d.block b (by omega) A).trans (f.block b a))⟩
theorem usb(j:ucP t K L X Z e W)(s:Below w.heap.size w Z)(n:w.heap.size+3<=Z.heap.size)(k:∀b,K b\/L b\/X b->b<w.heap.size)(o:Box Z (w.heap.size+1+1) st0) :
  ∃u m l a f c g d h c3,e=.returned (.agg (stC u a m f c l g d h c3))/\Box W (w.heap.size+1+1) st0/\∀i,Only (Bxs w) W i->ucP t K L X w (.returned (.agg (stC u a m f c l g d h c3))) i:=by
 have hd':=j;obtain⟨a,f,c,g,d,h,c3,v,x,y,rfl,z,A,B,C,p⟩:=j;exact⟨t,_,_,a,f,c,g,d,h,c3,rfl,o.blk (p.block _ (by omega) (λq=>by have:=k _ (q.imp id .inl);omega)),λi r=>ugh hd' s n k r⟩
theorem uoe(h:SpA K L X Z t ka kc la lc xa xn)(g:Below w.heap.size w Z)(a:w.heap.size+3<=Z.heap.size)(d:∀b,K b\/L b\/X b->b<w.heap.size)(e:t.st.length=n)(c:t.log.length=ln)(f:Only (Bxs w) Z W'):ucP t K L X w (.returned (.agg (stC t ka n kc la ln lc xa xn xc))) W':=by
 subst e c;exact ugh (uod h (Below.refl _ _)) g a d f
theorem usc{a:Option Addr}{c:Nat}(h:SpA K L X Z s ka kc la lc xa xn)(d:Below Z.heap.size Z W)(m:t.st=s.st)(j:t.st.length=n)(i:t.log.length=ln)(k:ln≠0)(l:OwnC (λb=>L b\/W.heap.size<=b) W' (.slice a ln c) 3 ln (vA t.log))(g:Grew (λb=>L b) W W'):ucP t K L X Z (.returned (.agg (stC t ka n kc a ln c xa xn xc))) W':=by
 subst j i;obtain⟨e,f⟩:=uqf (lo:=Z.heap.size) h d l k g m (Nat.le_refl _) d.size;exact⟨ka,kc,a,c,xa,xn,xc,K,_,X,rfl,e,λ_=>.inl,λ_ q=>q,λ_=>.inl,f⟩
theorem uqh(h:SpA K L X Z s ka kc la lc xa xn)(c:s.st.length=n)(b:s.log.length=ln)(a:n<=1000):Calls Tryz.prog 133 #[.agg (stC s ka n kc la ln lc xa xn xc)] Z (xI s.inNot Z):=by
 subst c b;exact ucA s ka la xa kc lc xn xc Z (kC h.st) a
theorem us6(k:Int)(h:SpA K L X Z s ka kc la lc xa xn)(c:s.st.length=n)(b:s.log.length=ln)(a:n<=1000):Calls Tryz.prog 135 #[.agg (stC s ka n kc la ln lc xa xn xc),.int .i64 k] Z (xI (s.top k) Z):=by
 subst c b;exact ulD s ka la xa kc lc xn xc k Z (kC h.st) a
end
end
open Go.RowKit
open M (OpD ug Gr ur)
theorem uof K L X Q Q' s ka la J kc lc N xc x sa sc ia il ic I most w(C:us5 K L X w s ka kc la lc J N)(hS:Ints Q .i64 w sa x.sl x.set)(hI:Ints Q' .u8 w ia il I)(hB:Byt il I)(aj:x.sl<=1048576)(aq:il<=1048576) :
  Calls Tryz.prog 93 #[stV s ka kc la lc J N xc,.agg #[.int .i64 x.kind,.int .i64 x.arg,.int .i64 x.to,.slice sa x.sl sc],.slice ia il ic,.int .i64 most] w (ucP (s.act x il I most) K L X w):=by
 obtain⟨kd,G,r,sn,S⟩:=x;have A:=ua C;have j:Hid (∀Z,Below w.heap.size w Z->SpA K L X Z s ka kc la lc J N):=fun Z H=>C.a.on (fun b hb=>H.block b (C.a.lt b hb)) H.size
 have HS:=ua hS;have HI:=ua hI;have ak:=ua hB;have ao:=C.at0;have ap:=C.at1;have thr:=C.thr;have D:=C.len;have aw:=C.logl;obtain⟨n,ad⟩:=nm s.st.length;obtain⟨ln,ac⟩:=nm s.log.length;obtain⟨T,hT⟩:=nm (s.act ⟨kd,G,r,sn,S⟩ il I most);rw[ad]at D;rw[ac]at aw;simp only[xp,ad,ac,hT];have l:=ua ad;have d:=ua ac;have o:=ua hT;simp only at aj;clear C hS hI hB ad ac hT;unfold stC;go_enter Tryz.func93,Tryz.ntmps93;go_upto_region 1 with fail
 generalize W:((w.alloc _).alloc _).alloc _=P;have V:Hid (Box P w.heap.size (stC s ka n kc la ln lc J N xc)):=W▸((ux w _ 155).al _).al _;have B5:Hid (Box P (w.heap.size+1) #[.int .i64 kd,.int .i64 G,.int .i64 r,.slice sa sn sc]):=W▸(yG _ _ 86 _ (by simp)).al _
 have O:Hid (Box P (w.heap.size+1+1) st0):=W▸yG _ st0 155 _ (by simp)
 have k:Hid (Below w.heap.size w P):=W▸udT w _ _ _;obtain⟨z4,p4,l4⟩:=V.x;obtain⟨z5,p5,l5⟩:=B5.x;obtain⟨z8,p8,l8⟩:=O.x;unfold stC at z4;unfold st0 at z8;clear W;have hk:(kd=9\/kd=10\/kd=11)\/kd=0\/kd=1\/kd=4\/kd=6\/kd=12\/¬(0<=kd/\kd<=12)\/kd=8\/kd=2\/kd=3\/kd=5\/kd=7:=by omega
 rcases hk with h | rfl | rfl | rfl | rfl | rfl | h | rfl | rfl | rfl | rfl | rfl
 ·obtain⟨c,h⟩:∃c:Int,kd=9/\c=0\/kd=10/\c=1\/kd=11/\c=2:=⟨kd-9,by omega⟩
  obtain⟨U,E⟩:=nm (s.put c G);have HU:=ua E;have an:Hid (vA U.log=vA s.log++evv ⟨c,G,(s.pos:Int)⟩):=E▸ucw _ _;have am:Hid (U.log.length=ln+1):=by show _=_;rw[<-E,<-d.out];exact List.length_append
  have g:Hid (U=T):=by show _=_;rw[<-o.out,<-E];rcases h with⟨rfl,rfl⟩|⟨rfl,rfl⟩|⟨rfl,rfl⟩<;>simp[MSt.act]
  have ai:Hid (U.st=s.st/\U.exp=s.exp):=E▸⟨rfl,rfl⟩;have af:=ua (A.a.log);rw[d.out]at af;clear E;rcases h with⟨rfl,rfl⟩|⟨rfl,rfl⟩|⟨rfl,rfl⟩
  all_goals
   go_wp2_with (at_builtin;refine ukw rfl _ _ 37 37 rfl rfl rfl uoc (af.on (fun z H=>(uf k (ui _ _)).block z (A.a.lt z (.inr (.inl H))))) (usa P _ G (s.pos:Int) _ rfl) (by omega) (fun _=>Nat.one_pos) ?_;intro v4 W4 ae ab ax;obtain⟨a4,c4,rfl⟩:=uk ae;have HO:=ua ae;have HG:=ua ab;obtain⟨z,p,lz⟩:=(V.al _).blk (ab.block _ (by simp;omega) (fun q=>absurd (A.a.lt _ (.inr (.inl q))) (by omega))) |>.x;obtain⟨y,q,ly⟩:=(O.al _).blk (ab.block _ (by simp;omega) (fun q=>absurd (A.a.lt _ (.inr (.inl q))) (by omega))) |>.x;unfold stC at z;unfold st0 at y;clear ae ab ax)
   refine bodyPost_ret (v:=.agg (stC U ka n kc a4 (ln+1) c4 J N xc)) ?_ rfl ?_
   ·have E:=HU.out
    simp[results,Tryz.f93,go_sem,stC,<-E,MSt.put, *]
   ·rw[<-g.out]
    refine ugh (usc (t:=U) (j _ k) (ui P _) ai.out.1 (ai.out.1▸l) am (by omega) (by rw[an.out];exact HO) HG) k (by omega) A.a.lt ?_
    repeat with_reducible first|exact Only.refl _ _ | refine ubN ?_ _ _ _ (by omega) (by omega)
 have g:Hid (s.test sn S il I=T):=by show _=_;rw[<-o.out];simp[MSt.act]
 focus go_wp2_with fail
 refine (uqg (s:=s) (j _ k) l d D A.last (HS.later k) (HI.later k) ak aj aq ao ap).mono ?_
 rotate_left
 have g:Hid (({ s with at_:=s.at_+1 }:MSt).push ⟨0,r,s.pos,ln⟩ most=T):=by show _=_;rw[<-o.out];simp[MSt.act,MSt.hold,d.out]
 focus go_wp2_with fail
 refine (ubM (s:={ s with at_:=s.at_+1 }) ⟨0,r,s.pos,ln⟩ most ((j _ ?_).same rfl rfl) l d D).mono ?_
 rotate_left 2
 have g:Hid (({ s with at_:=s.at_+1 }:MSt).push ⟨1,r,s.pos,ln⟩ most=T):=by show _=_;rw[<-o.out];simp[MSt.act,MSt.hold,d.out]
 focus go_wp2_with fail
 refine (ubM (s:={ s with at_:=s.at_+1 }) ⟨1,r,s.pos,ln⟩ most ((j _ ?_).same rfl rfl) l d D).mono ?_
 rotate_left 2
 have g:Hid (({ s with at_:=r }:MSt).push ⟨2,s.at_+1,0,0⟩ most=T):=by show _=_;rw[<-o.out];simp[MSt.act,MSt.enter]
 focus go_wp2_with fail
 refine (ubM (s:={ s with at_:=r }) ⟨2,s.at_+1,0,0⟩ most ((j _ ?_).same rfl rfl) l d D).mono ?_
 rotate_left 2
 obtain⟨q1,F⟩:=nm (decide (n=0));cases q1
 have g:Hid ((s).fin 4=T):=by show _=_;rw[<-o.out];simp[MSt.act,l.out,of_decide_eq_false F]
 have h0:((n:Int)==0)=false:=by simpa using F
 clear F
 focus go_wp2_with fail
 refine (udZ (s:=s) 4 (j _ ?_) l d).mono ?_
 rotate_left 2
 have g:Hid ((s).fin 0=T):=by show _=_;rw[<-o.out];simp[MSt.act,l.out,of_decide_eq_true F]
 have h0:((n:Int)==0)=true:=by simpa using F
 clear F
 focus go_wp2_with fail
 refine (udZ (s:=s) 0 (j _ ?_) l d).mono ?_
 rotate_left 2
 have hk:∀c:Int,0<=c->c<=12->(kd==c)=false:=fun c h1 h2=>by simp;omega
 have g:Hid (s.fin 4=T):=by show _=_;rw[<-o.out];unfold MSt.act;repeat rw[if_neg (by simp only;omega)]
 focus go_wp2_with fail
 refine (udZ (s:=s) 4 (j _ ?_) l d).mono ?_
 rotate_left 2
 focus go_wp2_with fail
 refine (uqh (s:=s) (j _ k) l d D).mono ?_;generalize B:s.inNot=tb
 rotate_left
 iterate 4
  focus go_wp2_with fail
  refine (us6 (s:=s) _ (j _ k) l d D).mono ?_;generalize B:s.top _=tb
  rotate_left
 rotate_right 5
 iterate 5
  rintro e W1 ⟨rfl,Y⟩;replace V:=ua (V.on Y);replace B5:=ua (B5.on Y);replace O:=ua (O.on Y);replace k:=ua (uf k Y);obtain⟨z4,p4,l4⟩:=V.x;obtain⟨z5,p5,l5⟩:=B5.x;obtain⟨z8,p8,l8⟩:=O.x;unfold stC at z4;unfold st0 at z8;clear Y;cases tb
  focus try (
   have g:Hid (s.fin 4=T):=by show _=_;rw[<-o.out];simp[MSt.act,B];done
   go_wp2_with fail;refine (udZ (s:=s) 4 (j _ k) l d).mono ?_)
  rotate_left
  focus try (
   have F:=top_len B;obtain⟨m,f,hm,R,av,ay⟩:=F;obtain rfl:n=m+1:=l.symm.trans hm;have au:=xA A.a.st;rw[hm]at au;have e1:((m+1:Nat):Int)-1=(m:Int):=by omega
   have aa:=ua (uqe hm);have ah:Hid (kX s.st=f.to):=by show _=_;unfold kX;rw[av]
   obtain⟨b,rfl,hc⟩:∃b,ka=some ⟨b,0,none⟩/\∀i f,s.st[i]? = some f->FrC W1 b (i*4) f:=(kC (j _ k).st).resolve_left (by omega)
   obtain⟨c0,c1,c2,c3⟩:=hc m f R;have lb:=ud c0;have az:(m:Int)<((m+1:Nat):Int):=by omega)
  rotate_left
 rotate_right 10
 by_cases H:r<0;have g:Hid (({ s with throws:=s.throws+1,label:=G }:MSt).fin 2=T):=by show _=_;rw[<-o.out];simp[MSt.act,B,H]
 focus go_wp2_with fail
 refine (udZ (s:={ s with throws:=s.throws+1,label:=G }) 2 ((j _ ?_).same rfl rfl) l d).mono ?_
 rotate_left 2
 have g:Hid (({ s with throws:=s.throws+1,at_:=r }:MSt).push ⟨2,s.at_+1,0,0⟩ most=T):=by show _=_;rw[<-o.out];simp[MSt.act,MSt.enter,B,H]
 focus go_wp2_with fail
 refine (ubM (s:={ s with throws:=s.throws+1,at_:=r }) ⟨2,s.at_+1,0,0⟩ most ((j _ ?_).same rfl rfl) l d D).mono ?_
 rotate_left 2
 have g:Hid (s.fail=T):=by show _=_;rw[<-o.out];simp[MSt.act,B]
 focus go_wp2_with fail
 refine (ukj (s:=s) (j _ ?_) l d D A.last).mono ?_
 rotate_left 2
 rotate_left
 ·have g:Hid (({ s.pop with at_:=r }:MSt)=T):=by show _=_;rw[<-o.out];simp[MSt.act,B]
  go_wp2;refine bodyPost_ret (v:=.agg (stC { s.pop with at_:=r } (some ⟨b,0,none⟩) m kc la ln lc J N xc)) ?_ rfl ?_
  ·simp[results,Tryz.f93,go_sem,stC,MSt.pop, *]
  ·rw[<-g.out]
   refine uoe (Z:=W1) (((j _ k).pop).same rfl rfl) k (by omega) A.a.lt aa d ?_
   repeat with_reducible first|exact Only.refl _ _ | refine ubN ?_ _ _ _ (by omega) (by omega)
 rotate_left
 have g:Hid (({ s.pop with at_:=r }:MSt).push ⟨0,f.to,s.pos,ln⟩ most=T):=by show _=_;rw[<-o.out];simp[MSt.act,B,ah.out,d.out]
 focus go_wp2_with fail
 refine (ubM (s:={ s.pop with at_:=r }) ⟨0,f.to,s.pos,ln⟩ most ((j _ ?_).pop.same rfl rfl) aa d (by omega)).mono ?_
 rotate_left 2
 rotate_left
 have g:Hid (s.pop.fail=T):=by show _=_;rw[<-o.out];simp[MSt.act,B]
 focus go_wp2_with fail
 refine (ukj (s:=s.pop) (j _ ?_).pop aa d (by omega) (fun f R=>A.last f (List.dropLast_subset _ R))).mono ?_
 rotate_left 2
 rotate_left
 ·have g:Hid (({ s.pop with at_:=f.to }:MSt)=T):=by show _=_;rw[<-o.out];simp[MSt.act,B,ah.out]
  go_wp2;refine bodyPost_ret (v:=.agg (stC { s.pop with at_:=f.to } (some ⟨b,0,none⟩) m kc la ln lc J N xc)) ?_ rfl ?_
  ·simp[results,Tryz.f93,go_sem,stC,MSt.pop, *]
  ·rw[<-g.out]
   refine uoe (Z:=W1) (((j _ k).pop).same rfl rfl) k (by omega) A.a.lt aa d ?_
   repeat with_reducible first|exact Only.refl _ _ | refine ubN ?_ _ _ _ (by omega) (by omega)
 all_goals try (repeat with_reducible first|exact k.out | refine uK ?_ _ _ _ (by omega) | refine uf ?_ (ui _ _));done
 all_goals
  rintro e W2 hd;obtain⟨u,n1,l1,a1,c1,a2,c2,a3,m3,c3,rfl,hb,R⟩:=usb hd (by repeat with_reducible first|exact k.out | refine uK ?_ _ _ _ (by omega) | refine uf ?_ (ui _ _)) (by first|omega|(simp only[uj,World.size_alloc];omega)) A.out.a.lt (by repeat with_reducible first|exact O.out | refine Box.far ?_ _ _ _ (by omega) | refine Box.al ?_ _)
  obtain⟨y,q,ly⟩:=hb.x;have HF:=ua R;clear hd hb R;unfold st0 at y;unfold stC;go_wp2;refine bodyPost_ret (v:=.agg (stC u a1 n1 c1 a2 l1 c2 a3 m3 c3)) ?_ rfl ?_
  ·simp[results,Tryz.f93,go_sem,stC, *]
  ·rw[<-g.out]
   refine HF _ ?_
   repeat with_reducible first|exact Only.refl _ _ | refine ubN ?_ _ _ _ (by omega) (by omega)
theorem ud1{most:Int}{s:MSt}(x:ur)(il:Nat)(I:Nat->Int):(s.act x il I most).throws<=s.throws+1:=by
 have e:∀s:MSt,s.fail.throws=s.throws:=λs=>by unfold MSt.fail;split<;>rfl
 have g:∀(s:MSt) f,(s.push f most).throws=s.throws:=λs f=>by unfold MSt.push;split<;>rfl
 have h:∀(s:MSt) n S,(s.note n S).throws=s.throws:=λs n S=>by unfold MSt.note;split<;>(try split)<;>rfl
 have d:∀(c:Prop) [Decidable c] (a b:MSt),a.throws<=s.throws+1->b.throws<=s.throws+1->(if c then a else b).throws<=s.throws+1:=λc _ a b i j=>by split<;>assumption
 unfold MSt.act MSt.test MSt.hold MSt.enter;repeat' (refine d _ _ _ ?_ ?_)
 all_goals first|exact Nat.le_succ _|exact Nat.le_refl _|(rw[g];exact Nat.le_succ _)|(rw[g];exact Nat.le_refl _)|(rw[e];exact Nat.le_succ _)|(rw[e];refine d _ _ _ ?_ ?_;exact Nat.le_succ _;rw[h];exact Nat.le_succ _)
structure ukk(n:Nat)(R:Nat->ur)(fuel most:Int):Prop where
 f0:0<=fuel
 f1:fuel<=50000
 m0:0<=most
 m1:most<=1000
 sets:∀i,i<n->(R i).sl<=512
def s0:MSt:=⟨0,0,[],[],0,λ_=>false,0,0,false,0,0⟩
def uqP(w:World)(e:Ending)(w':World):Prop:=∃c p l f a d b s t g i h,e=.returned (.agg #[.int .i64 c,.int .i64 p,.int .i64 l,.int .i64 f,.slice a d b,.int .i64 s,.int .i64 t,.slice g i h])/\Below w.heap.size w w'
def qV(s:MSt)(ka:Option Addr)(kc:Nat)(la:Option Addr)(lc:Nat)(a:Option Addr)(c b:Nat):Array Value:=#[.int .i64 s.at_,.int .i64 (s.pos:Int),.slice ka s.st.length kc,.slice la s.log.length lc,.int .i64 (s.far:Int),.slice a c b,.int .i64 (s.steps:Int),.int .i64 (s.throws:Int),.bool s.done,.int .i64 s.code,.int .i64 s.label]
structure RuA(w:World)(n:Nat)(R:Nat->ur)(il:Nat)(I:Nat->Int)(fuel most:Int)(s:MSt)(wr:World)(ka:Option Addr)(kc:Nat)(la:Option Addr)(lc:Nat)(xa:Option Addr)(xn xc:Nat)(K L X:Nat->Prop):Prop where
 box:wr.heap[w.heap.size+1]?=some (.cells (qV s ka kc la lc xa xn xc) 155)
 res:wr.heap[w.heap.size]?=some (.cells #[.int .i64 0,.int .i64 0,.int .i64 0,.int .i64 0,.slice none 0 0,.int .i64 0,.int .i64 0,.slice none 0 0] 39)
 a:SpA K L X wr s ka kc la lc xa xn
 lo:∀b,K b\/L b\/X b->w.heap.size+2<=b
 good:Good most s
 st:(s.steps:Int)<=fuel
 thr:s.throws<=s.steps
 bel:Below w.heap.size w wr
def ruI(w:World)(n:Nat)(R:Nat->ur)(il:Nat)(I:Nat->Int)(fuel most:Int)(wr:World):Prop :=
 ∃s ka kc la lc a c b,∃K L X:Nat->Prop,RuA w n R il I fuel most s wr ka kc la lc a c b K L X
def ugi(wr:World)(b:Nat):Nat:=match wr.cell? ⟨b,6,none⟩ with|some (.int _ z)=>z.toNat|_=>0
def ugj(wr:World)(b:Nat):Nat:=match wr.cell? ⟨b,8,none⟩ with|some (.bool true)=>0|_=>1
theorem ukl{wr b k}(h:wr.cell? ⟨b,6,none⟩=some (.int .i64 (k:Int))):ugi wr b=k:=by unfold ugi;rw[h];simp
theorem ukm{wr b d}(h:wr.cell? ⟨b,8,none⟩=some (.bool d)):ugj wr b=if d then 0 else 1:=by unfold ugj;rw[h];cases d<;>rfl
theorem ukn{w n R il I fuel most s s' wr Z W i ka t la v V y kc u lc x xn z Y D K L X l m o}(h:RuA w n R il I fuel most s wr ka kc la lc V xn Y K L X)(A:s.done=false)(B:s.next n R il I fuel most=s')(f:Only (λb=>b=w.heap.size+1) wr Z)(g:Kept (λb=>K b\/L b) Z W)(c:Only (λb=>b=w.heap.size+1) W i)(J:SpA l m o W s' t u v x y z)(N:∀b,l b->K b\/New Z W b)(O:∀b,m b->L b\/New Z W b)(P:∀b,o b->X b\/New Z W b)(r:i.heap[w.heap.size+1]?=some (.cells (qV s' t u v x y z D) 155))(S:s'.throws<=s'.steps) :
  ruI w n R il I fuel most i/\2*(fuel.toNat-ugi i (w.heap.size+1))+ugj i (w.heap.size+1)<2*(fuel.toNat-ugi wr (w.heap.size+1))+ugj wr (w.heap.size+1):=by
 have ad:=(Array.getElem?_eq_some_iff.1 h.box).1;have ac:=f.size;have ab:=g.size;have aa:=c.size;have C:∀b,b<=w.heap.size+1->¬(K b\/L b):=λb a q=>by
  have:=h.lo b (q.elim .inl (λq=>.inr (.inl q)));omega
 have lo':∀b,l b\/m b\/o b->w.heap.size+2<=b:=λb a=>by
  rcases a with a|a|a
  ·rcases N b a with q|q
   ·exact h.lo b (.inl q)
   have:=q.1;omega
  ·rcases O b a with q|q
   ·exact h.lo b (.inr (.inl q))
   have:=q.1;omega
  rcases P b a with q|q
  ·exact h.lo b (.inr (.inr q))
  have:=q.1;omega
 have p:=jX (n:=n) (R:=R) (il:=il) (I:=I) (most:=most) A h.st;rw[B]at p;refine⟨⟨s',t,u,v,x,y,z,D,l,m,o,r,?_,J.on (λb a=>c.block b (λe=>by have:=lo' b a;omega)) (by omega),lo',B▸ufj h.good,p.1,S,?_⟩,?_⟩
 ·rw[c.block _ (by omega),g.block _ (by omega) (C _ (by omega)),f.block _ (by omega)];exact h.res
 ·have a:=h.bel;exact⟨c.os.trans (g.os.trans (f.os.trans a.os)),c.tape.trans (g.tape.trans (f.tape.trans a.tape)),c.output.trans (g.output.trans (f.output.trans a.output)),by have:=a.size;omega,λb Q=>(c.block b (by omega)).trans ((g.block b (by omega) (C b (by omega))).trans ((f.block b (by omega)).trans (a.block b Q)))⟩
 have E:=ukl (k:=s.steps) (ul (j:=6) h.box rfl);have F:=ukm (d:=s.done) (ul (j:=8) h.box rfl);have G:=ukl (k:=s'.steps) (ul (j:=6) r rfl);have H:=ukm (d:=s'.done) (ul (j:=8) r rfl);rw[E,F,G,H,A];have hf:=h.st;rcases p.2 with⟨T,U⟩|q
 ·rw[T,U];simp
 have:=p.1;rw[q];cases s'.done<;>simp<;>omega
def uog(w:World)(b:Nat)(a c e f v4 g h i j k d:Value):World:=(((((((((((w.setCell ⟨b,0,none⟩ a).setCell ⟨b,1,none⟩ c).setCell ⟨b,2,none⟩ e).setCell ⟨b,3,none⟩ f).setCell ⟨b,4,none⟩ v4).setCell ⟨b,5,none⟩ g).setCell ⟨b,6,none⟩ h).setCell ⟨b,7,none⟩ i).setCell ⟨b,8,none⟩ j).setCell ⟨b,9,none⟩ k).setCell ⟨b,10,none⟩ d)
theorem xq{w b t o p r c3 s u v x y z q}a c f g v4 i k l m n d(h:w.heap[b]?=some (.cells #[o,p,r,c3,s,u,v,x,y,z,q] t)):(uog w b a c f g v4 i k l m n d).heap[b]?=some (.cells #[a,c,f,g,v4,i,k,l,m,n,d] t):=by
 have e:=vP (j:=10) d (vP (j:=9) n (vP (j:=8) m (vP (j:=7) l (vP (j:=6) k (vP (j:=5) i (vP (j:=4) v4 (vP (j:=3) g (vP (j:=2) f (vP (j:=1) c (vP (j:=0) a (h)))))))))));simp only[List.setIfInBounds_toArray,List.set_cons_zero,List.set_cons_succ]at e;exact e
theorem yH w b a c e f v4 g i j l m d:Only (λx=>x=b) w (uog w b a c e f v4 g i j l m d):=by
 unfold uog;have h:=λ(o:Nat) (v:Value) {W:World} (k:Only (λx=>x=b) w W)=>Only.set (P:=λx=>x=b) k b o v rfl
 exact h 10 d (h 9 m (h 8 l (h 7 j (h 6 i (h 5 g (h 4 v4 (h 3 f (h 2 e (h 1 c (h 0 a (Only.refl _ _)))))))))))
theorem Only.drew{P w w'}(h:Only P w w'):Only P w w'.drew:=⟨h.os,h.tape,h.output,h.size,h.block⟩
theorem ulE{P:Program}{ops:Array Oper}{o:Oper}{a:Act}{w:World}{K:Act->World->Prop}{i:Exit->Act->World->Prop}{E:Prop}{f:FuncId}(j:∀args w,(callFunc f args).run P w=.ok (.enter f args) w)(k:o.guard=none)(b c d g:Operand)(v x y z:TypeId)
  (m:o.op=.call { callee:=.value (.func f),args:=#[b,c,d,g],argTypes:=#[v,x,y,z] }) {y1 y2 y3 y4:Value} (q:a.eval b=y1) (r:a.eval c=y2) (s:a.eval d=y3) (t:a.eval g=y4) (h:Calls P f #[y1,y2,y3,y4] w (λe w'=>∃u,e=.returned u/\K (a.put o.dst u) w')):if Region.wanted o (yielded ops a.tmps)=true then Oper.wp P o a w K i else E:=by
 have p:Region.wanted o (yielded ops a.tmps)=true:=by simp[Region.wanted,k]
 rw[if_pos p];have n:(execOp a.eval o).run P w=.ok (.enter f #[y1,y2,y3,y4]) w:=by
  have e:a.eval (.func f)=.func (.func f) #[] #[]:=rfl;unfold execOp;simp only[m,resolve,invoke,Deferred.ofValue,Sem.run_bind,Sem.run_pure,Result.andThen_ok,List.map_toArray,List.map_cons,List.map_nil,q,r,s,t,e];exact j #[y1,y2,y3,y4] w
 unfold Oper.wp;rw[n];refine Calls.mono h ?_;rintro e w' ⟨u,rfl,l⟩;exact l
end Go.Proofs.YtimfigongapdnaaGreat
