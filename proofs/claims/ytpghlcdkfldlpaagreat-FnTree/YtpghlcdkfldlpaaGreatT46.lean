import Derived.Test.YtpghlcdkfldlpaaGreatT45
set_option linter.unusedVariables false
set_option linter.unusedSimpArgs false
set_option maxHeartbeats 40000000
set_option maxRecDepth 100000
namespace Go.Proofs.YtpghlcdkfldlpaaGreat
section
open Go.RowKit
open M (OpD ue Gr um)
def evv(e:EvD):List Value:=[.int .i64 e.kind,.int .i64 e.arg,.int .i64 e.pos]
def uY(l:List EvD):List Value:=l.flatMap evv
theorem jn l e:uY (l++[e])=uY l++evv e:=by simp[uY]
theorem uhs l j:ye (l.take j)=(ye l).take (j*4):=ub0 frv 4 (λ_=>rfl) l j
theorem uct l j:uY (l.take j)=(uY l).take (j*3):=ub0 evv 3 (λ_=>rfl) l j
structure SpA(K L X:Nat->Prop)(w:World)(s:MSt)(ka:Option Addr)(kc:Nat)(la:Option Addr)(lc:Nat)(xa:Option Addr)(xn:Nat):Prop where
 st:OwnC K w (.slice ka s.st.length kc) 4 s.st.length (ye s.st)
 log:OwnC L w (.slice la s.log.length lc) 3 s.log.length (uY s.log)
 ex:ExA X w xa xn s.exp
 lt:∀b,K b\/L b\/X b->b<w.heap.size
 kl:∀b,K b->¬L b
 kx:∀b,K b->¬X b
 lx:∀b,L b->¬X b
theorem udS(s:MSt):s.fail=s.fin 1\/∃(j:Nat) (f:FrD),j<=s.st.length/\s.fail={ s with st:=s.st.take j,pos:=f.pos,log:=s.log.take f.log,at_:=f.to }:=by
 unfold MSt.fail;cases c:uT s.st.reverse with
 |none=>exact .inl rfl
 |some p =>
  obtain⟨f,r⟩:=p;obtain⟨d,p,b⟩:=ucx c;have a:s.st=r.reverse++(f::p.reverse):=by
   have:=congrArg List.reverse b;simpa using this
  refine .inr ⟨r.length,f,by rw[a,List.length_append,List.length_reverse];omega,?_⟩;have:s.st.take r.length=r.reverse:=by rw[a,List.take_left' (by simp)]
  rw[this]
theorem SpA.cut{K L X w s t ka kc la lc a b}(h:SpA K L X w s ka kc la lc a b){j i}(f:t.st=s.st.take j)(d:t.log=s.log.take i)(c:t.exp=s.exp):SpA K L X w t ka kc la lc a b:=by
 refine⟨?_,?_,by rw[c];exact h.ex,h.lt,h.kl,h.kx,h.lx⟩
 ·have e:t.st=s.st.take (min j s.st.length):=by rw[f];by_cases q:j<=s.st.length;rw[Nat.min_eq_left q];rw[Nat.min_eq_right (by omega),List.take_of_length_le (by omega),List.take_of_length_le (Nat.le_refl _)]
  rw[e,uhs,List.length_take,Nat.min_eq_left (Nat.min_le_right _ _)];exact kS h.st (Nat.min_le_right _ _)
 have e:t.log=s.log.take (min i s.log.length):=by rw[d];by_cases q:i<=s.log.length;rw[Nat.min_eq_left q];rw[Nat.min_eq_right (by omega),List.take_of_length_le (by omega),List.take_of_length_le (Nat.le_refl _)]
 rw[e,uct,List.length_take,Nat.min_eq_left (Nat.min_le_right _ _)];exact kS h.log (Nat.min_le_right _ _)
theorem SpA.same{K L X w s t ka kc la lc a b}(h:SpA K L X w s ka kc la lc a b)(e:t.st=s.st)(d:t.log=s.log)(c:t.exp=s.exp):SpA K L X w t ka kc la lc a b:=by
 refine⟨?_,?_,by rw[c];exact h.ex,h.lt,h.kl,h.kx,h.lx⟩
 ·rw[e];exact h.st
 rw[d];exact h.log
theorem SpA.fail{K L X w s ka kc la lc a b}(h:SpA K L X w s ka kc la lc a b):SpA K L X w s.fail ka kc la lc a b:=by
 rcases udS s with e|⟨j,f,_,e⟩
 ·rw[e];exact h.same rfl rfl rfl
 rw[e];exact h.cut (j:=j) (i:=f.log) rfl rfl rfl
theorem SpA.pop{K L X w s ka kc la lc a b}(h:SpA K L X w s ka kc la lc a b):SpA K L X w s.pop ka kc la lc a b :=
 h.cut (j:=s.st.length-1) (i:=s.log.length) (by unfold MSt.pop;exact List.dropLast_eq_take) (by unfold MSt.pop;rw[List.take_of_length_le (Nat.le_refl _)]) rfl
theorem SpA.on{K L X w w' s ka kc la lc c d}(h:SpA K L X w s ka kc la lc c d)(k:∀b,K b\/L b\/X b->w'.heap[b]?=w.heap[b]?)(e:w.heap.size<=w'.heap.size):SpA K L X w' s ka kc la lc c d :=
 ⟨h.st.on (λb a=>k b (.inl a)),h.log.on (λb a=>k b (.inr (.inl a))),h.ex.on (λb a=>k b (.inr (.inr a))),λb a=>Nat.lt_of_lt_of_le (h.lt b a) e,h.kl,h.kx,h.lx⟩
structure Only(P:Nat->Prop)(w w':World):Prop where
 os:w'.os=w.os
 tape:w'.tape=w.tape
 output:w'.output=w.output
 size:w'.heap.size=w.heap.size
 block:∀b,¬P b->w'.heap[b]?=w.heap[b]?
theorem Only.refl P w:Only P w w:=⟨rfl,rfl,rfl,rfl,λ_ _=>rfl⟩
theorem Only.set{P w w'}(h:Only P w w')b o v(c:P b):Only P w (w'.setCell ⟨b,o,none⟩ v) :=
 ⟨h.os,h.tape,h.output,by rw[uh];exact h.size,λx a=>(Below.heap_setCell _ _ _ x (λe=>a (by simp at e;rw[e];exact c))).trans (h.block x a)⟩
def Bxs(w:World)(b:Nat):Prop:=w.heap.size<=b/\b<w.heap.size+3
def ub3(t:MSt)(K L X:Nat->Prop)(w:World)(e:Ending)(w':World):Prop :=
 ∃ka kc la lc f g h,∃a c d:Nat->Prop,e=.returned (stV t ka kc la lc f g h)/\SpA a c d w' t ka kc la lc f g /\
  (∀b,a b->K b\/New w w' b)/\(∀b,c b->L b\/New w w' b)/\(∀b,d b->X b\/New w w' b)/\Kept (λb=>K b\/L b) w w'
structure uqY(K L X:Nat->Prop)(w:World)(s:MSt)(ka:Option Addr)(kc:Nat)(la:Option Addr)(lc:Nat)(xa:Option Addr)(xn:Nat):Prop where
 a:SpA K L X w s ka kc la lc xa xn
 len:s.st.length<=1000
 logl:s.log.length<=1048576
 last:∀f,f∈s.st->f.kind≠2->f.log<=s.log.length
 at0:0<=s.at_
 at1:s.at_<=1048576
 thr:s.throws<=1048576
theorem unj(s:MSt)(f:FrD)(m:Int):(s.push f m).log=s.log:=by unfold MSt.push;split<;>rfl
theorem unk(s:MSt)(f:FrD)(m:Int):(s.push f m).exp=s.exp:=by unfold MSt.push;split<;>rfl
theorem unl{K L X w Z W s t ka h kc i la lc j k}(c:SpA K L X w s ka kc la lc j k)(d:Below w.heap.size w Z)(m:OwnC (λb=>K b\/New Z W b) W (.slice h t.st.length i) 4 t.st.length (ye t.st))(e:Kept K Z W)(o:t.log=s.log)(n:t.exp=s.exp){lo}(r:w.heap.size<=lo)(l:lo<=Z.heap.size) :
  SpA (λb=>K b\/lo<=b/\b<W.heap.size) L X W t h i la lc j k/\Kept (λb=>K b\/L b) w W:=by
 have v:=d.size;have u:=e.size;refine⟨⟨uB m (λb a=>a.imp id (λq=>⟨Nat.le_trans l q.1,q.2⟩)),?_,?_,λb a=>?_,λb a f=>?_,λb a g=>?_,c.lx⟩,⟨e.os.trans d.os,e.tape.trans d.tape,e.output.trans d.output,by omega,λb a p=>(e.block b (by omega) (λq=>p (.inl q))).trans (d.block b a)⟩⟩
 ·rw[o];exact c.log.on (λb a=>(e.block b (by have:=c.lt b (.inr (.inl a));omega) (λq=>c.kl b q a)).trans (d.block b (c.lt b (.inr (.inl a)))))
 ·rw[n];exact c.ex.on (λb a=>(e.block b (by have:=c.lt b (.inr (.inr a));omega) (λq=>c.kx b q a)).trans (d.block b (c.lt b (.inr (.inr a)))))
 ·rcases a with (a|a)|a
  ·have:=c.lt b (.inl a);omega
  ·exact a.2
  have:=c.lt b (.inr a);omega
 ·rcases a with a|a
  ·exact c.kl b a f
  have:=c.lt b (.inr (.inl f));have:=a.1;omega
 rcases a with a|a
 ·exact c.kx b a g
 have:=c.lt b (.inr (.inr g));have:=a.1;omega
theorem upb(s:MSt)(n:Nat)(S:Nat->Int):(s.note n S).st=s.st:=by unfold MSt.note;split<;>(try split)<;>rfl
theorem unm(s:MSt)(n:Nat)(S:Nat->Int):(s.note n S).log=s.log:=by unfold MSt.note;split<;>(try split)<;>rfl
theorem ufd(s:MSt):∃j i,s.fail.st=s.st.take j/\s.fail.log=s.log.take i:=by
 rcases udS s with e|⟨j,f,_,e⟩
 ·exact⟨s.st.length,s.log.length,by rw[e,List.take_of_length_le (Nat.le_refl _)];rfl,by rw[e,List.take_of_length_le (Nat.le_refl _)];rfl⟩
 exact⟨j,f.log,by rw[e],by rw[e]⟩
theorem ula(s:MSt)(n:Nat)(S:Nat->Int)(il:Nat)(I:Nat->Int):∃j i,(s.test n S il I).st=s.st.take j/\(s.test n S il I).log=s.log.take i:=by
 unfold MSt.test;split
 ·exact⟨s.st.length,s.log.length,by rw[List.take_of_length_le (Nat.le_refl _)],by rw[List.take_of_length_le (Nat.le_refl _)]⟩
 split
 ·exact ufd s
 obtain⟨j,i,a,b⟩:=ufd (s.note n S);rw[upb]at a;rw[unm]at b;exact⟨j,i,a,b⟩
theorem unn{K L X f w W s t ka kc la lc x m y n}(a:SpA K L X w s ka kc la lc x y)(l:Below w.heap.size w W)(u:∃j i,t.st=s.st.take j/\t.log=s.log.take i)(v:ExA f W m n t.exp){lo}(z:w.heap.size<=lo)(o:∀b,f b->X b\/lo<=b/\b<W.heap.size) :
  SpA K L (λb=>X b\/lo<=b/\b<W.heap.size) W t ka kc la lc m n:=by
 obtain⟨j,i,r,p⟩:=u;have c:=a.on (λb e=>l.block b (a.lt b e)) l.size;have g:=c.cut (t:={ t with exp:=s.exp }) (j:=j) (i:=i) r p rfl;refine⟨g.st,g.log,v.wide o,λb e=>?_,a.kl,λb h d=>?_,λb k d=>?_⟩
 ·rcases e with q|q|q|q
  ·exact c.lt b (.inl q)
  ·exact c.lt b (.inr (.inl q))
  ·exact c.lt b (.inr (.inr q))
  exact q.2
 ·rcases d with q|q
  ·exact a.kx b h q
  have:=a.lt b (.inl h);have:=q.1;omega
 rcases d with q|q
 ·exact a.lx b k q
 have:=a.lt b (.inr (.inl k));have:=q.1;omega
theorem top_len{s:MSt}{k:Int}(h:s.top k=true):∃m f,s.st.length=m+1/\s.st[m]?=some f/\s.st.getLast? = some f/\f.kind=k:=by
 unfold MSt.top at h;cases a:s.st.getLast? with
 |none=>rw[a]at h;cases h
 |some f =>
  rw[a]at h;have c:s.st.length≠0:=λe=>by rw[List.eq_nil_of_length_eq_zero e]at a;cases a
  obtain⟨m,b⟩:∃m,s.st.length=m+1:=⟨s.st.length-1,by omega⟩;refine⟨m,f,b,?_,rfl,by simpa using h⟩;rw[List.getLast?_eq_getElem?,b]at a;simpa using a
theorem ucX{s:MSt}{m:Nat}(h:s.st.length=m+1):s.pop.st.length=m:=by unfold MSt.pop;rw[List.length_dropLast,h];rfl
theorem uqZ:(Tryz.prog.info? 135).map (λi=>(i.zero,i.size,i.bytes))=some (some (.agg #[.int .i64 0,.int .i64 0,.int .i64 0]),3,24):=by kernel_rfl
theorem ufZ:vV 35 135 3 24:=⟨Tryz.underlying35,⟨_,uqZ,rfl⟩,by omega⟩
theorem uiP(w:World)(k a p:Int)(y:Nat)(d:w.heap.size=y):Src Tryz.prog 3 35 (.slice (some ⟨y,0,none⟩) 1 1) 1 (evv ⟨k,a,p⟩) (w.alloc (.cells #[.int .i64 k,.int .i64 a,.int .i64 p] 135)):=by
 subst d;refine Src.ofSlice (P:=Tryz.prog) _ Tryz.underlying35 ⟨w.heap.size,0,none⟩ 1 1 (evv ⟨k,a,p⟩) rfl (λj u b=>?_) (λu b=>?_)
 ·have e':(⟨w.heap.size,0,none⟩:Addr).add j=⟨w.heap.size,j,none⟩:=by
   by_cases c:j=0
   ·subst c;simp[Addr.add]
   simp[Addr.add,c]
  rw[e'];match j,b with
  |0,b=>exact cN w.heap.size rfl b
  |1,b=>exact cN w.heap.size rfl b
  |2,b=>exact cN w.heap.size rfl b
  |j+3,b=>simp[evv]at b
 simp[evv]at b;rcases b with rfl|rfl|rfl<;>rfl
theorem upc{K L X w Z W s t ka kc la l lc m n o}(c:SpA K L X w s ka kc la lc n o)(d:Below w.heap.size w Z)(r:OwnC (λb=>L b\/Z.heap.size<=b) W (.slice l t.log.length m) 3 t.log.length (uY t.log))(y:t.log.length≠0)(f:Grew (λb=>L b) Z W)(x:t.st=s.st)(v:t.exp=s.exp){lo}(D:w.heap.size<=lo)(E:lo<=Z.heap.size) :
  SpA K (λb=>L b\/lo<=b/\b<W.heap.size) X W t ka kc l m n o/\Kept (λb=>K b\/L b) w W:=by
 have G:=d.size;have F:=f.size;refine⟨⟨?_,?_,?_,λb a=>?_,λb i p=>?_,c.kx,λb a j=>?_⟩,⟨f.os.trans d.os,f.tape.trans d.tape,f.output.trans d.output,by omega,λb a h=>(f.block b (by omega) (λq=>h (.inr q))).trans (d.block b a)⟩⟩
 ·rw[x];exact c.st.on (λb a=>(f.block b (by have:=c.lt b (.inl a);omega) (λq=>c.kl b a q)).trans (d.block b (c.lt b (.inl a))))
 ·rcases r with⟨_,e,_⟩|⟨g,cap,e,h,A,B,C,k⟩
  ·exact absurd e y
  refine .inr ⟨g,cap,e,?_,A,B,C,k⟩;obtain⟨u,z⟩:=Option.isSome_iff_exists.1 (k 0 (by omega)).1;exact h.imp id (λq=>⟨by omega,ub z⟩)
 ·rw[v];exact c.ex.on (λb a=>(f.block b (by have:=c.lt b (.inr (.inr a));omega) (λq=>c.lx b q a)).trans (d.block b (c.lt b (.inr (.inr a)))))
 ·rcases a with a|(a|a)|a
  ·have:=c.lt b (.inl a);omega
  ·have:=c.lt b (.inr (.inl a));omega
  ·exact a.2
  have:=c.lt b (.inr (.inr a));omega
 ·rcases p with q|q
  ·exact c.kl b i q
  have:=c.lt b (.inl i);have:=q.1;omega
 rcases a with a|a
 ·exact c.lx b a j
 have:=c.lt b (.inr (.inr j));have:=a.1;omega
section
variable {K L X:Nat->Prop} {w W W' Z:World} {s t:MSt} {ka la xa:Option Addr} {kc lc xn xc n ln:Nat} {e:Ending}
theorem uno(h:SpA K L X Z t ka kc la lc xa xn)(a:Below Z.heap.size Z W):ub3 t K L X Z (.returned (stV t ka kc la lc xa xn xc)) W :=
 ⟨ka,kc,la,lc,xa,xn,xc,K,L,X,rfl,h.on (λb c=>a.block b (h.lt b c)) a.size,λ_=>.inl,λ_=>.inl,λ_=>.inl,Kept.of a⟩
theorem ujX(h:SpA K L X Z s ka kc la lc xa xn)(g:s.st.length=n)(d:s.log.length=ln)(a:n<=1000)(b:∀f,f∈s.st->f.kind≠2->f.log<=s.log.length):Calls Tryz.prog 70 #[.agg (stC s ka n kc la ln lc xa xn xc)] Z (ub3 s.fail K L X Z):=by
 subst g d;exact(udT s ka la xa kc lc xn xc Z (xH h.st) a (yK h.st) (yK h.log) b).mono (λe w' q=>by obtain⟨rfl,c⟩:=q;exact uno h.fail c)
theorem uaa(c:Int)(h:SpA K L X Z s ka kc la lc xa xn)(d:s.st.length=n)(b:s.log.length=ln):Calls Tryz.prog 30 #[.agg (stC s ka n kc la ln lc xa xn xc),.int .i64 c] Z (ub3 (s.fin c) K L X Z):=by
 subst d b;exact(uay s ka la xa kc lc xn xc c Z).mono (λe w' q=>by obtain⟨rfl,a⟩:=q;exact uno (h.same rfl rfl rfl) a)
theorem ubF(f:FrD)(most:Int)(h:SpA K L X Z s ka kc la lc xa xn)(k:s.st.length=n)(j:s.log.length=ln)(a:n<=1000):Calls Tryz.prog 68 #[.agg (stC s ka n kc la ln lc xa xn xc),.agg #[.int .i64 f.kind,.int .i64 f.to,.int .i64 (f.pos:Int),.int .i64 (f.log:Int)],.int .i64 most] Z (ub3 (s.push f most) K L X Z):=by
 subst k j;exact(uiT K s f most ka la xa kc lc xn xc Z h.st (λb g=>h.lt b (.inl g)) a).mono (λe w' q=>by
  obtain⟨m,o,rfl,l,i⟩:=q;obtain⟨c,d⟩:=unl (lo:=Z.heap.size) h (Below.refl _ Z) l i (unj _ _ _) (unk _ _ _) (Nat.le_refl _) (Nat.le_refl _);exact⟨m,o,la,lc,xa,xn,xc,_,L,X,rfl,c,λ_ q=>q,λ_=>.inl,λ_=>.inl,d⟩)
theorem upd{Q g:Nat->Prop}{d:Option Addr}{a j:Nat}{S:Nat->Int}{c:Option Addr}{il ic:Nat}{I:Nat->Int}(h:SpA K L X Z s ka kc la lc xa xn)(w:s.st.length=n)(v:s.log.length=ln)(k:n<=1000)(l:∀f,f∈s.st->f.kind≠2->f.log<=s.log.length)(t:Ints Q .i64 Z d a S)(r:Ints g .u8 Z c il I)(p:Byt il I)(x:a<=1048576)(u:il<=1048576)(m:0<=s.at_)(o:s.at_<=1048576) :
  Calls Tryz.prog 67 #[.agg (stC s ka n kc la ln lc xa xn xc),.slice d a j,.slice c il ic] Z (ub3 (s.test a S il I) K L X Z):=by
 subst w v;refine(uiX X Q g s ka la xa kc lc xn xc d a j S c il ic I Z (xH h.st) h.ex t r p k (yK h.st) (yK h.log) l x u m o).mono (λe w' q=>?_);obtain⟨z,B,A,rfl,y,i⟩:=q;exact⟨ka,kc,la,lc,z,B,A,K,L,_,rfl,unn (lo:=Z.heap.size) h i (ula _ _ _ _ _) y (Nat.le_refl _) (λb q=>q),λ_=>.inl,λ_=>.inl,λ_ q=>q,Kept.of i⟩
theorem uW(h:Only (Bxs w) W W')(b o:Nat)(v:Value)(a:w.heap.size<=b)(c:b<w.heap.size+3):Only (Bxs w) W (W'.setCell ⟨b,o,none⟩ v):=h.set b o v ⟨a,c⟩
theorem ubG(z:ub3 t K L X Z e W)(f:Below w.heap.size w Z)(D:w.heap.size+3<=Z.heap.size)(g:∀b,K b\/L b\/X b->b<w.heap.size)(c:Only (Bxs w) W W'):ub3 t K L X w e W':=by
 obtain⟨p,u,r,v,s,C,x,j,k,l,rfl,y,m,n,o,d⟩:=z;have E:=d.size;have F:=c.size;have A:∀b,j b\/k b\/l b->¬Bxs w b:=λb a q=>by
  have G:=q.1;have H:=q.2;rcases a with a|a|a
  ·rcases m b a with h|h
   ·have:=g b (.inl h);omega
   have:=h.1;omega
  ·rcases n b a with h|h
   ·have:=g b (.inr (.inl h));omega
   have:=h.1;omega
  rcases o b a with h|h
  ·have:=g b (.inr (.inr h));omega
  have:=h.1;omega
 have i:∀b,New Z W b->New w W' b:=λb h=>⟨by have:=h.1;omega,by have:=h.2;omega⟩
 exact⟨p,u,r,v,s,C,x,j,k,l,rfl,y.on (λb a=>c.block b (A b a)) (by omega),λb a=>(m b a).imp id (i b),λb a=>(n b a).imp id (i b),λb a=>(o b a).imp id (i b),
  c.os.trans (d.os.trans f.os),c.tape.trans (d.tape.trans f.tape),c.output.trans (d.output.trans f.output),by omega,λb a B=>(c.block b (λq=>by have:=q.1;omega)).trans ((d.block b (by omega) B).trans (f.block b a))⟩
theorem yP(k:ub3 t K L X Z e W)(v:Below w.heap.size w Z)(o:w.heap.size+3<=Z.heap.size)(l:∀b,K b\/L b\/X b->b<w.heap.size)(p:Box Z (w.heap.size+1+1) st0) :
  ∃u n m a f c g d i h,e=.returned (.agg (stC u a n f c m g d i h))/\Box W (w.heap.size+1+1) st0/\∀j,Only (Bxs w) W j->ub3 t K L X w (.returned (.agg (stC u a n f c m g d i h))) j:=by
 have hd':=k;obtain⟨a,f,c,g,d,i,h,x,y,z,rfl,A,B,C,D,r⟩:=k;exact⟨t,_,_,a,f,c,g,d,i,h,rfl,p.blk (r.block _ (by omega) (λq=>by have:=l _ (q.imp id .inl);omega)),λj s=>ubG hd' v o l s⟩
theorem unp(h:SpA K L X Z t ka kc la lc xa xn)(g:Below w.heap.size w Z)(a:w.heap.size+3<=Z.heap.size)(d:∀b,K b\/L b\/X b->b<w.heap.size)(e:t.st.length=n)(c:t.log.length=ln)(f:Only (Bxs w) Z W'):ub3 t K L X w (.returned (.agg (stC t ka n kc la ln lc xa xn xc))) W':=by
 subst e c;exact ubG (uno h (Below.refl _ _)) g a d f
theorem uiQ{a:Option Addr}{c:Nat}(h:SpA K L X Z s ka kc la lc xa xn)(d:Below Z.heap.size Z W)(o:t.st=s.st)(g:t.exp=s.exp)(k:t.st.length=n)(j:t.log.length=ln)(l:ln≠0)(m:OwnC (λb=>L b\/W.heap.size<=b) W' (.slice a ln c) 3 ln (uY t.log))(i:Grew (λb=>L b) W W'):ub3 t K L X Z (.returned (.agg (stC t ka n kc a ln c xa xn xc))) W':=by
 subst k j;obtain⟨e,f⟩:=upc (lo:=Z.heap.size) h d m l i o g (Nat.le_refl _) d.size;exact⟨ka,kc,a,c,xa,xn,xc,K,_,X,rfl,e,λ_=>.inl,λ_ q=>q,λ_=>.inl,f⟩
theorem upe(h:SpA K L X Z s ka kc la lc xa xn)(c:s.st.length=n)(b:s.log.length=ln)(a:n<=1000):Calls Tryz.prog 69 #[.agg (stC s ka n kc la ln lc xa xn xc)] Z (xX s.inNot Z):=by
 subst c b;exact ucw s ka la xa kc lc xn xc Z (xH h.st) a
theorem ujY(k:Int)(h:SpA K L X Z s ka kc la lc xa xn)(c:s.st.length=n)(b:s.log.length=ln)(a:n<=1000):Calls Tryz.prog 71 #[.agg (stC s ka n kc la ln lc xa xn xc),.int .i64 k] Z (xX (s.top k) Z):=by
 subst c b;exact ulb s ka la xa kc lc xn xc k Z (xH h.st) a
end
end
end Go.Proofs.YtpghlcdkfldlpaaGreat
