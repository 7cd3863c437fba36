import Derived.Test.YtpghlcdkfldlpaaGreatT05
set_option linter.unusedVariables false
set_option linter.unusedSimpArgs false
set_option maxHeartbeats 40000000
set_option maxRecDepth 100000
namespace Go.Proofs.YtpghlcdkfldlpaaGreat
open Go.RowKit
open M (OpD ue Gr um)
theorem ua9{S T b m}(h:∀i,i<2*m->S i=T i):yh S b m=yh T b m:=by
 induction m with
 |zero=>rfl
 |succ m a=>rw[yh,yh,a (λi c=>h i (by omega)),h (2*m) (by omega),h (2*m+1) (by omega)]
def lf(l:List Int)(i:Nat):Int:=l.getD i 0
theorem ucY l r{i}(h:i<l.length):lf (l++r) i=lf l i:=by
 unfold lf;rw[List.getD_eq_getElem?_getD,List.getD_eq_getElem?_getD,List.getElem?_append_left h]
theorem ubH l r i:lf (l++r) (l.length+i)=lf r i:=by
 unfold lf;rw[List.getD_eq_getElem?_getD,List.getD_eq_getElem?_getD,List.getElem?_append_right (by omega)];congr 2;omega
structure RgI(M:Nat->Bool)(b:Nat)(l:List Int):Prop where
 even:(b=0\/M (b-1)=false\/b=256\/M b=false)->l.length%2=0/\∀c:Nat,vA l.length (lf l) c=(decide (c<b)&&M c)
 odd:¬(b=0\/M (b-1)=false\/b=256\/M b=false)->∃s:Nat,s<b/\l.length%2=1/\lf l (l.length-1)=(s:Int)/\(∀c,s<=c->c<=b->M c=true)/\∀c:Nat,vA l.length (lf l) c=(decide (c<s)&&M c)
theorem uld{l r c}(a:(l++r).length / 2=l.length / 2):vA (l++r).length (lf (l++r)) c=vA l.length (lf l) c:=by
 unfold vA;rw[a];exact ua9 (λi b=>ucY l r (by omega))
theorem uq4 M b(J:b<=256):RgI M b (rg M b):=by
 induction b with
 |zero=>exact⟨λ_=>⟨rfl,λc=>by simp[rg,vA,yh]⟩,λh=>absurd (.inl rfl) h⟩
 |succ b F =>
  have k:=F (by omega);have f:rg M (b+1)=rg M b++((if M b&&(b==0||!M (b-1)) then [(b:Int)] else [])++(if M b&&(b==255||!M (b+1)) then [(b:Int)] else [])):=rfl;generalize rg M b=l at *;cases d:M b with
  |false =>
   have e:rg M (b+1)=l:=(by rw[f];simp[d]);rw[e];obtain⟨x,r⟩:=k.even (.inr (.inr (.inr d)));refine⟨λ_=>⟨x,λc=>?_⟩,λh=>absurd (.inr (.inl (by simpa using d))) h⟩;rw[r c];by_cases q:c=b
   ·subst q;simp[d]
   have:(c<b)↔(c<b+1):=(by omega);simp[this]
  |true =>
   by_cases g:b+1=256\/M (b+1)=false
   ·
    have v:(M b&&(b==255||!M (b+1)))=true:=by
     rcases g with q|q
     ·have:b=255:=(by omega);subst this;simp[d]
     simp[d,q]
    rw[v]at f;refine⟨λ_=>?_,λh=>absurd (.inr (.inr (by rcases g with q|q;exact .inl q;exact .inr q))) h⟩;by_cases a:b=0\/M (b-1)=false
    ·have m:(M b&&(b==0||!M (b-1)))=true:=by
      rcases a with q|q
      ·subst q;simp[d]
      simp[d,q]
     rw[m]at f;simp only[if_true]at f;obtain⟨x,r⟩:=k.even (by rcases a with q|q;exact .inl q;exact .inr (.inl q));rw[f];have j:(l++([(b:Int)]++[(b:Int)])).length=l.length+2:=(by simp);refine⟨by rw[j];omega,λc=>?_⟩;have u:vA (l++([(b:Int)]++[(b:Int)])).length (lf (l++([(b:Int)]++[(b:Int)]))) c=(vA l.length (lf l) c||(decide ((b:Int)<=c)&&decide ((c:Int)<=b))):=by
      unfold vA;rw[j,show(l.length+2) / 2=l.length / 2+1 by omega,yh,ua9 (T:=lf l) (λi E=>ucY _ _ (by omega))];have G:=ubH l ([(b:Int)]++[(b:Int)]) 0;have y:=ubH l ([(b:Int)]++[(b:Int)]) 1;rw[show 2*(l.length / 2)=l.length+0 by omega,G,show l.length+0+1=l.length+1 by omega,y];rfl
     rw[u,r c];by_cases q:c=b
     ·subst q;simp[d]
     have n:(c<b+1)↔(c<b):=(by omega);have o:¬((b:Int)<=c/\(c:Int)<=b):=(by omega);by_cases t:(b:Int)<=c
     ·have p:¬(c:Int)<=b:=(by omega);simp[n,p]
     simp[n];omega
    have m:(M b&&(b==0||!M (b-1)))=false:=by
     simp only[not_or]at a;have:M (b-1)=true:=(by simpa using a.2);simp[a.1,this]
    rw[m]at f;simp only[if_true,Bool.false_eq_true,if_false,List.nil_append]at f;have w:¬(b=0\/M (b-1)=false\/b=256\/M b=false):=by
     simp only[not_or]at a ⊢;exact⟨a.1,a.2,by omega,by simp[d]⟩
    obtain⟨s,I,D,z,A,B⟩:=k.odd w;rw[f];have j:(l++[(b:Int)]).length=l.length+1:=(by simp);refine⟨by rw[j];omega,λc=>?_⟩;have u:vA (l++[(b:Int)]).length (lf (l++[(b:Int)])) c=(vA l.length (lf l) c||(decide ((s:Int)<=c)&&decide ((c:Int)<=b))):=by
     unfold vA;rw[j,show(l.length+1) / 2=l.length / 2+1 by omega,yh,ua9 (T:=lf l) (λi E=>ucY _ _ (by omega))];have y:=ubH l [(b:Int)] 0;rw[ucY _ _ (show 2*(l.length / 2)<l.length by omega),show 2*(l.length / 2)=l.length-1 by omega,z,show l.length-1+1=l.length+0 by omega,y];rfl
    rw[u,B c];by_cases q:c<s
    ·have:c<b+1:=(by omega);have o:¬(s:Int)<=c:=(by omega);simp[q,this];intro h;omega
    by_cases H:c<=b
    ·rw[A c (by omega) H];have:(s:Int)<=c:=(by omega);have t:(c:Int)<=b:=(by omega);have p:c<b+1:=(by omega);simp[this,t,p]
    have t:¬(c:Int)<=b:=(by omega);have p:¬c<b+1:=(by omega);simp[q,t,p]
   have v:(M b&&(b==255||!M (b+1)))=false:=by
    simp only[not_or]at g;have:M (b+1)=true:=(by simpa using g.2);have o:b≠255:=(by omega);simp[this,o]
   rw[v]at f;have C:M (b+1)=true:=(by simp only[not_or]at g;simpa using g.2);refine⟨λh=>absurd h (by simp only[not_or]at g ⊢;exact⟨by omega,by simp[d],g.1,g.2⟩),λ_=>?_⟩;by_cases a:b=0\/M (b-1)=false
   ·have m:(M b&&(b==0||!M (b-1)))=true:=by
     rcases a with q|q
     ·subst q;simp[d]
     simp[d,q]
    rw[m]at f;simp only[if_true,Bool.false_eq_true,if_false,List.append_nil]at f;obtain⟨x,r⟩:=k.even (by rcases a with q|q;exact .inl q;exact .inr (.inl q));rw[f];have j:(l++[(b:Int)]).length=l.length+1:=(by simp);refine⟨b,by omega,by rw[j];omega,?_,λc n o=>?_,λc=>?_⟩
    ·rw[j,show l.length+1-1=l.length+0 by omega,ubH];rfl
    ·rcases Nat.lt_or_ge b c with q|q
     ·obtain rfl:c=b+1:=(by omega);exact C
     obtain rfl:c=b:=(by omega);exact d
    rw[uld (by rw[j];omega),r c]
   have m:(M b&&(b==0||!M (b-1)))=false:=by
    simp only[not_or]at a;have:M (b-1)=true:=(by simpa using a.2);simp[a.1,this]
   rw[m]at f;simp only[Bool.false_eq_true,if_false,List.append_nil]at f;have w:¬(b=0\/M (b-1)=false\/b=256\/M b=false):=by
    simp only[not_or]at a ⊢;exact⟨a.1,a.2,by omega,by simp[d]⟩
   obtain⟨s,I,D,z,A,B⟩:=k.odd w;rw[f];refine⟨s,by omega,D,z,λc n o=>?_,B⟩;rcases Nat.lt_or_ge b c with q|q
   ·obtain rfl:c=b+1:=(by omega);exact C
   exact A c n (by omega)
theorem uq5 M{c:Nat}(a:c<256):vA (rg M 256).length (lf (rg M 256)) c=M c:=by
 obtain⟨_,h⟩:=(uq4 M 256 (Nat.le_refl _)).even (.inr (.inr (.inl rfl)));rw[h c];simp[a]
theorem unB{M N b}(d:b<=256)(h:∀c,c<256->M c=N c):rg M b=rg N b:=by
 induction b with
 |zero=>rfl
 |succ b a =>
  rw[rg,rg,a (by omega),h b (by omega)];rw[h (b-1) (by omega)];by_cases q:b=255
  ·subst q;simp
  rw[h (b+1) (by omega)]
def MSt.note(s:MSt)(n:Nat)(S:Nat->Int):MSt :=
 if s.far<s.pos then { s with far:=s.pos,exp:=λb=>vA n S (b:Int) }
 else if s.pos=s.far then { s with exp:=λb=>vA n S (b:Int)||s.exp b } else s
def MSt.test(s:MSt)(n:Nat)(S:Nat->Int)(il:Nat)(I:Nat->Int):MSt :=
 if s.pos<il/\vA n S (I s.pos)=true then { s with pos:=s.pos+1,at_:=s.at_+1 }
 else (if s.inNot then s else s.note n S).fail
def MSt.pop(s:MSt):MSt:={ s with st:=s.st.dropLast }
def MSt.enter(s:MSt)(x:um)(most:Int):MSt:=({ s with at_:=x.to }).push ⟨2,s.at_+1,0,0⟩ most
def MSt.put(s:MSt)(k a:Int):MSt:={ s with log:=s.log++[⟨k,a,s.pos⟩],at_:=s.at_+1 }
def MSt.hold(s:MSt)(k to most:Int):MSt:=({ s with at_:=s.at_+1 }).push ⟨k,to,s.pos,s.log.length⟩ most
def xv(l:List FrD):Int:=match l.getLast? with|none=>0|some f=>f.to
def MSt.act(s:MSt)(x:um)(il:Nat)(I:Nat->Int)(most:Int):MSt :=
 if x.kind=0 then s.test x.sl x.set il I
 else if x.kind=1 then s.hold 0 x.to most
 else if x.kind=4 then s.hold 1 x.to most
 else if x.kind=6 then s.enter x most
 else if x.kind=8 then (if s.inNot then s.fail else if x.to<0 then ({ s with throws:=s.throws+1,label:=x.arg }).fin 2 else ({ s with throws:=s.throws+1 }).enter x most)
 else if x.kind=2/\s.top 0=true then { s.pop with at_:=x.to }
 else if x.kind=3/\s.top 0=true then ({ s.pop with at_:=x.to }).push ⟨0,xv s.st,s.pos,s.log.length⟩ most
 else if x.kind=5/\s.top 1=true then s.pop.fail
 else if x.kind=7/\s.top 2=true then { s.pop with at_:=xv s.st }
 else if x.kind=9 then s.put 0 x.arg
 else if x.kind=10 then s.put 1 x.arg
 else if x.kind=11 then s.put 2 x.arg
 else if x.kind=12/\s.st.length=0 then s.fin 0
 else s.fin 4
def MSt.next(s:MSt)(n:Nat)(R:Nat->um)(il:Nat)(I:Nat->Int)(fuel most:Int):MSt :=
 if s.at_<0\/(n:Int)<=s.at_ then s.fin 4
 else if (s.steps:Int)=fuel then s.fin 3
 else ({ s with steps:=s.steps+1 }).act (R s.at_.toNat) il I most
inductive Ends(n:Nat)(R:Nat->um)(il:Nat)(I:Nat->Int)(fuel most:Int):MSt->MSt->Prop
 |over {s:MSt}:s.done=true->Ends n R il I fuel most s s
 |go {s t:MSt}:s.done=false->Ends n R il I fuel most (s.next n R il I fuel most) t->Ends n R il I fuel most s t
structure Good(most:Int)(s:MSt):Prop where
 len:(s.st.length:Int)<=most
 logs:s.log.length<=s.steps
 last:∀f,f∈s.st->f.kind≠2->f.log<=s.log.length
 asc:s.st.Pairwise (λf g=>f.kind≠2->g.kind≠2->f.log<=g.log)
 kinds:∀f,f∈s.st->f.kind=0\/f.kind=1\/f.kind=2
theorem Good.fin{most s}(h:Good most s)c:Good most (s.fin c):=⟨h.len,h.logs,h.last,h.asc,h.kinds⟩
theorem ucx{l r f}(h:uT l=some (f,r)):f.kind≠2/\∃p,l=p++f::r:=by
 induction l with
 |nil=>simp[uT]at h
 |cons x l b =>
  rw[uT]at h;by_cases e:x.kind=2
  ·rw[if_pos e]at h;obtain⟨a,p,rfl⟩:=b h;exact⟨a,x::p,rfl⟩
  rw[if_neg e]at h;cases h;exact⟨e,[],rfl⟩
theorem Good.fail{most s}(h:Good most s):Good most s.fail:=by
 unfold MSt.fail;cases n:uT s.st.reverse with
 |none=>exact h.fin 1
 |some p =>
  obtain⟨f,r⟩:=p;obtain⟨d,p,m⟩:=ucx n;have a:s.st=r.reverse++(f::p.reverse):=by
   have:=congrArg List.reverse m;simpa using this
  have j:f∈s.st:=by rw[a];simp
  have l:=h.last f j d;have c:=h.asc;rw[a,List.pairwise_append]at c;obtain⟨e,o,i⟩:=c;refine⟨?_,?_,?_,e,λg b=>h.kinds g (by rw[a];exact List.mem_append_left _ b)⟩
  ·have:=h.len;rw[a,List.length_append]at this;show((r.reverse.length:Nat):Int)<=most;omega
  ·show(s.log.take f.log).length<=s.steps;have:=h.logs;rw[List.length_take];omega
  intro g b k;show g.log<=(s.log.take f.log).length;rw[List.length_take,Nat.min_eq_left l];exact i g b f (List.mem_cons_self) k d
theorem Good.push{most s}(h:Good most s)f(b:f.kind≠2->f.log=s.log.length)(j:f.kind=0\/f.kind=1\/f.kind=2):Good most (s.push f most):=by
 unfold MSt.push;split
 ·exact h.fin 3
 rename_i l;refine⟨?_,h.logs,λg a c=>?_,?_,λg a=>?_⟩
 ·show(((s.st++[f]).length:Nat):Int)<=most;rw[List.length_append,List.length_singleton];omega
 ·rcases List.mem_append.1 a with q|q
  ·exact h.last g q c
  simp at q;subst q;show g.log<=s.log.length;rw[b c];exact Nat.le_refl _
 ·show(s.st++[f]).Pairwise _;rw[List.pairwise_append];refine⟨h.asc,by simp,λx k y d e i=>?_⟩;simp at d;subst d;rw[b i];exact h.last x k e
 rcases List.mem_append.1 a with q|q
 ·exact h.kinds g q
 simp at q;subst q;exact j
theorem Good.pop{most s}(h:Good most s):Good most s.pop:=by
 refine⟨?_,h.logs,λg a=>h.last g (List.dropLast_subset _ a),h.asc.sublist (List.dropLast_sublist _),λg a=>h.kinds g (List.dropLast_subset _ a)⟩;have:=h.len;show((s.st.dropLast.length:Nat):Int)<=most;rw[List.length_dropLast];omega
theorem Good.at{most s}(h:Good most s)z:Good most { s with at_:=z }:=⟨h.len,h.logs,h.last,h.asc,h.kinds⟩
theorem Good.note{most s}(h:Good most s)n S:Good most (s.note n S):=by
 unfold MSt.note;split
 ·exact⟨h.len,h.logs,h.last,h.asc,h.kinds⟩
 split
 ·exact⟨h.len,h.logs,h.last,h.asc,h.kinds⟩
 exact h
theorem Good.test{most s}(h:Good most s)n S il I:Good most (s.test n S il I):=by
 unfold MSt.test;split
 ·exact⟨h.len,h.logs,h.last,h.asc,h.kinds⟩
 refine Good.fail ?_;split
 ·exact h
 exact h.note n S
theorem Good.enter{most s}(h:Good most s)x:Good most (s.enter x most):=(h.at x.to).push _ (λq=>absurd rfl q) (.inr (.inr rfl))
theorem Good.hold{most s}(h:Good most s)k to(a:k=0\/k=1):Good most (s.hold k to most):=(h.at (s.at_+1)).push _ (λ_=>rfl) (by rcases a with q|q;exact .inl q;exact .inr (.inl q))
theorem unC{most s}(h:Good most s)(i:s.log.length<s.steps)x il I:Good most (s.act x il I most):=by
 have b:∀k a,Good most (s.put k a):=λk a=>by
  refine⟨h.len,?_,λg e f=>?_,h.asc,h.kinds⟩
  ·show(s.log++[_]).length<=s.steps;rw[List.length_append,List.length_singleton];omega
  show g.log<=(s.log++[_]).length;have:=h.last g e f;rw[List.length_append];omega
 unfold MSt.act;by_cases q:x.kind=0
 ·rw[if_pos q];exact h.test _ _ _ _
 rw[if_neg q];clear q;by_cases q:x.kind=1
 ·rw[if_pos q];exact h.hold _ _ (.inl rfl)
 rw[if_neg q];clear q;by_cases q:x.kind=4
 ·rw[if_pos q];exact h.hold _ _ (.inr rfl)
 rw[if_neg q];clear q;by_cases q:x.kind=6
 ·rw[if_pos q];exact h.enter x
 rw[if_neg q];clear q;by_cases q:x.kind=8
 ·rw[if_pos q];by_cases c:s.inNot=true
  ·rw[if_pos c];exact h.fail
  rw[if_neg c];by_cases d:x.to<0
  ·rw[if_pos d];exact⟨h.len,h.logs,h.last,h.asc,h.kinds⟩
  rw[if_neg d];exact Good.enter (s:={ s with throws:=s.throws+1 }) ⟨h.len,h.logs,h.last,h.asc,h.kinds⟩ x
 rw[if_neg q];clear q;by_cases q:x.kind=2/\s.top 0=true
 ·rw[if_pos q];exact h.pop.at _
 rw[if_neg q];clear q;by_cases q:x.kind=3/\s.top 0=true
 ·rw[if_pos q];exact(h.pop.at _).push _ (λ_=>rfl) (.inl rfl)
 rw[if_neg q];clear q;by_cases q:x.kind=5/\s.top 1=true
 ·rw[if_pos q];exact h.pop.fail
 rw[if_neg q];clear q;by_cases q:x.kind=7/\s.top 2=true
 ·rw[if_pos q];exact h.pop.at _
 rw[if_neg q];clear q;by_cases q:x.kind=9
 ·rw[if_pos q];exact b _ _
 rw[if_neg q];clear q;by_cases q:x.kind=10
 ·rw[if_pos q];exact b _ _
 rw[if_neg q];clear q;by_cases q:x.kind=11
 ·rw[if_pos q];exact b _ _
 rw[if_neg q];clear q;by_cases q:x.kind=12/\s.st.length=0
 ·rw[if_pos q];exact h.fin 0
 rw[if_neg q];clear q;exact h.fin 4
theorem ub5{most fuel s n R il I}(h:Good most s):Good most (s.next n R il I fuel most):=by
 unfold MSt.next;split;· exact h.fin 4
 split;· exact h.fin 3
 refine unC (s:={ s with steps:=s.steps+1 }) ⟨h.len,?_,h.last,h.asc,h.kinds⟩ ?_ _ _ _
 ·show s.log.length<=s.steps+1;have:=h.logs;omega
 show s.log.length<s.steps+1;have:=h.logs;omega
theorem ub6{most:Int}{s:MSt}(x:um)(il:Nat)(I:Nat->Int):(s.act x il I most).steps=s.steps:=by
 have a:∀s:MSt,s.fail.steps=s.steps:=λs=>by unfold MSt.fail;split<;>rfl
 have b:∀(s:MSt) f,(s.push f most).steps=s.steps:=λs f=>by unfold MSt.push;split<;>rfl
 have e:∀(s:MSt) n S,(s.note n S).steps=s.steps:=λs n S=>by unfold MSt.note;split<;>(try split)<;>rfl
 unfold MSt.act;by_cases q:x.kind=0
 ·rw[if_pos q];unfold MSt.test;split
  ·rfl
  rw[a];split
  ·rfl
  exact e _ _ _
 rw[if_neg q];clear q;by_cases q:x.kind=1
 ·rw[if_pos q];first|rfl|exact b _ _|exact a _
 rw[if_neg q];clear q;by_cases q:x.kind=4
 ·rw[if_pos q];first|rfl|exact b _ _|exact a _
 rw[if_neg q];clear q;by_cases q:x.kind=6
 ·rw[if_pos q];first|rfl|exact b _ _|exact a _
 rw[if_neg q];clear q;by_cases q:x.kind=8
 ·rw[if_pos q];by_cases c:s.inNot=true
  ·rw[if_pos c];exact a _
  rw[if_neg c];by_cases d:x.to<0
  ·rw[if_pos d];rfl
  rw[if_neg d];exact b _ _
 rw[if_neg q];clear q;by_cases q:x.kind=2/\s.top 0=true
 ·rw[if_pos q];first|rfl|exact b _ _|exact a _
 rw[if_neg q];clear q;by_cases q:x.kind=3/\s.top 0=true
 ·rw[if_pos q];first|rfl|exact b _ _|exact a _
 rw[if_neg q];clear q;by_cases q:x.kind=5/\s.top 1=true
 ·rw[if_pos q];first|rfl|exact b _ _|exact a _
 rw[if_neg q];clear q;by_cases q:x.kind=7/\s.top 2=true
 ·rw[if_pos q];first|rfl|exact b _ _|exact a _
 rw[if_neg q];clear q;by_cases q:x.kind=9
 ·rw[if_pos q];first|rfl|exact b _ _|exact a _
 rw[if_neg q];clear q;by_cases q:x.kind=10
 ·rw[if_pos q];first|rfl|exact b _ _|exact a _
 rw[if_neg q];clear q;by_cases q:x.kind=11
 ·rw[if_pos q];first|rfl|exact b _ _|exact a _
 rw[if_neg q];clear q;by_cases q:x.kind=12/\s.st.length=0
 ·rw[if_pos q];first|rfl|exact b _ _|exact a _
 rw[if_neg q];clear q;rfl
theorem ku{most fuel:Int}{s:MSt}{n:Nat}{R:Nat->um}{il:Nat}{I:Nat->Int}(c:s.done=false)(a:(s.steps:Int)<=fuel) :
  (((s.next n R il I fuel most).steps:Int)<=fuel)/\((s.next n R il I fuel most).done=true/\(s.next n R il I fuel most).steps=s.steps\/(s.next n R il I fuel most).steps=s.steps+1):=by
 unfold MSt.next;by_cases q:s.at_<0\/(n:Int)<=s.at_
 ·rw[if_pos q];exact⟨a,.inl ⟨rfl,rfl⟩⟩
 rw[if_neg q];by_cases b:(s.steps:Int)=fuel
 ·rw[if_pos b];exact⟨a,.inl ⟨rfl,rfl⟩⟩
 rw[if_neg b,ub6];exact⟨by show((s.steps+1:Nat):Int)<=fuel;omega,.inr rfl⟩
theorem ufe{n R il I fuel most}:∀(k:Nat) (s:MSt),(s.steps:Int)<=fuel->(fuel-s.steps).toNat<=k->∃t,Ends n R il I fuel most s t
 |k,s,hf,hk=>by
  cases b:s.done with
  |true=>exact⟨s,.over b⟩
  |false =>
   obtain⟨c,a⟩:=ku (n:=n) (R:=R) (il:=il) (I:=I) (most:=most) b hf;rcases a with⟨a,_⟩|a
   ·exact⟨_,.go b (.over a)⟩
   cases k with
   |zero=>omega
   |succ k =>
    obtain⟨t,d⟩:=ufe k _ c (by rw[a];omega);exact⟨t,.go b d⟩
theorem Ends.next{n R il I fuel most s t}(h:Ends n R il I fuel most s t)(a:s.done=false):Ends n R il I fuel most (s.next n R il I fuel most) t:=by
 cases h with
 |over q=>rw[a]at q;cases q
 |go _ q=>exact q
theorem Ends.same{n R il I fuel most s t}(h:Ends n R il I fuel most s t)(a:s.done=true):t=s:=by
 cases h with
 |over q=>rfl
 |go q _=>rw[a]at q;cases q
def ExA(Q:Nat->Prop)(w:World)(b:Option Addr)(a:Nat)(M:Nat->Bool):Prop:=a=(rg M 256).length/\Ints Q .i64 w b a (lf (rg M 256))
theorem ExA.later{Q w w' a b M}(h:ExA Q w a b M)(k:Below w.heap.size w w'):ExA Q w' a b M:=⟨h.1,h.2.later k⟩
theorem ExA.wide{Q a w c d M}(h:ExA Q w c d M)(k:∀b,Q b->a b):ExA a w c d M:=⟨h.1,h.2.wide k⟩
theorem ExA.on{Q w w' a b M}(h:ExA Q w a b M)(k:Stay Q w w'):ExA Q w' a b M:=⟨h.1,h.2.on k⟩
theorem ExA.le{Q w b a M}(h:ExA Q w b a M):a<=512:=by rw[h.1];exact uiV M 256
theorem uj4{w0 w a c l}(h:OwnL w0 w (.slice a l.length c) l):Ints (New w0 w) .i64 w a l.length (lf l):=by
 obtain⟨P,j,k,n⟩:=h;rcases j with⟨_,e,_⟩|⟨g,cap,e,m,p,o,f,q⟩
 ·exact .inl e
 obtain rfl:a=some ⟨g,0,none⟩:=by injection e
 refine .inr ⟨g,0,rfl,k g m,λi b=>?_⟩;have d:=f i (by simp only[vM,List.length_map];exact b);rw[Nat.zero_add,d];simp only[vM,List.getElem?_map,lf,List.getD_eq_getElem?_getD,List.getElem?_eq_getElem b];rfl
theorem upk{w0 w a c M N}(h:OwnL w0 w (.slice a (rg M 256).length c) (rg M 256))(f:∀b,b<256->M b=N b):ExA (New w0 w) w a (rg M 256).length N:=by
 have e:=unB (b:=256) (Nat.le_refl _) f;have d:=uj4 h;unfold ExA;rw[<-e];exact⟨Eq.refl _,d⟩
theorem vK{w:World}{b o c j:Nat}{v u:Value}(d:b≠c)(h:w.cell? ⟨b,o,none⟩=some v):(w.setCell ⟨c,j,none⟩ u).cell? ⟨b,o,none⟩=some v:=(World.cell?_of_block (a:=⟨b,o,none⟩) (Below.heap_setCell _ _ _ _ d)).trans h
theorem ug{w:World}{b o j:Nat}{v u:Value}(a:o≠j)(h:w.cell? ⟨b,o,none⟩=some v):(w.setCell ⟨b,j,none⟩ u).cell? ⟨b,o,none⟩=some v:=(uz (λe=>a e.symm)).trans h
structure Tp where
 m:Nat
 T:Nat->Nat
 le:m<=500
 byte:∀i,T i<=255
def Tp.v(t:Tp)(i:Nat):Nat:=if i<t.m then t.T i else 0
def Tp.n(t:Tp)(i:Nat):Nat:=if i<t.m then i+1 else i
theorem Tp.v_le(t:Tp)(i:Nat):t.v i<=255:=by
 unfold Tp.v;split
 ·exact t.byte i
 omega
def opd(k a:Int):OpD:=⟨k,0,λ_=>0,a⟩
def sod(s:List Int):OpD:=⟨1,s.length,lf s,0⟩
def vI(b:Int):List Int:=[b,b]
def uq(k a:Int):List OpD:=[opd k a]
def uF(s:List Int):List OpD:=[sod s]
def unD(k:Int)(x:List OpD):List OpD:=x++[opd k 0]
def uK(k:Int)(x y:List OpD):List OpD:=x++y++[opd k 0]
def yu:List Int:=[10,9,13,92,34,91,93,45,94,32,35,59,0,127,128,255]
def yp(t:Tp)(i:Nat):List Int×Nat :=
 if t.v i%12<7 then (vI (97+t.v i / 12%4:Nat),t.n i)
 else if t.v i%12=7 then ([97,98],t.n i)
 else if t.v i%12=8 then ([0,255],t.n i)
 else if t.v i%12=9 then ([48,57,97,99],t.n i)
 else if t.v i%12=10 then (if 200<t.v i then ([],t.n i) else ([0,96,99,255],t.n i))
 else (vI (lf yu (t.v (t.n i)%16)),t.n (t.n i))
def yw(t:Tp)(at_ b a:Nat):Nat->Bool->Nat->List OpD×Nat
 |0,_,i=>(uF (yp t (t.n i)).1,(yp t (t.n i)).2)
 |d+1,after,i =>
  let k:=t.v i%20
  let j:=t.n i
  let s:=yp t j
  if k<4\/t.m=j then (uF s.1,s.2)
  else if k=4 then (uq 0 0,j)
  else if k<7 then
   let lo:=if after then 0 else at_+1
   if b<=lo then (uF s.1,s.2) else (uq 2 (lo+t.v j%(b-lo):Nat),t.n j)
  else if k<9/\0<a then (uK 5 (uF (yp t (t.n j)).1) (uq 3 (t.v j%a:Nat)),(yp t (t.n j)).2)
  else if k<13 then
   let y:=yw t at_ b a d true s.2
   (uK 4 (uF s.1) y.1,y.2)
  else if k<16 then
   let x:=yw t at_ b a d after j
   let y:=yw t at_ b a d after x.2
   (uK (if k=13 then 4 else 5) x.1 y.1,y.2)
  else if k<18 then
   let c:=t.v s.2%3
   if c=0 then (unD 6 (uF s.1),t.n s.2)
   else
    let y:=yw t at_ b a d (c==1) (t.n s.2)
    (if c=1 then unD 6 (uK 4 (uF s.1) y.1) else unD 6 (uK 4 (unD 7 y.1) (uF s.1)),y.2)
  else if k=18 then
   let y:=yw t at_ b a d after j
   (unD 7 y.1,y.2)
  else if 0<t.v j%4 then
   let x:=yp t (t.n j)
   let y:=yw t at_ b a d true x.2
   (unD 6 (uK 5 (uF x.1) (uK 4 (uF x.1) y.1)),y.2)
  else
   let y:=yw t at_ b a d after (t.n j)
   (unD 6 y.1,y.2)
def Lil(n:Nat)(l:List OpD):Prop:=l.length<=n/\∀x∈l,x.sl<=16
theorem Lil.mono{n m l}(h:Lil n l)(a:n<=m):Lil m l:=⟨Nat.le_trans h.1 a,h.2⟩
theorem xO k a:Lil 1 (uq k a):=⟨Nat.le_refl _,λx b=>by obtain rfl:=List.mem_singleton.1 b;exact Nat.zero_le _⟩
theorem qk{s}(h:s.length<=16):Lil 1 (uF s):=⟨Nat.le_refl _,λx a=>by obtain rfl:=List.mem_singleton.1 a;exact h⟩
theorem qN{n x}k(h:Lil n x):Lil (n+1) (unD k x):=by
 refine⟨?_,λy a=>?_⟩
 ·have:=h.1;unfold unD;simp;omega
 rcases List.mem_append.1 a with q|q
 ·exact h.2 y q
 obtain rfl:=List.mem_singleton.1 q;exact Nat.zero_le _
theorem yG{n m x y}k(h:Lil n x)(a:Lil m y):Lil (n+m+1) (uK k x y):=by
 refine⟨?_,λz b=>?_⟩
 ·have:=h.1;have:=a.1;unfold uK;simp;omega
 rcases List.mem_append.1 b with q|q
 ·rcases List.mem_append.1 q with q|q
  ·exact h.2 z q
  exact a.2 z q
 obtain rfl:=List.mem_singleton.1 q;exact Nat.zero_le _
theorem vJ t i:(yp t i).1.length<=4:=by
 unfold yp;repeat' split
 all_goals simp[vI]
def big:Nat->Nat
 |0=>1
 |d+1=>2*big d+5
theorem kB t at_ f e:∀(d:Nat) (c:Bool) (i:Nat),Lil (big d) (yw t at_ f e d c i).1
 |0,_,i=>qk (Nat.le_trans (vJ _ _) (by omega))
 |d+1,c,i=>by
  have b:=kB t at_ f e d;have a:∀i,Lil 1 (uF (yp t i).1):=λi=>qk (Nat.le_trans (vJ _ _) (by omega))
  have g:big (d+1)=2*big d+5:=rfl;rw[g,yw];dsimp only;repeat' split
  all_goals first
   |exact(a _).mono (by omega)
   |exact(xO _ _).mono (by omega)
   |exact(yG _ (a _) (xO _ _)).mono (by omega)
   |exact(yG _ (a _) (b _ _)).mono (by omega)
   |exact(yG _ (b _ _) (b _ _)).mono (by omega)
   |exact(qN _ (a _)).mono (by omega)
   |exact(qN _ (yG _ (a _) (b _ _))).mono (by omega)
   |exact(qN _ (yG _ (qN _ (b _ _)) (a _))).mono (by omega)
   |exact(qN _ (yG _ (a _) (yG _ (a _) (b _ _)))).mono (by omega)
   |exact(qN _ (b _ _)).mono (by omega)
section
open Go.RowKit
open M (OpD ue Gr)
structure RuleX(Q:Nat->Prop)(w:World)(b o:Nat)(d:ue):Prop where
 c:RuleC Q w b o d
 cap:∃a c,w.cell? ⟨b,o+1,none⟩=some (.slice a d.bl c)/\d.bl<=c
structure LabX(Q:Nat->Prop)(w:World)(b o:Nat)(d:ue):Prop where
 c:LabC Q w b o d
 cap:∃a c,w.cell? ⟨b,o+2,none⟩=some (.slice a d.bl c)/\d.bl<=c
def RulesX(Q:Nat->Prop)(w:World)(a:Option Addr)(n:Nat)(R:Nat->ue):Prop :=
 n=0\/∃b off,a=some ⟨b,off,none⟩/\Q b/\∀i,i<n->RuleX Q w b (off+i*2) (R i)
def LabsX(Q:Nat->Prop)(w:World)(a:Option Addr)(n:Nat)(R:Nat->ue):Prop :=
 n=0\/∃b off,a=some ⟨b,off,none⟩/\Q b/\∀i,i<n->LabX Q w b (off+i*3) (R i)
section
variable {Q Q':Nat->Prop} {w w':World}
theorem RuleX.on{b o:Nat}{d:ue}(h:RuleX Q w b o d)(e:Q b)(t:Stay Q w w'):RuleX Q w' b o d :=
 ⟨h.c.on e t,let ⟨a,c,h1,h2⟩:=h.cap;⟨a,c,(t.cell e).trans h1,h2⟩⟩
theorem RuleX.wide{b o:Nat}{d:ue}(h:RuleX Q w b o d)(t:∀b,Q b->Q' b):RuleX Q' w b o d:=⟨h.c.wide t,h.cap⟩
theorem RuleX.later{b o:Nat}{d:ue}(h:RuleX Q w b o d)(t:Below w.heap.size w w'):RuleX Q w' b o d :=
 ⟨h.c.later t,let ⟨a,c,h1,h2⟩:=h.cap;⟨a,c,uc h1 t,h2⟩⟩
theorem LabX.on{b o:Nat}{d:ue}(h:LabX Q w b o d)(e:Q b)(t:Stay Q w w'):LabX Q w' b o d :=
 ⟨h.c.on e t,let ⟨a,c,h1,h2⟩:=h.cap;⟨a,c,(t.cell e).trans h1,h2⟩⟩
theorem LabX.wide{b o:Nat}{d:ue}(h:LabX Q w b o d)(t:∀b,Q b->Q' b):LabX Q' w b o d:=⟨h.c.wide t,h.cap⟩
theorem LabX.later{b o:Nat}{d:ue}(h:LabX Q w b o d)(t:Below w.heap.size w w'):LabX Q w' b o d :=
 ⟨h.c.later t,let ⟨a,c,h1,h2⟩:=h.cap;⟨a,c,uc h1 t,h2⟩⟩
theorem RulesX.on{a:Option Addr}{n:Nat}{R:Nat->ue}(h:RulesX Q w a n R)(t:Stay Q w w'):RulesX Q w' a n R:=by
 rcases h with h|⟨b,off,e,c,h⟩
 ·exact .inl h
 exact .inr ⟨b,off,e,c,λi d=>(h i d).on c t⟩
theorem RulesX.wide{a:Option Addr}{n:Nat}{R:Nat->ue}(h:RulesX Q w a n R)(t:∀b,Q b->Q' b):RulesX Q' w a n R:=by
 rcases h with h|⟨b,off,e,d,h⟩
 ·exact .inl h
 exact .inr ⟨b,off,e,t b d,λi c=>(h i c).wide t⟩
theorem RulesX.later{a:Option Addr}{n:Nat}{R:Nat->ue}(h:RulesX Q w a n R)(t:Below w.heap.size w w'):RulesX Q w' a n R:=by
 rcases h with h|⟨b,off,e,d,h⟩
 ·exact .inl h
 exact .inr ⟨b,off,e,d,λi c=>(h i c).later t⟩
theorem LabsX.on{a:Option Addr}{n:Nat}{R:Nat->ue}(h:LabsX Q w a n R)(t:Stay Q w w'):LabsX Q w' a n R:=by
 rcases h with h|⟨b,off,e,c,h⟩
 ·exact .inl h
 exact .inr ⟨b,off,e,c,λi d=>(h i d).on c t⟩
theorem LabsX.wide{a:Option Addr}{n:Nat}{R:Nat->ue}(h:LabsX Q w a n R)(t:∀b,Q b->Q' b):LabsX Q' w a n R:=by
 rcases h with h|⟨b,off,e,d,h⟩
 ·exact .inl h
 exact .inr ⟨b,off,e,t b d,λi c=>(h i c).wide t⟩
theorem LabsX.later{a:Option Addr}{n:Nat}{R:Nat->ue}(h:LabsX Q w a n R)(t:Below w.heap.size w w'):LabsX Q w' a n R:=by
 rcases h with h|⟨b,off,e,d,h⟩
 ·exact .inl h
 exact .inr ⟨b,off,e,d,λi c=>(h i c).later t⟩
theorem RulesX.plain{a:Option Addr}{n:Nat}{R:Nat->ue}(h:RulesX Q w a n R):RulesA Q w a n R:=by
 rcases h with h|⟨b,off,e,f,h⟩
 ·exact .inl h
 exact .inr ⟨b,off,e,f,λi d=>(h i d).c⟩
theorem LabsX.plain{a:Option Addr}{n:Nat}{R:Nat->ue}(h:LabsX Q w a n R):LabsA Q w a n R:=by
 rcases h with h|⟨b,off,e,f,h⟩
 ·exact .inl h
 exact .inr ⟨b,off,e,f,λi d=>(h i d).c⟩
end
structure GramX(Q:Nat->Prop)(w:World)(ra la:Option Addr)(g:Gr):Prop where
 rules:RulesX Q w ra g.nr g.rule
 labs:LabsX Q w la g.nb g.lab
theorem GramX.plain{Q w a la g}(h:GramX Q w a la g):GramA Q w a la g:=⟨h.rules.plain,h.labs.plain⟩
theorem GramX.later{Q w w' a la g}(h:GramX Q w a la g)(t:Below w.heap.size w w'):GramX Q w' a la g:=⟨h.rules.later t,h.labs.later t⟩
end
end Go.Proofs.YtpghlcdkfldlpaaGreat
